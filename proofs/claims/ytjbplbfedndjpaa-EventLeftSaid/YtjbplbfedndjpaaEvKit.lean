/- The kit's functions on lists of events, spans and ints, wherever they lie; Among; Pick. -/
import Derived.Test.YtjbplbfedndjpaaEvMem
import Derived.Deep.QuietTactic
import Derived.BigQuiet
import Derived.OwnWalk
import Derived.LoopN
import Derived.Lib.Hide
namespace Go.Proofs.Ytjbplbfedndjpaa
open Go.RowKit

set_option maxHeartbeats 2000000 in
theorem sameInts_yes {w : World} {v v' : Value} {l : List Int} (h : Lay w v l.length (ints l)) (h' : Lay w v' l.length (ints l)) (hl : l.length ≤ 1000000) :
    Calls Try.prog 17 #[v, v'] w fun e w' => e = .returned (.bool true) ∧ Kept w w' := by
  by_cases h0 : l = []
  · subst h0
    obtain ⟨a, c, rfl, _⟩ := h.form
    obtain ⟨a', c', rfl, _⟩ := h'.form
    clear h h' hl
    go_enter Try.func17, Try.ntmps17
    go_wp2
    go_loopw [5, 6] (fun s i wr => s = .bool true ∧ i = .int .i64 0 ∧ wr = w) (fun _ _ _ => 0)
    case atStart => exact ⟨rfl, rfl, rfl⟩
    case round =>
      obtain ⟨rfl, rfl, rfl⟩ := hrel
      go_wp2
      go_ret
      exact ⟨rfl, Kept.refl _⟩
  · have hp : 0 < l.length := List.length_pos_iff.2 h0
    obtain ⟨g, o, c, rfl, _, _, hc⟩ := h.num hp
    obtain ⟨g', o', c', rfl, _, _, hc'⟩ := h'.num hp
    have HC := Lib.hid hc
    have HC' := Lib.hid hc'
    obtain ⟨n, hn⟩ : ∃ n, n = l.length := ⟨_, rfl⟩
    rw [← hn] at hl ⊢
    have HN := Lib.hid hn
    clear hc hc' h h' h0 hp hn
    go_enter Try.func17, Try.ntmps17
    go_wp2
    go_loopw [5, 6] (fun s i wr => ∃ k : Nat, k ≤ n ∧ s = .bool true ∧ i = .int .i64 k ∧ (∃ q, wr = w.drewN q)) (fun _ i _ => n - (intOf i).toNat)
    case atStart => exact ⟨0, Nat.zero_le _, rfl, rfl, 0, rfl⟩
    case round =>
      obtain ⟨k, hk, rfl, rfl, q, rfl⟩ := hrel
      by_cases hlt : k < n
      · obtain ⟨d, hd⟩ : ∃ d, l[k]? = some d := ⟨_, List.getElem?_eq_getElem (by rw [← HN.out]; exact hlt)⟩
        have x0 := HC.out k d hd
        have y0 := HC'.out k d hd
        clear hd
        go_wp2
        go_quiet (fail)
        go_wp2
        go_roundw
        case rel => exact ⟨k + 1, by omega, rfl, by go_num, q + nq, rfl⟩
        case measure => simp [intOf]; omega
      · go_wp2
        go_ret
        exact ⟨rfl, (Kept.refl _).drewN _⟩

set_option maxHeartbeats 2000000 in
theorem sameEvents_yes {w : World} {v v' : Value} {l : List Ev} (h : Lay w v l.length (flatE l)) (h' : Lay w v' l.length (flatE l)) (hl : l.length ≤ 1000000) :
    Calls Try.prog 23 #[v, v'] w fun e w' => e = .returned (.bool true) ∧ Kept w w' := by
  by_cases h0 : l = []
  · subst h0
    obtain ⟨a, c, rfl, _⟩ := h.form
    obtain ⟨a', c', rfl, _⟩ := h'.form
    clear h h' hl
    go_enter Try.func23, Try.ntmps23
    go_wp2
    go_loopw [5, 6] (fun s i wr => s = .bool true ∧ i = .int .i64 0 ∧ wr = w) (fun _ _ _ => 0)
    case atStart => exact ⟨rfl, rfl, rfl⟩
    case round =>
      obtain ⟨rfl, rfl, rfl⟩ := hrel
      go_wp2
      go_ret
      exact ⟨rfl, Kept.refl _⟩
  · have hp : 0 < l.length := List.length_pos_iff.2 h0
    obtain ⟨g, o, c, rfl, _, _, hc⟩ := h.ev hp
    obtain ⟨g', o', c', rfl, _, _, hc'⟩ := h'.ev hp
    have HC := Lib.hid hc
    have HC' := Lib.hid hc'
    have HE : ∀ (W : World) (q0 q2 q3 q4 q5 q6 q7 q8 : Int) (q1 : Bool), (binOp .eql 51 (.agg #[.int .i64 q0, .bool q1, .int .i64 q2, .int .i64 q3, .int .i64 q4, .int .u64 q5, .int .i64 q6, .int .i64 q7, .int .u64 q8]) (.agg #[.int .i64 q0, .bool q1, .int .i64 q2, .int .i64 q3, .int .i64 q4, .int .u64 q5, .int .i64 q6, .int .i64 q7, .int .u64 q8])).run Try.prog W = .ok (.bool true) W := by
      intro W q0 q2 q3 q4 q5 q6 q7 q8 q1
      go_simp
    obtain ⟨n, hn⟩ : ∃ n, n = l.length := ⟨_, rfl⟩
    rw [← hn] at hl ⊢
    have HN := Lib.hid hn
    clear hc hc' h h' h0 hp hn
    go_enter Try.func23, Try.ntmps23
    go_wp2
    go_loopw [5, 6] (fun s i wr => ∃ k : Nat, k ≤ n ∧ s = .bool true ∧ i = .int .i64 k ∧ (∃ q, wr = w.drewN q)) (fun _ i _ => n - (intOf i).toNat)
    case atStart => exact ⟨0, Nat.zero_le _, rfl, rfl, 0, rfl⟩
    case round =>
      obtain ⟨k, hk, rfl, rfl, q, rfl⟩ := hrel
      by_cases hlt : k < n
      · obtain ⟨d, hd⟩ : ∃ d, l[k]? = some d := ⟨_, List.getElem?_eq_getElem (by rw [← HN.out]; exact hlt)⟩
        obtain ⟨x0, x1, x2, x3, x4, x5, x6, x7, x8⟩ := HC.out k d hd
        obtain ⟨y0, y1, y2, y3, y4, y5, y6, y7, y8⟩ := HC'.out k d hd
        clear hd
        go_wp2
        go_quiet (fail)
        go_wp2
        go_roundw
        case rel => exact ⟨k + 1, by omega, rfl, by go_num, q + nq, rfl⟩
        case measure => simp [intOf]; omega
      · go_wp2
        go_ret
        exact ⟨rfl, (Kept.refl _).drewN _⟩

set_option maxHeartbeats 2000000 in
theorem sameSpans_yes {w : World} {v v' : Value} {l : List Sp} (h : Lay w v l.length (flatS l)) (h' : Lay w v' l.length (flatS l)) (hl : l.length ≤ 1000000) :
    Calls Try.prog 14 #[v, v'] w fun e w' => e = .returned (.bool true) ∧ Kept w w' := by
  by_cases h0 : l = []
  · subst h0
    obtain ⟨a, c, rfl, _⟩ := h.form
    obtain ⟨a', c', rfl, _⟩ := h'.form
    clear h h' hl
    go_enter Try.func14, Try.ntmps14
    go_wp2
    go_loopw [5, 6] (fun s i wr => s = .bool true ∧ i = .int .i64 0 ∧ wr = w) (fun _ _ _ => 0)
    case atStart => exact ⟨rfl, rfl, rfl⟩
    case round =>
      obtain ⟨rfl, rfl, rfl⟩ := hrel
      go_wp2
      go_ret
      exact ⟨rfl, Kept.refl _⟩
  · have hp : 0 < l.length := List.length_pos_iff.2 h0
    obtain ⟨g, o, c, rfl, _, _, hc⟩ := h.sp hp
    obtain ⟨g', o', c', rfl, _, _, hc'⟩ := h'.sp hp
    have HC := Lib.hid hc
    have HC' := Lib.hid hc'
    have HE : ∀ (W : World) (q0 q1 q2 q3 q4 q5 q6 q7 q8 q9 : Int), (binOp .eql 57 (.agg #[.int .i64 q0, .int .i64 q1, .int .i64 q2, .int .i64 q3, .int .i64 q4, .int .i64 q5, .int .u64 q6, .int .i64 q7, .int .i64 q8, .int .u64 q9]) (.agg #[.int .i64 q0, .int .i64 q1, .int .i64 q2, .int .i64 q3, .int .i64 q4, .int .i64 q5, .int .u64 q6, .int .i64 q7, .int .i64 q8, .int .u64 q9])).run Try.prog W = .ok (.bool true) W := by
      intro W q0 q1 q2 q3 q4 q5 q6 q7 q8 q9 
      go_simp
    obtain ⟨n, hn⟩ : ∃ n, n = l.length := ⟨_, rfl⟩
    rw [← hn] at hl ⊢
    have HN := Lib.hid hn
    clear hc hc' h h' h0 hp hn
    go_enter Try.func14, Try.ntmps14
    go_wp2
    go_loopw [5, 6] (fun s i wr => ∃ k : Nat, k ≤ n ∧ s = .bool true ∧ i = .int .i64 k ∧ (∃ q, wr = w.drewN q)) (fun _ i _ => n - (intOf i).toNat)
    case atStart => exact ⟨0, Nat.zero_le _, rfl, rfl, 0, rfl⟩
    case round =>
      obtain ⟨k, hk, rfl, rfl, q, rfl⟩ := hrel
      by_cases hlt : k < n
      · obtain ⟨d, hd⟩ : ∃ d, l[k]? = some d := ⟨_, List.getElem?_eq_getElem (by rw [← HN.out]; exact hlt)⟩
        obtain ⟨x0, x1, x2, x3, x4, x5, x6, x7, x8, x9⟩ := HC.out k d hd
        obtain ⟨y0, y1, y2, y3, y4, y5, y6, y7, y8, y9⟩ := HC'.out k d hd
        clear hd
        go_wp2
        go_quiet (fail)
        go_wp2
        go_roundw
        case rel => exact ⟨k + 1, by omega, rfl, by go_num, q + nq, rfl⟩
        case measure => simp [intOf]; omega
      · go_wp2
        go_ret
        exact ⟨rfl, (Kept.refl _).drewN _⟩

set_option maxHeartbeats 4000000 in
theorem overInts_any {w : World} {base : Nat} {v : Value} {l : List Int} (h : OwnI w base v l) (hl : l.length ≤ 1000000) :
    Calls Try.prog 22 #[v] w fun e w' => e = .returned (.tuple #[]) ∧ But (fun k => v.ownBlock = some k) w w' := by
  by_cases h0 : l = []
  · subst h0
    obtain ⟨a, c, rfl⟩ := own_form h
    clear h hl
    go_enter Try.func22, Try.ntmps22
    go_wp2
    go_loopw [2] (fun i wr => i = .int .i64 0 ∧ wr = w) (fun _ _ => 0)
    case atStart => exact ⟨rfl, rfl⟩
    case round =>
      obtain ⟨rfl, rfl⟩ := hrel
      go_wp2
      go_end0
      exact ⟨rfl, But.refl _ _⟩
  · have hp : 0 < l.length := List.length_pos_iff.2 h0
    obtain ⟨g, o, c, rfl, _, _, hc⟩ := (own_lies h).lay.num hp
    have HF := Lib.hid (own_soft h g rfl)
    have hlt := (h.lt g rfl).2
    have HC := Lib.hid hc
    obtain ⟨n, hn⟩ : ∃ n, n = l.length := ⟨_, rfl⟩
    rw [← hn] at hl ⊢
    have HN := Lib.hid hn
    clear hc h h0 hp hn
    go_enter Try.func22, Try.ntmps22
    go_wp2
    go_loopw [2] (fun i wr => ∃ k : Nat, k ≤ n ∧ i = .int .i64 k ∧ But (fun b => b = g) w wr ∧ ∀ j, k ≤ j → j < n → wr.cell? ⟨g, o + j, none⟩ = w.cell? ⟨g, o + j, none⟩) (fun i _ => n - (intOf i).toNat)
    case atStart => exact ⟨0, Nat.zero_le _, rfl, But.refl _ _, fun _ _ _ => rfl⟩
    case round =>
      obtain ⟨k, hk, rfl, hb, hr⟩ := hrel
      have HR := Lib.hid hr
      clear hr
      by_cases hlk : k < n
      · obtain ⟨d, hd⟩ : ∃ d, l[k]? = some d := ⟨_, List.getElem?_eq_getElem (by rw [← HN.out]; exact hlk)⟩
        have x0 := (HR.out k (by omega) (by omega)).trans (HC.out k d hd)
        have f0 := hb.soft hlt (HF.out (o + k))
        clear hd
        have HB := Lib.hid hb
        clear hb
        go_wp2
        go_roundw
        case rel => exact ⟨k + 1, by omega, by go_num, (HB.out.here _ _), fun j h1 h2 => by
          rw [cell_set, if_neg (by omega)]
          exact HR.out j (by omega) h2⟩
        case measure => simp [intOf]; omega
      · go_wp2
        go_end0
        exact ⟨rfl, hb.mono fun _ _ e => by subst e; rfl⟩

set_option maxHeartbeats 4000000 in
theorem overEvents_any {w : World} {base : Nat} {v : Value} {l : List Ev} (h : OwnE w base v l) (hl : l.length ≤ 1000000) :
    Calls Try.prog 29 #[v] w fun e w' => e = .returned (.tuple #[]) ∧ But (fun k => v.ownBlock = some k) w w' := by
  by_cases h0 : l = []
  · subst h0
    obtain ⟨a, c, rfl⟩ := own_form h
    clear h hl
    go_enter Try.func29, Try.ntmps29
    go_wp2
    go_loopw [2] (fun i wr => i = .int .i64 0 ∧ wr = w) (fun _ _ => 0)
    case atStart => exact ⟨rfl, rfl⟩
    case round =>
      obtain ⟨rfl, rfl⟩ := hrel
      go_wp2
      go_end0
      exact ⟨rfl, But.refl _ _⟩
  · have hp : 0 < l.length := List.length_pos_iff.2 h0
    obtain ⟨g, o, c, rfl, _, _, hc⟩ := (own_lies h).lay.ev hp
    have HF := Lib.hid (own_soft h g rfl)
    have hlt := (h.lt g rfl).2
    have HC := Lib.hid hc
    obtain ⟨n, hn⟩ : ∃ n, n = l.length := ⟨_, rfl⟩
    rw [← hn] at hl ⊢
    have HN := Lib.hid hn
    clear hc h h0 hp hn
    go_enter Try.func29, Try.ntmps29
    go_wp2
    go_loopw [2] (fun i wr => ∃ k : Nat, k ≤ n ∧ i = .int .i64 k ∧ But (fun b => b = g) w wr ∧ ∀ j, k * 9 ≤ j → j < n * 9 → wr.cell? ⟨g, o + j, none⟩ = w.cell? ⟨g, o + j, none⟩) (fun i _ => n - (intOf i).toNat)
    case atStart => exact ⟨0, Nat.zero_le _, rfl, But.refl _ _, fun _ _ _ => rfl⟩
    case round =>
      obtain ⟨k, hk, rfl, hb, hr⟩ := hrel
      have HR := Lib.hid hr
      clear hr
      by_cases hlk : k < n
      · obtain ⟨d, hd⟩ : ∃ d, l[k]? = some d := ⟨_, List.getElem?_eq_getElem (by rw [← HN.out]; exact hlk)⟩
        have Z := HC.out k d hd
        have x0 := (HR.out (k * 9) (by omega) (by omega)).trans Z.c0
        have f0 := hb.soft hlt (HF.out (o + k * 9))
        have x1 : wr.cell? ⟨g, o + k * 9 + 1, none⟩ = some (.bool d.ans) := by rw [Nat.add_assoc]; exact (HR.out (k * 9 + 1) (by omega) (by omega)).trans (by rw [← Nat.add_assoc]; exact Z.c1)
        have f1 := hb.soft hlt (HF.out (o + k * 9 + 1))
        have x2 : wr.cell? ⟨g, o + k * 9 + 2, none⟩ = some (.int .i64 d.k) := by rw [Nat.add_assoc]; exact (HR.out (k * 9 + 2) (by omega) (by omega)).trans (by rw [← Nat.add_assoc]; exact Z.c2)
        have f2 := hb.soft hlt (HF.out (o + k * 9 + 2))
        have x3 : wr.cell? ⟨g, o + k * 9 + 3, none⟩ = some (.int .i64 d.x) := by rw [Nat.add_assoc]; exact (HR.out (k * 9 + 3) (by omega) (by omega)).trans (by rw [← Nat.add_assoc]; exact Z.c3)
        have f3 := hb.soft hlt (HF.out (o + k * 9 + 3))
        have x4 : wr.cell? ⟨g, o + k * 9 + 4, none⟩ = some (.int .i64 d.y) := by rw [Nat.add_assoc]; exact (HR.out (k * 9 + 4) (by omega) (by omega)).trans (by rw [← Nat.add_assoc]; exact Z.c4)
        have f4 := hb.soft hlt (HF.out (o + k * 9 + 4))
        have x5 : wr.cell? ⟨g, o + k * 9 + 5, none⟩ = some (.int .u64 d.u) := by rw [Nat.add_assoc]; exact (HR.out (k * 9 + 5) (by omega) (by omega)).trans (by rw [← Nat.add_assoc]; exact Z.c5)
        have f5 := hb.soft hlt (HF.out (o + k * 9 + 5))
        have x6 : wr.cell? ⟨g, o + k * 9 + 6, none⟩ = some (.int .i64 d.er) := by rw [Nat.add_assoc]; exact (HR.out (k * 9 + 6) (by omega) (by omega)).trans (by rw [← Nat.add_assoc]; exact Z.c6)
        have f6 := hb.soft hlt (HF.out (o + k * 9 + 6))
        have x7 : wr.cell? ⟨g, o + k * 9 + 7, none⟩ = some (.int .i64 d.n) := by rw [Nat.add_assoc]; exact (HR.out (k * 9 + 7) (by omega) (by omega)).trans (by rw [← Nat.add_assoc]; exact Z.c7)
        have f7 := hb.soft hlt (HF.out (o + k * 9 + 7))
        have x8 : wr.cell? ⟨g, o + k * 9 + 8, none⟩ = some (.int .u64 d.v) := by rw [Nat.add_assoc]; exact (HR.out (k * 9 + 8) (by omega) (by omega)).trans (by rw [← Nat.add_assoc]; exact Z.c8)
        have f8 := hb.soft hlt (HF.out (o + k * 9 + 8))
        clear Z
        clear hd
        have HB := Lib.hid hb
        clear hb
        go_wp2
        go_roundw
        case rel => exact ⟨k + 1, by omega, by go_num, (((((((((HB.out.here _ _).here _ _).here _ _).here _ _).here _ _).here _ _).here _ _).here _ _).here _ _), fun j h1 h2 => by
          rw [cell_set, if_neg (by omega), cell_set, if_neg (by omega), cell_set, if_neg (by omega), cell_set, if_neg (by omega), cell_set, if_neg (by omega), cell_set, if_neg (by omega), cell_set, if_neg (by omega), cell_set, if_neg (by omega), cell_set, if_neg (by omega)]
          exact HR.out j (by omega) h2⟩
        case measure => simp [intOf]; omega
      · go_wp2
        go_end0
        exact ⟨rfl, hb.mono fun _ _ e => by subst e; rfl⟩

set_option maxHeartbeats 4000000 in
theorem overSpans_any {w : World} {base : Nat} {v : Value} {l : List Sp} (h : OwnS w base v l) (hl : l.length ≤ 1000000) :
    Calls Try.prog 21 #[v] w fun e w' => e = .returned (.tuple #[]) ∧ But (fun k => v.ownBlock = some k) w w' := by
  by_cases h0 : l = []
  · subst h0
    obtain ⟨a, c, rfl⟩ := own_form h
    clear h hl
    go_enter Try.func21, Try.ntmps21
    go_wp2
    go_loopw [2] (fun i wr => i = .int .i64 0 ∧ wr = w) (fun _ _ => 0)
    case atStart => exact ⟨rfl, rfl⟩
    case round =>
      obtain ⟨rfl, rfl⟩ := hrel
      go_wp2
      go_end0
      exact ⟨rfl, But.refl _ _⟩
  · have hp : 0 < l.length := List.length_pos_iff.2 h0
    obtain ⟨g, o, c, rfl, _, _, hc⟩ := (own_lies h).lay.sp hp
    have HF := Lib.hid (own_soft h g rfl)
    have hlt := (h.lt g rfl).2
    have HC := Lib.hid hc
    obtain ⟨n, hn⟩ : ∃ n, n = l.length := ⟨_, rfl⟩
    rw [← hn] at hl ⊢
    have HN := Lib.hid hn
    clear hc h h0 hp hn
    go_enter Try.func21, Try.ntmps21
    go_wp2
    go_loopw [2] (fun i wr => ∃ k : Nat, k ≤ n ∧ i = .int .i64 k ∧ But (fun b => b = g) w wr ∧ ∀ j, k * 10 ≤ j → j < n * 10 → wr.cell? ⟨g, o + j, none⟩ = w.cell? ⟨g, o + j, none⟩) (fun i _ => n - (intOf i).toNat)
    case atStart => exact ⟨0, Nat.zero_le _, rfl, But.refl _ _, fun _ _ _ => rfl⟩
    case round =>
      obtain ⟨k, hk, rfl, hb, hr⟩ := hrel
      have HR := Lib.hid hr
      clear hr
      by_cases hlk : k < n
      · obtain ⟨d, hd⟩ : ∃ d, l[k]? = some d := ⟨_, List.getElem?_eq_getElem (by rw [← HN.out]; exact hlk)⟩
        have Z := HC.out k d hd
        have x0 := (HR.out (k * 10) (by omega) (by omega)).trans Z.c0
        have f0 := hb.soft hlt (HF.out (o + k * 10))
        have x1 : wr.cell? ⟨g, o + k * 10 + 1, none⟩ = some (.int .i64 d.from_) := by rw [Nat.add_assoc]; exact (HR.out (k * 10 + 1) (by omega) (by omega)).trans (by rw [← Nat.add_assoc]; exact Z.c1)
        have f1 := hb.soft hlt (HF.out (o + k * 10 + 1))
        have x2 : wr.cell? ⟨g, o + k * 10 + 2, none⟩ = some (.int .i64 d.to) := by rw [Nat.add_assoc]; exact (HR.out (k * 10 + 2) (by omega) (by omega)).trans (by rw [← Nat.add_assoc]; exact Z.c2)
        have f2 := hb.soft hlt (HF.out (o + k * 10 + 2))
        have x3 : wr.cell? ⟨g, o + k * 10 + 3, none⟩ = some (.int .i64 d.k) := by rw [Nat.add_assoc]; exact (HR.out (k * 10 + 3) (by omega) (by omega)).trans (by rw [← Nat.add_assoc]; exact Z.c3)
        have f3 := hb.soft hlt (HF.out (o + k * 10 + 3))
        have x4 : wr.cell? ⟨g, o + k * 10 + 4, none⟩ = some (.int .i64 d.x) := by rw [Nat.add_assoc]; exact (HR.out (k * 10 + 4) (by omega) (by omega)).trans (by rw [← Nat.add_assoc]; exact Z.c4)
        have f4 := hb.soft hlt (HF.out (o + k * 10 + 4))
        have x5 : wr.cell? ⟨g, o + k * 10 + 5, none⟩ = some (.int .i64 d.y) := by rw [Nat.add_assoc]; exact (HR.out (k * 10 + 5) (by omega) (by omega)).trans (by rw [← Nat.add_assoc]; exact Z.c5)
        have f5 := hb.soft hlt (HF.out (o + k * 10 + 5))
        have x6 : wr.cell? ⟨g, o + k * 10 + 6, none⟩ = some (.int .u64 d.u) := by rw [Nat.add_assoc]; exact (HR.out (k * 10 + 6) (by omega) (by omega)).trans (by rw [← Nat.add_assoc]; exact Z.c6)
        have f6 := hb.soft hlt (HF.out (o + k * 10 + 6))
        have x7 : wr.cell? ⟨g, o + k * 10 + 7, none⟩ = some (.int .i64 d.er) := by rw [Nat.add_assoc]; exact (HR.out (k * 10 + 7) (by omega) (by omega)).trans (by rw [← Nat.add_assoc]; exact Z.c7)
        have f7 := hb.soft hlt (HF.out (o + k * 10 + 7))
        have x8 : wr.cell? ⟨g, o + k * 10 + 8, none⟩ = some (.int .i64 d.n) := by rw [Nat.add_assoc]; exact (HR.out (k * 10 + 8) (by omega) (by omega)).trans (by rw [← Nat.add_assoc]; exact Z.c8)
        have f8 := hb.soft hlt (HF.out (o + k * 10 + 8))
        have x9 : wr.cell? ⟨g, o + k * 10 + 9, none⟩ = some (.int .u64 d.v) := by rw [Nat.add_assoc]; exact (HR.out (k * 10 + 9) (by omega) (by omega)).trans (by rw [← Nat.add_assoc]; exact Z.c9)
        have f9 := hb.soft hlt (HF.out (o + k * 10 + 9))
        clear Z
        clear hd
        have HB := Lib.hid hb
        clear hb
        go_wp2
        go_roundw
        case rel => exact ⟨k + 1, by omega, by go_num, ((((((((((HB.out.here _ _).here _ _).here _ _).here _ _).here _ _).here _ _).here _ _).here _ _).here _ _).here _ _), fun j h1 h2 => by
          rw [cell_set, if_neg (by omega), cell_set, if_neg (by omega), cell_set, if_neg (by omega), cell_set, if_neg (by omega), cell_set, if_neg (by omega), cell_set, if_neg (by omega), cell_set, if_neg (by omega), cell_set, if_neg (by omega), cell_set, if_neg (by omega), cell_set, if_neg (by omega)]
          exact HR.out j (by omega) h2⟩
        case measure => simp [intOf]; omega
      · go_wp2
        go_end0
        exact ⟨rfl, hb.mono fun _ _ e => by subst e; rfl⟩

set_option maxHeartbeats 1000000 in
theorem copyInts_any {w : World} {v : Value} {l : List Int} (h : Lay w v l.length (ints l)) (hl : l.length ≤ 100000) :
    Calls Try.prog 24 #[v] w fun e w' => ∃ a c, e = .returned (.slice a l.length c) ∧ Kept w w' ∧ OwnI w' w.heap.size (.slice a l.length c) l := by
  obtain ⟨i0, hi0, hz0, hz1, hz2⟩ := info_parts infoI
  have L := Lib.hid h
  clear h
  go_enter Try.func24, Try.ntmps24
  go_wp2_with (at_builtin; refine wpList_append_lay _ rfl _ _ _ rfl w.heap.size 3 i0 _ 1 8 Try.underlying29 hi0 hz0 hz1 hz2 (by rfl) (by decide) (.slice (some ⟨w.heap.size, 0, none⟩) 0 0) 0 [] (by simp [Act.eval, Act.put]) (World.ownsRow_made w #[] 0 (Nat.le_refl _) (by decide) rfl) _ l.length (ints l) (by simp [Act.eval, Act.put]) (ints_length l) (L.out.kept ((Kept.refl w).alloc _ _)) (ints_one _) (by unfold maxLen; omega) (by omega) (by simp) ?_; intro a' c' w2 own2 but2 at2)
  go_ret
  refine ⟨a', c', by simp, ?_, ?_⟩
  · exact (((Kept.refl w).alloc _ _).but _).trans but2 (fun _ _ h => h) |>.kept (fun k hk e => by simp [Value.ownBlock] at e; omega)
  · simpa using own2

set_option maxHeartbeats 1000000 in
theorem copyEvents_any {w : World} {v : Value} {l : List Ev} (h : Lay w v l.length (flatE l)) (hl : l.length ≤ 100000) :
    Calls Try.prog 10 #[v] w fun e w' => ∃ a c, e = .returned (.slice a l.length c) ∧ Kept w w' ∧ OwnE w' w.heap.size (.slice a l.length c) l := by
  obtain ⟨i0, hi0, hz0, hz1, hz2⟩ := info_parts infoEv
  have L := Lib.hid h
  clear h
  go_enter Try.func10, Try.ntmps10
  go_wp2_with (at_builtin; refine wpList_append_lay _ rfl _ _ _ rfl w.heap.size 51 i0 _ 9 72 Try.underlying22 hi0 hz0 hz1 hz2 (by rfl) (by decide) (.slice (some ⟨w.heap.size, 0, none⟩) 0 0) 0 [] (by simp [Act.eval, Act.put]) (World.ownsRow_made w #[] 0 (Nat.le_refl _) (by decide) rfl) _ l.length (flatE l) (by simp [Act.eval, Act.put]) (flatE_length l) (L.out.kept ((Kept.refl w).alloc _ _)) (flatE_one _) (by unfold maxLen; omega) (by omega) (by simp) ?_; intro a' c' w2 own2 but2 at2)
  go_ret
  refine ⟨a', c', by simp, ?_, ?_⟩
  · exact (((Kept.refl w).alloc _ _).but _).trans but2 (fun _ _ h => h) |>.kept (fun k hk e => by simp [Value.ownBlock] at e; omega)
  · simpa using own2

set_option maxHeartbeats 1000000 in
theorem among_any {w : World} {v : Value} {l : List Int} (h : Lay w v l.length (ints l)) (hl : l.length ≤ 1000000) (x : Int) :
    Calls Try.prog 40 #[v, .int .i64 x] w fun e w' => e = .returned (.bool (among l x)) ∧ w' = w := by
  by_cases h0 : l = []
  · subst h0
    obtain ⟨a, c, rfl, _⟩ := h.form
    clear h hl
    go_enter Try.func40, Try.ntmps40
    go_wp2
    go_loopw [5] (fun i wr => i = .int .i64 0 ∧ wr = w) (fun _ _ => 0)
    case atStart => exact ⟨rfl, rfl⟩
    case round =>
      obtain ⟨rfl, rfl⟩ := hrel
      go_wp2
      go_ret
      exact ⟨rfl, rfl⟩
  · have hp : 0 < l.length := List.length_pos_iff.2 h0
    obtain ⟨g, o, c, rfl, _, _, hc⟩ := h.num hp
    have HC := Lib.hid hc
    obtain ⟨n, hn⟩ : ∃ n, n = l.length := ⟨_, rfl⟩
    rw [← hn] at hl ⊢
    have HN := Lib.hid hn
    clear hc h h0 hp hn
    go_enter Try.func40, Try.ntmps40
    go_wp2
    go_loopw [5] (fun i wr => ∃ k : Nat, k ≤ n ∧ i = .int .i64 k ∧ wr = w ∧ among (l.take k) x = false) (fun i _ => n - (intOf i).toNat)
    case atStart => exact ⟨0, Nat.zero_le _, rfl, rfl, by simp [among]⟩
    case round =>
      obtain ⟨k, hk, rfl, rfl, hno⟩ := hrel
      have NO := Lib.hid hno
      clear hno
      by_cases hlt : k < n
      · obtain ⟨d, hd⟩ : ∃ d, l[k]? = some d := ⟨_, List.getElem?_eq_getElem (by rw [← HN.out]; exact hlt)⟩
        have x0 := HC.out k d hd
        have HD := Lib.hid hd
        clear hd
        by_cases hx : d = x
        · have bx : (d == x) = true := by simpa using hx
          have HX := Lib.hid hx
          clear hx
          go_wp2
          go_ret
          refine ⟨?_, rfl⟩
          have : among l x = true := by
            unfold among
            rw [List.any_eq_true]
            exact ⟨d, List.mem_of_getElem? HD.out, by simp [HX.out]⟩
          rw [this]
          rfl
        · have bx : (d == x) = false := by simpa using hx
          have HX := Lib.hid hx
          clear hx
          go_wp2
          go_roundw
          case rel => exact ⟨k + 1, by omega, by go_num, trivial, by
            have e1 := NO.out
            unfold among at e1 ⊢
            rw [take_snoc l k d HD.out, List.any_append, e1]
            simpa using HX.out⟩
          case measure => simp [intOf]; omega
      · have hkn : k = n := by omega
        have HK := Lib.hid hkn
        clear hkn
        go_wp2
        go_ret
        refine ⟨?_, rfl⟩
        have e1 := NO.out
        rw [HK.out, HN.out, List.take_length] at e1
        rw [e1]
        rfl
theorem among_at {w : World} {v : Value} {l : List Int} (h : Lay w v l.length (ints l)) (hl : l.length ≤ 1000000) (x : Int) (b : Bool) (hb : among l x = b) :
    Calls Try.prog 40 #[v, .int .i64 x] w fun e w' => e = .returned (.bool b) ∧ w' = w := by
  subst hb; exact among_any h hl x

theorem tmod_up (x n : Int) (hn : 0 < n) (hn' : n ≤ 1000000) (h : x.tmod n < 0) : wrap64 (x.tmod n + n) = x % n := by
  have e := Int.tmod_eq_emod (a := x) (b := n)
  have h1 := Int.emod_nonneg x (show n ≠ 0 by omega)
  have h2 := Int.emod_lt_of_pos x hn
  unfold wrap64
  split at e <;> omega
theorem tmod_at (x n : Int) (hn : 0 < n) (h : 0 ≤ x.tmod n) : x.tmod n = x % n := by
  have e := Int.tmod_eq_emod (a := x) (b := n)
  have h1 := Int.emod_nonneg x (show n ≠ 0 by omega)
  have h2 := Int.emod_lt_of_pos x hn
  split at e <;> omega
set_option maxHeartbeats 400000 in
theorem pick_any (x n : Int) (hn : 1 ≤ n) (hn' : n ≤ 1000000) (w : World) :
    Calls Try.prog 30 #[.int .i64 x, .int .i64 n] w fun e w' => e = .returned (.int .i64 (x % n)) ∧ w = w' := by
  go_enter Try.func30, Try.ntmps30
  go_wp2
  · rename_i _ h
    go_ret
    exact ⟨by show Ending.returned (.int .i64 (wrap64 (x.tmod n + n))) = _; rw [tmod_up x n (by omega) hn' h], rfl⟩
  · rename_i _ h
    go_ret
    exact ⟨by show Ending.returned (.int .i64 (x.tmod n)) = _; rw [tmod_at x n (by omega) h], rfl⟩
theorem pick_at (x n : Int) (c : Nat) (hn : 1 ≤ n) (hn' : n ≤ 1000000) (h : x % n = c) (w : World) :
    Calls Try.prog 30 #[.int .i64 x, .int .i64 n] w fun e w' => e = .returned (.int .i64 c) ∧ w = w' := by
  rw [← h]; exact pick_any x n hn hn' w

end Go.Proofs.Ytjbplbfedndjpaa
