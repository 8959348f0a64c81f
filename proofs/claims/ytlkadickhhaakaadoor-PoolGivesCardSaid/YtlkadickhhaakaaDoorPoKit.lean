/- The kit's functions on lists of ints, of operations and of answers, wherever they lie; Pick. -/
import Derived.Test.YtlkadickhhaakaaDoorPoMem
import Derived.Deep.QuietTactic
import Derived.BigQuiet
import Derived.OwnWalk
import Derived.LoopN
import Derived.Lib.Hide
namespace Go.Proofs.YtlkadickhhaakaaDoor
open Go.RowKit

set_option maxHeartbeats 2000000 in
theorem sameInts_yes {w : World} {v v' : Value} {l : List Int} (h : Lay w v l.length (ints l)) (h' : Lay w v' l.length (ints l)) (hl : l.length ≤ 1000000) :
    Calls Tryd.prog 16 #[v, v'] w fun e w' => e = .returned (.bool true) ∧ Kept w w' := by
  by_cases h0 : l = []
  · subst h0
    obtain ⟨a, c, rfl, _⟩ := h.form
    obtain ⟨a', c', rfl, _⟩ := h'.form
    clear h h' hl
    go_enter Tryd.func16, Tryd.ntmps16
    go_wp2
    go_loopw [5, 6] (fun s i wr => s = .bool true ∧ i = .int .i64 0 ∧ wr = w) (fun _ _ _ => 0)
    case atStart => exact ⟨rfl, rfl, rfl⟩
    case round =>
      obtain ⟨rfl, rfl, rfl⟩ := hrel
      go_wp2
      go_ret
      exact ⟨rfl, Kept.refl _⟩
  · have hp : 0 < l.length := List.length_pos_iff.2 h0
    obtain ⟨g, o, c, rfl, _, _, hc⟩ := h.ints hp
    obtain ⟨g', o', c', rfl, _, _, hc'⟩ := h'.ints hp
    have HC := Lib.hid hc
    have HC' := Lib.hid hc'
    obtain ⟨n, hn⟩ : ∃ n, n = l.length := ⟨_, rfl⟩
    rw [← hn] at hl ⊢
    have HN := Lib.hid hn
    clear hc hc' h h' h0 hp hn
    go_enter Tryd.func16, Tryd.ntmps16
    go_wp2
    go_loopw [5, 6] (fun s i wr => ∃ k : Nat, k ≤ n ∧ s = .bool true ∧ i = .int .i64 k ∧ (∃ q, wr = w.drewN q)) (fun _ i _ => n - (intOf i).toNat)
    case atStart => exact ⟨0, Nat.zero_le _, rfl, rfl, 0, rfl⟩
    case round =>
      obtain ⟨k, hk, rfl, rfl, q, rfl⟩ := hrel
      by_cases hlt : k < n
      · obtain ⟨d, hd⟩ : ∃ d, l[k]? = some d := ⟨_, List.getElem?_eq_getElem (by rw [← HN.out]; exact hlt)⟩
        have x0 := HC.out k d hd
        have y0 := HC'.out k d hd
        clear hd
        go_wp2
        go_quiet (fail)
        go_wp2
        go_roundw
        case rel => exact ⟨k + 1, by omega, rfl, by go_num, q + nq, rfl⟩
        case measure => simp [intOf]; omega
      · go_wp2
        go_ret
        exact ⟨rfl, (Kept.refl _).drewN _⟩

set_option maxHeartbeats 2000000 in
theorem sameOps_yes {w : World} {v v' : Value} {l : List Opn} (h : Lay w v l.length (flatO l)) (h' : Lay w v' l.length (flatO l)) (hl : l.length ≤ 1000000) :
    Calls Tryd.prog 25 #[v, v'] w fun e w' => e = .returned (.bool true) ∧ Kept w w' := by
  by_cases h0 : l = []
  · subst h0
    obtain ⟨a, c, rfl, _⟩ := h.form
    obtain ⟨a', c', rfl, _⟩ := h'.form
    clear h h' hl
    go_enter Tryd.func25, Tryd.ntmps25
    go_wp2
    go_loopw [5, 6] (fun s i wr => s = .bool true ∧ i = .int .i64 0 ∧ wr = w) (fun _ _ _ => 0)
    case atStart => exact ⟨rfl, rfl, rfl⟩
    case round =>
      obtain ⟨rfl, rfl, rfl⟩ := hrel
      go_wp2
      go_ret
      exact ⟨rfl, Kept.refl _⟩
  · have hp : 0 < l.length := List.length_pos_iff.2 h0
    obtain ⟨g, o, c, rfl, _, _, hc⟩ := h.op hp
    obtain ⟨g', o', c', rfl, _, _, hc'⟩ := h'.op hp
    have HC := Lib.hid hc
    have HC' := Lib.hid hc'
    have HE : ∀ (W : World) (q0 q1 q2 q3 : Int), (binOp .eql 25 (.agg #[.int .i64 q0, .int .i64 q1, .int .i64 q2, .int .u64 q3]) (.agg #[.int .i64 q0, .int .i64 q1, .int .i64 q2, .int .u64 q3])).run Tryd.prog W = .ok (.bool true) W := by
      intro W q0 q1 q2 q3
      go_simp
    obtain ⟨n, hn⟩ : ∃ n, n = l.length := ⟨_, rfl⟩
    rw [← hn] at hl ⊢
    have HN := Lib.hid hn
    clear hc hc' h h' h0 hp hn
    go_enter Tryd.func25, Tryd.ntmps25
    go_wp2
    go_loopw [5, 6] (fun s i wr => ∃ k : Nat, k ≤ n ∧ s = .bool true ∧ i = .int .i64 k ∧ (∃ q, wr = w.drewN q)) (fun _ i _ => n - (intOf i).toNat)
    case atStart => exact ⟨0, Nat.zero_le _, rfl, rfl, 0, rfl⟩
    case round =>
      obtain ⟨k, hk, rfl, rfl, q, rfl⟩ := hrel
      by_cases hlt : k < n
      · obtain ⟨d, hd⟩ : ∃ d, l[k]? = some d := ⟨_, List.getElem?_eq_getElem (by rw [← HN.out]; exact hlt)⟩
        obtain ⟨x0, x1, x2, x3⟩ := HC.out k d hd
        obtain ⟨y0, y1, y2, y3⟩ := HC'.out k d hd
        clear hd
        go_wp2
        go_quiet (fail)
        go_wp2
        go_roundw
        case rel => exact ⟨k + 1, by omega, rfl, by go_num, q + nq, rfl⟩
        case measure => simp [intOf]; omega
      · go_wp2
        go_ret
        exact ⟨rfl, (Kept.refl _).drewN _⟩

set_option maxHeartbeats 2000000 in
theorem sameAnswers_yes {w : World} {v v' : Value} {l : List Ann} (h : Lay w v l.length (flatA l)) (h' : Lay w v' l.length (flatA l)) (hl : l.length ≤ 1000000) :
    Calls Tryd.prog 17 #[v, v'] w fun e w' => e = .returned (.bool true) ∧ Kept w w' := by
  by_cases h0 : l = []
  · subst h0
    obtain ⟨a, c, rfl, _⟩ := h.form
    obtain ⟨a', c', rfl, _⟩ := h'.form
    clear h h' hl
    go_enter Tryd.func17, Tryd.ntmps17
    go_wp2
    go_loopw [5, 6] (fun s i wr => s = .bool true ∧ i = .int .i64 0 ∧ wr = w) (fun _ _ _ => 0)
    case atStart => exact ⟨rfl, rfl, rfl⟩
    case round =>
      obtain ⟨rfl, rfl, rfl⟩ := hrel
      go_wp2
      go_ret
      exact ⟨rfl, Kept.refl _⟩
  · have hp : 0 < l.length := List.length_pos_iff.2 h0
    obtain ⟨g, o, c, rfl, _, _, hc⟩ := h.an hp
    obtain ⟨g', o', c', rfl, _, _, hc'⟩ := h'.an hp
    have HC := Lib.hid hc
    have HC' := Lib.hid hc'
    have HE : ∀ (W : World) (q0 q1 q2 : Int), (binOp .eql 28 (.agg #[.int .i64 q0, .int .i64 q1, .int .u64 q2]) (.agg #[.int .i64 q0, .int .i64 q1, .int .u64 q2])).run Tryd.prog W = .ok (.bool true) W := by
      intro W q0 q1 q2
      go_simp
    obtain ⟨n, hn⟩ : ∃ n, n = l.length := ⟨_, rfl⟩
    rw [← hn] at hl ⊢
    have HN := Lib.hid hn
    clear hc hc' h h' h0 hp hn
    go_enter Tryd.func17, Tryd.ntmps17
    go_wp2
    go_loopw [5, 6] (fun s i wr => ∃ k : Nat, k ≤ n ∧ s = .bool true ∧ i = .int .i64 k ∧ (∃ q, wr = w.drewN q)) (fun _ i _ => n - (intOf i).toNat)
    case atStart => exact ⟨0, Nat.zero_le _, rfl, rfl, 0, rfl⟩
    case round =>
      obtain ⟨k, hk, rfl, rfl, q, rfl⟩ := hrel
      by_cases hlt : k < n
      · obtain ⟨d, hd⟩ : ∃ d, l[k]? = some d := ⟨_, List.getElem?_eq_getElem (by rw [← HN.out]; exact hlt)⟩
        obtain ⟨x0, x1, x2⟩ := HC.out k d hd
        obtain ⟨y0, y1, y2⟩ := HC'.out k d hd
        clear hd
        go_wp2
        go_quiet (fail)
        go_wp2
        go_roundw
        case rel => exact ⟨k + 1, by omega, rfl, by go_num, q + nq, rfl⟩
        case measure => simp [intOf]; omega
      · go_wp2
        go_ret
        exact ⟨rfl, (Kept.refl _).drewN _⟩

set_option maxHeartbeats 4000000 in
theorem overInts_any {w : World} {base : Nat} {v : Value} {l : List Int} (h : OwnI w base v l) (hl : l.length ≤ 1000000) :
    Calls Tryd.prog 20 #[v] w fun e w' => e = .returned (.tuple #[]) ∧ But (fun k => v.ownBlock = some k) w w' := by
  by_cases h0 : l = []
  · subst h0
    obtain ⟨a, c, rfl⟩ := own_form h
    clear h hl
    go_enter Tryd.func20, Tryd.ntmps20
    go_wp2
    go_loopw [2] (fun i wr => i = .int .i64 0 ∧ wr = w) (fun _ _ => 0)
    case atStart => exact ⟨rfl, rfl⟩
    case round =>
      obtain ⟨rfl, rfl⟩ := hrel
      go_wp2
      go_end0
      exact ⟨rfl, But.refl _ _⟩
  · have hp : 0 < l.length := List.length_pos_iff.2 h0
    obtain ⟨g, o, c, rfl, _, _, hc⟩ := (own_lies h).lay.ints hp
    have HF := Lib.hid (own_soft h g rfl)
    have hlt := (h.lt g rfl).2
    have HC := Lib.hid hc
    obtain ⟨n, hn⟩ : ∃ n, n = l.length := ⟨_, rfl⟩
    rw [← hn] at hl ⊢
    have HN := Lib.hid hn
    clear hc h h0 hp hn
    go_enter Tryd.func20, Tryd.ntmps20
    go_wp2
    go_loopw [2] (fun i wr => ∃ k : Nat, k ≤ n ∧ i = .int .i64 k ∧ But (fun b => b = g) w wr ∧ ∀ j, k ≤ j → j < n → wr.cell? ⟨g, o + j, none⟩ = w.cell? ⟨g, o + j, none⟩) (fun i _ => n - (intOf i).toNat)
    case atStart => exact ⟨0, Nat.zero_le _, rfl, But.refl _ _, fun _ _ _ => rfl⟩
    case round =>
      obtain ⟨k, hk, rfl, hb, hr⟩ := hrel
      have HR := Lib.hid hr
      clear hr
      by_cases hlk : k < n
      · obtain ⟨d, hd⟩ : ∃ d, l[k]? = some d := ⟨_, List.getElem?_eq_getElem (by rw [← HN.out]; exact hlk)⟩
        have x0 := (HR.out k (by omega) (by omega)).trans (HC.out k d hd)
        have f0 := hb.soft hlt (HF.out (o + k))
        clear hd
        have HB := Lib.hid hb
        clear hb
        go_wp2
        go_roundw
        case rel => exact ⟨k + 1, by omega, by go_num, (HB.out.here _ _), fun j h1 h2 => by
          rw [cell_set, if_neg (by omega)]
          exact HR.out j (by omega) h2⟩
        case measure => simp [intOf]; omega
      · go_wp2
        go_end0
        exact ⟨rfl, hb.mono fun _ _ e => by subst e; rfl⟩

set_option maxHeartbeats 4000000 in
theorem overAnswers_any {w : World} {base : Nat} {v : Value} {l : List Ann} (h : OwnA w base v l) (hl : l.length ≤ 1000000) :
    Calls Tryd.prog 21 #[v] w fun e w' => e = .returned (.tuple #[]) ∧ But (fun k => v.ownBlock = some k) w w' := by
  by_cases h0 : l = []
  · subst h0
    obtain ⟨a, c, rfl⟩ := own_form h
    clear h hl
    go_enter Tryd.func21, Tryd.ntmps21
    go_wp2
    go_loopw [2] (fun i wr => i = .int .i64 0 ∧ wr = w) (fun _ _ => 0)
    case atStart => exact ⟨rfl, rfl⟩
    case round =>
      obtain ⟨rfl, rfl⟩ := hrel
      go_wp2
      go_end0
      exact ⟨rfl, But.refl _ _⟩
  · have hp : 0 < l.length := List.length_pos_iff.2 h0
    obtain ⟨g, o, c, rfl, _, _, hc⟩ := (own_lies h).lay.an hp
    have HF := Lib.hid (own_soft h g rfl)
    have hlt := (h.lt g rfl).2
    have HC := Lib.hid hc
    obtain ⟨n, hn⟩ : ∃ n, n = l.length := ⟨_, rfl⟩
    rw [← hn] at hl ⊢
    have HN := Lib.hid hn
    clear hc h h0 hp hn
    go_enter Tryd.func21, Tryd.ntmps21
    go_wp2
    go_loopw [2] (fun i wr => ∃ k : Nat, k ≤ n ∧ i = .int .i64 k ∧ But (fun b => b = g) w wr ∧ ∀ j, k * 3 ≤ j → j < n * 3 → wr.cell? ⟨g, o + j, none⟩ = w.cell? ⟨g, o + j, none⟩) (fun i _ => n - (intOf i).toNat)
    case atStart => exact ⟨0, Nat.zero_le _, rfl, But.refl _ _, fun _ _ _ => rfl⟩
    case round =>
      obtain ⟨k, hk, rfl, hb, hr⟩ := hrel
      have HR := Lib.hid hr
      clear hr
      by_cases hlk : k < n
      · obtain ⟨d, hd⟩ : ∃ d, l[k]? = some d := ⟨_, List.getElem?_eq_getElem (by rw [← HN.out]; exact hlk)⟩
        have Z := HC.out k d hd
        have x0 := (HR.out (k * 3) (by omega) (by omega)).trans Z.c0
        have f0 := hb.soft hlt (HF.out (o + k * 3))
        have x1 : wr.cell? ⟨g, o + k * 3 + 1, none⟩ = some (.int .i64 d.n) := by rw [Nat.add_assoc]; exact (HR.out (k * 3 + 1) (by omega) (by omega)).trans (by rw [← Nat.add_assoc]; exact Z.c1)
        have f1 := hb.soft hlt (HF.out (o + k * 3 + 1))
        have x2 : wr.cell? ⟨g, o + k * 3 + 2, none⟩ = some (.int .u64 d.v) := by rw [Nat.add_assoc]; exact (HR.out (k * 3 + 2) (by omega) (by omega)).trans (by rw [← Nat.add_assoc]; exact Z.c2)
        have f2 := hb.soft hlt (HF.out (o + k * 3 + 2))
        clear Z
        clear hd
        have HB := Lib.hid hb
        clear hb
        go_wp2
        go_roundw
        case rel => exact ⟨k + 1, by omega, by go_num, (((HB.out.here _ _).here _ _).here _ _), fun j h1 h2 => by
          rw [cell_set, if_neg (by omega), cell_set, if_neg (by omega), cell_set, if_neg (by omega)]
          exact HR.out j (by omega) h2⟩
        case measure => simp [intOf]; omega
      · go_wp2
        go_end0
        exact ⟨rfl, hb.mono fun _ _ e => by subst e; rfl⟩

set_option maxHeartbeats 1000000 in
theorem copyInts_any {w : World} {v : Value} {l : List Int} (h : Lay w v l.length (ints l)) (hl : l.length ≤ 100000) :
    Calls Tryd.prog 9 #[v] w fun e w' => ∃ a c, e = .returned (.slice a l.length c) ∧ Kept w w' ∧ OwnI w' w.heap.size (.slice a l.length c) l := by
  obtain ⟨i0, hi0, hz0, hz1, hz2⟩ := info_parts infoInt
  have L := Lib.hid h
  clear h
  go_enter Tryd.func9, Tryd.ntmps9
  go_wp2_with (at_builtin; refine wpList_append_lay _ rfl _ _ _ rfl w.heap.size 3 i0 _ 1 8 Tryd.underlying22 hi0 hz0 hz1 hz2 (by rfl) (by decide) (.slice (some ⟨w.heap.size, 0, none⟩) 0 0) 0 [] (by simp [Act.eval]) (World.ownsRow_made w #[] 0 (Nat.le_refl _) (by decide) rfl) _ l.length (ints l) (by simp [Act.eval]) (ints_length l) (L.out.kept ((Kept.refl w).alloc _ _)) (ints_one _) (by unfold maxLen; omega) (by omega) (by simp) ?_; rintro a' c' w2 own2 but2 at2)
  go_ret
  refine ⟨a', c', by simp, ?_, ?_⟩
  · exact (((Kept.refl w).alloc _ _).but _).trans but2 (fun _ _ h => h) |>.kept (fun k hk e => by simp [Value.ownBlock] at e; omega)
  · simpa using own2

set_option maxHeartbeats 1000000 in
theorem copyOps_any {w : World} {v : Value} {l : List Opn} (h : Lay w v l.length (flatO l)) (hl : l.length ≤ 100000) :
    Calls Tryd.prog 22 #[v] w fun e w' => ∃ a c, e = .returned (.slice a l.length c) ∧ Kept w w' ∧ OwnO w' w.heap.size (.slice a l.length c) l := by
  obtain ⟨i0, hi0, hz0, hz1, hz2⟩ := info_parts infoO
  have L := Lib.hid h
  clear h
  go_enter Tryd.func22, Tryd.ntmps22
  go_wp2_with (at_builtin; refine wpList_append_lay _ rfl _ _ _ rfl w.heap.size 25 i0 _ 4 32 Tryd.underlying42 hi0 hz0 hz1 hz2 (by rfl) (by decide) (.slice (some ⟨w.heap.size, 0, none⟩) 0 0) 0 [] (by simp [Act.eval]) (World.ownsRow_made w #[] 0 (Nat.le_refl _) (by decide) rfl) _ l.length (flatO l) (by simp [Act.eval]) (flatO_length l) (L.out.kept ((Kept.refl w).alloc _ _)) (flatO_one _) (by unfold maxLen; omega) (by omega) (by simp) ?_; rintro a' c' w2 own2 but2 at2)
  go_ret
  refine ⟨a', c', by simp, ?_, ?_⟩
  · exact (((Kept.refl w).alloc _ _).but _).trans but2 (fun _ _ h => h) |>.kept (fun k hk e => by simp [Value.ownBlock] at e; omega)
  · simpa using own2

theorem tmod_up (x n : Int) (hn : 0 < n) (hn' : n ≤ 1000000) (h : x.tmod n < 0) : wrap64 (x.tmod n + n) = x % n := by
  have e := Int.tmod_eq_emod (a := x) (b := n)
  have h1 := Int.emod_nonneg x (show n ≠ 0 by omega)
  have h2 := Int.emod_lt_of_pos x hn
  unfold wrap64
  split at e <;> omega
theorem tmod_at (x n : Int) (hn : 0 < n) (h : 0 ≤ x.tmod n) : x.tmod n = x % n := by
  have e := Int.tmod_eq_emod (a := x) (b := n)
  have h1 := Int.emod_nonneg x (show n ≠ 0 by omega)
  have h2 := Int.emod_lt_of_pos x hn
  split at e <;> omega
set_option maxHeartbeats 400000 in
theorem pick_any (x n : Int) (hn : 1 ≤ n) (hn' : n ≤ 1000000) (w : World) :
    Calls Tryd.prog 32 #[.int .i64 x, .int .i64 n] w fun e w' => e = .returned (.int .i64 (x % n)) ∧ w = w' := by
  go_enter Tryd.func32, Tryd.ntmps32
  go_wp2
  · rename_i _ h
    go_ret
    exact ⟨by show Ending.returned (.int .i64 (wrap64 (x.tmod n + n))) = _; rw [tmod_up x n (by omega) hn' h], rfl⟩
  · rename_i _ h
    go_ret
    exact ⟨by show Ending.returned (.int .i64 (x.tmod n)) = _; rw [tmod_at x n (by omega) h], rfl⟩
theorem pick_at (x n : Int) (c : Nat) (hn : 1 ≤ n) (hn' : n ≤ 1000000) (h : x % n = c) (w : World) :
    Calls Tryd.prog 32 #[.int .i64 x, .int .i64 n] w fun e w' => e = .returned (.int .i64 c) ∧ w = w' := by
  rw [← h]; exact pick_any x n hn hn' w

end Go.Proofs.YtlkadickhhaakaaDoor
