/- The kit's functions on lists of items, wherever they lie; Pick. -/
import Derived.Test.YteomggjkdaddhaaHeRefN
import Derived.LoopN
namespace Go.Proofs.Yteomggjkdaddhaa
open Go.RowKit

set_option maxHeartbeats 2000000 in
theorem sameItems_yes {w : World} {v v' : Value} {l : List It} (h : Lay w v l.length (flatI l)) (h' : Lay w v' l.length (flatI l)) (hl : l.length ≤ 1000000) :
    Calls Try.prog 15 #[v, v'] w fun e w' => e = .returned (.bool true) ∧ Kept w w' := by
  by_cases h0 : l = []
  · subst h0
    obtain ⟨a, c, rfl, _⟩ := h.form
    obtain ⟨a', c', rfl, _⟩ := h'.form
    clear h h' hl
    go_enter Try.func15, Try.ntmps15
    go_wp2
    go_loopw [5, 6] (fun s i wr => s = .bool true ∧ i = .int .i64 0 ∧ wr = w) (fun _ _ _ => 0)
    case atStart => exact ⟨rfl, rfl, rfl⟩
    case round =>
      obtain ⟨rfl, rfl, rfl⟩ := hrel
      go_wp2
      go_ret
      exact ⟨rfl, Kept.refl _⟩
  · have hp : 0 < l.length := List.length_pos_iff.2 h0
    obtain ⟨g, o, c, rfl, _, _, hc⟩ := h.it hp
    obtain ⟨g', o', c', rfl, _, _, hc'⟩ := h'.it hp
    have HC := Lib.hid hc
    have HC' := Lib.hid hc'
    have HE : ∀ (W : World) (q0 q1 : Int), (binOp .eql 45 (.agg #[.int .u64 q0, .int .i64 q1]) (.agg #[.int .u64 q0, .int .i64 q1])).run Try.prog W = .ok (.bool true) W := by
      intro W q0 q1
      go_simp
    obtain ⟨n, hn⟩ : ∃ n, n = l.length := ⟨_, rfl⟩
    rw [← hn] at hl ⊢
    have HN := Lib.hid hn
    clear hc hc' h h' h0 hp hn
    go_enter Try.func15, Try.ntmps15
    go_wp2
    go_loopw [5, 6] (fun s i wr => ∃ k : Nat, k ≤ n ∧ s = .bool true ∧ i = .int .i64 k ∧ (∃ q, wr = w.drewN q)) (fun _ i _ => n - (intOf i).toNat)
    case atStart => exact ⟨0, Nat.zero_le _, rfl, rfl, 0, rfl⟩
    case round =>
      obtain ⟨k, hk, rfl, rfl, q, rfl⟩ := hrel
      by_cases hlt : k < n
      · obtain ⟨d, hd⟩ : ∃ d, l[k]? = some d := ⟨_, List.getElem?_eq_getElem (by rw [← HN.out]; exact hlt)⟩
        obtain ⟨x0, x1⟩ := HC.out k d hd
        obtain ⟨y0, y1⟩ := HC'.out k d hd
        clear hd
        go_wp2
        go_quiet (fail)
        go_wp2
        go_roundw
        case rel => exact ⟨k + 1, by omega, rfl, by go_num, q + nq, rfl⟩
        case measure => simp [intOf]; omega
      · go_wp2
        go_ret
        exact ⟨rfl, (Kept.refl _).drewN _⟩

set_option maxHeartbeats 4000000 in
theorem overItems_any {w : World} {base : Nat} {v : Value} {l : List It} (h : OwnI w base v l) (hl : l.length ≤ 1000000) :
    Calls Try.prog 16 #[v] w fun e w' => e = .returned (.tuple #[]) ∧ But (fun k => v.ownBlock = some k) w w' := by
  by_cases h0 : l = []
  · subst h0
    obtain ⟨a, c, rfl⟩ := own_form h
    clear h hl
    go_enter Try.func16, Try.ntmps16
    go_wp2
    go_loopw [2] (fun i wr => i = .int .i64 0 ∧ wr = w) (fun _ _ => 0)
    case atStart => exact ⟨rfl, rfl⟩
    case round =>
      obtain ⟨rfl, rfl⟩ := hrel
      go_wp2
      go_end0
      exact ⟨rfl, But.refl _ _⟩
  · have hp : 0 < l.length := List.length_pos_iff.2 h0
    obtain ⟨g, o, c, rfl, _, _, hc⟩ := (own_lies h).lay.it hp
    have HF := Lib.hid (own_soft h g rfl)
    have hlt := (h.lt g rfl).2
    have HC := Lib.hid hc
    obtain ⟨n, hn⟩ : ∃ n, n = l.length := ⟨_, rfl⟩
    rw [← hn] at hl ⊢
    have HN := Lib.hid hn
    clear hc h h0 hp hn
    go_enter Try.func16, Try.ntmps16
    go_wp2
    go_loopw [2] (fun i wr => ∃ k : Nat, k ≤ n ∧ i = .int .i64 k ∧ But (fun b => b = g) w wr ∧ ∀ j, k * 2 ≤ j → j < n * 2 → wr.cell? ⟨g, o + j, none⟩ = w.cell? ⟨g, o + j, none⟩) (fun i _ => n - (intOf i).toNat)
    case atStart => exact ⟨0, Nat.zero_le _, rfl, But.refl _ _, fun _ _ _ => rfl⟩
    case round =>
      obtain ⟨k, hk, rfl, hb, hr⟩ := hrel
      have HR := Lib.hid hr
      clear hr
      by_cases hlk : k < n
      · obtain ⟨d, hd⟩ : ∃ d, l[k]? = some d := ⟨_, List.getElem?_eq_getElem (by rw [← HN.out]; exact hlk)⟩
        have Z := HC.out k d hd
        have x0 := (HR.out (k * 2) (by omega) (by omega)).trans Z.c0
        have f0 := hb.soft hlt (HF.out (o + k * 2))
        have x1 : wr.cell? ⟨g, o + k * 2 + 1, none⟩ = some (.int .i64 d.a) := by rw [Nat.add_assoc]; exact (HR.out (k * 2 + 1) (by omega) (by omega)).trans (by rw [← Nat.add_assoc]; exact Z.c1)
        have f1 := hb.soft hlt (HF.out (o + k * 2 + 1))
        clear Z
        clear hd
        have HB := Lib.hid hb
        clear hb
        go_wp2
        go_roundw
        case rel => exact ⟨k + 1, by omega, by go_num, ((HB.out.here _ _).here _ _), fun j h1 h2 => by
          rw [cell_set, if_neg (by omega), cell_set, if_neg (by omega)]
          exact HR.out j (by omega) h2⟩
        case measure => simp [intOf]; omega
      · go_wp2
        go_end0
        exact ⟨rfl, hb.mono fun _ _ e => by subst e; rfl⟩

theorem tmod_up (x n : Int) (hn : 0 < n) (hn' : n ≤ 1000000) (h : x.tmod n < 0) : wrap64 (x.tmod n + n) = x % n := by
  have e := Int.tmod_eq_emod (a := x) (b := n)
  have h1 := Int.emod_nonneg x (show n ≠ 0 by omega)
  have h2 := Int.emod_lt_of_pos x hn
  unfold wrap64
  split at e <;> omega
theorem tmod_at (x n : Int) (hn : 0 < n) (h : 0 ≤ x.tmod n) : x.tmod n = x % n := by
  have e := Int.tmod_eq_emod (a := x) (b := n)
  have h1 := Int.emod_nonneg x (show n ≠ 0 by omega)
  have h2 := Int.emod_lt_of_pos x hn
  split at e <;> omega
set_option maxHeartbeats 400000 in
theorem kitPick_any (x n : Int) (hn : 1 ≤ n) (hn' : n ≤ 1000000) (w : World) :
    Calls Try.prog 23 #[.int .i64 x, .int .i64 n] w fun e w' => e = .returned (.int .i64 (x % n)) ∧ w = w' := by
  go_enter Try.func23, Try.ntmps23
  go_wp2
  · rename_i _ h
    go_ret
    exact ⟨by show Ending.returned (.int .i64 (wrap64 (x.tmod n + n))) = _; rw [tmod_up x n (by omega) hn' h], rfl⟩
  · rename_i _ h
    go_ret
    exact ⟨by show Ending.returned (.int .i64 (x.tmod n)) = _; rw [tmod_at x n (by omega) h], rfl⟩
theorem kitPick_at (x n : Int) (c : Nat) (hn : 1 ≤ n) (hn' : n ≤ 1000000) (h : x % n = c) (w : World) :
    Calls Try.prog 23 #[.int .i64 x, .int .i64 n] w fun e w' => e = .returned (.int .i64 c) ∧ w = w' := by
  rw [← h]; exact kitPick_any x n hn hn' w

theorem same_n {w : World} {a a' : Option Addr} {c c' n m : Nat} {l : List It} (h : Lay w (.slice a n c) n (flatI l)) (h' : Lay w (.slice a' m c') m (flatI l)) (hn : n = l.length) (hm : m = l.length) (hl : n ≤ 1000000) :
    Calls Try.prog 15 #[.slice a n c, .slice a' m c'] w fun e w' => e = .returned (.bool true) ∧ Kept w w' := by
  subst hn; subst hm; exact sameItems_yes h h' hl
end Go.Proofs.Yteomggjkdaddhaa
