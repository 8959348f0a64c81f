/- The kit's functions on lists of ints, over rows of the call's own; Pick. -/
import Derived.Test.YtdgajkimepgljaaFBusy
import Derived.OwnWalk
import Derived.BigQuiet
import Derived.LoopN
namespace Go.Proofs.Ytdgajkimepgljaa
open Go.RowKit

set_option maxHeartbeats 1000000 in
theorem sameInts_yes {w : World} {v v' : Value} {l : List Int} (h : Lies w v l.length (ints l)) (h' : Lies w v' l.length (ints l)) (hl : l.length ≤ 1000000) :
    Calls Try.prog 21 #[v, v'] w fun e w' => e = .returned (.bool true) ∧ Kept w w' := by
  by_cases h0 : l = []
  · subst h0
    obtain ⟨a, c, rfl, _⟩ := h.form
    obtain ⟨a', c', rfl, _⟩ := h'.form
    clear h h' hl
    go_enter Try.func21, Try.ntmps21
    go_wp2
    go_loopw [5, 6] (fun s i wr => s = .bool true ∧ i = .int .i64 0 ∧ wr = w) (fun _ _ _ => 0)
    case atStart => exact ⟨rfl, rfl, rfl⟩
    case round =>
      obtain ⟨rfl, rfl, rfl⟩ := hrel
      go_wp2
      go_ret
      exact ⟨rfl, Kept.refl _⟩
  · have hp : 0 < l.length := List.length_pos_iff.2 h0
    obtain ⟨g, o, c, rfl, _, _, hc⟩ := h.int hp
    obtain ⟨g', o', c', rfl, _, _, hc'⟩ := h'.int hp
    have HC := Lib.hid hc
    have HC' := Lib.hid hc'
    obtain ⟨n, hn⟩ : ∃ n, n = l.length := ⟨_, rfl⟩
    rw [← hn] at hl ⊢
    clear hc hc' h h' h0
    go_enter Try.func21, Try.ntmps21
    go_wp2
    go_loopw [5, 6] (fun s i wr => ∃ k : Nat, k ≤ n ∧ s = .bool true ∧ i = .int .i64 k ∧ (∃ q, wr = w.drewN q)) (fun _ i _ => n - (intOf i).toNat)
    case atStart => exact ⟨0, Nat.zero_le _, rfl, rfl, 0, rfl⟩
    case round =>
      obtain ⟨k, hk, rfl, rfl, q, rfl⟩ := hrel
      by_cases hlt : k < n
      · obtain ⟨d, hd⟩ : ∃ d, l[k]? = some d := ⟨_, List.getElem?_eq_getElem (by omega)⟩
        have h1 := HC.out k d hd
        have h2 := HC'.out k d hd
        go_wp2
        go_quiet (fail)
        go_wp2
        go_roundw
        case rel => exact ⟨k + 1, by omega, rfl, by go_num, q + nq, rfl⟩
        case measure => simp [intOf]; omega
      · go_wp2
        go_ret
        exact ⟨rfl, (Kept.refl _).drewN _⟩

set_option maxHeartbeats 1000000 in
theorem overInts_any {w : World} {base : Nat} {v : Value} {l : List Int} (h : OwnI w base v l) (hl : l.length ≤ 1000000) :
    Calls Try.prog 27 #[v] w fun e w' => e = .returned (.tuple #[]) ∧ But (fun k => v.ownBlock = some k) w w' := by
  by_cases h0 : l = []
  · subst h0
    obtain ⟨a, c, rfl⟩ := own_form h
    clear h hl
    go_enter Try.func27, Try.ntmps27
    go_wp2
    go_loopw [2] (fun i wr => i = .int .i64 0 ∧ wr = w) (fun _ _ => 0)
    case atStart => exact ⟨rfl, rfl⟩
    case round =>
      obtain ⟨rfl, rfl⟩ := hrel
      go_wp2
      go_end0
      exact ⟨rfl, But.refl _ _⟩
  · have hp : 0 < l.length := List.length_pos_iff.2 h0
    obtain ⟨g, o, c, rfl, _, _, hc⟩ := (own_lies h).int hp
    have HF := Lib.hid (own_soft h g rfl)
    have hlt := (h.lt g rfl).2
    have HC := Lib.hid hc
    obtain ⟨n, hn⟩ : ∃ n, n = l.length := ⟨_, rfl⟩
    rw [← hn] at hl ⊢
    clear hc h h0
    go_enter Try.func27, Try.ntmps27
    go_wp2
    go_loopw [2] (fun i wr => ∃ k : Nat, k ≤ n ∧ i = .int .i64 k ∧ But (fun b => b = g) w wr ∧ ∀ j, k ≤ j → j < n → wr.cell? ⟨g, o + j, none⟩ = w.cell? ⟨g, o + j, none⟩) (fun i _ => n - (intOf i).toNat)
    case atStart => exact ⟨0, Nat.zero_le _, rfl, But.refl _ _, fun _ _ _ => rfl⟩
    case round =>
      obtain ⟨k, hk, rfl, hb, hr⟩ := hrel
      have HR := Lib.hid hr
      clear hr
      by_cases hlk : k < n
      · obtain ⟨d, hd⟩ : ∃ d, l[k]? = some d := ⟨_, List.getElem?_eq_getElem (by omega)⟩
        have x0 := (HR.out k (by omega) (by omega)).trans (HC.out k d hd)
        have f0 := hb.soft hlt (HF.out (o + k))
        go_wp2
        go_roundw
        case rel => exact ⟨k + 1, by omega, by go_num, hb.here _ _, fun j h1 h2 => by
          rw [cell_set, if_neg (by omega)]
          exact HR.out j (by omega) h2⟩
        case measure => simp [intOf]; omega
      · go_wp2
        go_end0
        exact ⟨rfl, hb.mono fun _ _ e => by subst e; rfl⟩

theorem tmod_up (x n : Int) (hn : 0 < n) (hn' : n ≤ 1000000) (h : x.tmod n < 0) : wrap64 (x.tmod n + n) = x % n := by
  have e := Int.tmod_eq_emod (a := x) (b := n)
  have h1 := Int.emod_nonneg x (show n ≠ 0 by omega)
  have h2 := Int.emod_lt_of_pos x hn
  unfold wrap64
  split at e <;> omega
theorem tmod_at (x n : Int) (hn : 0 < n) (h : 0 ≤ x.tmod n) : x.tmod n = x % n := by
  have e := Int.tmod_eq_emod (a := x) (b := n)
  have h1 := Int.emod_nonneg x (show n ≠ 0 by omega)
  have h2 := Int.emod_lt_of_pos x hn
  split at e <;> omega
set_option maxHeartbeats 400000 in
theorem pick_any (x n : Int) (hn : 1 ≤ n) (hn' : n ≤ 1000000) (w : World) :
    Calls Try.prog 30 #[.int .i64 x, .int .i64 n] w fun e w' => e = .returned (.int .i64 (x % n)) ∧ w = w' := by
  go_enter Try.func30, Try.ntmps30
  go_wp2
  · rename_i _ h
    go_ret
    exact ⟨by show Ending.returned (.int .i64 (wrap64 (x.tmod n + n))) = _; rw [tmod_up x n (by omega) hn' h], rfl⟩
  · rename_i _ h
    go_ret
    exact ⟨by show Ending.returned (.int .i64 (x.tmod n)) = _; rw [tmod_at x n (by omega) h], rfl⟩
theorem pick_at (x n : Int) (c : Nat) (hn : 1 ≤ n) (hn' : n ≤ 1000000) (h : x % n = c) (w : World) :
    Calls Try.prog 30 #[.int .i64 x, .int .i64 n] w fun e w' => e = .returned (.int .i64 c) ∧ w = w' := by
  rw [← h]; exact pick_any x n hn hn' w

/-- One int that has just been laid. -/
theorem lies_int1 {w : World} {g : Nat} {x : Int} {t : TypeId} {fr : Nat × Nat} (h : w.heap[g]? = some (.cells #[.int .i64 x] t fr)) : Lies w (.slice (some ⟨g, 0, none⟩) 1 1) 1 (ints [x]) :=
  .inr ⟨g, 0, 1, rfl, Nat.le_refl _, by decide, fun j u hu => by
    have := World.news_of_block h j u hu
    rwa [add_none] at this⟩
end Go.Proofs.Ytdgajkimepgljaa
