/- What the walk of CellsActs leans on. -/
import Derived.Test.YtfndjklpjjcelaaKnown
import Derived.Test.YtfndjklpjjcelaaActs
import Derived.Deep.RegionHeld3
import Derived.Deep.DeepCutAuto
import Derived.Deep.CutBlock
namespace Go.Proofs.Ytfndjklpjjcelaa
open Go.RowKit

def ActsRel (C : Cells) (w : World) (n M : Nat) (S : Nat → Prop) (M' B' len : Nat) (i : Value) (wr : World) : Prop :=
  ∃ (k : Nat) (s : St), k ≤ len ∧ i = .int .i64 k ∧ 0 ≤ s.cnt ∧ s.cnt ≤ k ∧ C.Is wr M S n s ∧ RefIs wr M' B' n s ∧ Kept w wr

def CutRel (C : Cells) (w : World) (n M : Nat) (S : Nat → Prop) (M' B' k : Nat) (v : Value) (wx : World) : Prop :=
  ∃ sq : St, v = .bool true ∧ 0 ≤ sq.cnt ∧ sq.cnt ≤ (k + 1 : Nat) ∧ C.Is wx M S n sq ∧ RefIs wx M' B' n sq ∧ Kept w wx

theorem kept_round {w wr wx w5 w6 : World} {S : Nat → Prop} {M' B' : Nat} (kw : Kept w wr) (kx : Kept wr wx) (hb : But S wx w5) (hc : But (fun k => k = M' ∨ k = B') w5 w6)
    (hs : ∀ k, S k → w.heap.size ≤ k ∧ k < M' ∧ k < B') (hm : w.heap.size ≤ M' ∧ w.heap.size ≤ B') : Kept w w6 := by
  have h1 : But (fun k => S k ∨ k = M' ∨ k = B') w wx := (kw.trans kx).but _
  have h2 := h1.trans hb (fun _ _ h => Or.inl h)
  have h3 := h2.trans hc (fun _ _ h => Or.inr h)
  refine h3.kept (fun k hk h => ?_)
  rcases h with h | h | h
  · have := hs k h; omega
  · omega
  · omega

theorem acc_cnt (n : Nat) (s : St) (kind at_ : Int) (wr : Bool) (v : Int) : (acc n s kind at_ wr v).cnt = s.cnt + 1 := by
  unfold acc
  split
  · cases wr <;> rfl
  · rfl

end Go.Proofs.Ytfndjklpjjcelaa
