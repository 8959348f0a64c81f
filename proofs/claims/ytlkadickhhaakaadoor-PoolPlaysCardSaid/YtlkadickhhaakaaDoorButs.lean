/- But S w w': the world w' is w with new blocks laid behind it, and with cells written in the blocks that S names; all other old blocks are as they were. For contracts of functions that write what they are handed. -/
import Derived.Test.YtlkadickhhaakaaDoorKeep
namespace Go.Proofs.YtlkadickhhaakaaDoor
open Go.RowKit

structure But (S : Nat → Prop) (w w' : World) : Prop where
  os : w'.os = w.os
  tape : w'.tape = w.tape
  output : w'.output = w.output
  size : w.heap.size ≤ w'.heap.size
  block : ∀ k, k < w.heap.size → ¬ S k → w'.heap[k]? = w.heap[k]?
  froze : ∀ a, a.block < w.heap.size → w'.frozen? a = w.frozen? a

theorem Kept.but {w w' : World} (h : Kept w w') (S : Nat → Prop) : But S w w' :=
  ⟨h.below.os, h.below.tape, h.below.output, h.below.size, fun k hk _ => h.below.block k hk, h.froze⟩
theorem But.refl (S : Nat → Prop) (w : World) : But S w w := (Kept.refl w).but S
theorem But.mono {S T : Nat → Prop} {w w' : World} (h : But S w w') (hST : ∀ k, k < w.heap.size → S k → T k) : But T w w' :=
  ⟨h.os, h.tape, h.output, h.size, fun k hk hT => h.block k hk (fun hS => hT (hST k hk hS)), h.froze⟩
/-- Two steps: what the second one writes is named by S, or lies behind the first world. -/
theorem But.trans {S T : Nat → Prop} {a b c : World} (h : But S a b) (k : But T b c) (hT : ∀ i, i < a.heap.size → T i → S i) : But S a c :=
  ⟨k.os.trans h.os, k.tape.trans h.tape, k.output.trans h.output, Nat.le_trans h.size k.size,
   fun i hi hS => (k.block i (Nat.lt_of_lt_of_le hi h.size) (fun ht => hS (hT i hi ht))).trans (h.block i hi hS), fun x hx => (k.froze x (Nat.lt_of_lt_of_le hx h.size)).trans (h.froze x hx)⟩
theorem But.then {S : Nat → Prop} {a b c : World} (h : But S a b) (k : Kept b c) : But S a c := h.trans (k.but S) (fun _ _ h => h)
theorem But.alloc {S : Nat → Prop} {a w : World} (h : But S a w) (c : Array Value) (t : TypeId) : But S a (w.alloc (.cells c t)) := h.then ((Kept.refl w).alloc c t)
theorem But.drew {S : Nat → Prop} {a w : World} (h : But S a w) : But S a w.drew := h.then (Kept.refl w).drew
theorem But.drewN {S : Nat → Prop} {a w : World} (h : But S a w) (n : Nat) : But S a (w.drewN n) := h.then ((Kept.refl w).drewN n)
theorem But.setCell {S : Nat → Prop} {a w : World} (h : But S a w) {p : Addr} (hp : S p.block ∨ a.heap.size ≤ p.block) (v : Value) : But S a (w.setCell p v) :=
  ⟨h.os, h.tape, h.output, by simpa using h.size, fun k hk hS => by
    rw [Below.heap_setCell _ _ _ _ (by
      rcases hp with hp | hp
      · intro e; subst e; exact hS hp
      · omega)]
    exact h.block k hk hS, fun x hx => (World.frozen?_setCell _ _ _ _).trans (h.froze x hx)⟩
theorem But.cell {S : Nat → Prop} {w w' : World} (h : But S w w') (b o : Nat) (hb : b < w.heap.size) (hS : ¬ S b) : w'.cell? ⟨b, o, none⟩ = w.cell? ⟨b, o, none⟩ :=
  World.cell?_of_block (w := w) (h.block b hb hS)
theorem But.some {S : Nat → Prop} {w w' : World} (h : But S w w') {b o : Nat} {v : Value} (hc : w.cell? ⟨b, o, none⟩ = Option.some v) (hS : ¬ S b) : w'.cell? ⟨b, o, none⟩ = Option.some v := by
  rw [h.cell b o (lt_of_cell hc) hS]; exact hc
theorem But.soft {S : Nat → Prop} {w w' : World} (h : But S w w') {b i : Nat} (hb : b < w.heap.size) (hf : w.frozen? ⟨b, i, none⟩ = false) : w'.frozen? ⟨b, i, none⟩ = false := (h.froze ⟨b, i, none⟩ hb).trans hf
/-- What was written lies behind the old world: then nothing old has changed. -/
theorem But.kept {S : Nat → Prop} {w w' : World} (h : But S w w') (hS : ∀ k, k < w.heap.size → ¬ S k) : Kept w w' :=
  ⟨⟨h.os, h.tape, h.output, h.size, fun k hk => h.block k hk (hS k hk)⟩⟩

/-- A cell behind a store, whatever the two places are. -/
theorem cell_set (w : World) (b o o' : Nat) (v : Value) : (w.setCell ⟨b, o, none⟩ v).cell? ⟨b, o', none⟩ = if o = o' then (w.cell? ⟨b, o', none⟩).map (fun _ => v) else w.cell? ⟨b, o', none⟩ := by
  by_cases h : o = o'
  · subst h
    rw [if_pos rfl]
    cases hc : w.cell? ⟨b, o, none⟩ with
    | some u => exact World.cell?_setCell_same _ _ _ hc
    | none =>
      simp only [World.cell?, World.setCell, Array.getElem?_modify] at *
      cases hh : w.heap[b]? with
      | none => simp
      | some x =>
        cases x <;> simp_all
  · rw [if_neg h]
    exact World.cell?_setCell_other _ _ _ _ (by intro e; injection e; contradiction)
theorem cell_set_far (w : World) (b b' o o' : Nat) (v : Value) (h : b ≠ b') : (w.setCell ⟨b, o, none⟩ v).cell? ⟨b', o', none⟩ = w.cell? ⟨b', o', none⟩ :=
  World.cell?_setCell_other _ _ _ _ (by intro e; injection e; contradiction)
theorem cell_set_far' (w : World) (b b' o o' : Nat) (v : Value) (h : b' ≠ b) : (w.setCell ⟨b, o, none⟩ v).cell? ⟨b', o', none⟩ = w.cell? ⟨b', o', none⟩ :=
  cell_set_far _ _ _ _ _ _ (Ne.symm h)
/-- A store into the block that may be written. -/
theorem But.here {b : Nat} {a w : World} (h : But (fun k => k = b) a w) (o : Nat) (v : Value) : But (fun k => k = b) a (w.setCell ⟨b, o, none⟩ v) := h.setCell (p := ⟨b, o, none⟩) (Or.inl rfl) v
/-- A cell of the block that has just been laid, whatever its number is called. -/
theorem cell_new (w : World) (C : Array Value) (t : TypeId) (n i : Nat) (h : n = w.heap.size) : (w.alloc (.cells C t)).cell? ⟨n, i, none⟩ = C[i]? := by
  subst h; simp
end Go.Proofs.YtlkadickhhaakaaDoor
