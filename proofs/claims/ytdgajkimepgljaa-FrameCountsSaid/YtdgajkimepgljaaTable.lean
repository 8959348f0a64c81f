/- A list of structs that came in: its cells, and what each field's cell is. Nothing of the program. -/
import Derived.WalkKit
import Derived.ProofKit
import Derived.Deep.Slices
import Derived.Deep.Fields
import Derived.Lib.SmallJoins
namespace Go.Proofs.Ytdgajkimepgljaa
open Go.ChangeShapes Go.WideShapes Go.Deep Go.RowKit

/-- The value in the cell of field j of element i. -/
def fieldAt (w : World) (a : Addr) (m i j : Nat) : Value := (w.cell? (a.add (i * m + j))).getD undef

section
variable {H : Type} {enc : TypeId × Value → H} {P : Program} {w : World} {base : Nat} {spare : Nat → Bool} {held : Bool}
theorem open_table {t e : TypeId} {fs : Array Field} {fuel : Nat} {cs : List Value} {x : DataW H × List MemPlace} (ht : P.underlying t = some (.slice e)) (he : P.underlying e = some (.struct fs))
    (hone : oneCellFields P fs = true) (hC : P.cellsOf e = fs.size) (R : Nat → Value → Prop)
    (hR : ∀ (j : Nat) (f : Field), fs[j]? = some f → ∀ (v : Value) (n : Nat) (y : DataW H × List MemPlace), DataW.trod enc P w base spare held n f.type [v] = some y → R j v)
    (h : DataW.trod enc P w base spare held fuel t cs = some x) :
    cs = [.slice none 0 0] ∨ ∃ (a : Addr) (len cap : Nat), cs = [.slice (some a) len cap] ∧ len ≤ cap ∧ cap ≤ maxLen ∧
      ∀ i, i < len → ∀ j, j < fs.size → w.cell? (a.add (i * fs.size + j)) = some (fieldAt w a fs.size i j) ∧ R j (fieldAt w a fs.size i j) := by
  rcases open_slice ht h with h0 | ⟨a, len, cap, m, n, D, Pl, hcs, _, hl, hm, hmm, _, hi⟩
  · exact .inl h0.1
  · have hle : len ≤ m := by rw [hmm]; split <;> omega
    refine .inr ⟨a, len, cap, hcs, hl, hm, fun i hil j hj => ?_⟩
    obtain ⟨cs', hc, ht'⟩ := hi i (by omega)
    rw [hC] at hc
    obtain ⟨_, hlen, hat⟩ := World.cells?_some hc
    obtain ⟨xs, n', _, _, _, hxl, hf⟩ := DataW.trod_struct he ht'
    have hcell := hat j hj
    rw [add_add] at hcell
    have hv : cs'[j]? = some (cs'[j]'(by omega)) := List.getElem?_eq_getElem (by omega)
    have hfj : fs[j]? = some (fs[j]'hj) := Array.getElem?_eq_getElem hj
    obtain ⟨ho, hk⟩ := hone_of hone j _ hfj
    have h1 := hf j _ hfj
    rw [ho, hk, List.drop_eq_getElem_cons (show j < cs'.length by omega), List.take_succ_cons, List.take_zero] at h1
    have hx : xs[j]? = some (xs[j]'(by omega)) := List.getElem?_eq_getElem (by omega)
    rw [hx] at h1
    have e : fieldAt w a fs.size i j = cs'[j]'(by omega) := by unfold fieldAt; rw [hcell, hv]; rfl
    rw [e]
    exact ⟨hcell.trans hv, hR j _ hfj _ _ _ h1⟩
end

/-- A list that came in: nil, or a row of cells, m an element. -/
def IsTable (w : World) (a : Option Addr) (len cap m : Nat) (R : Nat → Value → Prop) : Prop :=
  (a = none ∧ len = 0 ∧ cap = 0) ∨
  ∃ x : Addr, a = some x ∧ len ≤ cap ∧ cap ≤ maxLen ∧ ∀ i, i < len → ∀ j, j < m → w.cell? (x.add (i * m + j)) = some (fieldAt w x m i j) ∧ R j (fieldAt w x m i j)

/-- Where there is an element the address has no spot. -/
theorem IsTable.at {w : World} {a : Option Addr} {len cap m : Nat} {R : Nat → Value → Prop} (h : IsTable w a len cap m R) (hl : 0 < len) (hm : 0 < m) :
    ∃ b off, a = some ⟨b, off, none⟩ ∧ len ≤ cap ∧ cap ≤ maxLen ∧ b < w.heap.size ∧ ∀ i, i < len → ∀ j, j < m → w.cell? ⟨b, off + (i * m + j), none⟩ = some (fieldAt w ⟨b, off, none⟩ m i j) ∧ R j (fieldAt w ⟨b, off, none⟩ m i j) := by
  rcases h with ⟨_, h, _⟩ | ⟨⟨b, off, spot⟩, rfl, h1, h2, h3⟩
  · omega
  · have h0 := (h3 0 hl 0 hm).1
    have hs : spot = none := by simpa [Addr.add] using World.cell?_spot h0
    subst hs
    refine ⟨b, off, rfl, h1, h2, ?_, fun i hi j hj => ?_⟩
    · have := World.block_lt_of_cell? w _ h0
      simpa [Addr.add] using this
    · have h := h3 i hi j hj
      have e : (Addr.add ⟨b, off, none⟩ (i * m + j)) = ⟨b, off + (i * m + j), none⟩ := by
        unfold Addr.add
        split <;> simp_all
      rw [e] at h
      exact h
end Go.Proofs.Ytdgajkimepgljaa
