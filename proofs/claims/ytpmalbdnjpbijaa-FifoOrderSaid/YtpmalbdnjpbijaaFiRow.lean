/- A row that the call has made and is filling: its first cells are known. And 'make' of lists of words and of answers. -/
import Derived.Test.YtpmalbdnjpbijaaFiMem
import Derived.WalkLawsBesides
import Derived.Laws.MakeOwn
import Derived.Laws.OwnMore
namespace Go.Proofs.Ytpmalbdnjpbijaa
open Go.RowKit

structure Filled (w : World) (g : Nat) (t : TypeId) (n : Nat) (xs : List Value) : Prop where
  row : ∃ cur : Array Value, w.heap[g]? = some (.cells cur t (0, 0)) ∧ cur.size = n ∧ ∀ (j : Nat) (u : Value), xs[j]? = some u → cur[j]? = some u
section
variable {w w' : World} {g n : Nat} {t : TypeId} {xs : List Value}
theorem Filled.lt (h : Filled w g t n xs) : g < w.heap.size := by
  obtain ⟨cur, h1, _⟩ := h
  exact (Array.getElem?_eq_some_iff.1 h1).1
theorem Filled.but {S : Nat → Prop} (h : Filled w g t n xs) (k : But S w w') (hS : ¬ S g) : Filled w' g t n xs := by
  have := h.lt
  obtain ⟨cur, h1, h2⟩ := h
  exact ⟨cur, (k.block g this hS).trans h1, h2⟩
theorem Filled.kept (h : Filled w g t n xs) (k : Kept w w') : Filled w' g t n xs := h.but (k.but (fun _ => False)) id
theorem Filled.cell (h : Filled w g t n xs) (j : Nat) (hj : j < n) : ∃ v, w.cell? ⟨g, j, none⟩ = some v := by
  obtain ⟨cur, h1, h2, _⟩ := h
  refine ⟨cur[j]'(by omega), ?_⟩
  rw [cell_of_row w g j cur t _ h1]
  exact Array.getElem?_eq_getElem (by omega)
theorem Filled.soft (h : Filled w g t n xs) (j : Nat) : w.frozen? ⟨g, j, none⟩ = false := by
  obtain ⟨cur, h1, _⟩ := h
  exact frozen_of_row w g j cur t h1
theorem Filled.set (h : Filled w g t n xs) (v : Value) (o : Nat) (ho : o = xs.length) (hl : xs.length < n) : Filled (w.setCell ⟨g, o, none⟩ v) g t n (xs ++ [v]) := by
  subst ho
  obtain ⟨cur, h1, h2, h3⟩ := h
  refine ⟨cur.setIfInBounds xs.length v, ?_, by simp [h2], fun j u hu => ?_⟩
  · rw [setCell_eq_setRow w g _ cur t _ v h1]
    exact setRow_heap w g cur _ t _ h1
  · rw [Array.getElem?_setIfInBounds]
    by_cases e : xs.length = j
    · subst e
      rw [if_pos rfl, if_pos (by omega)]
      simpa using hu
    · rw [if_neg e]
      refine h3 j u ?_
      have hj : j < (xs ++ [v]).length := (List.getElem?_eq_some_iff.1 hu).1
      rw [List.getElem?_append_left (by simp at hj; omega)] at hu
      exact hu
theorem Filled.own {base size m : Nat} (h : Filled w g t n xs) (hn : xs.length = n) (hm : n = m * size) (hb : base ≤ g) (hmax : m ≤ maxLen) : w.ownsRow base t size (.slice (some ⟨g, 0, none⟩) m m) m xs := by
  obtain ⟨cur, h1, h2, h3⟩ := h
  refine ⟨by omega, .inr ⟨g, m, cur, rfl, hb, h1, Nat.le_refl _, hmax, by omega, ?_⟩⟩
  apply List.ext_getElem?
  intro j
  by_cases hj : j < n
  · rw [List.getElem?_take_of_lt (by omega)]
    have hx : xs[j]? = some (xs[j]'(by omega)) := List.getElem?_eq_getElem (by omega)
    rw [hx]
    have := h3 j _ hx
    simpa using this
  · rw [List.getElem?_eq_none (by rw [List.length_take]; omega), List.getElem?_eq_none (by omega)]
theorem Filled.new (w : World) (Z : Array Value) (t : TypeId) (n : Nat) (h : Z.size = n) : Filled (w.alloc (.cells Z t)) w.heap.size t n [] :=
  ⟨Z, heap_alloc_new w _, h, by simp⟩
end
theorem make_words (n : Nat) (hn : n ≤ 1000000) : ∃ Z : Array Value, Z.size = n ∧
    ∀ w : World, (Instr.makeSlice 22 (.int .i64 (n : Int)) (.int .i64 (n : Int))).run Try.prog w = .ok (.slice (some ⟨w.heap.size, 0, none⟩) n n) (w.alloc (.cells Z 23)) := by
  obtain ⟨i0, hi, hz0, hz1, hz2⟩ := info_parts infoW
  refine ⟨madeCells #[.int .u64 0] n, size_madeCells _ _, fun w => ?_⟩
  have h := run_makeSlice (P := Try.prog) w 22 23 i0 (.int .u64 0) Try.underlying22 hi hz0 .i64 .i64 (n : Int) (n : Int) (by omega) (Int.le_refl _) (by rw [hz1]; omega) (by rw [hz2]; omega) (by omega)
  rw [h, hz1]
  simp [Value.cells]
theorem make_answers (n : Nat) (hn : n ≤ 100000) : ∃ Z : Array Value, Z.size = n * 3 ∧
    ∀ w : World, (Instr.makeSlice 41 (.int .i64 (n : Int)) (.int .i64 (n : Int))).run Try.prog w = .ok (.slice (some ⟨w.heap.size, 0, none⟩) n n) (w.alloc (.cells Z 28)) := by
  obtain ⟨i0, hi, hz0, hz1, hz2⟩ := info_parts infoA
  refine ⟨madeCells #[.int .i64 0, .int .i64 0, .int .u64 0] (n * 3), size_madeCells _ _, fun w => ?_⟩
  have h := run_makeSlice (P := Try.prog) w 41 28 i0 _ Try.underlying41 hi hz0 .i64 .i64 (n : Int) (n : Int) (by omega) (Int.le_refl _) (by rw [hz1]; omega) (by rw [hz2]; omega) (by omega)
  rw [h, hz1]
  simp [Value.cells]
end Go.Proofs.Ytpmalbdnjpbijaa
