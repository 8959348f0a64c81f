/- A set of indices as 16 words: as a value and in memory; bit, has, with, without. Loads and stores of all of it under names that the walk leaves alone. -/
import Derived.Test.YtlkadickhhaakaaDoorPoMem
import Derived.Deep.MidRow
import Derived.Laws.Tables
import Derived.Laws.Bits64b
import Derived.WalkLawsBesides
import Derived.Deep.QuietTactic
import Derived.BigQuiet
import Derived.Deep.RegionHeld3
import Derived.Deep.Light
import Derived.LoopN
import Derived.Lib.Hide
namespace Go.Proofs.YtlkadickhhaakaaDoor
open Go.RowKit

theorem Kept.wrote {S : Nat → Prop} {w w1 w2 : World} (k : Kept w w1) (b : But S w1 w2) (h : ∀ j, S j → w.heap.size ≤ j) : Kept w w2 :=
  ((k.but S).trans b (fun _ _ h => h)).kept (fun j hj hS => by have := h j hS; omega)
theorem Kept.wrote1 {w w1 w2 : World} {n : Nat} (k : Kept w w1) (b : But (fun j => j = n) w1 w2) (h : w.heap.size ≤ n) : Kept w w2 := k.wrote b (fun j e => by subst e; exact h)

/-- 16 words as a value. -/
structure Ws (R : Array Value) (M : Nat → Bool) : Prop where
  size : R.size = 16
  word : ∀ k, k < 16 → ∃ x : Nat, R[k]? = some (.int .u64 x) ∧ x < 18446744073709551616 ∧ ∀ t, t < 64 → x.testBit t = M (k * 64 + t)
theorem Ws.one {R : Array Value} {M : Nat → Bool} (h : Ws R M) : ∀ v ∈ R.toList, v.oneCell' = true := by
  intro v hv
  obtain ⟨i, hi⟩ := List.mem_iff_getElem?.1 hv
  rw [Array.getElem?_toList] at hi
  have hlt := (Array.getElem?_eq_some_iff.1 hi).1
  obtain ⟨x, hx, _⟩ := h.word i (by rw [← h.size]; exact hlt)
  rw [hx] at hi
  cases hi
  rfl
theorem Ws.congr {R : Array Value} {M N : Nat → Bool} (h : Ws R M) (e : ∀ i, i < 1024 → M i = N i) : Ws R N :=
  ⟨h.size, fun k hk => by
    obtain ⟨x, h1, h2, h3⟩ := h.word k hk
    exact ⟨x, h1, h2, fun t ht => by rw [h3 t ht, e _ (by omega)]⟩⟩

/-- Its cells in memory. -/
structure WsAt (w : World) (b : Nat) (R : Array Value) : Prop where
  size : R.size = 16
  one : ∀ v ∈ R.toList, v.oneCell' = true
  at_ : w.rangeAt b 0 R.toList
  soft : ∀ i, w.frozen? ⟨b, i, none⟩ = false
theorem WsAt.cell {w : World} {b : Nat} {R : Array Value} (h : WsAt w b R) (i : Nat) (v : Value) (hv : R[i]? = some v) : w.cell? ⟨b, i, none⟩ = some v := by
  have := h.at_ i v (by simpa using hv)
  rwa [Nat.zero_add] at this
theorem WsAt.lt {w : World} {b : Nat} {R : Array Value} (h : WsAt w b R) : b < w.heap.size :=
  lt_of_cell (h.cell 0 _ (Array.getElem?_eq_getElem (by rw [h.size]; decide)))
theorem WsAt.but {S : Nat → Prop} {w w' : World} {b : Nat} {R : Array Value} (h : WsAt w b R) (k : But S w w') (hS : ¬ S b) : WsAt w' b R :=
  ⟨h.size, h.one, fun j v hv => k.some (h.at_ j v hv) hS, fun i => k.soft h.lt (h.soft i)⟩
theorem WsAt.kept {w w' : World} {b : Nat} {R : Array Value} (h : WsAt w b R) (k : Kept w w') : WsAt w' b R :=
  h.but (k.but (fun _ => False)) id
theorem WsAt.there {w : World} {b : Nat} {R : Array Value} (h : WsAt w b R) : w.there b 0 16 := fun j hj => by
  rw [Nat.zero_add]
  exact ⟨by rw [h.cell j _ (Array.getElem?_eq_getElem (by rw [h.size]; exact hj))]; rfl, h.soft j⟩
theorem WsAt.new (w : World) (R : Array Value) (t : TypeId) (hs : R.size = 16) (h1 : ∀ v ∈ R.toList, v.oneCell' = true) (n : Nat) (hn : n = w.heap.size) : WsAt (w.alloc (.cells R t)) n R := by
  subst hn
  refine ⟨hs, h1, fun j v hv => ?_, fun i => by simp⟩
  rw [Nat.zero_add, cell_new _ _ _ _ _ rfl]
  simpa using hv
/-- One cell is written. -/
theorem WsAt.set {w : World} {b : Nat} {R : Array Value} (h : WsAt w b R) (i : Nat) (v : Value) (h1 : v.oneCell' = true) : WsAt (w.setCell ⟨b, i, none⟩ v) b (R.setIfInBounds i v) := by
  refine ⟨by simp [h.size], fun u hu => ?_, fun j u hu => ?_, fun j => by rw [World.frozen?_setCell]; exact h.soft j⟩
  · rw [Array.toList_setIfInBounds] at hu
    rcases List.mem_or_eq_of_mem_set hu with hu | hu
    · exact h.one u hu
    · subst hu; exact h1
  · rw [Nat.zero_add, cell_set]
    have hu' : (R.setIfInBounds i v)[j]? = some u := by rw [Array.getElem?_toList] at hu; exact hu
    rw [Array.getElem?_setIfInBounds] at hu'
    by_cases e : i = j
    · subst e
      rw [if_pos rfl] at hu' ⊢
      split at hu'
      · rename_i hi
        cases hu'
        rw [h.cell i _ (Array.getElem?_eq_getElem hi)]
        rfl
      · cases hu'
    · rw [if_neg e] at hu' ⊢
      exact h.cell j u hu'

/-- Loads, stores and indices under names of their own. -/
def ldW (p : Value) : Sem Value := Instr.loadAt 57 p
def stW (p v : Value) : Sem Unit := Instr.storeAt 57 p v
def lvW (a : Addr) : Sem Value := loadVar 57 a
def ixW (x i : Value) : Sem Value := Instr.index 57 x i
def zvW : Sem Value := zeroValue 57
theorem ld_named (p : Value) : Instr.loadAt 57 p = ldW p := rfl
theorem st_named (p v : Value) : Instr.storeAt 57 p v = stW p v := rfl
theorem lv_named (a : Addr) : loadVar 57 a = lvW a := rfl
theorem ix_named (x i : Value) : Instr.index 57 x i = ixW x i := rfl
theorem zv_named : zeroValue 57 = zvW := rfl

theorem infoWs : (Tryd.prog.info? 57).map (fun i => (i.zero, i.size)) = some (some (.agg (List.replicate 16 (.int .u64 0)).toArray), 16) := by kernel_rfl
theorem infoWsSize : (Tryd.prog.info? 57).map (·.size) = some 16 := by
  obtain ⟨x, hx, hxx⟩ := Option.map_eq_some_iff.1 infoWs
  simp only [Prod.mk.injEq] at hxx
  rw [hx]; simp [hxx.2]
theorem infoU : (Tryd.prog.info? 23).map (fun i => (i.zero, i.size, i.bytes)) = some (some (.int .u64 0), 1, 8) := by kernel_rfl

/-- The zero value: no index. -/
theorem zeroed : ∃ Z : Array Value, Ws Z (fun _ => false) ∧ ∀ w, zvW.run Tryd.prog w = .ok (.agg Z) w := by
  obtain ⟨x, hx, hxx⟩ := Option.map_eq_some_iff.1 infoWs
  simp only [Prod.mk.injEq] at hxx
  refine ⟨(List.replicate 16 (.int .u64 0)).toArray, ⟨by simp, fun k hk => ⟨0, by rw [List.getElem?_toArray, List.getElem?_replicate, if_pos hk]; rfl, by decide, fun t _ => by simp⟩⟩, fun w => by simp [zvW, zeroValue, typeInfo, hx, hxx.1]⟩

theorem ws_var {w : World} {b : Nat} {R : Array Value} (h : WsAt w b R) : (lvW ⟨b, 0, none⟩).run Tryd.prog w = .ok (.agg R) w := by
  unfold lvW
  have := run_loadVar_mid (P := Tryd.prog) w b 0 _ R.toList _ h.at_ Tryd.underlying57 rfl (by rw [Array.length_toList, h.size]; exact infoWsSize)
  simpa using this
theorem ws_ld {w : World} {b : Nat} {R : Array Value} (h : WsAt w b R) : (ldW (.pointer (some ⟨b, 0, none⟩))).run Tryd.prog w = .ok (.agg R) w := by
  unfold ldW
  have := run_loadAt_mid (P := Tryd.prog) w b 0 _ R.toList _ h.at_ Tryd.underlying57 rfl (by rw [Array.length_toList, h.size]; exact infoWsSize)
  simpa using this
theorem ws_ix {w : World} {R : Array Value} {k : Nat} {v : Value} (_ : R.size = 16) (hk : k < 16) (h : R[k]? = some v) (_ : v.oneCell' = true) : (ixW (.agg R) (.int .i64 k)).run Tryd.prog w = .ok v w := by
  obtain ⟨i0, hi, hz0, hz1, hz2⟩ := info_parts infoU
  unfold ixW
  have hv : R.getD k undef = v := by simp [h]
  simp [Instr.index, asIntOf, run_underlying Tryd.underlying57, hk, sizeOf, typeInfo, hi, hz1, part, isAgg, run_underlying Tryd.underlying23, Result.andThen, h]
/-- A function whose one result is such a set in a variable. -/
theorem ws_result {fn : Func} {tmps : Array Value} {n b : Nat} {w : World} {R : Array Value} (hr : fn.results = #[.cell n 57]) (ht : tmps.getD n undef = .pointer (some ⟨b, 0, none⟩)) (h : WsAt w b R) :
    (results fn tmps).run Tryd.prog w = .ok (.agg R) w := by
  have hv := ws_var h
  unfold lvW at hv
  have ht' : tmps[n]?.getD undef = .pointer (some ⟨b, 0, none⟩) := by simpa using ht
  unfold results
  rw [hr]
  simp [ht', asAddr, hv]
theorem But.hereN {b : Nat} {a : World} : ∀ (vs : List Value) (o : Nat) (w : World), But (fun k => k = b) a w → But (fun k => k = b) a (w.setCells b o vs)
  | [], _, _, h => h
  | v :: r, o, _, h => But.hereN r (o + 1) _ (h.here o v)
theorem size_setCells {b : Nat} : ∀ (vs : List Value) (o : Nat) (w : World), (w.setCells b o vs).heap.size = w.heap.size
  | [], _, _ => rfl
  | v :: r, o, w => (size_setCells r (o + 1) _).trans (by simp)
theorem ws_st {w : World} {b : Nat} {R0 R : Array Value} (h : WsAt w b R0) (hs : R.size = 16) (h1 : ∀ v ∈ R.toList, v.oneCell' = true) :
    ∃ w', (stW (.pointer (some ⟨b, 0, none⟩)) (.agg R)).run Tryd.prog w = .ok () w' ∧ But (fun k => k = b) w w' ∧ WsAt w' b R ∧ w'.heap.size = w.heap.size := by
  refine ⟨w.setCells b 0 R.toList, ?_, But.hereN _ _ _ (But.refl _ _), ⟨hs, h1, World.rangeAt_setCells_same _ _ _ _ (by rw [Array.length_toList, hs]; exact h.there), fun i => by rw [World.frozen?_setCells]; exact h.soft i⟩, size_setCells _ _ _⟩
  unfold stW
  exact run_storeAt_mid (P := Tryd.prog) w b 0 _ R (by rw [hs]; exact h.there) (by rw [hs]; exact infoWsSize) (Array.all_eq_true_iff_forall_mem.2 (fun v hv => h1 v (by simpa using hv)))
end Go.Proofs.YtlkadickhhaakaaDoor
