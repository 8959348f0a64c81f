/- A ring: 1,027 cells, as a value and in memory. Loads and stores of all of it under names that the walk leaves alone. -/
import Derived.Test.YtpmalbdnjpbijaaFiMem
import Derived.Deep.MidRow
import Derived.Laws.Tables
import Derived.Laws.IdiomCopy
namespace Go.Proofs.Ytpmalbdnjpbijaa
open Go.RowKit

/-- A ring as a value. -/
structure Rg (R : Array Value) (room : Nat) (q : List Int) : Prop where
  size : R.size = 1027
  one : ∀ v ∈ R.toList, v.oneCell' = true
  room_ : R[1024]? = some (.int .i64 room)
  first : ∃ f : Nat, f < 1024 ∧ R[1025]? = some (.int .i64 f) ∧ ∀ i x, q[i]? = some x → R[(f + i) % 1024]? = some (.int .u64 x)
  many : R[1026]? = some (.int .i64 q.length)
  fits : q.length ≤ room
  most : room ≤ 1024

/-- Its cells in memory. -/
structure BigAt (w : World) (b : Nat) (R : Array Value) : Prop where
  size : R.size = 1027
  one : ∀ v ∈ R.toList, v.oneCell' = true
  at_ : w.rangeAt b 0 R.toList
  soft : ∀ i, w.frozen? ⟨b, i, none⟩ = false
theorem BigAt.cell {w : World} {b : Nat} {R : Array Value} (h : BigAt w b R) (i : Nat) (v : Value) (hv : R[i]? = some v) : w.cell? ⟨b, i, none⟩ = some v := by
  have := h.at_ i v (by simpa using hv)
  rwa [Nat.zero_add] at this
theorem BigAt.lt {w : World} {b : Nat} {R : Array Value} (h : BigAt w b R) : b < w.heap.size :=
  lt_of_cell (h.cell 0 _ (Array.getElem?_eq_getElem (by rw [h.size]; decide)))
theorem BigAt.but {S : Nat → Prop} {w w' : World} {b : Nat} {R : Array Value} (h : BigAt w b R) (k : But S w w') (hS : ¬ S b) : BigAt w' b R :=
  ⟨h.size, h.one, fun j v hv => k.some (h.at_ j v hv) hS, fun i => k.soft h.lt (h.soft i)⟩
theorem BigAt.kept {w w' : World} {b : Nat} {R : Array Value} (h : BigAt w b R) (k : Kept w w') : BigAt w' b R :=
  h.but (k.but (fun _ => False)) id
theorem BigAt.there {w : World} {b : Nat} {R : Array Value} (h : BigAt w b R) : w.there b 0 1027 := fun j hj => by
  rw [Nat.zero_add]
  exact ⟨by rw [h.cell j _ (Array.getElem?_eq_getElem (by rw [h.size]; exact hj))]; rfl, h.soft j⟩
theorem BigAt.new (w : World) (R : Array Value) (t : TypeId) (hs : R.size = 1027) (h1 : ∀ v ∈ R.toList, v.oneCell' = true) (n : Nat) (hn : n = w.heap.size) : BigAt (w.alloc (.cells R t)) n R := by
  subst hn
  refine ⟨hs, h1, fun j v hv => ?_, fun i => by simp⟩
  rw [Nat.zero_add, cell_new _ _ _ _ _ rfl]
  simpa using hv

/-- One cell is written. -/
theorem BigAt.set {w : World} {b : Nat} {R : Array Value} (h : BigAt w b R) (i : Nat) (v : Value) (h1 : v.oneCell' = true) : BigAt (w.setCell ⟨b, i, none⟩ v) b (R.setIfInBounds i v) := by
  refine ⟨by simp [h.size], fun u hu => ?_, fun j u hu => ?_, fun j => by rw [World.frozen?_setCell]; exact h.soft j⟩
  · rw [Array.toList_setIfInBounds] at hu
    rcases List.mem_or_eq_of_mem_set hu with hu | hu
    · exact h.one u hu
    · subst hu; exact h1
  · rw [Nat.zero_add, cell_set]
    have hu' : (R.setIfInBounds i v)[j]? = some u := by rw [Array.getElem?_toList] at hu; exact hu
    rw [Array.getElem?_setIfInBounds] at hu'
    by_cases e : i = j
    · subst e
      rw [if_pos rfl] at hu' ⊢
      split at hu'
      · rename_i hi
        cases hu'
        rw [h.cell i _ (Array.getElem?_eq_getElem hi)]
        rfl
      · cases hu'
    · rw [if_neg e] at hu' ⊢
      exact h.cell j u hu'

/-- Loads, stores and copies under names of their own. -/
def ldR (p : Value) : Sem Value := Instr.loadAt 55 p
def stR (p v : Value) : Sem Unit := Instr.storeAt 55 p v
def cpR (ts : Array TypeId) (ty : TypeId) (args : Array Value) : Sem Value := Builtin.copy_ ts ty args
def bdR (parts : Array (Nat × Value)) : Sem Value := Instr.build 55 parts
theorem bd_named (parts : Array (Nat × Value)) : Instr.build 55 parts = bdR parts := rfl
def lvR (a : Addr) : Sem Value := loadVar 55 a
theorem lv_named (a : Addr) : loadVar 55 a = lvR a := rfl
theorem ld_named (p : Value) : Instr.loadAt 55 p = ldR p := rfl
theorem st_named (p v : Value) : Instr.storeAt 55 p v = stR p v := rfl
theorem cp_named (ts : Array TypeId) (ty : TypeId) (args : Array Value) : Builtin.copy_ ts ty args = cpR ts ty args := rfl

def zeroCells : List Value := List.replicate 1024 (.int .u64 0) ++ [.int .i64 0, .int .i64 0, .int .i64 0]
theorem infoRing : (Try.prog.info? 55).map (fun i => (i.zero, i.size)) = some (some (.agg zeroCells.toArray), 1027) := by kernel_rfl
theorem zero_lo (i : Nat) (h : i < 1024) : zeroCells[i]? = some (.int .u64 0) := by
  unfold zeroCells
  rw [List.getElem?_append_left (by rw [List.length_replicate]; exact h)]
  rw [List.getElem?_replicate, if_pos h]
theorem zero_hi (j : Nat) : zeroCells[1024 + j]? = ([.int .i64 0, .int .i64 0, .int .i64 0] : List Value)[j]? := by
  unfold zeroCells
  rw [List.getElem?_append_right (by rw [List.length_replicate]; omega), List.length_replicate, Nat.add_sub_cancel_left]
theorem zero_len : zeroCells.length = 1027 := by
  unfold zeroCells
  rw [List.length_append, List.length_replicate]
  rfl
theorem zero_one : ∀ v ∈ zeroCells, v.oneCell' = true := by
  intro v hv
  unfold zeroCells at hv
  rcases List.mem_append.1 hv with h | h
  · rw [(List.mem_replicate.1 h).2]; rfl
  · simp at h; subst h; rfl
theorem infoSize : (Try.prog.info? 55).map (·.size) = some 1027 := by
  obtain ⟨x, hx, hxx⟩ := Option.map_eq_some_iff.1 infoRing
  simp only [Prod.mk.injEq] at hxx
  rw [hx]; simp [hxx.2]

/-- The zero value: its cells by a name. -/
theorem zeroed : ∃ Z : Array Value, Z.size = 1027 ∧ (∀ v ∈ Z.toList, v.oneCell' = true) ∧ (∀ i, i < 1024 → Z[i]? = some (.int .u64 0)) ∧ (∀ j, Z[1024 + j]? = ([.int .i64 0, .int .i64 0, .int .i64 0] : List Value)[j]?) ∧
    ∀ w, (zeroValue 55).run Try.prog w = .ok (.agg Z) w := by
  obtain ⟨x, hx, hxx⟩ := Option.map_eq_some_iff.1 infoRing
  simp only [Prod.mk.injEq] at hxx
  exact ⟨zeroCells.toArray, by rw [List.size_toArray]; exact zero_len, fun v hv => zero_one v (by simpa using hv), fun i h => by rw [List.getElem?_toArray]; exact zero_lo i h, fun j => by rw [List.getElem?_toArray]; exact zero_hi j,
    fun w => by simp [zeroValue, typeInfo, hx, hxx.1]⟩

theorem big_var {w : World} {b : Nat} {R : Array Value} (h : BigAt w b R) : (lvR ⟨b, 0, none⟩).run Try.prog w = .ok (.agg R) w := by
  unfold lvR
  have := run_loadVar_mid (P := Try.prog) w b 0 _ R.toList _ h.at_ Try.underlying55 rfl (by rw [Array.length_toList, h.size]; exact infoSize)
  simpa using this
theorem big_ld {w : World} {b : Nat} {R : Array Value} (h : BigAt w b R) : (ldR (.pointer (some ⟨b, 0, none⟩))).run Try.prog w = .ok (.agg R) w := by
  unfold ldR
  have := run_loadAt_mid (P := Try.prog) w b 0 _ R.toList _ h.at_ Try.underlying55 rfl (by rw [Array.length_toList, h.size]; exact infoSize)
  simpa using this
/-- A function whose one result is a ring in a variable. -/
theorem ring_result {fn : Func} {tmps : Array Value} {n b : Nat} {w : World} {R : Array Value} (hr : fn.results = #[.cell n 55]) (ht : tmps.getD n undef = .pointer (some ⟨b, 0, none⟩)) (h : BigAt w b R) :
    (results fn tmps).run Try.prog w = .ok (.agg R) w := by
  have hv := big_var h
  unfold lvR at hv
  have ht' : tmps[n]?.getD undef = .pointer (some ⟨b, 0, none⟩) := by simpa using ht
  unfold results
  rw [hr]
  simp [ht', asAddr, hv]
theorem But.hereN {b : Nat} {a : World} : ∀ (vs : List Value) (o : Nat) (w : World), But (fun k => k = b) a w → But (fun k => k = b) a (w.setCells b o vs)
  | [], _, _, h => h
  | v :: r, o, _, h => But.hereN r (o + 1) _ (h.here o v)
theorem size_setCells {b : Nat} : ∀ (vs : List Value) (o : Nat) (w : World), (w.setCells b o vs).heap.size = w.heap.size
  | [], _, _ => rfl
  | v :: r, o, w => (size_setCells r (o + 1) _).trans (by simp)
theorem big_st {w : World} {b : Nat} {R0 R : Array Value} (h : BigAt w b R0) (hs : R.size = 1027) (h1 : ∀ v ∈ R.toList, v.oneCell' = true) :
    ∃ w', (stR (.pointer (some ⟨b, 0, none⟩)) (.agg R)).run Try.prog w = .ok () w' ∧ But (fun k => k = b) w w' ∧ BigAt w' b R ∧ w'.heap.size = w.heap.size := by
  refine ⟨w.setCells b 0 R.toList, ?_, But.hereN _ _ _ (But.refl _ _), ⟨hs, h1, World.rangeAt_setCells_same _ _ _ _ (by rw [Array.length_toList, hs]; exact h.there), fun i => by rw [World.frozen?_setCells]; exact h.soft i⟩, size_setCells _ _ _⟩
  unfold stR
  exact run_storeAt_mid (P := Try.prog) w b 0 _ R (by rw [hs]; exact h.there) (by rw [hs]; exact infoSize) (Array.all_eq_true_iff_forall_mem.2 (fun v hv => h1 v (by simpa using hv)))

/-- The words of a list, copied into it. -/
theorem big_cp {w : World} {b : Nat} {R : Array Value} (h : BigAt w b R) (ty : TypeId) {v : Value} {q : List Int} (hl : Lay w v q.length (words q)) (hq : q.length ≤ 1024) :
    ∃ (w' : World) (R' : Array Value), (cpR #[22, 22] ty #[.slice (some ⟨b, 0, none⟩) 1024 1024, v]).run Try.prog w = .ok (goInt q.length) w' ∧ But (fun k => k = b) w w' ∧ BigAt w' b R' ∧
      (∀ (i : Nat) (x : Int), q[i]? = some x → R'[i]? = some (Value.int .u64 x)) ∧ (∀ i : Nat, 1024 ≤ i → R'[i]? = R[i]?) := by
  have hsz : (Try.prog.info? 23).map (·.size) = some 1 := by
    obtain ⟨i0, hi, _, hz1, _⟩ := info_parts infoW
    rw [hi]; simp [hz1]
  unfold cpR
  by_cases h0 : q.length = 0
  · obtain rfl : q = [] := List.eq_nil_of_length_eq_zero h0
    obtain ⟨a, c, rfl, _⟩ := hl.form
    exact ⟨w, R, run_copy_none (P := Try.prog) w _ _ ty 23 (some ⟨b, 0, none⟩) a 1024 1024 0 c Try.underlying22 hsz (by simp), But.refl _ _, h, by simp, fun _ _ => rfl⟩
  · obtain ⟨g, o, c, rfl, _, _, hc⟩ := hl.at (by omega)
    have hlen : (words q).length = q.length := by simp [words]
    have hth := h.there
    refine ⟨w.setCells b 0 (words q), ((words q) ++ R.toList.drop q.length).toArray, ?_, But.hereN _ _ _ (But.refl _ _), ⟨by simp [hlen, h.size]; omega, fun v hv => ?_, fun j v hv => ?_, fun i => by rw [World.frozen?_setCells]; exact h.soft i⟩, fun i x hx => ?_, fun i hi => ?_⟩
    · have := run_copy_cells (P := Try.prog) w 22 22 ty 23 b 0 1024 1024 ⟨g, o, none⟩ q.length c (words q) Try.underlying22 hsz (by rw [hlen]; exact (Nat.min_eq_left hq).symm) (fun j v hv => by rw [add_none]; exact hc j v hv)
        (fun j hj => (hth j (by omega)).1) (fun j hj => (hth j (by omega)).2) (words_one q)
      rw [this, hlen]
    · simp only [] at hv
      rcases List.mem_append.1 hv with h' | h'
      · exact words_one q v h'
      · exact h.one v (List.mem_of_mem_drop h')
    · simp only [] at hv
      rw [Nat.zero_add]
      by_cases hj : j < q.length
      · rw [List.getElem?_append_left (by omega)] at hv
        have := World.cell?_setCells_in b (words q) 0 w (fun j hj => (hth j (by omega)).1) j (by omega)
        rw [Nat.zero_add] at this
        rw [this, ← hv, List.getElem?_eq_getElem (by omega)]
      · rw [List.getElem?_append_right (by omega), hlen, List.getElem?_drop, show q.length + (j - q.length) = j by omega] at hv
        rw [World.cell?_setCells_out b (words q) 0 w ⟨b, j, none⟩ (fun _ _ => Or.inr (by show 0 + (words q).length ≤ j; omega))]
        exact h.cell j v (by simpa using hv)
    · rw [List.getElem?_toArray, List.getElem?_append_left (by rw [hlen]; exact (List.getElem?_eq_some_iff.1 hx).1)]
      exact words_get q i x hx
    · rw [List.getElem?_toArray, List.getElem?_append_right (by omega), hlen, List.getElem?_drop, show q.length + (i - q.length) = i by omega]
      simp

theorem ringFields : ∃ fs : Array Field, Try.prog.underlying 55 = some (.struct fs) ∧ fs.toList.mapM (fun f => (Try.prog.info? f.type).map fun i => (f.offset, i.size)) = some [(0, 1024), (1024, 1), (1025, 1), (1026, 1)] :=
  ⟨_, Try.underlying55, by kernel_rfl⟩
/-- The literal with a room and a number. -/
theorem build_ring (room : Int) (n : Int) : ∃ R : Array Value, R.size = 1027 ∧ (∀ v ∈ R.toList, v.oneCell' = true) ∧ R[1024]? = some (.int .i64 room) ∧ R[1025]? = some (.int .i64 0) ∧ R[1026]? = some (.int .i64 n) ∧
    ∀ w, (bdR #[(1, .int .i64 room), (3, .int .i64 n)]).run Try.prog w = .ok (.agg R) w := by
  obtain ⟨fs, hu, hp⟩ := ringFields
  obtain ⟨x, hx, hxx⟩ := Option.map_eq_some_iff.1 infoRing
  simp only [Prod.mk.injEq] at hxx
  have hlen : zeroCells.toArray.size = 1027 := by rw [List.size_toArray]; exact zero_len
  obtain ⟨Z, hZ⟩ : ∃ Z, Z = zeroCells.toArray := ⟨_, rfl⟩
  have hhi : ∀ j, Z[1024 + j]? = ([.int .i64 0, .int .i64 0, .int .i64 0] : List Value)[j]? := fun j => by rw [hZ, List.getElem?_toArray]; exact zero_hi j
  have h1 : ∀ v ∈ Z.toList, v.oneCell' = true := fun v hv => zero_one v (by rw [hZ] at hv; simpa using hv)
  rw [← hZ] at hlen hxx
  refine ⟨(Z.setIfInBounds 1024 (.int .i64 room)).setIfInBounds 1026 (.int .i64 n), by simp [hlen], fun v hv => ?_, ?_, ?_, ?_, fun w => ?_⟩
  · rw [Array.toList_setIfInBounds, Array.toList_setIfInBounds] at hv
    rcases List.mem_or_eq_of_mem_set hv with h | h
    · rcases List.mem_or_eq_of_mem_set h with h | h
      · exact h1 v h
      · subst h; rfl
    · subst h; rfl
  · simp [hlen]
  · have := hhi 1
    simpa [Array.getElem?_setIfInBounds, hlen] using this
  · simp [hlen]
  · refine run_build w _ _ _ ?_
    simp only [Program.built, hx, hu, hxx.1, hp]
    simp [Instr.fill, Value.cells, hlen]
end Go.Proofs.Ytpmalbdnjpbijaa
