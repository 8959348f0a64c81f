/- The program's New, and its Copy: a block of 4,103 cells, taken whole. -/
import Derived.Test.YtfndjklpjjcelaaPOps
import Derived.Deep.MidRow
import Derived.Laws.Tables
import Derived.Great.Walk
namespace Go.Proofs.Ytfndjklpjjcelaa
open Go.RowKit

def zeroCells : List Value := List.replicate 4096 (.int .u64 0) ++ [.int .i64 0, .int .i64 0, .int .i64 0, .int .u64 0, .int .u64 0, .bool false, .int .i64 0]
theorem infoContents : (Try.prog.info? 62).map (fun i => (i.zero, i.size)) = some (some (.agg zeroCells.toArray), 4103) := by kernel_rfl
theorem zero_lo (i : Nat) (h : i < 4096) : zeroCells[i]? = some (.int .u64 0) := by
  unfold zeroCells
  rw [List.getElem?_append_left (by rw [List.length_replicate]; exact h)]
  rw [List.getElem?_replicate, if_pos h]
theorem zero_hi (j : Nat) : zeroCells[4096 + j]? = ([.int .i64 0, .int .i64 0, .int .i64 0, .int .u64 0, .int .u64 0, .bool false, .int .i64 0] : List Value)[j]? := by
  unfold zeroCells
  rw [List.getElem?_append_right (by rw [List.length_replicate]; omega), List.length_replicate, Nat.add_sub_cancel_left]
theorem zero_len : zeroCells.length = 4103 := by
  unfold zeroCells
  rw [List.length_append, List.length_replicate]
  rfl

/-- The zero value of the great block: its cells by a name. -/
theorem zeroed : ∃ Z : Array Value, Z.size = 4103 ∧ (∀ i, i < 4096 → Z[i]? = some (.int .u64 0)) ∧ (∀ j, Z[4096 + j]? = ([.int .i64 0, .int .i64 0, .int .i64 0, .int .u64 0, .int .u64 0, .bool false, .int .i64 0] : List Value)[j]?) ∧
    ∀ w, (zeroValue 62).run Try.prog w = .ok (.agg Z) w := by
  obtain ⟨x, hx, hxx⟩ := Option.map_eq_some_iff.1 infoContents
  simp only [Prod.mk.injEq] at hxx
  exact ⟨zeroCells.toArray, by rw [List.size_toArray]; exact zero_len, fun i h => by rw [List.getElem?_toArray]; exact zero_lo i h, fun j => by rw [List.getElem?_toArray]; exact zero_hi j,
    fun w => by simp [zeroValue, typeInfo, hx, hxx.1]⟩

set_option maxHeartbeats 1000000 in
theorem new_no_any (n : Int) (h : n < 1 ∨ 4096 < n) (w : World) : Calls Try.prog 9 #[.int .i64 n] w fun e w' => e = .returned (.tuple #[.pointer none, .int .i64 3]) ∧ w = w' := by
  rcases h with h | h
  · go_enter Try.func9, Try.ntmps9
    go_wp2
    go_ret2
    exact ⟨rfl, rfl⟩
  · have h' : ¬ n < 1 := by omega
    go_enter Try.func9, Try.ntmps9
    go_wp2
    go_ret2
    exact ⟨rfl, rfl⟩

set_option maxRecDepth 100000 in
set_option maxHeartbeats 1000000 in
theorem new_yes_any (n : Nat) (h : 1 ≤ n) (h' : n ≤ 4096) (w : World) : Calls Try.prog 9 #[.int .i64 n] w fun e w' => e = .returned (.tuple #[.pointer (some ⟨w.heap.size + 1, 0, none⟩), .int .i64 0]) ∧ PMem w' (w.heap.size + 1) w.heap.size n St.zero ∧ w'.heap.size = w.heap.size + 2 ∧ Kept w w' := by
  obtain ⟨Z, hZ, hlo, hhi, hz⟩ := zeroed
  have HLO := Lib.hid hlo
  have HHI := Lib.hid hhi
  have HZ := Lib.hid hZ
  clear hlo hhi
  go_enter Try.func9, Try.ntmps9
  go_wp2
  go_ret2
  go_light
  refine ⟨rfl, ⟨?_, fun i hi => ⟨0, ?_, fun _ => rfl⟩, ?_, ?_, ?_, ?_, ?_, ?_, ?_, fun i => ?_, by omega, h, h'⟩, by simp, ?_⟩
  · simp
  · have := HLO.out i hi
    simpa [show ¬ 4096 = i by omega] using this
  · simp [HZ.out]
  · have := HHI.out 1
    simpa [St.zero] using this
  · have := HHI.out 2
    simpa [St.zero] using this
  · have := HHI.out 3
    simpa [St.zero] using this
  · have := HHI.out 4
    simpa [St.zero] using this
  · have := HHI.out 5
    simpa [St.zero] using this
  · have := HHI.out 6
    simpa [St.zero] using this
  · simp
  · (go_light; repeat (first | (with_reducible exact Kept.refl _) | (with_reducible assumption) | (with_reducible refine Kept.alloc ?_ _ _) | (with_reducible refine Kept.drew ?_) | (with_reducible refine Kept.drewN ?_ _) | ((with_reducible refine Kept.setCell ?_ ?_ _); rotate_left; focus (first | (simp; done) | (simp; omega))) | refine Kept.trans ?_ (by assumption)))

theorem But.hereN {b : Nat} {a : World} : ∀ (vs : List Value) (o : Nat) (w : World), But (fun k => k = b) a w → But (fun k => k = b) a (w.setCells b o vs)
  | [], _, _, h => h
  | v :: r, o, w, h => But.hereN r (o + 1) _ (h.here o v)

theorem size_setCells {b : Nat} : ∀ (vs : List Value) (o : Nat) (w : World), (w.setCells b o vs).heap.size = w.heap.size
  | [], _, _ => rfl
  | v :: r, o, w => (size_setCells r (o + 1) _).trans (by simp)

theorem infoSize : (Try.prog.info? 62).map (·.size) = some 4103 := by
  obtain ⟨x, hx, hxx⟩ := Option.map_eq_some_iff.1 infoContents
  simp only [Prod.mk.injEq] at hxx
  rw [hx]; simp [hxx.2]

/-- The cells of a memory, as one list. -/
theorem PMem.range {w : World} {M B n : Nat} {s : St} (hm : PMem w M B n s) : ∃ cs : List Value, cs.length = 4103 ∧ w.rangeAt B 0 cs ∧ (∀ v ∈ cs, v.oneCell' = true) ∧ ∀ i, i < 4103 → cs[i]? = w.cell? ⟨B, i, none⟩ := by
  have h : ∀ i, i < 4103 → ∃ v, w.cell? ⟨B, i, none⟩ = some v ∧ v.oneCell' = true := by
    intro i hi
    by_cases h : i < 4096
    · obtain ⟨x, hx, _⟩ := hm.words i h
      exact ⟨_, hx, rfl⟩
    · have hc : i = 4096 ∨ i = 4097 ∨ i = 4098 ∨ i = 4099 ∨ i = 4100 ∨ i = 4101 ∨ i = 4102 := by omega
      rcases hc with rfl | rfl | rfl | rfl | rfl | rfl | rfl
      · exact ⟨_, hm.size, rfl⟩
      · exact ⟨_, hm.c0, rfl⟩
      · exact ⟨_, hm.c1, rfl⟩
      · exact ⟨_, hm.c2, rfl⟩
      · exact ⟨_, hm.c3, rfl⟩
      · exact ⟨_, hm.c4, rfl⟩
      · exact ⟨_, hm.cnt, rfl⟩
  refine ⟨(List.range 4103).map (fun i => (w.cell? ⟨B, i, none⟩).getD undef), by rw [List.length_map, List.length_range], fun j v hv => ?_, fun v hv => ?_, fun i hi => ?_⟩
  · rw [List.getElem?_map] at hv
    by_cases hj : j < 4103
    · rw [List.getElem?_range hj] at hv
      obtain ⟨u, hu, _⟩ := h j hj
      simp only [Option.map_some, hu, Option.getD_some, Option.some.injEq] at hv
      rw [Nat.zero_add, hu, hv]
    · rw [List.getElem?_eq_none (by rw [List.length_range]; omega)] at hv
      exact absurd hv (by simp)
  · obtain ⟨i, hi, rfl⟩ := List.mem_map.1 hv
    obtain ⟨u, hu, h1⟩ := h i (List.mem_range.1 hi)
    rw [hu]; exact h1
  · obtain ⟨u, hu, _⟩ := h i hi
    rw [List.getElem?_map, List.getElem?_range hi, Option.map_some, hu, Option.getD_some]

set_option maxRecDepth 100000 in
set_option maxHeartbeats 1000000 in
theorem copy_any (M B n : Nat) (s : St) (w : World) (hm : PMem w M B n s) : Calls Try.prog 25 #[.pointer (some ⟨M, 0, none⟩)] w
    fun e w' => e = .returned (.pointer (some ⟨w.heap.size + 1, 0, none⟩)) ∧ PMem w' (w.heap.size + 1) w.heap.size n s ∧ w'.heap.size = w.heap.size + 2 ∧ Kept w w' := by
  have hp := hm.p
  have hB := hm.lt.2
  obtain ⟨cs, hl, hr, h1, hcs⟩ := hm.range
  obtain ⟨Z, hZ, _, _, hz⟩ := zeroed
  have hld : (Instr.loadAt 62 (.pointer (some ⟨B, 0, none⟩))).run Try.prog w = .ok (.agg cs.toArray) w :=
    run_loadAt_mid w B 0 _ cs _ hr Try.underlying62 rfl (by rw [hl]; exact infoSize)
  have ht : (w.alloc (.cells Z 62)).there w.heap.size 0 cs.toArray.size := by
    intro j hj
    rw [List.size_toArray, hl] at hj
    rw [Nat.zero_add]
    refine ⟨?_, by simp⟩
    rw [cell_new _ _ _ _ _ rfl]
    simp [hZ, hj]
  have hst : (Instr.storeAt 62 (.pointer (some ⟨w.heap.size, 0, none⟩)) (.agg cs.toArray)).run Try.prog (w.alloc (.cells Z 62)) = .ok () ((w.alloc (.cells Z 62)).setCells w.heap.size 0 cs) :=
    run_storeAt_mid _ _ _ _ _ ht (by rw [List.size_toArray, hl]; exact infoSize) (all_oneCell_toArray h1)
  have HR := Lib.hid hr
  have HT := Lib.hid ht
  clear ht hld
  have HST := Lib.hid hst
  clear hst
  have HL := Lib.hid hl
  have HM := Lib.hid hm
  have HC := Lib.hid hcs
  have H1 := Lib.hid h1
  have HZ := Lib.hid hZ
  clear hr hl hm hcs h1 hZ
  go_enter Try.func25, Try.ntmps25
  go_wp2_with fail
  refine (valid_yes M _ _ hp).mono ?_
  rintro e w' ⟨rfl, rfl⟩
  go_upto_region 3 with fail
  apply wp_region_lit
  iterate 15 go_step
  refine wpList_load_mid rfl 62 _ rfl B 0 rfl cs _ HR.out Try.underlying62 rfl (by rw [HL.out]; exact infoSize) ?_
  iterate 3 go_step
  refine wpList_store_mid rfl 62 _ _ rfl w.heap.size 0 cs.toArray rfl rfl HT.out (by rw [List.size_toArray, HL.out]; exact infoSize) (all_oneCell_toArray H1.out) ?_
  have HS : Hid (((w.alloc (.cells Z 62)).setCells w.heap.size 0 cs).heap.size = w.heap.size + 1) := Lib.hid (by rw [size_setCells]; simp)
  obtain ⟨w2, hw2⟩ : ∃ w2, w2 = (w.alloc (.cells Z 62)).setCells w.heap.size 0 cs := ⟨_, rfl⟩
  have e2 : (w.alloc (.cells Z 62)).setCells w.heap.size 0 cs.toArray.toList = w2 := by rw [hw2]
  rw [e2]
  have z2 : w2.heap.size = w.heap.size + 1 := by rw [hw2]; exact HS.out
  have r2 : w2.rangeAt w.heap.size 0 cs := by rw [hw2]; exact World.rangeAt_setCells_same _ _ _ _ (by simpa using HT.out)
  have k2 : Kept w w2 := by
    rw [hw2]
    exact (But.hereN cs 0 _ ((((Kept.refl w).alloc _ _).but (fun k => k = w.heap.size)))).kept (fun k hk h => by omega)
  have f2 : ∀ i, w2.frozen? ⟨w.heap.size, i, none⟩ = false := fun i => by
    rw [hw2, (But.hereN cs 0 _ (But.refl (fun k => k = w.heap.size) (w.alloc (.cells Z 62)))).froze]
    simp
  have q2 : PMem w2 (w.heap.size + 1) w.heap.size n s ∨ True := Or.inr trivial
  have R2 := Lib.hid r2
  have K2 := Lib.hid k2
  have F2 := Lib.hid f2
  have Z2 := Lib.hid z2
  clear hw2 e2 r2 k2 f2 z2 q2 HS HST HT HZ hz
  go_wp2
  go_ret
  go_light
  rw [Z2.out]
  have hc : ∀ i v, i < 4103 → w.cell? ⟨B, i, none⟩ = some v → (w2.alloc (.cells #[.pointer (some ⟨w.heap.size, 0, none⟩)] 51)).cell? ⟨w.heap.size, i, none⟩ = some v := fun i v hi hv => by
    have h := R2.out i v ((HC.out i hi).trans hv)
    rw [Nat.zero_add] at h
    exact ((Kept.refl w2).alloc _ _).some h
  have hm := HM.out
  refine ⟨rfl, ⟨?_, fun i hi => ?_, hc _ _ (by decide) hm.size, hc _ _ (by decide) hm.c0, hc _ _ (by decide) hm.c1, hc _ _ (by decide) hm.c2, hc _ _ (by decide) hm.c3, hc _ _ (by decide) hm.c4, hc _ _ (by decide) hm.cnt, fun i => ?_, by omega, hm.hn⟩, ?_, ?_⟩
  · rw [cell_new _ _ _ _ _ Z2.out.symm]; rfl
  · obtain ⟨x, h1, h2⟩ := hm.words i hi
    exact ⟨x, hc i _ (by omega) h1, h2⟩
  · rw [((Kept.refl w2).alloc _ _).froze]; exact F2.out i
  · simp [Z2.out]
  · exact K2.out.alloc _ _
end Go.Proofs.Ytfndjklpjjcelaa
