/- The meaning of a word: Get of each kind. -/
import Derived.Test.YtbonnfofoepjcaaGreatG05
import Derived.Test.YtbonnfofoepjcaaGreatG03
set_option linter.unusedVariables false
set_option linter.unusedSimpArgs false

namespace Go.Proofs.YtbonnfofoepjcaaGreat.Wo
set_option maxRecDepth 20000
open Go.RowKit

set_option maxHeartbeats 800000 in
theorem meaning_ref_yes (n : Int) (i g : Int) (m : Bool) (w : World) (HP : ∀ w, Hid (Calls Tryz.prog 217 #[.agg #[.int .i64 i, .int .i64 g, .bool m]] w fun e w' => e = .returned (.tuple #[.int .u64 n, .int .i64 0]) ∧ Kept w w')) : Calls Tryz.prog 215 #[.int .u64 n, .agg #[.int .i64 i, .int .i64 g, .bool m], .func (.func 217) #[] #[]] w fun e w' => e = .returned (.tuple #[.agg #[.int .i64 i, .int .i64 g, .bool m], .int .i64 0]) ∧ Kept w w' := by
  go_enter Tryz.func215, Tryz.ntmps215
  go_wp2_with fail
  refine (HP _).out.mono ?_
  rintro e w1 ⟨rfl, hk1⟩
  have hz := hk1.size
  simp at hz
  have s0 : w1.cell? ⟨w.heap.size, 0, none⟩ = some (.int .i64 i) := hk1.some (by simp [*])
  have s1 : w1.cell? ⟨w.heap.size, 1, none⟩ = some (.int .i64 g) := hk1.some (by simp [*])
  have s2 : w1.cell? ⟨w.heap.size, 2, none⟩ = some (.bool m) := hk1.some (by simp [*])
  have r0 : w1.cell? ⟨w.heap.size + 1, 0, none⟩ = some (.int .i64 0) := hk1.some (by simp [*])
  have r1 : w1.cell? ⟨w.heap.size + 1, 1, none⟩ = some (.int .i64 0) := hk1.some (by simp [*])
  have r2 : w1.cell? ⟨w.heap.size + 1, 2, none⟩ = some (.bool false) := hk1.some (by simp [*])
  have f1 : ∀ o, w1.frozen? ⟨w.heap.size + 1, o, none⟩ = false := fun o => by rw [hk1.froze]; simp
  have K1 : Kept w w1 := ((((Kept.refl w).alloc _ _).alloc _ _).trans hk1)
  have hlt : w.heap.size + 1 < w1.heap.size := by omega
  clear hk1 hz
  go_wp2
  refine bodyPost_ret (v := .tuple #[.agg #[.int .i64 i, .int .i64 g, .bool m], .int .i64 0]) ?_ rfl ⟨rfl, ?_⟩
  · simp [results, Tryz.results215, go_sem, r0, r1, r2]
  · refine (Kept.setCell (Kept.setCell (Kept.setCell K1 ?_ _) ?_ _) ?_ _) <;> simp

set_option maxHeartbeats 800000 in
theorem meaning_ref_err (n a b : Int) (i g : Int) (m : Bool) (w : World) (HP : ∀ w, Hid (Calls Tryz.prog 217 #[.agg #[.int .i64 i, .int .i64 g, .bool m]] w fun e w' => e = .returned (.tuple #[.int .u64 a, .int .i64 b]) ∧ Kept w w')) (hb : b ≠ 0) : Calls Tryz.prog 215 #[.int .u64 n, .agg #[.int .i64 i, .int .i64 g, .bool m], .func (.func 217) #[] #[]] w fun e w' => e = .returned (.tuple #[.agg #[.int .i64 0, .int .i64 0, .bool false], .int .i64 5]) ∧ Kept w w' := by
  have b0 : (b != 0) = true := by simp [hb]
  clear hb
  go_enter Tryz.func215, Tryz.ntmps215
  go_wp2_with fail
  refine (HP _).out.mono ?_
  rintro e w1 ⟨rfl, hk1⟩
  have hz := hk1.size
  simp at hz
  have s0 : w1.cell? ⟨w.heap.size, 0, none⟩ = some (.int .i64 i) := hk1.some (by simp [*])
  have s1 : w1.cell? ⟨w.heap.size, 1, none⟩ = some (.int .i64 g) := hk1.some (by simp [*])
  have s2 : w1.cell? ⟨w.heap.size, 2, none⟩ = some (.bool m) := hk1.some (by simp [*])
  have r0 : w1.cell? ⟨w.heap.size + 1, 0, none⟩ = some (.int .i64 0) := hk1.some (by simp [*])
  have r1 : w1.cell? ⟨w.heap.size + 1, 1, none⟩ = some (.int .i64 0) := hk1.some (by simp [*])
  have r2 : w1.cell? ⟨w.heap.size + 1, 2, none⟩ = some (.bool false) := hk1.some (by simp [*])
  have f1 : ∀ o, w1.frozen? ⟨w.heap.size + 1, o, none⟩ = false := fun o => by rw [hk1.froze]; simp
  have K1 : Kept w w1 := ((((Kept.refl w).alloc _ _).alloc _ _).trans hk1)
  have hlt : w.heap.size + 1 < w1.heap.size := by omega
  clear hk1 hz
  go_wp2
  refine bodyPost_ret (v := .tuple #[.agg #[.int .i64 0, .int .i64 0, .bool false], .int .i64 5]) ?_ rfl ⟨rfl, ?_⟩
  · simp [results, Tryz.results215, go_sem, r0, r1, r2, hlt]
  · refine (Kept.alloc (Kept.setCell (Kept.setCell (Kept.setCell K1 ?_ _) ?_ _) ?_ _) _ _) <;> simp

set_option maxHeartbeats 800000 in
theorem meaning_ref_word (n a : Int) (i g : Int) (m : Bool) (w : World) (HP : ∀ w, Hid (Calls Tryz.prog 217 #[.agg #[.int .i64 i, .int .i64 g, .bool m]] w fun e w' => e = .returned (.tuple #[.int .u64 a, .int .i64 0]) ∧ Kept w w')) (ha : a ≠ n) : Calls Tryz.prog 215 #[.int .u64 n, .agg #[.int .i64 i, .int .i64 g, .bool m], .func (.func 217) #[] #[]] w fun e w' => e = .returned (.tuple #[.agg #[.int .i64 0, .int .i64 0, .bool false], .int .i64 5]) ∧ Kept w w' := by
  have b0 : (a != n) = true := by simp [ha]
  clear ha
  go_enter Tryz.func215, Tryz.ntmps215
  go_wp2_with fail
  refine (HP _).out.mono ?_
  rintro e w1 ⟨rfl, hk1⟩
  have hz := hk1.size
  simp at hz
  have s0 : w1.cell? ⟨w.heap.size, 0, none⟩ = some (.int .i64 i) := hk1.some (by simp [*])
  have s1 : w1.cell? ⟨w.heap.size, 1, none⟩ = some (.int .i64 g) := hk1.some (by simp [*])
  have s2 : w1.cell? ⟨w.heap.size, 2, none⟩ = some (.bool m) := hk1.some (by simp [*])
  have r0 : w1.cell? ⟨w.heap.size + 1, 0, none⟩ = some (.int .i64 0) := hk1.some (by simp [*])
  have r1 : w1.cell? ⟨w.heap.size + 1, 1, none⟩ = some (.int .i64 0) := hk1.some (by simp [*])
  have r2 : w1.cell? ⟨w.heap.size + 1, 2, none⟩ = some (.bool false) := hk1.some (by simp [*])
  have f1 : ∀ o, w1.frozen? ⟨w.heap.size + 1, o, none⟩ = false := fun o => by rw [hk1.froze]; simp
  have K1 : Kept w w1 := ((((Kept.refl w).alloc _ _).alloc _ _).trans hk1)
  have hlt : w.heap.size + 1 < w1.heap.size := by omega
  clear hk1 hz
  go_wp2
  refine bodyPost_ret (v := .tuple #[.agg #[.int .i64 0, .int .i64 0, .bool false], .int .i64 5]) ?_ rfl ⟨rfl, ?_⟩
  · simp [results, Tryz.results215, go_sem, r0, r1, r2, hlt]
  · refine (Kept.alloc (Kept.setCell (Kept.setCell (Kept.setCell K1 ?_ _) ?_ _) ?_ _) _ _) <;> simp

set_option maxHeartbeats 800000 in
theorem meaning_top_yes (n : Int) (i t : Int) (w : World) (HP : ∀ w, Hid (Calls Tryz.prog 159 #[.agg #[.int .i64 i, .int .i64 t]] w fun e w' => e = .returned (.tuple #[.int .u64 n, .int .i64 0]) ∧ Kept w w')) : Calls Tryz.prog 157 #[.int .u64 n, .agg #[.int .i64 i, .int .i64 t], .func (.func 159) #[] #[]] w fun e w' => e = .returned (.tuple #[.agg #[.int .i64 i, .int .i64 t], .int .i64 0]) ∧ Kept w w' := by
  go_enter Tryz.func157, Tryz.ntmps157
  go_wp2_with fail
  refine (HP _).out.mono ?_
  rintro e w1 ⟨rfl, hk1⟩
  have hz := hk1.size
  simp at hz
  have s0 : w1.cell? ⟨w.heap.size, 0, none⟩ = some (.int .i64 i) := hk1.some (by simp [*])
  have s1 : w1.cell? ⟨w.heap.size, 1, none⟩ = some (.int .i64 t) := hk1.some (by simp [*])
  have r0 : w1.cell? ⟨w.heap.size + 1, 0, none⟩ = some (.int .i64 0) := hk1.some (by simp [*])
  have r1 : w1.cell? ⟨w.heap.size + 1, 1, none⟩ = some (.int .i64 0) := hk1.some (by simp [*])
  have f1 : ∀ o, w1.frozen? ⟨w.heap.size + 1, o, none⟩ = false := fun o => by rw [hk1.froze]; simp
  have K1 : Kept w w1 := ((((Kept.refl w).alloc _ _).alloc _ _).trans hk1)
  have hlt : w.heap.size + 1 < w1.heap.size := by omega
  clear hk1 hz
  go_wp2
  refine bodyPost_ret (v := .tuple #[.agg #[.int .i64 i, .int .i64 t], .int .i64 0]) ?_ rfl ⟨rfl, ?_⟩
  · simp [results, Tryz.results157, go_sem, r0, r1]
  · refine (Kept.setCell (Kept.setCell K1 ?_ _) ?_ _) <;> simp

end Go.Proofs.YtbonnfofoepjcaaGreat.Wo

namespace Go.Proofs.YtbonnfofoepjcaaGreat.Wo
set_option maxRecDepth 20000
open Go.RowKit

set_option maxHeartbeats 800000 in
theorem get_ref_yes (n : Int) (w : World) (h0 : 0 ≤ n) (h1 : n < 18446744073709551616) (hg : goodRef n = true) : Calls Tryz.prog 156 #[.int .u64 n] w fun e w' => e = .returned (.tuple #[.agg #[.int .i64 (rIdx n), .int .i64 (rGen n), .bool (markOf n)], .int .i64 0]) ∧ Kept w w' := by
  have HP : ∀ w, Hid (Calls Tryz.prog 217 #[.agg #[.int .i64 (rIdx n), .int .i64 (rGen n), .bool (markOf n)]] w fun e w' => e = .returned (.tuple #[.int .u64 (n), .int .i64 (0)]) ∧ Kept w w') := fun w => Lib.hid (by
    have h := put_ref (rIdx n) (rGen n) (markOf n) w (by have := rIdx_lo n; omega) (by have := rIdx_hi n; omega)
    rw [pair_yes hg] at h
    exact h)
  have H0 := Lib.hid h0; have H1 := Lib.hid h1
  clear h0 h1 hg
  go_enter Tryz.func156, Tryz.ntmps156
  go_wp2_with fail
  refine (value_ref _ _ H0.out H1.out).mono ?_
  rintro e w1 ⟨rfl, hk1⟩
  go_wp2_with fail
  refine (meaning_ref_yes _ _ _ _ _ HP).mono ?_
  rintro e w2 ⟨rfl, hk2⟩
  have hz := (hk1.trans hk2).size
  simp at hz
  have r0 : w2.cell? ⟨w.heap.size, 0, none⟩ = some (.int .i64 0) := (hk1.trans hk2).some (by simp [*])
  have r1 : w2.cell? ⟨w.heap.size, 1, none⟩ = some (.int .i64 0) := (hk1.trans hk2).some (by simp [*])
  have r2 : w2.cell? ⟨w.heap.size, 2, none⟩ = some (.bool false) := (hk1.trans hk2).some (by simp [*])
  have f1 : ∀ o, w2.frozen? ⟨w.heap.size, o, none⟩ = false := fun o => by rw [(hk1.trans hk2).froze]; simp
  have K1 : Kept w w2 := (((Kept.refl w).alloc _ _).trans (hk1.trans hk2))
  have hlt : w.heap.size < w2.heap.size := by omega
  clear hk1 hk2 hz
  go_wp2
  refine bodyPost_ret (v := .tuple #[.agg #[.int .i64 (rIdx n), .int .i64 (rGen n), .bool (markOf n)], .int .i64 0]) ?_ rfl ⟨rfl, ?_⟩
  · simp [results, Tryz.results156, go_sem, r0, r1, r2]
  · refine (Kept.setCell (Kept.setCell (Kept.setCell K1 ?_ _) ?_ _) ?_ _) <;> simp

set_option maxHeartbeats 800000 in
theorem get_ref_err (n : Int) (w : World) (h0 : 0 ≤ n) (h1 : n < 18446744073709551616) (hb : (putRef (rIdx n) (rGen n) (markOf n)).2 ≠ 0) : Calls Tryz.prog 156 #[.int .u64 n] w fun e w' => e = .returned (.tuple #[.agg #[.int .i64 0, .int .i64 0, .bool false], .int .i64 5]) ∧ Kept w w' := by
  have HP : ∀ w, Hid (Calls Tryz.prog 217 #[.agg #[.int .i64 (rIdx n), .int .i64 (rGen n), .bool (markOf n)]] w fun e w' => e = .returned (.tuple #[.int .u64 ((putRef (rIdx n) (rGen n) (markOf n)).1), .int .i64 ((putRef (rIdx n) (rGen n) (markOf n)).2)]) ∧ Kept w w') := fun w => Lib.hid (by
    have h := put_ref (rIdx n) (rGen n) (markOf n) w (by have := rIdx_lo n; omega) (by have := rIdx_hi n; omega)
    exact h)
  have H0 := Lib.hid h0; have H1 := Lib.hid h1
  have HB := Lib.hid hb
  clear h0 h1 hb
  go_enter Tryz.func156, Tryz.ntmps156
  go_wp2_with fail
  refine (value_ref _ _ H0.out H1.out).mono ?_
  rintro e w1 ⟨rfl, hk1⟩
  go_wp2_with fail
  refine (meaning_ref_err _ _ _ _ _ _ _ HP HB.out).mono ?_
  rintro e w2 ⟨rfl, hk2⟩
  have hz := (hk1.trans hk2).size
  simp at hz
  have r0 : w2.cell? ⟨w.heap.size, 0, none⟩ = some (.int .i64 0) := (hk1.trans hk2).some (by simp [*])
  have r1 : w2.cell? ⟨w.heap.size, 1, none⟩ = some (.int .i64 0) := (hk1.trans hk2).some (by simp [*])
  have r2 : w2.cell? ⟨w.heap.size, 2, none⟩ = some (.bool false) := (hk1.trans hk2).some (by simp [*])
  have f1 : ∀ o, w2.frozen? ⟨w.heap.size, o, none⟩ = false := fun o => by rw [(hk1.trans hk2).froze]; simp
  have K1 : Kept w w2 := (((Kept.refl w).alloc _ _).trans (hk1.trans hk2))
  have hlt : w.heap.size < w2.heap.size := by omega
  clear hk1 hk2 hz
  go_wp2
  refine bodyPost_ret (v := .tuple #[.agg #[.int .i64 0, .int .i64 0, .bool false], .int .i64 5]) ?_ rfl ⟨rfl, ?_⟩
  · simp [results, Tryz.results156, go_sem, r0, r1, r2]
  · refine (Kept.setCell (Kept.setCell (Kept.setCell K1 ?_ _) ?_ _) ?_ _) <;> simp

set_option maxHeartbeats 800000 in
theorem get_ref_word (n : Int) (w : World) (h0 : 0 ≤ n) (h1 : n < 18446744073709551616) (hb : (putRef (rIdx n) (rGen n) (markOf n)).2 = 0) (ha : (putRef (rIdx n) (rGen n) (markOf n)).1 ≠ n) : Calls Tryz.prog 156 #[.int .u64 n] w fun e w' => e = .returned (.tuple #[.agg #[.int .i64 0, .int .i64 0, .bool false], .int .i64 5]) ∧ Kept w w' := by
  have HP : ∀ w, Hid (Calls Tryz.prog 217 #[.agg #[.int .i64 (rIdx n), .int .i64 (rGen n), .bool (markOf n)]] w fun e w' => e = .returned (.tuple #[.int .u64 ((putRef (rIdx n) (rGen n) (markOf n)).1), .int .i64 (0)]) ∧ Kept w w') := fun w => Lib.hid (by
    have h := put_ref (rIdx n) (rGen n) (markOf n) w (by have := rIdx_lo n; omega) (by have := rIdx_hi n; omega)
    rw [hb] at h
    exact h)
  have H0 := Lib.hid h0; have H1 := Lib.hid h1
  have HA := Lib.hid ha
  clear h0 h1 hb ha
  go_enter Tryz.func156, Tryz.ntmps156
  go_wp2_with fail
  refine (value_ref _ _ H0.out H1.out).mono ?_
  rintro e w1 ⟨rfl, hk1⟩
  go_wp2_with fail
  refine (meaning_ref_word _ _ _ _ _ _ HP HA.out).mono ?_
  rintro e w2 ⟨rfl, hk2⟩
  have hz := (hk1.trans hk2).size
  simp at hz
  have r0 : w2.cell? ⟨w.heap.size, 0, none⟩ = some (.int .i64 0) := (hk1.trans hk2).some (by simp [*])
  have r1 : w2.cell? ⟨w.heap.size, 1, none⟩ = some (.int .i64 0) := (hk1.trans hk2).some (by simp [*])
  have r2 : w2.cell? ⟨w.heap.size, 2, none⟩ = some (.bool false) := (hk1.trans hk2).some (by simp [*])
  have f1 : ∀ o, w2.frozen? ⟨w.heap.size, o, none⟩ = false := fun o => by rw [(hk1.trans hk2).froze]; simp
  have K1 : Kept w w2 := (((Kept.refl w).alloc _ _).trans (hk1.trans hk2))
  have hlt : w.heap.size < w2.heap.size := by omega
  clear hk1 hk2 hz
  go_wp2
  refine bodyPost_ret (v := .tuple #[.agg #[.int .i64 0, .int .i64 0, .bool false], .int .i64 5]) ?_ rfl ⟨rfl, ?_⟩
  · simp [results, Tryz.results156, go_sem, r0, r1, r2]
  · refine (Kept.setCell (Kept.setCell (Kept.setCell K1 ?_ _) ?_ _) ?_ _) <;> simp

set_option maxHeartbeats 800000 in
theorem get_top_yes (n : Int) (w : World) (h0 : 0 ≤ n) (h1 : n < 18446744073709551616) : Calls Tryz.prog 90 #[.int .u64 n] w fun e w' => e = .returned (.tuple #[.agg #[.int .i64 (rIdx n), .int .i64 (tTag n)], .int .i64 0]) ∧ Kept w w' := by
  have HP : ∀ w, Hid (Calls Tryz.prog 159 #[.agg #[.int .i64 (rIdx n), .int .i64 (tTag n)]] w fun e w' => e = .returned (.tuple #[.int .u64 (n), .int .i64 (0)]) ∧ Kept w w') := fun w => Lib.hid (by
    have h := put_top (rIdx n) (tTag n) w (by have := rIdx_lo n; omega) (by have := rIdx_hi n; omega)
    rw [top_good n h0 h1] at h
    exact h)
  have H0 := Lib.hid h0; have H1 := Lib.hid h1
  clear h0 h1
  go_enter Tryz.func90, Tryz.ntmps90
  go_wp2_with fail
  refine (value_top _ _ H0.out H1.out).mono ?_
  rintro e w1 ⟨rfl, hk1⟩
  go_wp2_with fail
  refine (meaning_top_yes _ _ _ _ HP).mono ?_
  rintro e w2 ⟨rfl, hk2⟩
  have hz := (hk1.trans hk2).size
  simp at hz
  have r0 : w2.cell? ⟨w.heap.size, 0, none⟩ = some (.int .i64 0) := (hk1.trans hk2).some (by simp [*])
  have r1 : w2.cell? ⟨w.heap.size, 1, none⟩ = some (.int .i64 0) := (hk1.trans hk2).some (by simp [*])
  have f1 : ∀ o, w2.frozen? ⟨w.heap.size, o, none⟩ = false := fun o => by rw [(hk1.trans hk2).froze]; simp
  have K1 : Kept w w2 := (((Kept.refl w).alloc _ _).trans (hk1.trans hk2))
  have hlt : w.heap.size < w2.heap.size := by omega
  clear hk1 hk2 hz
  go_wp2
  refine bodyPost_ret (v := .tuple #[.agg #[.int .i64 (rIdx n), .int .i64 (tTag n)], .int .i64 0]) ?_ rfl ⟨rfl, ?_⟩
  · simp [results, Tryz.results90, go_sem, r0, r1]
  · refine (Kept.setCell (Kept.setCell K1 ?_ _) ?_ _) <;> simp

set_option maxHeartbeats 800000 in
theorem refget_top_yes (n : Int) (w : World) (h0 : 0 ≤ n) (h1 : n < 18446744073709551616) : Calls Tryz.prog 170 #[.int .u64 n] w fun e w' => e = .returned (.tuple #[.agg #[.int .i64 (rIdx n), .int .i64 (tTag n)], .int .i64 0]) ∧ Kept w w' := by
  have H0 := Lib.hid h0; have H1 := Lib.hid h1
  clear h0 h1
  go_enter Tryz.func170, Tryz.ntmps170
  go_wp2_with fail
  refine (part_0_16 _ _ H0.out H1.out).mono ?_
  rintro e w1 ⟨rfl, hk1⟩
  go_wp2_with fail
  refine (part_16_48 _ _ H0.out H1.out).mono ?_
  rintro e w2 ⟨rfl, hk2⟩
  have hz := (hk1.trans hk2).size
  simp at hz
  have r0 : w2.cell? ⟨w.heap.size, 0, none⟩ = some (.int .i64 0) := (hk1.trans hk2).some (by simp [*])
  have r1 : w2.cell? ⟨w.heap.size, 1, none⟩ = some (.int .i64 0) := (hk1.trans hk2).some (by simp [*])
  have f1 : ∀ o, w2.frozen? ⟨w.heap.size, o, none⟩ = false := fun o => by rw [(hk1.trans hk2).froze]; simp
  have K1 : Kept w w2 := (((Kept.refl w).alloc _ _).trans (hk1.trans hk2))
  have hlt : w.heap.size < w2.heap.size := by omega
  clear hk1 hk2 hz
  go_wp2
  refine bodyPost_ret (v := .tuple #[.agg #[.int .i64 (rIdx n), .int .i64 (tTag n)], .int .i64 0]) ?_ rfl ⟨rfl, ?_⟩
  · simp [results, Tryz.results170, go_sem, r0, r1, rIdx, tTag]
  · refine (Kept.setCell (Kept.setCell K1 ?_ _) ?_ _) <;> simp

end Go.Proofs.YtbonnfofoepjcaaGreat.Wo

namespace Go.Proofs.YtbonnfofoepjcaaGreat.Sk
set_option maxRecDepth 20000
open Go.RowKit
open Wo (St acc wordAt)

theorem g_top (n : Int) (w : World) (h0 : 0 ≤ n) (h1 : n < 18446744073709551616) : Calls Tryz.prog 90 #[.int .u64 n] w fun e w' => e = .returned (.tuple #[.agg #[.int .i64 (n % 65536 - 1), .int .i64 (n / 65536 % 281474976710656)], .int .i64 0]) ∧ Kept w w' :=
  (Wo.get_top_yes n w h0 h1).mono fun _ _ ⟨x, k⟩ => ⟨x, kept_of k⟩
theorem u_top (i t : Int) (w : World) (h : -1 ≤ i ∧ i ≤ 65534 ∧ 0 ≤ t ∧ t ≤ 281474976710655) : Calls Tryz.prog 159 #[.agg #[.int .i64 i, .int .i64 t]] w fun e w' => e = .returned (.tuple #[.int .u64 (i + 1 + t * 65536), .int .i64 0]) ∧ Kept w w' :=
  (Wo.put_top_good i t w h).mono fun _ _ ⟨x, k⟩ => ⟨x, kept_of k⟩

set_option maxHeartbeats 400000 in
theorem place_yes (T K N i : Int) (w : World) (h0 : 0 ≤ i) (h1 : i < N) (h2 : i ≤ 65534) : Calls Tryz.prog 149 #[.agg #[.int .i64 T, .int .i64 K, .int .i64 N], .int .i64 i] w fun e w' => e = .returned (.bool true) ∧ Kept w w' := by
  go_enter Tryz.func149, Tryz.ntmps149
  go_wp2
  go_ret
  exact ⟨rfl, by (go_light; repeat (first | (with_reducible exact Kept.refl _) | (with_reducible assumption) | (with_reducible refine Kept.alloc ?_ _ _) | (with_reducible refine Kept.drew ?_) | (with_reducible refine Kept.drewN ?_ _) | ((with_reducible refine Kept.setCell ?_ ?_ _); rotate_left; focus (first | (simp; done) | (simp; omega))) | refine Kept.trans ?_ (by assumption)))⟩
set_option maxHeartbeats 400000 in
theorem place_no (T K N i : Int) (w : World) (h : i < 0 ∨ N ≤ i) : Calls Tryz.prog 149 #[.agg #[.int .i64 T, .int .i64 K, .int .i64 N], .int .i64 i] w fun e w' => e = .returned (.bool false) ∧ Kept w w' := by
  by_cases h0 : i < 0
  · clear h
    go_enter Tryz.func149, Tryz.ntmps149
    go_wp2
    go_ret
    exact ⟨rfl, by (go_light; repeat (first | (with_reducible exact Kept.refl _) | (with_reducible assumption) | (with_reducible refine Kept.alloc ?_ _ _) | (with_reducible refine Kept.drew ?_) | (with_reducible refine Kept.drewN ?_ _) | ((with_reducible refine Kept.setCell ?_ ?_ _); rotate_left; focus (first | (simp; done) | (simp; omega))) | refine Kept.trans ?_ (by assumption)))⟩
  · have h1 : N ≤ i := by omega
    have h2 : 0 ≤ i := by omega
    clear h h0
    go_enter Tryz.func149, Tryz.ntmps149
    go_wp2
    go_ret
    exact ⟨rfl, by (go_light; repeat (first | (with_reducible exact Kept.refl _) | (with_reducible assumption) | (with_reducible refine Kept.alloc ?_ _ _) | (with_reducible refine Kept.drew ?_) | (with_reducible refine Kept.drewN ?_ _) | ((with_reducible refine Kept.setCell ?_ ?_ _); rotate_left; focus (first | (simp; done) | (simp; omega))) | refine Kept.trans ?_ (by assumption)))⟩
set_option maxHeartbeats 400000 in
theorem link_any (T K N i : Int) (w : World) : Calls Tryz.prog 195 #[.agg #[.int .i64 T, .int .i64 K, .int .i64 N], .int .i64 i] w fun e w' => e = .returned (.int .i64 (wrap64 (K + i))) ∧ Kept w w' := by
  go_enter Tryz.func195, Tryz.ntmps195
  go_wp2
  go_ret
  exact ⟨rfl, by (go_light; repeat (first | (with_reducible exact Kept.refl _) | (with_reducible assumption) | (with_reducible refine Kept.alloc ?_ _ _) | (with_reducible refine Kept.drew ?_) | (with_reducible refine Kept.drewN ?_ _) | ((with_reducible refine Kept.setCell ?_ ?_ _); rotate_left; focus (first | (simp; done) | (simp; omega))) | refine Kept.trans ?_ (by assumption)))⟩
theorem link_in (T K N i : Int) (w : World) (h0 : 0 ≤ K) (h1 : K ≤ 100000) (h2 : -1 ≤ i) (h3 : i ≤ 100000) : Calls Tryz.prog 195 #[.agg #[.int .i64 T, .int .i64 K, .int .i64 N], .int .i64 i] w fun e w' => e = .returned (.int .i64 (K + i)) ∧ Kept w w' :=
  (link_any T K N i w).mono fun _ _ ⟨x, k⟩ => ⟨by rw [x, show wrap64 (K + i) = K + i by unfold wrap64; omega], k⟩

set_option maxHeartbeats 800000 in
theorem read_any (T K N x : Int) (w : World) (x0 : 0 ≤ x) (x1 : x < 18446744073709551616) : Calls Tryz.prog 245 #[.agg #[.int .i64 T, .int .i64 K, .int .i64 N], .int .u64 x] w fun e w' => e = .returned (.int .i64 (idx N x)) ∧ Kept w w' := by
  by_cases h : 0 ≤ x % 65536 - 1 ∧ x % 65536 - 1 < N
  · obtain ⟨h0, h1⟩ := h
    have E : Hid (idx N x = x % 65536 - 1) := Lib.hid (by unfold idx; rw [if_pos h1])
    have h2 : x % 65536 - 1 ≤ 65534 := by omega
    go_enter Tryz.func245, Tryz.ntmps245
    go_wp2_with fail
    refine (g_top x _ x0 x1).mono ?_
    rintro e w1 ⟨rfl, k1⟩
    have K1 : Kept w w1 := Kept.trans (b := _) (by (go_light; repeat (first | (with_reducible exact Kept.refl _) | (with_reducible assumption) | (with_reducible refine Kept.alloc ?_ _ _) | (with_reducible refine Kept.drew ?_) | (with_reducible refine Kept.drewN ?_ _) | ((with_reducible refine Kept.setCell ?_ ?_ _); rotate_left; focus (first | (simp; done) | (simp; omega))) | refine Kept.trans ?_ (by assumption)))) k1
    have c0 : w1.cell? ⟨w.heap.size, 0, none⟩ = some (.int .i64 T) := k1.some (by simp)
    have c1 : w1.cell? ⟨w.heap.size, 1, none⟩ = some (.int .i64 K) := k1.some (by simp)
    have c2 : w1.cell? ⟨w.heap.size, 2, none⟩ = some (.int .i64 N) := k1.some (by simp)
    have S1 := k1.size
    simp at S1
    have S2 : w.heap.size < w1.heap.size := by omega
    clear k1 S1
    go_wp2_with fail
    refine (place_yes T K N _ _ h0 h1 h2).mono ?_
    rintro e w2 ⟨rfl, k2⟩
    have c3 : w2.cell? ⟨w1.heap.size, 0, none⟩ = some (.int .i64 (x % 65536 - 1)) := k2.some (by simp)
    go_wp2
    go_ret
    exact ⟨by rw [E.out]; rfl, Kept.trans (b := _) (by (go_light; repeat (first | (with_reducible exact Kept.refl _) | (with_reducible assumption) | (with_reducible refine Kept.alloc ?_ _ _) | (with_reducible refine Kept.drew ?_) | (with_reducible refine Kept.drewN ?_ _) | ((with_reducible refine Kept.setCell ?_ ?_ _); rotate_left; focus (first | (simp; done) | (simp; omega))) | refine Kept.trans ?_ (by assumption)))) k2⟩
  · have E : Hid (idx N x = -1) := Lib.hid (by
      unfold idx
      split
      · omega
      · rfl)
    have h1 : x % 65536 - 1 < 0 ∨ N ≤ x % 65536 - 1 := by omega
    clear h
    go_enter Tryz.func245, Tryz.ntmps245
    go_wp2_with fail
    refine (g_top x _ x0 x1).mono ?_
    rintro e w1 ⟨rfl, k1⟩
    have K1 : Kept w w1 := Kept.trans (b := _) (by (go_light; repeat (first | (with_reducible exact Kept.refl _) | (with_reducible assumption) | (with_reducible refine Kept.alloc ?_ _ _) | (with_reducible refine Kept.drew ?_) | (with_reducible refine Kept.drewN ?_ _) | ((with_reducible refine Kept.setCell ?_ ?_ _); rotate_left; focus (first | (simp; done) | (simp; omega))) | refine Kept.trans ?_ (by assumption)))) k1
    have c0 : w1.cell? ⟨w.heap.size, 0, none⟩ = some (.int .i64 T) := k1.some (by simp)
    have c1 : w1.cell? ⟨w.heap.size, 1, none⟩ = some (.int .i64 K) := k1.some (by simp)
    have c2 : w1.cell? ⟨w.heap.size, 2, none⟩ = some (.int .i64 N) := k1.some (by simp)
    have S1 := k1.size
    simp at S1
    have S2 : w.heap.size < w1.heap.size := by omega
    clear k1 S1
    go_wp2_with fail
    refine (place_no T K N _ _ h1).mono ?_
    rintro e w2 ⟨rfl, k2⟩
    have c3 : w2.cell? ⟨w1.heap.size, 0, none⟩ = some (.int .i64 (x % 65536 - 1)) := k2.some (by simp)
    go_wp2
    go_ret
    exact ⟨by rw [E.out]; rfl, Kept.trans (b := _) (by (go_light; repeat (first | (with_reducible exact Kept.refl _) | (with_reducible assumption) | (with_reducible refine Kept.alloc ?_ _ _) | (with_reducible refine Kept.drew ?_) | (with_reducible refine Kept.drewN ?_ _) | ((with_reducible refine Kept.setCell ?_ ?_ _); rotate_left; focus (first | (simp; done) | (simp; omega))) | refine Kept.trans ?_ (by assumption)))) k2⟩

set_option maxHeartbeats 400000 in
theorem untagged_any (i : Int) (w : World) (h0 : -1 ≤ i) (h1 : i ≤ 65534) : Calls Tryz.prog 194 #[.int .i64 i] w fun e w' => e = .returned (.int .u64 (i + 1)) ∧ Kept w w' := by
  have hp : ∀ w, Hid (Calls Tryz.prog 159 #[.agg #[.int .i64 i, .int .i64 0]] w fun e w' => e = .returned (.tuple #[.int .u64 (i + 1), .int .i64 0]) ∧ Kept w w') := fun w => Lib.hid (by
    have h := u_top i 0 w ⟨h0, h1, by omega, by omega⟩
    rw [Int.zero_mul, Int.add_zero] at h
    exact h)
  clear h0 h1
  go_enter Tryz.func194, Tryz.ntmps194
  go_wp2_with fail
  refine (hp _).out.mono ?_
  rintro e w1 ⟨rfl, k1⟩
  go_wp2
  go_ret
  exact ⟨rfl, by (go_light; repeat (first | (with_reducible exact Kept.refl _) | (with_reducible assumption) | (with_reducible refine Kept.alloc ?_ _ _) | (with_reducible refine Kept.drew ?_) | (with_reducible refine Kept.drewN ?_ _) | ((with_reducible refine Kept.setCell ?_ ?_ _); rotate_left; focus (first | (simp; done) | (simp; omega))) | refine Kept.trans ?_ (by assumption)))⟩

theorem and_tag (x : Int) (h0 : 0 ≤ x) (h1 : x ≤ 281474976710656) : bits .and .i64 x 281474976710655 = x % 281474976710656 :=
  bits_mask .i64 62 (by decide) (fun n a b => by have := Wo.wi n a (by omega); unfold wrap64 at this; rw [IntKind.wrap_i64]; exact this) 48 (by decide) x h0 (by omega)

set_option maxHeartbeats 800000 in
theorem following_any (x i : Int) (w : World) (x0 : 0 ≤ x) (x1 : x < 18446744073709551616) (h0 : -1 ≤ i) (h1 : i ≤ 65534) : Calls Tryz.prog 277 #[.int .u64 x, .int .i64 i] w fun e w' => e = .returned (.int .u64 (topW i x)) ∧ Kept w w' := by
  have b0 : 0 ≤ x / 65536 % 281474976710656 := by omega
  have b1 : x / 65536 % 281474976710656 ≤ 281474976710655 := by omega
  have ha := and_tag (x / 65536 % 281474976710656 + 1) (by omega) (by omega)
  have hp : ∀ w, Hid (Calls Tryz.prog 159 #[.agg #[.int .i64 i, .int .i64 ((x / 65536 + 1) % 281474976710656)]] w fun e w' => e = .returned (.tuple #[.int .u64 (topW i x), .int .i64 0]) ∧ Kept w w') := fun w => Lib.hid (by
    exact u_top i ((x / 65536 + 1) % 281474976710656) w ⟨h0, h1, by omega, by omega⟩)
  clear h0 h1
  go_enter Tryz.func277, Tryz.ntmps277
  go_wp2_with fail
  refine (g_top x _ x0 x1).mono ?_
  rintro e w1 ⟨rfl, k1⟩
  go_wp2_with fail
  refine (hp _).out.mono ?_
  rintro e w2 ⟨rfl, k2⟩
  go_wp2
  go_ret
  exact ⟨rfl, by (go_light; repeat (first | (with_reducible exact Kept.refl _) | (with_reducible assumption) | (with_reducible refine Kept.alloc ?_ _ _) | (with_reducible refine Kept.drew ?_) | (with_reducible refine Kept.drewN ?_ _) | ((with_reducible refine Kept.setCell ?_ ?_ _); rotate_left; focus (first | (simp; done) | (simp; omega))) | refine Kept.trans ?_ (by assumption)))⟩

set_option maxHeartbeats 800000 in
theorem ref_index (T K N x : Int) (w : World) (x0 : 0 ≤ x) (x1 : x < 18446744073709551616) : Calls Tryz.prog 206 #[.agg #[.int .i64 T, .int .i64 K, .int .i64 N], .int .u64 x] w fun e w' => e = .returned (.int .i64 (idx N x)) ∧ Kept w w' := by
  have m0 : 0 ≤ x % 65536 := by omega
  have m1 : x % 65536 < 65536 := by omega
  by_cases h : x % 65536 - 1 < N
  · have E : Hid (idx N x = x % 65536 - 1) := Lib.hid (by unfold idx; rw [if_pos h])
    go_enter Tryz.func206, Tryz.ntmps206
    go_wp2
    go_ret
    exact ⟨by rw [E.out]; rfl, by (go_light; repeat (first | (with_reducible exact Kept.refl _) | (with_reducible assumption) | (with_reducible refine Kept.alloc ?_ _ _) | (with_reducible refine Kept.drew ?_) | (with_reducible refine Kept.drewN ?_ _) | ((with_reducible refine Kept.setCell ?_ ?_ _); rotate_left; focus (first | (simp; done) | (simp; omega))) | refine Kept.trans ?_ (by assumption)))⟩
  · have E : Hid (idx N x = -1) := Lib.hid (by unfold idx; rw [if_neg h])
    have h1 : N ≤ x % 65536 - 1 := by omega
    clear h
    go_enter Tryz.func206, Tryz.ntmps206
    go_wp2
    go_ret
    exact ⟨by rw [E.out]; rfl, by (go_light; repeat (first | (with_reducible exact Kept.refl _) | (with_reducible assumption) | (with_reducible refine Kept.alloc ?_ _ _) | (with_reducible refine Kept.drew ?_) | (with_reducible refine Kept.drewN ?_ _) | ((with_reducible refine Kept.setCell ?_ ?_ _); rotate_left; focus (first | (simp; done) | (simp; omega))) | refine Kept.trans ?_ (by assumption)))⟩
set_option maxHeartbeats 800000 in
theorem ref_top (i x : Int) (w : World) (x0 : 0 ≤ x) (x1 : x < 18446744073709551616) (h0 : -1 ≤ i) (h1 : i ≤ 65534) : Calls Tryz.prog 208 #[.int .i64 i, .int .u64 x] w fun e w' => e = .returned (.int .u64 (topW i x)) ∧ Kept w w' := by
  go_enter Tryz.func208, Tryz.ntmps208
  go_wp2
  go_ret
  refine ⟨?_, by (go_light; repeat (first | (with_reducible exact Kept.refl _) | (with_reducible assumption) | (with_reducible refine Kept.alloc ?_ _ _) | (with_reducible refine Kept.drew ?_) | (with_reducible refine Kept.drewN ?_ _) | ((with_reducible refine Kept.setCell ?_ ?_ _); rotate_left; focus (first | (simp; done) | (simp; omega))) | refine Kept.trans ?_ (by assumption)))⟩
  refine congrArg (fun z => Ending.returned (Value.int .u64 z)) (?_ : bits BinOp.or IntKind.u64 (i + 1) (IntKind.u64.wrap ((x / 65536 + 1) * 65536)) = topW i x)
  rw [IntKind.wrap_u64]
  have e : (x / 65536 + 1) * 65536 % 18446744073709551616 = (x / 65536 + 1) % 281474976710656 * 65536 := by omega
  rw [e, Wo.or_up 16 (i + 1) _ (by omega) (by omega) (by omega) (by omega) (by omega) (by omega)]
  rfl
end Go.Proofs.YtbonnfofoepjcaaGreat.Sk

namespace Go.Proofs.YtbonnfofoepjcaaGreat.Sk
set_option maxRecDepth 20000
open Go.RowKit
open Wo (St acc wordAt PMem RefIs)

structure OpAt (w : World) (P o : Nat) (S : Stk) (W L : Int) (nx : Value) (er : Int) : Prop where
  c0 : w.cell? ⟨P, o, none⟩ = some (.bool true)
  c1 : w.cell? ⟨P, o + 1, none⟩ = some (.int .i64 S.T)
  c2 : w.cell? ⟨P, o + 2, none⟩ = some (.int .i64 S.K)
  c3 : w.cell? ⟨P, o + 3, none⟩ = some (.int .i64 S.N)
  c4 : w.cell? ⟨P, o + 4, none⟩ = some (.int .u64 W)
  c5 : w.cell? ⟨P, o + 5, none⟩ = some (.int .u64 L)
  c6 : w.cell? ⟨P, o + 6, none⟩ = some nx
  c7 : w.cell? ⟨P, o + 7, none⟩ = some (.int .i64 er)
  f : ∀ i, w.frozen? ⟨P, i, none⟩ = false

theorem OpAt.lt {w : World} {P o : Nat} {S : Stk} {W L : Int} {nx : Value} {er : Int} (h : OpAt w P o S W L nx er) : P < w.heap.size := lt_of_cell h.c0
theorem OpAt.frame {w w' : World} {P o : Nat} {S : Stk} {W L : Int} {nx : Value} {er : Int} (h : OpAt w P o S W L nx er) {T : Nat → Prop} (hb : But T w w') (hP : ¬ T P) : OpAt w' P o S W L nx er :=
  ⟨hb.some h.c0 hP, hb.some h.c1 hP, hb.some h.c2 hP, hb.some h.c3 hP, hb.some h.c4 hP, hb.some h.c5 hP, hb.some h.c6 hP, hb.some h.c7 hP, fun i => hb.soft h.lt (h.f i)⟩
theorem OpAt.kept {w w' : World} {P o : Nat} {S : Stk} {W L : Int} {nx : Value} {er : Int} (h : OpAt w P o S W L nx er) (k : Kept w w') : OpAt w' P o S W L nx er := h.frame (k.but (fun _ => False)) id

structure Chg (P o m B : Nat) (w w' : World) : Prop where
  but : But (fun k => k = P ∨ k = B) w w'
  out : ∀ j, (j < o ∨ o + m ≤ j) → w'.cell? ⟨P, j, none⟩ = w.cell? ⟨P, j, none⟩

theorem Chg.refl (P o m B : Nat) (w : World) : Chg P o m B w w := ⟨But.refl _ _, fun _ _ => rfl⟩
theorem Chg.trans {P o m B : Nat} {a b c : World} (h : Chg P o m B a b) (k : Chg P o m B b c) : Chg P o m B a c :=
  ⟨h.but.trans k.but (fun _ _ h => h), fun j hj => (k.out j hj).trans (h.out j hj)⟩
theorem Chg.keep {P o m B : Nat} {a b c : World} (h : Chg P o m B a b) (k : Kept b c) (hP : P < a.heap.size) : Chg P o m B a c :=
  ⟨h.but.then k, fun j hj => (k.cell P j (Nat.lt_of_lt_of_le hP h.but.size)).trans (h.out j hj)⟩
theorem Chg.mem {P o m B : Nat} {a b c : World} (h : Chg P o m B a b) (k : But (fun k => k = B) b c) (hP : P < a.heap.size) (hPB : P ≠ B) : Chg P o m B a c :=
  ⟨h.but.trans k (fun _ _ h => Or.inr h), fun j hj => (k.cell P j (Nat.lt_of_lt_of_le hP h.but.size) hPB).trans (h.out j hj)⟩
theorem Chg.set {P o m B : Nat} {a b : World} (h : Chg P o m B a b) (j : Nat) (hj : o ≤ j ∧ j < o + m) (v : Value) : Chg P o m B a (b.setCell ⟨P, j, none⟩ v) :=
  ⟨h.but.setCell (p := ⟨P, j, none⟩) (Or.inl (Or.inl rfl)) v, fun i hi => by rw [cell_set, if_neg (by omega)]; exact h.out i hi⟩
theorem Chg.alloc {P o m B : Nat} {a b : World} (h : Chg P o m B a b) (hP : P < a.heap.size) (c : Array Value) (t : TypeId) : Chg P o m B a (b.alloc (.cells c t)) := h.keep ((Kept.refl b).alloc c t) hP
theorem Chg.drew {P o m B : Nat} {a b : World} (h : Chg P o m B a b) (hP : P < a.heap.size) : Chg P o m B a b.drew := h.keep (Kept.refl b).drew hP
theorem Chg.drewN {P o m B : Nat} {a b : World} (h : Chg P o m B a b) (hP : P < a.heap.size) (n : Nat) : Chg P o m B a (b.drewN n) := h.keep ((Kept.refl b).drewN n) hP
theorem Chg.some {P o m B : Nat} {w w' : World} (h : Chg P o m B w w') {j : Nat} {v : Value} (hc : w.cell? ⟨P, j, none⟩ = some v) (hj : j < o ∨ o + m ≤ j) : w'.cell? ⟨P, j, none⟩ = some v := (h.out j hj).trans hc
theorem Chg.wide {P o m o' m' B : Nat} {w w' : World} (h : Chg P o m B w w') (h0 : o' ≤ o) (h1 : o + m ≤ o' + m') : Chg P o' m' B w w' := ⟨h.but, fun j hj => h.out j (by omega)⟩
theorem Chg.any {P o m : Nat} {w w' : World} (h : Chg P o m P w w') (B : Nat) : Chg P o m B w w' := ⟨h.but.mono (fun _ _ h => h.elim Or.inl Or.inl), h.out⟩
theorem Chg.own {P o m : Nat} {w w' : World} (h : Chg P o m P w w') : But (fun k => k = P) w w' := h.but.mono (fun _ _ h => h.elim id id)
end Go.Proofs.YtbonnfofoepjcaaGreat.Sk
