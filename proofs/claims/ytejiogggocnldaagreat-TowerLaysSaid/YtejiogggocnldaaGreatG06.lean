/- Get of each kind: the program's and the document's. -/
import Derived.Test.YtejiogggocnldaaGreatG05
import Derived.Test.YtejiogggocnldaaGreatG03
import Derived.Lib.Hide
import Derived.Deep.Light
import Derived.Deep.RegionHeld3
import Derived.Laws.EntriesVeiled
set_option linter.unusedVariables false
set_option linter.unusedSimpArgs false

namespace Go.Proofs.YtejiogggocnldaaGreat.Wo
set_option maxRecDepth 20000
open Go.RowKit

set_option maxHeartbeats 800000 in
theorem get_ref_yes (n : Int) (w : World) (h0 : 0 ≤ n) (h1 : n < 18446744073709551616) (hg : goodRef n = true) : Calls Tryz.prog 143 #[.int .u64 n] w fun e w' => e = .returned (.tuple #[.agg #[.int .i64 (rIdx n), .int .i64 (rGen n), .bool (markOf n)], .int .i64 0]) ∧ Kept w w' := by
  have HP : ∀ w, Hid (Calls Tryz.prog 48 #[.agg #[.int .i64 (rIdx n), .int .i64 (rGen n), .bool (markOf n)]] w fun e w' => e = .returned (.tuple #[.int .u64 (n), .int .i64 (0)]) ∧ Kept w w') := fun w => Lib.hid (by
    have h := put_ref (rIdx n) (rGen n) (markOf n) w (by have := rIdx_lo n; omega) (by have := rIdx_hi n; omega)
    rw [pair_yes hg] at h
    exact h)
  have H0 := Lib.hid h0; have H1 := Lib.hid h1
  clear h0 h1 hg
  go_enter Tryz.func143, Tryz.ntmps143
  go_wp2_with fail
  refine (value_ref _ _ H0.out H1.out).mono ?_
  rintro e w1 ⟨rfl, hk1⟩
  go_wp2_with fail
  refine (meaning_ref_yes _ _ _ _ _ HP).mono ?_
  rintro e w2 ⟨rfl, hk2⟩
  have hz := (hk1.trans hk2).size
  simp at hz
  have r0 : w2.cell? ⟨w.heap.size, 0, none⟩ = some (.int .i64 0) := (hk1.trans hk2).some (by simp [*])
  have r1 : w2.cell? ⟨w.heap.size, 1, none⟩ = some (.int .i64 0) := (hk1.trans hk2).some (by simp [*])
  have r2 : w2.cell? ⟨w.heap.size, 2, none⟩ = some (.bool false) := (hk1.trans hk2).some (by simp [*])
  have f1 : ∀ o, w2.frozen? ⟨w.heap.size, o, none⟩ = false := fun o => by rw [(hk1.trans hk2).froze]; simp
  have K1 : Kept w w2 := (((Kept.refl w).alloc _ _).trans (hk1.trans hk2))
  have hlt : w.heap.size < w2.heap.size := by omega
  clear hk1 hk2 hz
  go_wp2
  refine bodyPost_ret (v := .tuple #[.agg #[.int .i64 (rIdx n), .int .i64 (rGen n), .bool (markOf n)], .int .i64 0]) ?_ rfl ⟨rfl, ?_⟩
  · simp [results, Tryz.results143, go_sem, r0, r1, r2]
  · refine (Kept.setCell (Kept.setCell (Kept.setCell K1 ?_ _) ?_ _) ?_ _) <;> simp

set_option maxHeartbeats 800000 in
theorem get_ref_err (n : Int) (w : World) (h0 : 0 ≤ n) (h1 : n < 18446744073709551616) (hb : (putRef (rIdx n) (rGen n) (markOf n)).2 ≠ 0) : Calls Tryz.prog 143 #[.int .u64 n] w fun e w' => e = .returned (.tuple #[.agg #[.int .i64 0, .int .i64 0, .bool false], .int .i64 5]) ∧ Kept w w' := by
  have HP : ∀ w, Hid (Calls Tryz.prog 48 #[.agg #[.int .i64 (rIdx n), .int .i64 (rGen n), .bool (markOf n)]] w fun e w' => e = .returned (.tuple #[.int .u64 ((putRef (rIdx n) (rGen n) (markOf n)).1), .int .i64 ((putRef (rIdx n) (rGen n) (markOf n)).2)]) ∧ Kept w w') := fun w => Lib.hid (by
    have h := put_ref (rIdx n) (rGen n) (markOf n) w (by have := rIdx_lo n; omega) (by have := rIdx_hi n; omega)
    exact h)
  have H0 := Lib.hid h0; have H1 := Lib.hid h1
  have HB := Lib.hid hb
  clear h0 h1 hb
  go_enter Tryz.func143, Tryz.ntmps143
  go_wp2_with fail
  refine (value_ref _ _ H0.out H1.out).mono ?_
  rintro e w1 ⟨rfl, hk1⟩
  go_wp2_with fail
  refine (meaning_ref_err _ _ _ _ _ _ _ HP HB.out).mono ?_
  rintro e w2 ⟨rfl, hk2⟩
  have hz := (hk1.trans hk2).size
  simp at hz
  have r0 : w2.cell? ⟨w.heap.size, 0, none⟩ = some (.int .i64 0) := (hk1.trans hk2).some (by simp [*])
  have r1 : w2.cell? ⟨w.heap.size, 1, none⟩ = some (.int .i64 0) := (hk1.trans hk2).some (by simp [*])
  have r2 : w2.cell? ⟨w.heap.size, 2, none⟩ = some (.bool false) := (hk1.trans hk2).some (by simp [*])
  have f1 : ∀ o, w2.frozen? ⟨w.heap.size, o, none⟩ = false := fun o => by rw [(hk1.trans hk2).froze]; simp
  have K1 : Kept w w2 := (((Kept.refl w).alloc _ _).trans (hk1.trans hk2))
  have hlt : w.heap.size < w2.heap.size := by omega
  clear hk1 hk2 hz
  go_wp2
  refine bodyPost_ret (v := .tuple #[.agg #[.int .i64 0, .int .i64 0, .bool false], .int .i64 5]) ?_ rfl ⟨rfl, ?_⟩
  · simp [results, Tryz.results143, go_sem, r0, r1, r2]
  · refine (Kept.setCell (Kept.setCell (Kept.setCell K1 ?_ _) ?_ _) ?_ _) <;> simp

set_option maxHeartbeats 800000 in
theorem get_ref_word (n : Int) (w : World) (h0 : 0 ≤ n) (h1 : n < 18446744073709551616) (hb : (putRef (rIdx n) (rGen n) (markOf n)).2 = 0) (ha : (putRef (rIdx n) (rGen n) (markOf n)).1 ≠ n) : Calls Tryz.prog 143 #[.int .u64 n] w fun e w' => e = .returned (.tuple #[.agg #[.int .i64 0, .int .i64 0, .bool false], .int .i64 5]) ∧ Kept w w' := by
  have HP : ∀ w, Hid (Calls Tryz.prog 48 #[.agg #[.int .i64 (rIdx n), .int .i64 (rGen n), .bool (markOf n)]] w fun e w' => e = .returned (.tuple #[.int .u64 ((putRef (rIdx n) (rGen n) (markOf n)).1), .int .i64 (0)]) ∧ Kept w w') := fun w => Lib.hid (by
    have h := put_ref (rIdx n) (rGen n) (markOf n) w (by have := rIdx_lo n; omega) (by have := rIdx_hi n; omega)
    rw [hb] at h
    exact h)
  have H0 := Lib.hid h0; have H1 := Lib.hid h1
  have HA := Lib.hid ha
  clear h0 h1 hb ha
  go_enter Tryz.func143, Tryz.ntmps143
  go_wp2_with fail
  refine (value_ref _ _ H0.out H1.out).mono ?_
  rintro e w1 ⟨rfl, hk1⟩
  go_wp2_with fail
  refine (meaning_ref_word _ _ _ _ _ _ HP HA.out).mono ?_
  rintro e w2 ⟨rfl, hk2⟩
  have hz := (hk1.trans hk2).size
  simp at hz
  have r0 : w2.cell? ⟨w.heap.size, 0, none⟩ = some (.int .i64 0) := (hk1.trans hk2).some (by simp [*])
  have r1 : w2.cell? ⟨w.heap.size, 1, none⟩ = some (.int .i64 0) := (hk1.trans hk2).some (by simp [*])
  have r2 : w2.cell? ⟨w.heap.size, 2, none⟩ = some (.bool false) := (hk1.trans hk2).some (by simp [*])
  have f1 : ∀ o, w2.frozen? ⟨w.heap.size, o, none⟩ = false := fun o => by rw [(hk1.trans hk2).froze]; simp
  have K1 : Kept w w2 := (((Kept.refl w).alloc _ _).trans (hk1.trans hk2))
  have hlt : w.heap.size < w2.heap.size := by omega
  clear hk1 hk2 hz
  go_wp2
  refine bodyPost_ret (v := .tuple #[.agg #[.int .i64 0, .int .i64 0, .bool false], .int .i64 5]) ?_ rfl ⟨rfl, ?_⟩
  · simp [results, Tryz.results143, go_sem, r0, r1, r2]
  · refine (Kept.setCell (Kept.setCell (Kept.setCell K1 ?_ _) ?_ _) ?_ _) <;> simp

set_option maxHeartbeats 800000 in
theorem refget_ref_yes (n : Int) (w : World) (h0 : 0 ≤ n) (h1 : n < 18446744073709551616) (hg : goodRef n = true) : Calls Tryz.prog 159 #[.int .u64 n] w fun e w' => e = .returned (.tuple #[.agg #[.int .i64 (rIdx n), .int .i64 (rGen n), .bool (markOf n)], .int .i64 0]) ∧ Kept w w' := by
  have HP : ∀ w, Hid (Calls Tryz.prog 199 #[.agg #[.int .i64 (rIdx n), .int .i64 (rGen n), .bool (markOf n)]] w fun e w' => e = .returned (.tuple #[.int .u64 (n), .int .i64 (0)]) ∧ Kept w w') := fun w => Lib.hid (by
    have h := refput_ref (rIdx n) (rGen n) (markOf n) w
    rw [pair_yes hg] at h
    exact h)
  have H0 := Lib.hid h0; have H1 := Lib.hid h1
  clear h0 h1 hg
  go_enter Tryz.func159, Tryz.ntmps159
  go_wp2_with fail
  refine (part_0_16 _ _ H0.out H1.out).mono ?_
  rintro e w1 ⟨rfl, hk1⟩
  go_wp2_with fail
  refine (part_16_32 _ _ H0.out H1.out).mono ?_
  rintro e w2 ⟨rfl, hk2⟩
  go_wp2_with fail
  refine (refmarked_any _ _).mono ?_
  rintro e w9 ⟨rfl, rfl⟩
  have hz := (hk1.trans hk2).size
  simp at hz
  have r0 : w2.cell? ⟨w.heap.size, 0, none⟩ = some (.int .i64 0) := (hk1.trans hk2).some (by simp [*])
  have r1 : w2.cell? ⟨w.heap.size, 1, none⟩ = some (.int .i64 0) := (hk1.trans hk2).some (by simp [*])
  have r2 : w2.cell? ⟨w.heap.size, 2, none⟩ = some (.bool false) := (hk1.trans hk2).some (by simp [*])
  have f1 : ∀ o, w2.frozen? ⟨w.heap.size, o, none⟩ = false := fun o => by rw [(hk1.trans hk2).froze]; simp
  have K1 : Kept w w2 := (((Kept.refl w).alloc _ _).trans (hk1.trans hk2))
  have hlt : w.heap.size < w2.heap.size := by omega
  clear hk1 hk2 hz
  go_wp2_with fail
  refine (HP _).out.mono ?_
  rintro e w7 ⟨rfl, hk7⟩
  have hz := hk7.size
  simp at hz
  have q0 : w7.cell? ⟨w.heap.size, 0, none⟩ = some (.int .i64 0) := hk7.some (by rw [World.cell?_alloc_past _ _ _ hlt]; exact r0)
  have q1 : w7.cell? ⟨w.heap.size, 1, none⟩ = some (.int .i64 0) := hk7.some (by rw [World.cell?_alloc_past _ _ _ hlt]; exact r1)
  have q2 : w7.cell? ⟨w.heap.size, 2, none⟩ = some (.bool false) := hk7.some (by rw [World.cell?_alloc_past _ _ _ hlt]; exact r2)
  have p0 : w7.cell? ⟨w2.heap.size, 0, none⟩ = some (.int .i64 (rIdx n)) := hk7.some (by simp <;> rfl)
  have p1 : w7.cell? ⟨w2.heap.size, 1, none⟩ = some (.int .i64 (rGen n)) := hk7.some (by simp <;> rfl)
  have p2 : w7.cell? ⟨w2.heap.size, 2, none⟩ = some (.bool (markOf n)) := hk7.some (by simp <;> rfl)
  have f7 : ∀ o, w7.frozen? ⟨w.heap.size, o, none⟩ = false := fun o => by rw [hk7.froze, frozen?_alloc_cells]; exact f1 o
  have K7 : Kept w w7 := ((K1.alloc _ _).trans hk7)
  have hlt7 : w.heap.size < w7.heap.size := by omega
  clear hk7 hz f1
  go_wp2
  refine bodyPost_ret (v := .tuple #[.agg #[.int .i64 (rIdx n), .int .i64 (rGen n), .bool (markOf n)], .int .i64 0]) ?_ rfl ⟨rfl, ?_⟩
  · simp [results, Tryz.results159, go_sem, q0, q1, q2]
  · refine (Kept.setCell (Kept.setCell (Kept.setCell K7 ?_ _) ?_ _) ?_ _) <;> simp

set_option maxHeartbeats 800000 in
theorem refget_ref_err (n : Int) (w : World) (h0 : 0 ≤ n) (h1 : n < 18446744073709551616) (hb : (putRef (rIdx n) (rGen n) (markOf n)).2 ≠ 0) : Calls Tryz.prog 159 #[.int .u64 n] w fun e w' => e = .returned (.tuple #[.agg #[.int .i64 0, .int .i64 0, .bool false], .int .i64 5]) ∧ Kept w w' := by
  have HP : ∀ w, Hid (Calls Tryz.prog 199 #[.agg #[.int .i64 (rIdx n), .int .i64 (rGen n), .bool (markOf n)]] w fun e w' => e = .returned (.tuple #[.int .u64 ((putRef (rIdx n) (rGen n) (markOf n)).1), .int .i64 ((putRef (rIdx n) (rGen n) (markOf n)).2)]) ∧ Kept w w') := fun w => Lib.hid (by
    have h := refput_ref (rIdx n) (rGen n) (markOf n) w
    exact h)
  have H0 := Lib.hid h0; have H1 := Lib.hid h1
  have b0 : ((putRef (rIdx n) (rGen n) (markOf n)).2 != 0) = true := by simp [hb]
  have HB := Lib.hid hb
  clear h0 h1 hb
  go_enter Tryz.func159, Tryz.ntmps159
  go_wp2_with fail
  refine (part_0_16 _ _ H0.out H1.out).mono ?_
  rintro e w1 ⟨rfl, hk1⟩
  go_wp2_with fail
  refine (part_16_32 _ _ H0.out H1.out).mono ?_
  rintro e w2 ⟨rfl, hk2⟩
  go_wp2_with fail
  refine (refmarked_any _ _).mono ?_
  rintro e w9 ⟨rfl, rfl⟩
  have hz := (hk1.trans hk2).size
  simp at hz
  have r0 : w2.cell? ⟨w.heap.size, 0, none⟩ = some (.int .i64 0) := (hk1.trans hk2).some (by simp [*])
  have r1 : w2.cell? ⟨w.heap.size, 1, none⟩ = some (.int .i64 0) := (hk1.trans hk2).some (by simp [*])
  have r2 : w2.cell? ⟨w.heap.size, 2, none⟩ = some (.bool false) := (hk1.trans hk2).some (by simp [*])
  have f1 : ∀ o, w2.frozen? ⟨w.heap.size, o, none⟩ = false := fun o => by rw [(hk1.trans hk2).froze]; simp
  have K1 : Kept w w2 := (((Kept.refl w).alloc _ _).trans (hk1.trans hk2))
  have hlt : w.heap.size < w2.heap.size := by omega
  clear hk1 hk2 hz
  go_wp2_with fail
  refine (HP _).out.mono ?_
  rintro e w7 ⟨rfl, hk7⟩
  have hz := hk7.size
  simp at hz
  have q0 : w7.cell? ⟨w.heap.size, 0, none⟩ = some (.int .i64 0) := hk7.some (by rw [World.cell?_alloc_past _ _ _ hlt]; exact r0)
  have q1 : w7.cell? ⟨w.heap.size, 1, none⟩ = some (.int .i64 0) := hk7.some (by rw [World.cell?_alloc_past _ _ _ hlt]; exact r1)
  have q2 : w7.cell? ⟨w.heap.size, 2, none⟩ = some (.bool false) := hk7.some (by rw [World.cell?_alloc_past _ _ _ hlt]; exact r2)
  have p0 : w7.cell? ⟨w2.heap.size, 0, none⟩ = some (.int .i64 (rIdx n)) := hk7.some (by simp <;> rfl)
  have p1 : w7.cell? ⟨w2.heap.size, 1, none⟩ = some (.int .i64 (rGen n)) := hk7.some (by simp <;> rfl)
  have p2 : w7.cell? ⟨w2.heap.size, 2, none⟩ = some (.bool (markOf n)) := hk7.some (by simp <;> rfl)
  have f7 : ∀ o, w7.frozen? ⟨w.heap.size, o, none⟩ = false := fun o => by rw [hk7.froze, frozen?_alloc_cells]; exact f1 o
  have K7 : Kept w w7 := ((K1.alloc _ _).trans hk7)
  have hlt7 : w.heap.size < w7.heap.size := by omega
  clear hk7 hz f1
  go_wp2
  refine bodyPost_ret (v := .tuple #[.agg #[.int .i64 0, .int .i64 0, .bool false], .int .i64 5]) ?_ rfl ⟨rfl, ?_⟩
  · simp [results, Tryz.results159, go_sem, q0, q1, q2]
  · refine (Kept.setCell (Kept.setCell (Kept.setCell K7 ?_ _) ?_ _) ?_ _) <;> simp

set_option maxHeartbeats 800000 in
theorem refget_ref_word (n : Int) (w : World) (h0 : 0 ≤ n) (h1 : n < 18446744073709551616) (hb : (putRef (rIdx n) (rGen n) (markOf n)).2 = 0) (ha : (putRef (rIdx n) (rGen n) (markOf n)).1 ≠ n) : Calls Tryz.prog 159 #[.int .u64 n] w fun e w' => e = .returned (.tuple #[.agg #[.int .i64 0, .int .i64 0, .bool false], .int .i64 5]) ∧ Kept w w' := by
  have HP : ∀ w, Hid (Calls Tryz.prog 199 #[.agg #[.int .i64 (rIdx n), .int .i64 (rGen n), .bool (markOf n)]] w fun e w' => e = .returned (.tuple #[.int .u64 ((putRef (rIdx n) (rGen n) (markOf n)).1), .int .i64 (0)]) ∧ Kept w w') := fun w => Lib.hid (by
    have h := refput_ref (rIdx n) (rGen n) (markOf n) w
    rw [hb] at h
    exact h)
  have H0 := Lib.hid h0; have H1 := Lib.hid h1
  have b0 : ((putRef (rIdx n) (rGen n) (markOf n)).1 != n) = true := by simp [ha]
  have HA := Lib.hid ha
  clear h0 h1 hb ha
  go_enter Tryz.func159, Tryz.ntmps159
  go_wp2_with fail
  refine (part_0_16 _ _ H0.out H1.out).mono ?_
  rintro e w1 ⟨rfl, hk1⟩
  go_wp2_with fail
  refine (part_16_32 _ _ H0.out H1.out).mono ?_
  rintro e w2 ⟨rfl, hk2⟩
  go_wp2_with fail
  refine (refmarked_any _ _).mono ?_
  rintro e w9 ⟨rfl, rfl⟩
  have hz := (hk1.trans hk2).size
  simp at hz
  have r0 : w2.cell? ⟨w.heap.size, 0, none⟩ = some (.int .i64 0) := (hk1.trans hk2).some (by simp [*])
  have r1 : w2.cell? ⟨w.heap.size, 1, none⟩ = some (.int .i64 0) := (hk1.trans hk2).some (by simp [*])
  have r2 : w2.cell? ⟨w.heap.size, 2, none⟩ = some (.bool false) := (hk1.trans hk2).some (by simp [*])
  have f1 : ∀ o, w2.frozen? ⟨w.heap.size, o, none⟩ = false := fun o => by rw [(hk1.trans hk2).froze]; simp
  have K1 : Kept w w2 := (((Kept.refl w).alloc _ _).trans (hk1.trans hk2))
  have hlt : w.heap.size < w2.heap.size := by omega
  clear hk1 hk2 hz
  go_wp2_with fail
  refine (HP _).out.mono ?_
  rintro e w7 ⟨rfl, hk7⟩
  have hz := hk7.size
  simp at hz
  have q0 : w7.cell? ⟨w.heap.size, 0, none⟩ = some (.int .i64 0) := hk7.some (by rw [World.cell?_alloc_past _ _ _ hlt]; exact r0)
  have q1 : w7.cell? ⟨w.heap.size, 1, none⟩ = some (.int .i64 0) := hk7.some (by rw [World.cell?_alloc_past _ _ _ hlt]; exact r1)
  have q2 : w7.cell? ⟨w.heap.size, 2, none⟩ = some (.bool false) := hk7.some (by rw [World.cell?_alloc_past _ _ _ hlt]; exact r2)
  have p0 : w7.cell? ⟨w2.heap.size, 0, none⟩ = some (.int .i64 (rIdx n)) := hk7.some (by simp <;> rfl)
  have p1 : w7.cell? ⟨w2.heap.size, 1, none⟩ = some (.int .i64 (rGen n)) := hk7.some (by simp <;> rfl)
  have p2 : w7.cell? ⟨w2.heap.size, 2, none⟩ = some (.bool (markOf n)) := hk7.some (by simp <;> rfl)
  have f7 : ∀ o, w7.frozen? ⟨w.heap.size, o, none⟩ = false := fun o => by rw [hk7.froze, frozen?_alloc_cells]; exact f1 o
  have K7 : Kept w w7 := ((K1.alloc _ _).trans hk7)
  have hlt7 : w.heap.size < w7.heap.size := by omega
  clear hk7 hz f1
  go_wp2
  refine bodyPost_ret (v := .tuple #[.agg #[.int .i64 0, .int .i64 0, .bool false], .int .i64 5]) ?_ rfl ⟨rfl, ?_⟩
  · simp [results, Tryz.results159, go_sem, q0, q1, q2]
  · refine (Kept.setCell (Kept.setCell (Kept.setCell K7 ?_ _) ?_ _) ?_ _) <;> simp

set_option maxHeartbeats 800000 in
theorem get_top_yes (n : Int) (w : World) (h0 : 0 ≤ n) (h1 : n < 18446744073709551616) : Calls Tryz.prog 201 #[.int .u64 n] w fun e w' => e = .returned (.tuple #[.agg #[.int .i64 (rIdx n), .int .i64 (tTag n)], .int .i64 0]) ∧ Kept w w' := by
  have HP : ∀ w, Hid (Calls Tryz.prog 219 #[.agg #[.int .i64 (rIdx n), .int .i64 (tTag n)]] w fun e w' => e = .returned (.tuple #[.int .u64 (n), .int .i64 (0)]) ∧ Kept w w') := fun w => Lib.hid (by
    have h := put_top (rIdx n) (tTag n) w (by have := rIdx_lo n; omega) (by have := rIdx_hi n; omega)
    rw [top_good n h0 h1] at h
    exact h)
  have H0 := Lib.hid h0; have H1 := Lib.hid h1
  clear h0 h1
  go_enter Tryz.func201, Tryz.ntmps201
  go_wp2_with fail
  refine (value_top _ _ H0.out H1.out).mono ?_
  rintro e w1 ⟨rfl, hk1⟩
  go_wp2_with fail
  refine (meaning_top_yes _ _ _ _ HP).mono ?_
  rintro e w2 ⟨rfl, hk2⟩
  have hz := (hk1.trans hk2).size
  simp at hz
  have r0 : w2.cell? ⟨w.heap.size, 0, none⟩ = some (.int .i64 0) := (hk1.trans hk2).some (by simp [*])
  have r1 : w2.cell? ⟨w.heap.size, 1, none⟩ = some (.int .i64 0) := (hk1.trans hk2).some (by simp [*])
  have f1 : ∀ o, w2.frozen? ⟨w.heap.size, o, none⟩ = false := fun o => by rw [(hk1.trans hk2).froze]; simp
  have K1 : Kept w w2 := (((Kept.refl w).alloc _ _).trans (hk1.trans hk2))
  have hlt : w.heap.size < w2.heap.size := by omega
  clear hk1 hk2 hz
  go_wp2
  refine bodyPost_ret (v := .tuple #[.agg #[.int .i64 (rIdx n), .int .i64 (tTag n)], .int .i64 0]) ?_ rfl ⟨rfl, ?_⟩
  · simp [results, Tryz.results201, go_sem, r0, r1]
  · refine (Kept.setCell (Kept.setCell K1 ?_ _) ?_ _) <;> simp

end Go.Proofs.YtejiogggocnldaaGreat.Wo

namespace Go.Proofs.YtejiogggocnldaaGreat.Sk
set_option maxRecDepth 20000
open Go.RowKit
open Wo (St acc wordAt)

theorem g_top (n : Int) (w : World) (h0 : 0 ≤ n) (h1 : n < 18446744073709551616) : Calls Tryz.prog 201 #[.int .u64 n] w fun e w' => e = .returned (.tuple #[.agg #[.int .i64 (n % 65536 - 1), .int .i64 (n / 65536 % 281474976710656)], .int .i64 0]) ∧ Kept w w' :=
  (Wo.get_top_yes n w h0 h1).mono fun _ _ ⟨x, k⟩ => ⟨x, kept_of k⟩
theorem u_top (i t : Int) (w : World) (h : -1 ≤ i ∧ i ≤ 65534 ∧ 0 ≤ t ∧ t ≤ 281474976710655) : Calls Tryz.prog 219 #[.agg #[.int .i64 i, .int .i64 t]] w fun e w' => e = .returned (.tuple #[.int .u64 (i + 1 + t * 65536), .int .i64 0]) ∧ Kept w w' :=
  (Wo.put_top_good i t w h).mono fun _ _ ⟨x, k⟩ => ⟨x, kept_of k⟩

set_option maxHeartbeats 400000 in
theorem link_any (T K N i : Int) (w : World) : Calls Tryz.prog 221 #[.agg #[.int .i64 T, .int .i64 K, .int .i64 N], .int .i64 i] w fun e w' => e = .returned (.int .i64 (wrap64 (K + i))) ∧ Kept w w' := by
  go_enter Tryz.func221, Tryz.ntmps221
  go_wp2
  go_ret
  exact ⟨rfl, by (go_light; repeat (first | (with_reducible exact Kept.refl _) | (with_reducible assumption) | (with_reducible refine Kept.alloc ?_ _ _) | (with_reducible refine Kept.drew ?_) | (with_reducible refine Kept.drewN ?_ _) | ((with_reducible refine Kept.setCell ?_ ?_ _); rotate_left; focus (first | (simp; done) | (simp; omega))) | refine Kept.trans ?_ (by assumption)))⟩
theorem link_in (T K N i : Int) (w : World) (h0 : 0 ≤ K) (h1 : K ≤ 100000) (h2 : -1 ≤ i) (h3 : i ≤ 100000) : Calls Tryz.prog 221 #[.agg #[.int .i64 T, .int .i64 K, .int .i64 N], .int .i64 i] w fun e w' => e = .returned (.int .i64 (K + i)) ∧ Kept w w' :=
  (link_any T K N i w).mono fun _ _ ⟨x, k⟩ => ⟨by rw [x, show wrap64 (K + i) = K + i by unfold wrap64; omega], k⟩

set_option maxHeartbeats 400000 in
theorem untagged_any (i : Int) (w : World) (h0 : -1 ≤ i) (h1 : i ≤ 65534) : Calls Tryz.prog 220 #[.int .i64 i] w fun e w' => e = .returned (.int .u64 (i + 1)) ∧ Kept w w' := by
  have hp : ∀ w, Hid (Calls Tryz.prog 219 #[.agg #[.int .i64 i, .int .i64 0]] w fun e w' => e = .returned (.tuple #[.int .u64 (i + 1), .int .i64 0]) ∧ Kept w w') := fun w => Lib.hid (by
    have h := u_top i 0 w ⟨h0, h1, by omega, by omega⟩
    rw [Int.zero_mul, Int.add_zero] at h
    exact h)
  clear h0 h1
  go_enter Tryz.func220, Tryz.ntmps220
  go_wp2_with fail
  refine (hp _).out.mono ?_
  rintro e w1 ⟨rfl, k1⟩
  go_wp2
  go_ret
  exact ⟨rfl, by (go_light; repeat (first | (with_reducible exact Kept.refl _) | (with_reducible assumption) | (with_reducible refine Kept.alloc ?_ _ _) | (with_reducible refine Kept.drew ?_) | (with_reducible refine Kept.drewN ?_ _) | ((with_reducible refine Kept.setCell ?_ ?_ _); rotate_left; focus (first | (simp; done) | (simp; omega))) | refine Kept.trans ?_ (by assumption)))⟩

theorem and_tag (x : Int) (h0 : 0 ≤ x) (h1 : x ≤ 281474976710656) : bits .and .i64 x 281474976710655 = x % 281474976710656 :=
  bits_mask .i64 62 (by decide) (fun n a b => by have := Wo.wi n a (by omega); unfold wrap64 at this; rw [IntKind.wrap_i64]; exact this) 48 (by decide) x h0 (by omega)

set_option maxHeartbeats 800000 in
theorem ref_index (T K N x : Int) (w : World) (x0 : 0 ≤ x) (x1 : x < 18446744073709551616) : Calls Tryz.prog 160 #[.agg #[.int .i64 T, .int .i64 K, .int .i64 N], .int .u64 x] w fun e w' => e = .returned (.int .i64 (idx N x)) ∧ Kept w w' := by
  have m0 : 0 ≤ x % 65536 := by omega
  have m1 : x % 65536 < 65536 := by omega
  by_cases h : x % 65536 - 1 < N
  · have E : Hid (idx N x = x % 65536 - 1) := Lib.hid (by unfold idx; rw [if_pos h])
    go_enter Tryz.func160, Tryz.ntmps160
    go_wp2
    go_ret
    exact ⟨by rw [E.out]; rfl, by (go_light; repeat (first | (with_reducible exact Kept.refl _) | (with_reducible assumption) | (with_reducible refine Kept.alloc ?_ _ _) | (with_reducible refine Kept.drew ?_) | (with_reducible refine Kept.drewN ?_ _) | ((with_reducible refine Kept.setCell ?_ ?_ _); rotate_left; focus (first | (simp; done) | (simp; omega))) | refine Kept.trans ?_ (by assumption)))⟩
  · have E : Hid (idx N x = -1) := Lib.hid (by unfold idx; rw [if_neg h])
    have h1 : N ≤ x % 65536 - 1 := by omega
    clear h
    go_enter Tryz.func160, Tryz.ntmps160
    go_wp2
    go_ret
    exact ⟨by rw [E.out]; rfl, by (go_light; repeat (first | (with_reducible exact Kept.refl _) | (with_reducible assumption) | (with_reducible refine Kept.alloc ?_ _ _) | (with_reducible refine Kept.drew ?_) | (with_reducible refine Kept.drewN ?_ _) | ((with_reducible refine Kept.setCell ?_ ?_ _); rotate_left; focus (first | (simp; done) | (simp; omega))) | refine Kept.trans ?_ (by assumption)))⟩
end Go.Proofs.YtejiogggocnldaaGreat.Sk

namespace Go.Proofs.YtejiogggocnldaaGreat.Sk
set_option maxRecDepth 20000
open Go.RowKit
open Wo (St acc wordAt PMem RefIs)

structure OpAt (w : World) (P o : Nat) (S : Stk) (W L : Int) (nx : Value) (er : Int) : Prop where
  c0 : w.cell? ⟨P, o, none⟩ = some (.bool true)
  c1 : w.cell? ⟨P, o + 1, none⟩ = some (.int .i64 S.T)
  c2 : w.cell? ⟨P, o + 2, none⟩ = some (.int .i64 S.K)
  c3 : w.cell? ⟨P, o + 3, none⟩ = some (.int .i64 S.N)
  c4 : w.cell? ⟨P, o + 4, none⟩ = some (.int .u64 W)
  c5 : w.cell? ⟨P, o + 5, none⟩ = some (.int .u64 L)
  c6 : w.cell? ⟨P, o + 6, none⟩ = some nx
  c7 : w.cell? ⟨P, o + 7, none⟩ = some (.int .i64 er)
  f : ∀ i, w.frozen? ⟨P, i, none⟩ = false

theorem OpAt.lt {w : World} {P o : Nat} {S : Stk} {W L : Int} {nx : Value} {er : Int} (h : OpAt w P o S W L nx er) : P < w.heap.size := lt_of_cell h.c0
theorem OpAt.frame {w w' : World} {P o : Nat} {S : Stk} {W L : Int} {nx : Value} {er : Int} (h : OpAt w P o S W L nx er) {T : Nat → Prop} (hb : But T w w') (hP : ¬ T P) : OpAt w' P o S W L nx er :=
  ⟨hb.some h.c0 hP, hb.some h.c1 hP, hb.some h.c2 hP, hb.some h.c3 hP, hb.some h.c4 hP, hb.some h.c5 hP, hb.some h.c6 hP, hb.some h.c7 hP, fun i => hb.soft h.lt (h.f i)⟩
theorem OpAt.kept {w w' : World} {P o : Nat} {S : Stk} {W L : Int} {nx : Value} {er : Int} (h : OpAt w P o S W L nx er) (k : Kept w w') : OpAt w' P o S W L nx er := h.frame (k.but (fun _ => False)) id

structure Chg (P o m B : Nat) (w w' : World) : Prop where
  but : But (fun k => k = P ∨ k = B) w w'
  out : ∀ j, (j < o ∨ o + m ≤ j) → w'.cell? ⟨P, j, none⟩ = w.cell? ⟨P, j, none⟩

theorem Chg.refl (P o m B : Nat) (w : World) : Chg P o m B w w := ⟨But.refl _ _, fun _ _ => rfl⟩
theorem Chg.trans {P o m B : Nat} {a b c : World} (h : Chg P o m B a b) (k : Chg P o m B b c) : Chg P o m B a c :=
  ⟨h.but.trans k.but (fun _ _ h => h), fun j hj => (k.out j hj).trans (h.out j hj)⟩
theorem Chg.keep {P o m B : Nat} {a b c : World} (h : Chg P o m B a b) (k : Kept b c) (hP : P < a.heap.size) : Chg P o m B a c :=
  ⟨h.but.then k, fun j hj => (k.cell P j (Nat.lt_of_lt_of_le hP h.but.size)).trans (h.out j hj)⟩
theorem Chg.mem {P o m B : Nat} {a b c : World} (h : Chg P o m B a b) (k : But (fun k => k = B) b c) (hP : P < a.heap.size) (hPB : P ≠ B) : Chg P o m B a c :=
  ⟨h.but.trans k (fun _ _ h => Or.inr h), fun j hj => (k.cell P j (Nat.lt_of_lt_of_le hP h.but.size) hPB).trans (h.out j hj)⟩
theorem Chg.set {P o m B : Nat} {a b : World} (h : Chg P o m B a b) (j : Nat) (hj : o ≤ j ∧ j < o + m) (v : Value) : Chg P o m B a (b.setCell ⟨P, j, none⟩ v) :=
  ⟨h.but.setCell (p := ⟨P, j, none⟩) (Or.inl (Or.inl rfl)) v, fun i hi => by rw [cell_set, if_neg (by omega)]; exact h.out i hi⟩
theorem Chg.alloc {P o m B : Nat} {a b : World} (h : Chg P o m B a b) (hP : P < a.heap.size) (c : Array Value) (t : TypeId) : Chg P o m B a (b.alloc (.cells c t)) := h.keep ((Kept.refl b).alloc c t) hP
theorem Chg.drew {P o m B : Nat} {a b : World} (h : Chg P o m B a b) (hP : P < a.heap.size) : Chg P o m B a b.drew := h.keep (Kept.refl b).drew hP
theorem Chg.drewN {P o m B : Nat} {a b : World} (h : Chg P o m B a b) (hP : P < a.heap.size) (n : Nat) : Chg P o m B a (b.drewN n) := h.keep ((Kept.refl b).drewN n) hP
theorem Chg.some {P o m B : Nat} {w w' : World} (h : Chg P o m B w w') {j : Nat} {v : Value} (hc : w.cell? ⟨P, j, none⟩ = some v) (hj : j < o ∨ o + m ≤ j) : w'.cell? ⟨P, j, none⟩ = some v := (h.out j hj).trans hc
theorem Chg.wide {P o m o' m' B : Nat} {w w' : World} (h : Chg P o m B w w') (h0 : o' ≤ o) (h1 : o + m ≤ o' + m') : Chg P o' m' B w w' := ⟨h.but, fun j hj => h.out j (by omega)⟩
theorem Chg.any {P o m : Nat} {w w' : World} (h : Chg P o m P w w') (B : Nat) : Chg P o m B w w' := ⟨h.but.mono (fun _ _ h => h.elim Or.inl Or.inl), h.out⟩
theorem Chg.own {P o m : Nat} {w w' : World} (h : Chg P o m P w w') : But (fun k => k = P) w w' := h.but.mono (fun _ _ h => h.elim id id)
end Go.Proofs.YtejiogggocnldaaGreat.Sk

namespace Go.Proofs.YtejiogggocnldaaGreat.Sk
set_option maxRecDepth 20000
open Go.RowKit
open Wo (St acc wordAt PMem RefIs)

end Go.Proofs.YtejiogggocnldaaGreat.Sk

namespace Go.Proofs.YtejiogggocnldaaGreat.Sk
set_option maxRecDepth 20000
open Go.RowKit
open Wo (St acc wordAt PMem RefIs)
end Go.Proofs.YtejiogggocnldaaGreat.Sk

namespace Go.Proofs.YtejiogggocnldaaGreat.Sk
set_option maxRecDepth 20000
open Go.RowKit
open Wo (St acc wordAt PMem RefIs)

end Go.Proofs.YtejiogggocnldaaGreat.Sk

namespace Go.Proofs.YtejiogggocnldaaGreat.Sk
set_option maxRecDepth 20000
open Go.RowKit
open Wo (St acc wordAt PMem RefIs)
end Go.Proofs.YtejiogggocnldaaGreat.Sk

namespace Go.Proofs.YtejiogggocnldaaGreat.Sk
set_option maxRecDepth 20000
open Go.RowKit
open Wo (St acc wordAt PMem RefIs)

end Go.Proofs.YtejiogggocnldaaGreat.Sk

namespace Go.Proofs.YtejiogggocnldaaGreat.Sk
set_option maxRecDepth 20000
open Go.RowKit
open Wo (St acc wordAt PMem RefIs)
end Go.Proofs.YtejiogggocnldaaGreat.Sk

namespace Go.Proofs.YtejiogggocnldaaGreat.Sk
set_option maxRecDepth 20000
open Go.RowKit
open Wo (St acc wordAt PMem RefIs)
end Go.Proofs.YtejiogggocnldaaGreat.Sk

namespace Go.Proofs.YtejiogggocnldaaGreat.Sk
set_option maxRecDepth 20000
open Go.RowKit
open Wo (St acc wordAt PMem RefIs)
end Go.Proofs.YtejiogggocnldaaGreat.Sk

namespace Go.Proofs.YtejiogggocnldaaGreat.Sk
set_option maxRecDepth 20000
open Go.RowKit
open Wo (St acc wordAt PMem RefIs)
end Go.Proofs.YtejiogggocnldaaGreat.Sk

namespace Go.Proofs.YtejiogggocnldaaGreat.Sk
set_option maxRecDepth 20000
open Go.RowKit
open Wo (St acc wordAt PMem RefIs)

structure Op.Good (x : Op) : Prop where
  w0 : 0 ≤ x.W
  w1 : x.W < 18446744073709551616
  l0 : 0 ≤ x.L
  l1 : x.L < 18446744073709551616

def Stepped (At : World → Prop) (M B n : Nat) (s' : St) (P o : Nat) (b : Bool) (w : World) (e : Ending) (w' : World) : Prop :=
  e = .returned (.bool b) ∧ At w' ∧ PMem w' M B n s' ∧ Chg P o 8 B w w'

def lines (x : Op) : Prop := x.line = 1 ∨ x.line = 2 ∨ x.line = 3 ∨ x.line = 9

def took (S : Stk) (x : Op) : Prop := (x.line = 2 ∨ x.line = 3) → 0 ≤ idx S.N x.W
theorem no31 : ¬ (3 : Nat) = 1 := by decide
theorem no32 : ¬ (3 : Nat) = 2 := by decide
theorem no91 : ¬ (9 : Nat) = 1 := by decide
theorem no92 : ¬ (9 : Nat) = 2 := by decide
theorem no93 : ¬ (9 : Nat) = 3 := by decide
theorem no21 : ¬ (2 : Nat) = 1 := by decide

theorem popOp_good {n : Nat} {S : Stk} {s : St} {x : Op} (hx : x.Good) (hl : lines x) (ht : took S x) (hs : Wd n s) : (popOp n S s x).Good ∧ lines (popOp n S s x) ∧ took S (popOp n S s x) := by
  obtain ⟨l, W, L⟩ := x
  have w1 := hs.word S.T
  have w2 := hs.word (S.K + idx S.N W)
  unfold popOp
  rcases hl with h | h | h | h
  · obtain rfl : l = 1 := h
    rw [if_pos rfl]
    refine ⟨⟨w1.1, w1.2, hx.l0, hx.l1⟩, ?_, fun h => ?_⟩
    · unfold lines; dsimp only; split <;> simp
    · dsimp only at h ⊢
      split at h
      · omega
      · omega
  · obtain rfl : l = 2 := h
    rw [if_neg no21, if_pos rfl]
    exact ⟨⟨hx.w0, hx.w1, w2.1, w2.2⟩, Or.inr (Or.inr (Or.inl rfl)), fun _ => ht (Or.inl rfl)⟩
  · obtain rfl : l = 3 := h
    rw [if_neg no31, if_neg no32, if_pos rfl]
    refine ⟨⟨hx.w0, hx.w1, hx.l0, hx.l1⟩, ?_, fun _ => ht (Or.inr rfl)⟩
    unfold lines; dsimp only; split <;> simp
  · obtain rfl : l = 9 := h
    rw [if_neg no91, if_neg no92, if_neg no93]
    exact ⟨hx, Or.inr (Or.inr (Or.inr rfl)), ht⟩
theorem allOp_good {n : Nat} {S : Stk} {s : St} {x : Op} (hx : x.Good) (hl : lines x) (h3 : x.line ≠ 3) (ht : took S x) (hs : Wd n s) : (allOp n S s x).Good ∧ lines (allOp n S s x) ∧ (allOp n S s x).line ≠ 3 ∧ took S (allOp n S s x) := by
  obtain ⟨l, W, L⟩ := x
  have w1 := hs.word S.T
  unfold allOp
  rcases hl with h | h | h | h
  · obtain rfl : l = 1 := h
    rw [if_pos rfl]
    refine ⟨⟨w1.1, w1.2, hx.l0, hx.l1⟩, ?_, ?_, fun h => ?_⟩
    · unfold lines; dsimp only; split <;> simp
    · dsimp only; split <;> decide
    · dsimp only at h ⊢
      split at h
      · omega
      · omega
  · obtain rfl : l = 2 := h
    rw [if_neg no21, if_pos rfl]
    refine ⟨⟨hx.w0, hx.w1, hx.l0, hx.l1⟩, ?_, ?_, fun _ => ht (Or.inl rfl)⟩
    · unfold lines; dsimp only; split <;> simp
    · dsimp only; split <;> decide
  · exact absurd h h3
  · obtain rfl : l = 9 := h
    rw [if_neg no91, if_neg no92]
    exact ⟨hx, Or.inr (Or.inr (Or.inr rfl)), h3, ht⟩
theorem pushOp_good {n : Nat} {S : Stk} {s : St} {x : Op} (hx : x.Good) (hl : lines x) (hs : Wd n s) : (pushOp n S s x).Good ∧ lines (pushOp n S s x) := by
  obtain ⟨l, W, L⟩ := x
  have w1 := hs.word S.T
  unfold pushOp
  rcases hl with h | h | h | h
  · obtain rfl : l = 1 := h
    rw [if_pos rfl]
    exact ⟨⟨w1.1, w1.2, hx.l0, hx.l1⟩, Or.inr (Or.inl rfl)⟩
  · obtain rfl : l = 2 := h
    rw [if_neg no21, if_pos rfl]
    exact ⟨⟨hx.w0, hx.w1, hx.l0, hx.l1⟩, Or.inr (Or.inr (Or.inl rfl))⟩
  · obtain rfl : l = 3 := h
    rw [if_neg no31, if_neg no32, if_pos rfl]
    refine ⟨⟨hx.w0, hx.w1, hx.l0, hx.l1⟩, ?_⟩
    unfold lines; dsimp only; split <;> simp
  · obtain rfl : l = 9 := h
    rw [if_neg no91, if_neg no92, if_neg no93]
    exact ⟨hx, Or.inr (Or.inr (Or.inr rfl))⟩

def Made (At : World → Nat → Prop) (w : World) (e : Ending) (w' : World) : Prop :=
  ∃ P, e = .returned (.pointer (some ⟨P, 0, none⟩)) ∧ w.heap.size ≤ P ∧ P < w'.heap.size ∧ At w' P ∧ Kept w w'
end Go.Proofs.YtejiogggocnldaaGreat.Sk
