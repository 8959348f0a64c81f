/- Get of each kind: the program's and the document's. -/
import Derived.Test.YtflggocnhinfeaaMean
namespace Go.Proofs.Ytflggocnhinfeaa
open Go.RowKit

set_option maxHeartbeats 800000 in
theorem get_ref_yes (n : Int) (w : World) (h0 : 0 ≤ n) (h1 : n < 18446744073709551616) (hg : goodRef n = true) : Calls Try.prog 18 #[.int .u64 n] w fun e w' => e = .returned (.tuple #[.agg #[.int .i64 (rIdx n), .int .i64 (rGen n), .bool (markOf n)], .int .i64 0]) ∧ Kept w w' := by
  have HP : ∀ w, Hid (Calls Try.prog 9 #[.agg #[.int .i64 (rIdx n), .int .i64 (rGen n), .bool (markOf n)]] w fun e w' => e = .returned (.tuple #[.int .u64 (n), .int .i64 (0)]) ∧ Kept w w') := fun w => Lib.hid (by
    have h := put_ref (rIdx n) (rGen n) (markOf n) w (by have := rIdx_lo n; omega) (by have := rIdx_hi n; omega)
    rw [pair_yes hg] at h
    exact h)
  have H0 := Lib.hid h0; have H1 := Lib.hid h1
  clear h0 h1 hg
  go_enter Try.func18, Try.ntmps18
  go_wp2_with fail
  refine (value_ref _ _ H0.out H1.out).mono ?_
  rintro e w1 ⟨rfl, hk1⟩
  go_wp2_with fail
  refine (meaning_ref_yes _ _ _ _ _ HP).mono ?_
  rintro e w2 ⟨rfl, hk2⟩
  have hz := (hk1.trans hk2).size
  simp at hz
  have r0 : w2.cell? ⟨w.heap.size, 0, none⟩ = some (.int .i64 0) := (hk1.trans hk2).some (by simp [*])
  have r1 : w2.cell? ⟨w.heap.size, 1, none⟩ = some (.int .i64 0) := (hk1.trans hk2).some (by simp [*])
  have r2 : w2.cell? ⟨w.heap.size, 2, none⟩ = some (.bool false) := (hk1.trans hk2).some (by simp [*])
  have f1 : ∀ o, w2.frozen? ⟨w.heap.size, o, none⟩ = false := fun o => by rw [(hk1.trans hk2).froze]; simp
  have K1 : Kept w w2 := (((Kept.refl w).alloc _ _).trans (hk1.trans hk2))
  have hlt : w.heap.size < w2.heap.size := by omega
  clear hk1 hk2 hz
  go_wp2
  refine bodyPost_ret (v := .tuple #[.agg #[.int .i64 (rIdx n), .int .i64 (rGen n), .bool (markOf n)], .int .i64 0]) ?_ rfl ⟨rfl, ?_⟩
  · simp [results, Try.results18, go_sem, r0, r1, r2]
  · refine (Kept.setCell (Kept.setCell (Kept.setCell K1 ?_ _) ?_ _) ?_ _) <;> simp

set_option maxHeartbeats 800000 in
theorem get_ref_err (n : Int) (w : World) (h0 : 0 ≤ n) (h1 : n < 18446744073709551616) (hb : (putRef (rIdx n) (rGen n) (markOf n)).2 ≠ 0) : Calls Try.prog 18 #[.int .u64 n] w fun e w' => e = .returned (.tuple #[.agg #[.int .i64 0, .int .i64 0, .bool false], .int .i64 5]) ∧ Kept w w' := by
  have HP : ∀ w, Hid (Calls Try.prog 9 #[.agg #[.int .i64 (rIdx n), .int .i64 (rGen n), .bool (markOf n)]] w fun e w' => e = .returned (.tuple #[.int .u64 ((putRef (rIdx n) (rGen n) (markOf n)).1), .int .i64 ((putRef (rIdx n) (rGen n) (markOf n)).2)]) ∧ Kept w w') := fun w => Lib.hid (by
    have h := put_ref (rIdx n) (rGen n) (markOf n) w (by have := rIdx_lo n; omega) (by have := rIdx_hi n; omega)
    exact h)
  have H0 := Lib.hid h0; have H1 := Lib.hid h1
  have HB := Lib.hid hb
  clear h0 h1 hb
  go_enter Try.func18, Try.ntmps18
  go_wp2_with fail
  refine (value_ref _ _ H0.out H1.out).mono ?_
  rintro e w1 ⟨rfl, hk1⟩
  go_wp2_with fail
  refine (meaning_ref_err _ _ _ _ _ _ _ HP HB.out).mono ?_
  rintro e w2 ⟨rfl, hk2⟩
  have hz := (hk1.trans hk2).size
  simp at hz
  have r0 : w2.cell? ⟨w.heap.size, 0, none⟩ = some (.int .i64 0) := (hk1.trans hk2).some (by simp [*])
  have r1 : w2.cell? ⟨w.heap.size, 1, none⟩ = some (.int .i64 0) := (hk1.trans hk2).some (by simp [*])
  have r2 : w2.cell? ⟨w.heap.size, 2, none⟩ = some (.bool false) := (hk1.trans hk2).some (by simp [*])
  have f1 : ∀ o, w2.frozen? ⟨w.heap.size, o, none⟩ = false := fun o => by rw [(hk1.trans hk2).froze]; simp
  have K1 : Kept w w2 := (((Kept.refl w).alloc _ _).trans (hk1.trans hk2))
  have hlt : w.heap.size < w2.heap.size := by omega
  clear hk1 hk2 hz
  go_wp2
  refine bodyPost_ret (v := .tuple #[.agg #[.int .i64 0, .int .i64 0, .bool false], .int .i64 5]) ?_ rfl ⟨rfl, ?_⟩
  · simp [results, Try.results18, go_sem, r0, r1, r2]
  · refine (Kept.setCell (Kept.setCell (Kept.setCell K1 ?_ _) ?_ _) ?_ _) <;> simp

set_option maxHeartbeats 800000 in
theorem get_ref_word (n : Int) (w : World) (h0 : 0 ≤ n) (h1 : n < 18446744073709551616) (hb : (putRef (rIdx n) (rGen n) (markOf n)).2 = 0) (ha : (putRef (rIdx n) (rGen n) (markOf n)).1 ≠ n) : Calls Try.prog 18 #[.int .u64 n] w fun e w' => e = .returned (.tuple #[.agg #[.int .i64 0, .int .i64 0, .bool false], .int .i64 5]) ∧ Kept w w' := by
  have HP : ∀ w, Hid (Calls Try.prog 9 #[.agg #[.int .i64 (rIdx n), .int .i64 (rGen n), .bool (markOf n)]] w fun e w' => e = .returned (.tuple #[.int .u64 ((putRef (rIdx n) (rGen n) (markOf n)).1), .int .i64 (0)]) ∧ Kept w w') := fun w => Lib.hid (by
    have h := put_ref (rIdx n) (rGen n) (markOf n) w (by have := rIdx_lo n; omega) (by have := rIdx_hi n; omega)
    rw [hb] at h
    exact h)
  have H0 := Lib.hid h0; have H1 := Lib.hid h1
  have HA := Lib.hid ha
  clear h0 h1 hb ha
  go_enter Try.func18, Try.ntmps18
  go_wp2_with fail
  refine (value_ref _ _ H0.out H1.out).mono ?_
  rintro e w1 ⟨rfl, hk1⟩
  go_wp2_with fail
  refine (meaning_ref_word _ _ _ _ _ _ HP HA.out).mono ?_
  rintro e w2 ⟨rfl, hk2⟩
  have hz := (hk1.trans hk2).size
  simp at hz
  have r0 : w2.cell? ⟨w.heap.size, 0, none⟩ = some (.int .i64 0) := (hk1.trans hk2).some (by simp [*])
  have r1 : w2.cell? ⟨w.heap.size, 1, none⟩ = some (.int .i64 0) := (hk1.trans hk2).some (by simp [*])
  have r2 : w2.cell? ⟨w.heap.size, 2, none⟩ = some (.bool false) := (hk1.trans hk2).some (by simp [*])
  have f1 : ∀ o, w2.frozen? ⟨w.heap.size, o, none⟩ = false := fun o => by rw [(hk1.trans hk2).froze]; simp
  have K1 : Kept w w2 := (((Kept.refl w).alloc _ _).trans (hk1.trans hk2))
  have hlt : w.heap.size < w2.heap.size := by omega
  clear hk1 hk2 hz
  go_wp2
  refine bodyPost_ret (v := .tuple #[.agg #[.int .i64 0, .int .i64 0, .bool false], .int .i64 5]) ?_ rfl ⟨rfl, ?_⟩
  · simp [results, Try.results18, go_sem, r0, r1, r2]
  · refine (Kept.setCell (Kept.setCell (Kept.setCell K1 ?_ _) ?_ _) ?_ _) <;> simp

set_option maxHeartbeats 800000 in
theorem refget_ref_yes (n : Int) (w : World) (h0 : 0 ≤ n) (h1 : n < 18446744073709551616) (hg : goodRef n = true) : Calls Try.prog 19 #[.int .u64 n] w fun e w' => e = .returned (.tuple #[.agg #[.int .i64 (rIdx n), .int .i64 (rGen n), .bool (markOf n)], .int .i64 0]) ∧ Kept w w' := by
  have HP : ∀ w, Hid (Calls Try.prog 10 #[.agg #[.int .i64 (rIdx n), .int .i64 (rGen n), .bool (markOf n)]] w fun e w' => e = .returned (.tuple #[.int .u64 (n), .int .i64 (0)]) ∧ Kept w w') := fun w => Lib.hid (by
    have h := refput_ref (rIdx n) (rGen n) (markOf n) w
    rw [pair_yes hg] at h
    exact h)
  have H0 := Lib.hid h0; have H1 := Lib.hid h1
  clear h0 h1 hg
  go_enter Try.func19, Try.ntmps19
  go_wp2_with fail
  refine (part_0_16 _ _ H0.out H1.out).mono ?_
  rintro e w1 ⟨rfl, hk1⟩
  go_wp2_with fail
  refine (part_16_32 _ _ H0.out H1.out).mono ?_
  rintro e w2 ⟨rfl, hk2⟩
  go_wp2_with fail
  refine (refmarked_any _ _).mono ?_
  rintro e w9 ⟨rfl, rfl⟩
  have hz := (hk1.trans hk2).size
  simp at hz
  have r0 : w2.cell? ⟨w.heap.size, 0, none⟩ = some (.int .i64 0) := (hk1.trans hk2).some (by simp [*])
  have r1 : w2.cell? ⟨w.heap.size, 1, none⟩ = some (.int .i64 0) := (hk1.trans hk2).some (by simp [*])
  have r2 : w2.cell? ⟨w.heap.size, 2, none⟩ = some (.bool false) := (hk1.trans hk2).some (by simp [*])
  have f1 : ∀ o, w2.frozen? ⟨w.heap.size, o, none⟩ = false := fun o => by rw [(hk1.trans hk2).froze]; simp
  have K1 : Kept w w2 := (((Kept.refl w).alloc _ _).trans (hk1.trans hk2))
  have hlt : w.heap.size < w2.heap.size := by omega
  clear hk1 hk2 hz
  go_wp2_with fail
  refine (HP _).out.mono ?_
  rintro e w7 ⟨rfl, hk7⟩
  have hz := hk7.size
  simp at hz
  have q0 : w7.cell? ⟨w.heap.size, 0, none⟩ = some (.int .i64 0) := hk7.some (by rw [World.cell?_alloc_past _ _ _ hlt]; exact r0)
  have q1 : w7.cell? ⟨w.heap.size, 1, none⟩ = some (.int .i64 0) := hk7.some (by rw [World.cell?_alloc_past _ _ _ hlt]; exact r1)
  have q2 : w7.cell? ⟨w.heap.size, 2, none⟩ = some (.bool false) := hk7.some (by rw [World.cell?_alloc_past _ _ _ hlt]; exact r2)
  have p0 : w7.cell? ⟨w2.heap.size, 0, none⟩ = some (.int .i64 (rIdx n)) := hk7.some (by simp <;> rfl)
  have p1 : w7.cell? ⟨w2.heap.size, 1, none⟩ = some (.int .i64 (rGen n)) := hk7.some (by simp <;> rfl)
  have p2 : w7.cell? ⟨w2.heap.size, 2, none⟩ = some (.bool (markOf n)) := hk7.some (by simp <;> rfl)
  have f7 : ∀ o, w7.frozen? ⟨w.heap.size, o, none⟩ = false := fun o => by rw [hk7.froze, frozen?_alloc_cells]; exact f1 o
  have K7 : Kept w w7 := ((K1.alloc _ _).trans hk7)
  have hlt7 : w.heap.size < w7.heap.size := by omega
  clear hk7 hz f1
  go_wp2
  refine bodyPost_ret (v := .tuple #[.agg #[.int .i64 (rIdx n), .int .i64 (rGen n), .bool (markOf n)], .int .i64 0]) ?_ rfl ⟨rfl, ?_⟩
  · simp [results, Try.results19, go_sem, q0, q1, q2]
  · refine (Kept.setCell (Kept.setCell (Kept.setCell K7 ?_ _) ?_ _) ?_ _) <;> simp

set_option maxHeartbeats 800000 in
theorem refget_ref_err (n : Int) (w : World) (h0 : 0 ≤ n) (h1 : n < 18446744073709551616) (hb : (putRef (rIdx n) (rGen n) (markOf n)).2 ≠ 0) : Calls Try.prog 19 #[.int .u64 n] w fun e w' => e = .returned (.tuple #[.agg #[.int .i64 0, .int .i64 0, .bool false], .int .i64 5]) ∧ Kept w w' := by
  have HP : ∀ w, Hid (Calls Try.prog 10 #[.agg #[.int .i64 (rIdx n), .int .i64 (rGen n), .bool (markOf n)]] w fun e w' => e = .returned (.tuple #[.int .u64 ((putRef (rIdx n) (rGen n) (markOf n)).1), .int .i64 ((putRef (rIdx n) (rGen n) (markOf n)).2)]) ∧ Kept w w') := fun w => Lib.hid (by
    have h := refput_ref (rIdx n) (rGen n) (markOf n) w
    exact h)
  have H0 := Lib.hid h0; have H1 := Lib.hid h1
  have b0 : ((putRef (rIdx n) (rGen n) (markOf n)).2 != 0) = true := by simp [hb]
  have HB := Lib.hid hb
  clear h0 h1 hb
  go_enter Try.func19, Try.ntmps19
  go_wp2_with fail
  refine (part_0_16 _ _ H0.out H1.out).mono ?_
  rintro e w1 ⟨rfl, hk1⟩
  go_wp2_with fail
  refine (part_16_32 _ _ H0.out H1.out).mono ?_
  rintro e w2 ⟨rfl, hk2⟩
  go_wp2_with fail
  refine (refmarked_any _ _).mono ?_
  rintro e w9 ⟨rfl, rfl⟩
  have hz := (hk1.trans hk2).size
  simp at hz
  have r0 : w2.cell? ⟨w.heap.size, 0, none⟩ = some (.int .i64 0) := (hk1.trans hk2).some (by simp [*])
  have r1 : w2.cell? ⟨w.heap.size, 1, none⟩ = some (.int .i64 0) := (hk1.trans hk2).some (by simp [*])
  have r2 : w2.cell? ⟨w.heap.size, 2, none⟩ = some (.bool false) := (hk1.trans hk2).some (by simp [*])
  have f1 : ∀ o, w2.frozen? ⟨w.heap.size, o, none⟩ = false := fun o => by rw [(hk1.trans hk2).froze]; simp
  have K1 : Kept w w2 := (((Kept.refl w).alloc _ _).trans (hk1.trans hk2))
  have hlt : w.heap.size < w2.heap.size := by omega
  clear hk1 hk2 hz
  go_wp2_with fail
  refine (HP _).out.mono ?_
  rintro e w7 ⟨rfl, hk7⟩
  have hz := hk7.size
  simp at hz
  have q0 : w7.cell? ⟨w.heap.size, 0, none⟩ = some (.int .i64 0) := hk7.some (by rw [World.cell?_alloc_past _ _ _ hlt]; exact r0)
  have q1 : w7.cell? ⟨w.heap.size, 1, none⟩ = some (.int .i64 0) := hk7.some (by rw [World.cell?_alloc_past _ _ _ hlt]; exact r1)
  have q2 : w7.cell? ⟨w.heap.size, 2, none⟩ = some (.bool false) := hk7.some (by rw [World.cell?_alloc_past _ _ _ hlt]; exact r2)
  have p0 : w7.cell? ⟨w2.heap.size, 0, none⟩ = some (.int .i64 (rIdx n)) := hk7.some (by simp <;> rfl)
  have p1 : w7.cell? ⟨w2.heap.size, 1, none⟩ = some (.int .i64 (rGen n)) := hk7.some (by simp <;> rfl)
  have p2 : w7.cell? ⟨w2.heap.size, 2, none⟩ = some (.bool (markOf n)) := hk7.some (by simp <;> rfl)
  have f7 : ∀ o, w7.frozen? ⟨w.heap.size, o, none⟩ = false := fun o => by rw [hk7.froze, frozen?_alloc_cells]; exact f1 o
  have K7 : Kept w w7 := ((K1.alloc _ _).trans hk7)
  have hlt7 : w.heap.size < w7.heap.size := by omega
  clear hk7 hz f1
  go_wp2
  refine bodyPost_ret (v := .tuple #[.agg #[.int .i64 0, .int .i64 0, .bool false], .int .i64 5]) ?_ rfl ⟨rfl, ?_⟩
  · simp [results, Try.results19, go_sem, q0, q1, q2]
  · refine (Kept.setCell (Kept.setCell (Kept.setCell K7 ?_ _) ?_ _) ?_ _) <;> simp

set_option maxHeartbeats 800000 in
theorem refget_ref_word (n : Int) (w : World) (h0 : 0 ≤ n) (h1 : n < 18446744073709551616) (hb : (putRef (rIdx n) (rGen n) (markOf n)).2 = 0) (ha : (putRef (rIdx n) (rGen n) (markOf n)).1 ≠ n) : Calls Try.prog 19 #[.int .u64 n] w fun e w' => e = .returned (.tuple #[.agg #[.int .i64 0, .int .i64 0, .bool false], .int .i64 5]) ∧ Kept w w' := by
  have HP : ∀ w, Hid (Calls Try.prog 10 #[.agg #[.int .i64 (rIdx n), .int .i64 (rGen n), .bool (markOf n)]] w fun e w' => e = .returned (.tuple #[.int .u64 ((putRef (rIdx n) (rGen n) (markOf n)).1), .int .i64 (0)]) ∧ Kept w w') := fun w => Lib.hid (by
    have h := refput_ref (rIdx n) (rGen n) (markOf n) w
    rw [hb] at h
    exact h)
  have H0 := Lib.hid h0; have H1 := Lib.hid h1
  have b0 : ((putRef (rIdx n) (rGen n) (markOf n)).1 != n) = true := by simp [ha]
  have HA := Lib.hid ha
  clear h0 h1 hb ha
  go_enter Try.func19, Try.ntmps19
  go_wp2_with fail
  refine (part_0_16 _ _ H0.out H1.out).mono ?_
  rintro e w1 ⟨rfl, hk1⟩
  go_wp2_with fail
  refine (part_16_32 _ _ H0.out H1.out).mono ?_
  rintro e w2 ⟨rfl, hk2⟩
  go_wp2_with fail
  refine (refmarked_any _ _).mono ?_
  rintro e w9 ⟨rfl, rfl⟩
  have hz := (hk1.trans hk2).size
  simp at hz
  have r0 : w2.cell? ⟨w.heap.size, 0, none⟩ = some (.int .i64 0) := (hk1.trans hk2).some (by simp [*])
  have r1 : w2.cell? ⟨w.heap.size, 1, none⟩ = some (.int .i64 0) := (hk1.trans hk2).some (by simp [*])
  have r2 : w2.cell? ⟨w.heap.size, 2, none⟩ = some (.bool false) := (hk1.trans hk2).some (by simp [*])
  have f1 : ∀ o, w2.frozen? ⟨w.heap.size, o, none⟩ = false := fun o => by rw [(hk1.trans hk2).froze]; simp
  have K1 : Kept w w2 := (((Kept.refl w).alloc _ _).trans (hk1.trans hk2))
  have hlt : w.heap.size < w2.heap.size := by omega
  clear hk1 hk2 hz
  go_wp2_with fail
  refine (HP _).out.mono ?_
  rintro e w7 ⟨rfl, hk7⟩
  have hz := hk7.size
  simp at hz
  have q0 : w7.cell? ⟨w.heap.size, 0, none⟩ = some (.int .i64 0) := hk7.some (by rw [World.cell?_alloc_past _ _ _ hlt]; exact r0)
  have q1 : w7.cell? ⟨w.heap.size, 1, none⟩ = some (.int .i64 0) := hk7.some (by rw [World.cell?_alloc_past _ _ _ hlt]; exact r1)
  have q2 : w7.cell? ⟨w.heap.size, 2, none⟩ = some (.bool false) := hk7.some (by rw [World.cell?_alloc_past _ _ _ hlt]; exact r2)
  have p0 : w7.cell? ⟨w2.heap.size, 0, none⟩ = some (.int .i64 (rIdx n)) := hk7.some (by simp <;> rfl)
  have p1 : w7.cell? ⟨w2.heap.size, 1, none⟩ = some (.int .i64 (rGen n)) := hk7.some (by simp <;> rfl)
  have p2 : w7.cell? ⟨w2.heap.size, 2, none⟩ = some (.bool (markOf n)) := hk7.some (by simp <;> rfl)
  have f7 : ∀ o, w7.frozen? ⟨w.heap.size, o, none⟩ = false := fun o => by rw [hk7.froze, frozen?_alloc_cells]; exact f1 o
  have K7 : Kept w w7 := ((K1.alloc _ _).trans hk7)
  have hlt7 : w.heap.size < w7.heap.size := by omega
  clear hk7 hz f1
  go_wp2
  refine bodyPost_ret (v := .tuple #[.agg #[.int .i64 0, .int .i64 0, .bool false], .int .i64 5]) ?_ rfl ⟨rfl, ?_⟩
  · simp [results, Try.results19, go_sem, q0, q1, q2]
  · refine (Kept.setCell (Kept.setCell (Kept.setCell K7 ?_ _) ?_ _) ?_ _) <;> simp

set_option maxHeartbeats 800000 in
theorem get_top_yes (n : Int) (w : World) (h0 : 0 ≤ n) (h1 : n < 18446744073709551616) : Calls Try.prog 20 #[.int .u64 n] w fun e w' => e = .returned (.tuple #[.agg #[.int .i64 (rIdx n), .int .i64 (tTag n)], .int .i64 0]) ∧ Kept w w' := by
  have HP : ∀ w, Hid (Calls Try.prog 11 #[.agg #[.int .i64 (rIdx n), .int .i64 (tTag n)]] w fun e w' => e = .returned (.tuple #[.int .u64 (n), .int .i64 (0)]) ∧ Kept w w') := fun w => Lib.hid (by
    have h := put_top (rIdx n) (tTag n) w (by have := rIdx_lo n; omega) (by have := rIdx_hi n; omega)
    rw [top_good n h0 h1] at h
    exact h)
  have H0 := Lib.hid h0; have H1 := Lib.hid h1
  clear h0 h1
  go_enter Try.func20, Try.ntmps20
  go_wp2_with fail
  refine (value_top _ _ H0.out H1.out).mono ?_
  rintro e w1 ⟨rfl, hk1⟩
  go_wp2_with fail
  refine (meaning_top_yes _ _ _ _ HP).mono ?_
  rintro e w2 ⟨rfl, hk2⟩
  have hz := (hk1.trans hk2).size
  simp at hz
  have r0 : w2.cell? ⟨w.heap.size, 0, none⟩ = some (.int .i64 0) := (hk1.trans hk2).some (by simp [*])
  have r1 : w2.cell? ⟨w.heap.size, 1, none⟩ = some (.int .i64 0) := (hk1.trans hk2).some (by simp [*])
  have f1 : ∀ o, w2.frozen? ⟨w.heap.size, o, none⟩ = false := fun o => by rw [(hk1.trans hk2).froze]; simp
  have K1 : Kept w w2 := (((Kept.refl w).alloc _ _).trans (hk1.trans hk2))
  have hlt : w.heap.size < w2.heap.size := by omega
  clear hk1 hk2 hz
  go_wp2
  refine bodyPost_ret (v := .tuple #[.agg #[.int .i64 (rIdx n), .int .i64 (tTag n)], .int .i64 0]) ?_ rfl ⟨rfl, ?_⟩
  · simp [results, Try.results20, go_sem, r0, r1]
  · refine (Kept.setCell (Kept.setCell K1 ?_ _) ?_ _) <;> simp

set_option maxHeartbeats 800000 in
theorem refget_top_yes (n : Int) (w : World) (h0 : 0 ≤ n) (h1 : n < 18446744073709551616) : Calls Try.prog 21 #[.int .u64 n] w fun e w' => e = .returned (.tuple #[.agg #[.int .i64 (rIdx n), .int .i64 (tTag n)], .int .i64 0]) ∧ Kept w w' := by
  have H0 := Lib.hid h0; have H1 := Lib.hid h1
  clear h0 h1
  go_enter Try.func21, Try.ntmps21
  go_wp2_with fail
  refine (part_0_16 _ _ H0.out H1.out).mono ?_
  rintro e w1 ⟨rfl, hk1⟩
  go_wp2_with fail
  refine (part_16_48 _ _ H0.out H1.out).mono ?_
  rintro e w2 ⟨rfl, hk2⟩
  have hz := (hk1.trans hk2).size
  simp at hz
  have r0 : w2.cell? ⟨w.heap.size, 0, none⟩ = some (.int .i64 0) := (hk1.trans hk2).some (by simp [*])
  have r1 : w2.cell? ⟨w.heap.size, 1, none⟩ = some (.int .i64 0) := (hk1.trans hk2).some (by simp [*])
  have f1 : ∀ o, w2.frozen? ⟨w.heap.size, o, none⟩ = false := fun o => by rw [(hk1.trans hk2).froze]; simp
  have K1 : Kept w w2 := (((Kept.refl w).alloc _ _).trans (hk1.trans hk2))
  have hlt : w.heap.size < w2.heap.size := by omega
  clear hk1 hk2 hz
  go_wp2
  refine bodyPost_ret (v := .tuple #[.agg #[.int .i64 (rIdx n), .int .i64 (tTag n)], .int .i64 0]) ?_ rfl ⟨rfl, ?_⟩
  · simp [results, Try.results21, go_sem, r0, r1, rIdx, tTag]
  · refine (Kept.setCell (Kept.setCell K1 ?_ _) ?_ _) <;> simp

set_option maxHeartbeats 800000 in
theorem get_slot_yes (n : Int) (w : World) (h0 : 0 ≤ n) (h1 : n < 18446744073709551616) (hg : goodSlot n = true) : Calls Try.prog 22 #[.int .u64 n] w fun e w' => e = .returned (.tuple #[.agg #[.int .i64 (sLap n), .bool (sFull n), .int .i64 (sVal n)], .int .i64 0]) ∧ Kept w w' := by
  have HP : ∀ w, Hid (Calls Try.prog 13 #[.agg #[.int .i64 (sLap n), .bool (sFull n), .int .i64 (sVal n)]] w fun e w' => e = .returned (.tuple #[.int .u64 (n), .int .i64 (0)]) ∧ Kept w w') := fun w => Lib.hid (by
    have h := put_slot (sLap n) (sFull n) (sVal n) w
    rw [pair_yes hg] at h
    exact h)
  have H0 := Lib.hid h0; have H1 := Lib.hid h1
  clear h0 h1 hg
  go_enter Try.func22, Try.ntmps22
  go_wp2_with fail
  refine (value_slot _ _ H0.out H1.out).mono ?_
  rintro e w1 ⟨rfl, hk1⟩
  go_wp2_with fail
  refine (meaning_slot_yes _ _ _ _ _ HP).mono ?_
  rintro e w2 ⟨rfl, hk2⟩
  have hz := (hk1.trans hk2).size
  simp at hz
  have r0 : w2.cell? ⟨w.heap.size, 0, none⟩ = some (.int .i64 0) := (hk1.trans hk2).some (by simp [*])
  have r1 : w2.cell? ⟨w.heap.size, 1, none⟩ = some (.bool false) := (hk1.trans hk2).some (by simp [*])
  have r2 : w2.cell? ⟨w.heap.size, 2, none⟩ = some (.int .i64 0) := (hk1.trans hk2).some (by simp [*])
  have f1 : ∀ o, w2.frozen? ⟨w.heap.size, o, none⟩ = false := fun o => by rw [(hk1.trans hk2).froze]; simp
  have K1 : Kept w w2 := (((Kept.refl w).alloc _ _).trans (hk1.trans hk2))
  have hlt : w.heap.size < w2.heap.size := by omega
  clear hk1 hk2 hz
  go_wp2
  refine bodyPost_ret (v := .tuple #[.agg #[.int .i64 (sLap n), .bool (sFull n), .int .i64 (sVal n)], .int .i64 0]) ?_ rfl ⟨rfl, ?_⟩
  · simp [results, Try.results22, go_sem, r0, r1, r2]
  · refine (Kept.setCell (Kept.setCell (Kept.setCell K1 ?_ _) ?_ _) ?_ _) <;> simp

set_option maxHeartbeats 800000 in
theorem get_slot_err (n : Int) (w : World) (h0 : 0 ≤ n) (h1 : n < 18446744073709551616) (hb : (putSlot (sLap n) (sFull n) (sVal n)).2 ≠ 0) : Calls Try.prog 22 #[.int .u64 n] w fun e w' => e = .returned (.tuple #[.agg #[.int .i64 0, .bool false, .int .i64 0], .int .i64 5]) ∧ Kept w w' := by
  have HP : ∀ w, Hid (Calls Try.prog 13 #[.agg #[.int .i64 (sLap n), .bool (sFull n), .int .i64 (sVal n)]] w fun e w' => e = .returned (.tuple #[.int .u64 ((putSlot (sLap n) (sFull n) (sVal n)).1), .int .i64 ((putSlot (sLap n) (sFull n) (sVal n)).2)]) ∧ Kept w w') := fun w => Lib.hid (by
    have h := put_slot (sLap n) (sFull n) (sVal n) w
    exact h)
  have H0 := Lib.hid h0; have H1 := Lib.hid h1
  have HB := Lib.hid hb
  clear h0 h1 hb
  go_enter Try.func22, Try.ntmps22
  go_wp2_with fail
  refine (value_slot _ _ H0.out H1.out).mono ?_
  rintro e w1 ⟨rfl, hk1⟩
  go_wp2_with fail
  refine (meaning_slot_err _ _ _ _ _ _ _ HP HB.out).mono ?_
  rintro e w2 ⟨rfl, hk2⟩
  have hz := (hk1.trans hk2).size
  simp at hz
  have r0 : w2.cell? ⟨w.heap.size, 0, none⟩ = some (.int .i64 0) := (hk1.trans hk2).some (by simp [*])
  have r1 : w2.cell? ⟨w.heap.size, 1, none⟩ = some (.bool false) := (hk1.trans hk2).some (by simp [*])
  have r2 : w2.cell? ⟨w.heap.size, 2, none⟩ = some (.int .i64 0) := (hk1.trans hk2).some (by simp [*])
  have f1 : ∀ o, w2.frozen? ⟨w.heap.size, o, none⟩ = false := fun o => by rw [(hk1.trans hk2).froze]; simp
  have K1 : Kept w w2 := (((Kept.refl w).alloc _ _).trans (hk1.trans hk2))
  have hlt : w.heap.size < w2.heap.size := by omega
  clear hk1 hk2 hz
  go_wp2
  refine bodyPost_ret (v := .tuple #[.agg #[.int .i64 0, .bool false, .int .i64 0], .int .i64 5]) ?_ rfl ⟨rfl, ?_⟩
  · simp [results, Try.results22, go_sem, r0, r1, r2]
  · refine (Kept.setCell (Kept.setCell (Kept.setCell K1 ?_ _) ?_ _) ?_ _) <;> simp

set_option maxHeartbeats 800000 in
theorem get_slot_word (n : Int) (w : World) (h0 : 0 ≤ n) (h1 : n < 18446744073709551616) (hb : (putSlot (sLap n) (sFull n) (sVal n)).2 = 0) (ha : (putSlot (sLap n) (sFull n) (sVal n)).1 ≠ n) : Calls Try.prog 22 #[.int .u64 n] w fun e w' => e = .returned (.tuple #[.agg #[.int .i64 0, .bool false, .int .i64 0], .int .i64 5]) ∧ Kept w w' := by
  have HP : ∀ w, Hid (Calls Try.prog 13 #[.agg #[.int .i64 (sLap n), .bool (sFull n), .int .i64 (sVal n)]] w fun e w' => e = .returned (.tuple #[.int .u64 ((putSlot (sLap n) (sFull n) (sVal n)).1), .int .i64 (0)]) ∧ Kept w w') := fun w => Lib.hid (by
    have h := put_slot (sLap n) (sFull n) (sVal n) w
    rw [hb] at h
    exact h)
  have H0 := Lib.hid h0; have H1 := Lib.hid h1
  have HA := Lib.hid ha
  clear h0 h1 hb ha
  go_enter Try.func22, Try.ntmps22
  go_wp2_with fail
  refine (value_slot _ _ H0.out H1.out).mono ?_
  rintro e w1 ⟨rfl, hk1⟩
  go_wp2_with fail
  refine (meaning_slot_word _ _ _ _ _ _ HP HA.out).mono ?_
  rintro e w2 ⟨rfl, hk2⟩
  have hz := (hk1.trans hk2).size
  simp at hz
  have r0 : w2.cell? ⟨w.heap.size, 0, none⟩ = some (.int .i64 0) := (hk1.trans hk2).some (by simp [*])
  have r1 : w2.cell? ⟨w.heap.size, 1, none⟩ = some (.bool false) := (hk1.trans hk2).some (by simp [*])
  have r2 : w2.cell? ⟨w.heap.size, 2, none⟩ = some (.int .i64 0) := (hk1.trans hk2).some (by simp [*])
  have f1 : ∀ o, w2.frozen? ⟨w.heap.size, o, none⟩ = false := fun o => by rw [(hk1.trans hk2).froze]; simp
  have K1 : Kept w w2 := (((Kept.refl w).alloc _ _).trans (hk1.trans hk2))
  have hlt : w.heap.size < w2.heap.size := by omega
  clear hk1 hk2 hz
  go_wp2
  refine bodyPost_ret (v := .tuple #[.agg #[.int .i64 0, .bool false, .int .i64 0], .int .i64 5]) ?_ rfl ⟨rfl, ?_⟩
  · simp [results, Try.results22, go_sem, r0, r1, r2]
  · refine (Kept.setCell (Kept.setCell (Kept.setCell K1 ?_ _) ?_ _) ?_ _) <;> simp

set_option maxHeartbeats 800000 in
theorem refget_slot_yes (n : Int) (w : World) (h0 : 0 ≤ n) (h1 : n < 18446744073709551616) (hg : goodSlot n = true) : Calls Try.prog 23 #[.int .u64 n] w fun e w' => e = .returned (.tuple #[.agg #[.int .i64 (sLap n), .bool (sFull n), .int .i64 (sVal n)], .int .i64 0]) ∧ Kept w w' := by
  have HP : ∀ w, Hid (Calls Try.prog 14 #[.agg #[.int .i64 (sLap n), .bool (sFull n), .int .i64 (sVal n)]] w fun e w' => e = .returned (.tuple #[.int .u64 (n), .int .i64 (0)]) ∧ Kept w w') := fun w => Lib.hid (by
    have h := refput_slot (sLap n) (sFull n) (sVal n) w
    rw [pair_yes hg] at h
    exact h)
  have H0 := Lib.hid h0; have H1 := Lib.hid h1
  clear h0 h1 hg
  go_enter Try.func23, Try.ntmps23
  go_wp2_with fail
  refine (part_32_32 _ _ H0.out H1.out).mono ?_
  rintro e w1 ⟨rfl, hk1⟩
  go_wp2_with fail
  refine (part_16_1 _ _ H0.out H1.out).mono ?_
  rintro e w2 ⟨rfl, hk2⟩
  go_wp2_with fail
  refine (part_0_16 _ _ H0.out H1.out).mono ?_
  rintro e w3 ⟨rfl, hk3⟩
  have hz := ((hk1.trans hk2).trans hk3).size
  simp at hz
  have r0 : w3.cell? ⟨w.heap.size, 0, none⟩ = some (.int .i64 0) := ((hk1.trans hk2).trans hk3).some (by simp [*])
  have r1 : w3.cell? ⟨w.heap.size, 1, none⟩ = some (.bool false) := ((hk1.trans hk2).trans hk3).some (by simp [*])
  have r2 : w3.cell? ⟨w.heap.size, 2, none⟩ = some (.int .i64 0) := ((hk1.trans hk2).trans hk3).some (by simp [*])
  have f1 : ∀ o, w3.frozen? ⟨w.heap.size, o, none⟩ = false := fun o => by rw [((hk1.trans hk2).trans hk3).froze]; simp
  have K1 : Kept w w3 := (((Kept.refl w).alloc _ _).trans ((hk1.trans hk2).trans hk3))
  have hlt : w.heap.size < w3.heap.size := by omega
  clear hk1 hk2 hk3 hz
  go_wp2_with fail
  refine (HP _).out.mono ?_
  rintro e w7 ⟨rfl, hk7⟩
  have hz := hk7.size
  simp at hz
  have q0 : w7.cell? ⟨w.heap.size, 0, none⟩ = some (.int .i64 0) := hk7.some (by rw [World.cell?_alloc_past _ _ _ hlt]; exact r0)
  have q1 : w7.cell? ⟨w.heap.size, 1, none⟩ = some (.bool false) := hk7.some (by rw [World.cell?_alloc_past _ _ _ hlt]; exact r1)
  have q2 : w7.cell? ⟨w.heap.size, 2, none⟩ = some (.int .i64 0) := hk7.some (by rw [World.cell?_alloc_past _ _ _ hlt]; exact r2)
  have p0 : w7.cell? ⟨w3.heap.size, 0, none⟩ = some (.int .i64 (sLap n)) := hk7.some (by simp <;> rfl)
  have p1 : w7.cell? ⟨w3.heap.size, 1, none⟩ = some (.bool (sFull n)) := hk7.some (by simp <;> rfl)
  have p2 : w7.cell? ⟨w3.heap.size, 2, none⟩ = some (.int .i64 (sVal n)) := hk7.some (by simp <;> rfl)
  have f7 : ∀ o, w7.frozen? ⟨w.heap.size, o, none⟩ = false := fun o => by rw [hk7.froze, frozen?_alloc_cells]; exact f1 o
  have K7 : Kept w w7 := ((K1.alloc _ _).trans hk7)
  have hlt7 : w.heap.size < w7.heap.size := by omega
  clear hk7 hz f1
  go_wp2
  refine bodyPost_ret (v := .tuple #[.agg #[.int .i64 (sLap n), .bool (sFull n), .int .i64 (sVal n)], .int .i64 0]) ?_ rfl ⟨rfl, ?_⟩
  · simp [results, Try.results23, go_sem, q0, q1, q2]
  · refine (Kept.setCell (Kept.setCell (Kept.setCell K7 ?_ _) ?_ _) ?_ _) <;> simp

set_option maxHeartbeats 800000 in
theorem refget_slot_err (n : Int) (w : World) (h0 : 0 ≤ n) (h1 : n < 18446744073709551616) (hb : (putSlot (sLap n) (sFull n) (sVal n)).2 ≠ 0) : Calls Try.prog 23 #[.int .u64 n] w fun e w' => e = .returned (.tuple #[.agg #[.int .i64 0, .bool false, .int .i64 0], .int .i64 5]) ∧ Kept w w' := by
  have HP : ∀ w, Hid (Calls Try.prog 14 #[.agg #[.int .i64 (sLap n), .bool (sFull n), .int .i64 (sVal n)]] w fun e w' => e = .returned (.tuple #[.int .u64 ((putSlot (sLap n) (sFull n) (sVal n)).1), .int .i64 ((putSlot (sLap n) (sFull n) (sVal n)).2)]) ∧ Kept w w') := fun w => Lib.hid (by
    have h := refput_slot (sLap n) (sFull n) (sVal n) w
    exact h)
  have H0 := Lib.hid h0; have H1 := Lib.hid h1
  have b0 : ((putSlot (sLap n) (sFull n) (sVal n)).2 != 0) = true := by simp [hb]
  have HB := Lib.hid hb
  clear h0 h1 hb
  go_enter Try.func23, Try.ntmps23
  go_wp2_with fail
  refine (part_32_32 _ _ H0.out H1.out).mono ?_
  rintro e w1 ⟨rfl, hk1⟩
  go_wp2_with fail
  refine (part_16_1 _ _ H0.out H1.out).mono ?_
  rintro e w2 ⟨rfl, hk2⟩
  go_wp2_with fail
  refine (part_0_16 _ _ H0.out H1.out).mono ?_
  rintro e w3 ⟨rfl, hk3⟩
  have hz := ((hk1.trans hk2).trans hk3).size
  simp at hz
  have r0 : w3.cell? ⟨w.heap.size, 0, none⟩ = some (.int .i64 0) := ((hk1.trans hk2).trans hk3).some (by simp [*])
  have r1 : w3.cell? ⟨w.heap.size, 1, none⟩ = some (.bool false) := ((hk1.trans hk2).trans hk3).some (by simp [*])
  have r2 : w3.cell? ⟨w.heap.size, 2, none⟩ = some (.int .i64 0) := ((hk1.trans hk2).trans hk3).some (by simp [*])
  have f1 : ∀ o, w3.frozen? ⟨w.heap.size, o, none⟩ = false := fun o => by rw [((hk1.trans hk2).trans hk3).froze]; simp
  have K1 : Kept w w3 := (((Kept.refl w).alloc _ _).trans ((hk1.trans hk2).trans hk3))
  have hlt : w.heap.size < w3.heap.size := by omega
  clear hk1 hk2 hk3 hz
  go_wp2_with fail
  refine (HP _).out.mono ?_
  rintro e w7 ⟨rfl, hk7⟩
  have hz := hk7.size
  simp at hz
  have q0 : w7.cell? ⟨w.heap.size, 0, none⟩ = some (.int .i64 0) := hk7.some (by rw [World.cell?_alloc_past _ _ _ hlt]; exact r0)
  have q1 : w7.cell? ⟨w.heap.size, 1, none⟩ = some (.bool false) := hk7.some (by rw [World.cell?_alloc_past _ _ _ hlt]; exact r1)
  have q2 : w7.cell? ⟨w.heap.size, 2, none⟩ = some (.int .i64 0) := hk7.some (by rw [World.cell?_alloc_past _ _ _ hlt]; exact r2)
  have p0 : w7.cell? ⟨w3.heap.size, 0, none⟩ = some (.int .i64 (sLap n)) := hk7.some (by simp <;> rfl)
  have p1 : w7.cell? ⟨w3.heap.size, 1, none⟩ = some (.bool (sFull n)) := hk7.some (by simp <;> rfl)
  have p2 : w7.cell? ⟨w3.heap.size, 2, none⟩ = some (.int .i64 (sVal n)) := hk7.some (by simp <;> rfl)
  have f7 : ∀ o, w7.frozen? ⟨w.heap.size, o, none⟩ = false := fun o => by rw [hk7.froze, frozen?_alloc_cells]; exact f1 o
  have K7 : Kept w w7 := ((K1.alloc _ _).trans hk7)
  have hlt7 : w.heap.size < w7.heap.size := by omega
  clear hk7 hz f1
  go_wp2
  refine bodyPost_ret (v := .tuple #[.agg #[.int .i64 0, .bool false, .int .i64 0], .int .i64 5]) ?_ rfl ⟨rfl, ?_⟩
  · simp [results, Try.results23, go_sem, q0, q1, q2]
  · refine (Kept.setCell (Kept.setCell (Kept.setCell K7 ?_ _) ?_ _) ?_ _) <;> simp

set_option maxHeartbeats 800000 in
theorem refget_slot_word (n : Int) (w : World) (h0 : 0 ≤ n) (h1 : n < 18446744073709551616) (hb : (putSlot (sLap n) (sFull n) (sVal n)).2 = 0) (ha : (putSlot (sLap n) (sFull n) (sVal n)).1 ≠ n) : Calls Try.prog 23 #[.int .u64 n] w fun e w' => e = .returned (.tuple #[.agg #[.int .i64 0, .bool false, .int .i64 0], .int .i64 5]) ∧ Kept w w' := by
  have HP : ∀ w, Hid (Calls Try.prog 14 #[.agg #[.int .i64 (sLap n), .bool (sFull n), .int .i64 (sVal n)]] w fun e w' => e = .returned (.tuple #[.int .u64 ((putSlot (sLap n) (sFull n) (sVal n)).1), .int .i64 (0)]) ∧ Kept w w') := fun w => Lib.hid (by
    have h := refput_slot (sLap n) (sFull n) (sVal n) w
    rw [hb] at h
    exact h)
  have H0 := Lib.hid h0; have H1 := Lib.hid h1
  have b0 : ((putSlot (sLap n) (sFull n) (sVal n)).1 != n) = true := by simp [ha]
  have HA := Lib.hid ha
  clear h0 h1 hb ha
  go_enter Try.func23, Try.ntmps23
  go_wp2_with fail
  refine (part_32_32 _ _ H0.out H1.out).mono ?_
  rintro e w1 ⟨rfl, hk1⟩
  go_wp2_with fail
  refine (part_16_1 _ _ H0.out H1.out).mono ?_
  rintro e w2 ⟨rfl, hk2⟩
  go_wp2_with fail
  refine (part_0_16 _ _ H0.out H1.out).mono ?_
  rintro e w3 ⟨rfl, hk3⟩
  have hz := ((hk1.trans hk2).trans hk3).size
  simp at hz
  have r0 : w3.cell? ⟨w.heap.size, 0, none⟩ = some (.int .i64 0) := ((hk1.trans hk2).trans hk3).some (by simp [*])
  have r1 : w3.cell? ⟨w.heap.size, 1, none⟩ = some (.bool false) := ((hk1.trans hk2).trans hk3).some (by simp [*])
  have r2 : w3.cell? ⟨w.heap.size, 2, none⟩ = some (.int .i64 0) := ((hk1.trans hk2).trans hk3).some (by simp [*])
  have f1 : ∀ o, w3.frozen? ⟨w.heap.size, o, none⟩ = false := fun o => by rw [((hk1.trans hk2).trans hk3).froze]; simp
  have K1 : Kept w w3 := (((Kept.refl w).alloc _ _).trans ((hk1.trans hk2).trans hk3))
  have hlt : w.heap.size < w3.heap.size := by omega
  clear hk1 hk2 hk3 hz
  go_wp2_with fail
  refine (HP _).out.mono ?_
  rintro e w7 ⟨rfl, hk7⟩
  have hz := hk7.size
  simp at hz
  have q0 : w7.cell? ⟨w.heap.size, 0, none⟩ = some (.int .i64 0) := hk7.some (by rw [World.cell?_alloc_past _ _ _ hlt]; exact r0)
  have q1 : w7.cell? ⟨w.heap.size, 1, none⟩ = some (.bool false) := hk7.some (by rw [World.cell?_alloc_past _ _ _ hlt]; exact r1)
  have q2 : w7.cell? ⟨w.heap.size, 2, none⟩ = some (.int .i64 0) := hk7.some (by rw [World.cell?_alloc_past _ _ _ hlt]; exact r2)
  have p0 : w7.cell? ⟨w3.heap.size, 0, none⟩ = some (.int .i64 (sLap n)) := hk7.some (by simp <;> rfl)
  have p1 : w7.cell? ⟨w3.heap.size, 1, none⟩ = some (.bool (sFull n)) := hk7.some (by simp <;> rfl)
  have p2 : w7.cell? ⟨w3.heap.size, 2, none⟩ = some (.int .i64 (sVal n)) := hk7.some (by simp <;> rfl)
  have f7 : ∀ o, w7.frozen? ⟨w.heap.size, o, none⟩ = false := fun o => by rw [hk7.froze, frozen?_alloc_cells]; exact f1 o
  have K7 : Kept w w7 := ((K1.alloc _ _).trans hk7)
  have hlt7 : w.heap.size < w7.heap.size := by omega
  clear hk7 hz f1
  go_wp2
  refine bodyPost_ret (v := .tuple #[.agg #[.int .i64 0, .bool false, .int .i64 0], .int .i64 5]) ?_ rfl ⟨rfl, ?_⟩
  · simp [results, Try.results23, go_sem, q0, q1, q2]
  · refine (Kept.setCell (Kept.setCell (Kept.setCell K7 ?_ _) ?_ _) ?_ _) <;> simp

set_option maxHeartbeats 800000 in
theorem get_key_yes (n : Int) (w : World) (h0 : 0 ≤ n) (h1 : n < 18446744073709551616) (hg : goodKey n = true) : Calls Try.prog 24 #[.int .u64 n] w fun e w' => e = .returned (.tuple #[.agg #[.int .i64 (kPrio n), .int .i64 (kSeq n), .int .i64 (sVal n)], .int .i64 0]) ∧ Kept w w' := by
  have HP : ∀ w, Hid (Calls Try.prog 15 #[.agg #[.int .i64 (kPrio n), .int .i64 (kSeq n), .int .i64 (sVal n)]] w fun e w' => e = .returned (.tuple #[.int .u64 (n), .int .i64 (0)]) ∧ Kept w w') := fun w => Lib.hid (by
    have h := put_key (kPrio n) (kSeq n) (sVal n) w
    rw [pair_yes hg] at h
    exact h)
  have H0 := Lib.hid h0; have H1 := Lib.hid h1
  clear h0 h1 hg
  go_enter Try.func24, Try.ntmps24
  go_wp2_with fail
  refine (value_key _ _ H0.out H1.out).mono ?_
  rintro e w1 ⟨rfl, hk1⟩
  go_wp2_with fail
  refine (meaning_key_yes _ _ _ _ _ HP).mono ?_
  rintro e w2 ⟨rfl, hk2⟩
  have hz := (hk1.trans hk2).size
  simp at hz
  have r0 : w2.cell? ⟨w.heap.size, 0, none⟩ = some (.int .i64 0) := (hk1.trans hk2).some (by simp [*])
  have r1 : w2.cell? ⟨w.heap.size, 1, none⟩ = some (.int .i64 0) := (hk1.trans hk2).some (by simp [*])
  have r2 : w2.cell? ⟨w.heap.size, 2, none⟩ = some (.int .i64 0) := (hk1.trans hk2).some (by simp [*])
  have f1 : ∀ o, w2.frozen? ⟨w.heap.size, o, none⟩ = false := fun o => by rw [(hk1.trans hk2).froze]; simp
  have K1 : Kept w w2 := (((Kept.refl w).alloc _ _).trans (hk1.trans hk2))
  have hlt : w.heap.size < w2.heap.size := by omega
  clear hk1 hk2 hz
  go_wp2
  refine bodyPost_ret (v := .tuple #[.agg #[.int .i64 (kPrio n), .int .i64 (kSeq n), .int .i64 (sVal n)], .int .i64 0]) ?_ rfl ⟨rfl, ?_⟩
  · simp [results, Try.results24, go_sem, r0, r1, r2]
  · refine (Kept.setCell (Kept.setCell (Kept.setCell K1 ?_ _) ?_ _) ?_ _) <;> simp

set_option maxHeartbeats 800000 in
theorem get_key_err (n : Int) (w : World) (h0 : 0 ≤ n) (h1 : n < 18446744073709551616) (hb : (putKey (kPrio n) (kSeq n) (sVal n)).2 ≠ 0) : Calls Try.prog 24 #[.int .u64 n] w fun e w' => e = .returned (.tuple #[.agg #[.int .i64 0, .int .i64 0, .int .i64 0], .int .i64 5]) ∧ Kept w w' := by
  have HP : ∀ w, Hid (Calls Try.prog 15 #[.agg #[.int .i64 (kPrio n), .int .i64 (kSeq n), .int .i64 (sVal n)]] w fun e w' => e = .returned (.tuple #[.int .u64 ((putKey (kPrio n) (kSeq n) (sVal n)).1), .int .i64 ((putKey (kPrio n) (kSeq n) (sVal n)).2)]) ∧ Kept w w') := fun w => Lib.hid (by
    have h := put_key (kPrio n) (kSeq n) (sVal n) w
    exact h)
  have H0 := Lib.hid h0; have H1 := Lib.hid h1
  have HB := Lib.hid hb
  clear h0 h1 hb
  go_enter Try.func24, Try.ntmps24
  go_wp2_with fail
  refine (value_key _ _ H0.out H1.out).mono ?_
  rintro e w1 ⟨rfl, hk1⟩
  go_wp2_with fail
  refine (meaning_key_err _ _ _ _ _ _ _ HP HB.out).mono ?_
  rintro e w2 ⟨rfl, hk2⟩
  have hz := (hk1.trans hk2).size
  simp at hz
  have r0 : w2.cell? ⟨w.heap.size, 0, none⟩ = some (.int .i64 0) := (hk1.trans hk2).some (by simp [*])
  have r1 : w2.cell? ⟨w.heap.size, 1, none⟩ = some (.int .i64 0) := (hk1.trans hk2).some (by simp [*])
  have r2 : w2.cell? ⟨w.heap.size, 2, none⟩ = some (.int .i64 0) := (hk1.trans hk2).some (by simp [*])
  have f1 : ∀ o, w2.frozen? ⟨w.heap.size, o, none⟩ = false := fun o => by rw [(hk1.trans hk2).froze]; simp
  have K1 : Kept w w2 := (((Kept.refl w).alloc _ _).trans (hk1.trans hk2))
  have hlt : w.heap.size < w2.heap.size := by omega
  clear hk1 hk2 hz
  go_wp2
  refine bodyPost_ret (v := .tuple #[.agg #[.int .i64 0, .int .i64 0, .int .i64 0], .int .i64 5]) ?_ rfl ⟨rfl, ?_⟩
  · simp [results, Try.results24, go_sem, r0, r1, r2]
  · refine (Kept.setCell (Kept.setCell (Kept.setCell K1 ?_ _) ?_ _) ?_ _) <;> simp

set_option maxHeartbeats 800000 in
theorem get_key_word (n : Int) (w : World) (h0 : 0 ≤ n) (h1 : n < 18446744073709551616) (hb : (putKey (kPrio n) (kSeq n) (sVal n)).2 = 0) (ha : (putKey (kPrio n) (kSeq n) (sVal n)).1 ≠ n) : Calls Try.prog 24 #[.int .u64 n] w fun e w' => e = .returned (.tuple #[.agg #[.int .i64 0, .int .i64 0, .int .i64 0], .int .i64 5]) ∧ Kept w w' := by
  have HP : ∀ w, Hid (Calls Try.prog 15 #[.agg #[.int .i64 (kPrio n), .int .i64 (kSeq n), .int .i64 (sVal n)]] w fun e w' => e = .returned (.tuple #[.int .u64 ((putKey (kPrio n) (kSeq n) (sVal n)).1), .int .i64 (0)]) ∧ Kept w w') := fun w => Lib.hid (by
    have h := put_key (kPrio n) (kSeq n) (sVal n) w
    rw [hb] at h
    exact h)
  have H0 := Lib.hid h0; have H1 := Lib.hid h1
  have HA := Lib.hid ha
  clear h0 h1 hb ha
  go_enter Try.func24, Try.ntmps24
  go_wp2_with fail
  refine (value_key _ _ H0.out H1.out).mono ?_
  rintro e w1 ⟨rfl, hk1⟩
  go_wp2_with fail
  refine (meaning_key_word _ _ _ _ _ _ HP HA.out).mono ?_
  rintro e w2 ⟨rfl, hk2⟩
  have hz := (hk1.trans hk2).size
  simp at hz
  have r0 : w2.cell? ⟨w.heap.size, 0, none⟩ = some (.int .i64 0) := (hk1.trans hk2).some (by simp [*])
  have r1 : w2.cell? ⟨w.heap.size, 1, none⟩ = some (.int .i64 0) := (hk1.trans hk2).some (by simp [*])
  have r2 : w2.cell? ⟨w.heap.size, 2, none⟩ = some (.int .i64 0) := (hk1.trans hk2).some (by simp [*])
  have f1 : ∀ o, w2.frozen? ⟨w.heap.size, o, none⟩ = false := fun o => by rw [(hk1.trans hk2).froze]; simp
  have K1 : Kept w w2 := (((Kept.refl w).alloc _ _).trans (hk1.trans hk2))
  have hlt : w.heap.size < w2.heap.size := by omega
  clear hk1 hk2 hz
  go_wp2
  refine bodyPost_ret (v := .tuple #[.agg #[.int .i64 0, .int .i64 0, .int .i64 0], .int .i64 5]) ?_ rfl ⟨rfl, ?_⟩
  · simp [results, Try.results24, go_sem, r0, r1, r2]
  · refine (Kept.setCell (Kept.setCell (Kept.setCell K1 ?_ _) ?_ _) ?_ _) <;> simp

set_option maxHeartbeats 800000 in
theorem refget_key_yes (n : Int) (w : World) (h0 : 0 ≤ n) (h1 : n < 18446744073709551616) (hg : goodKey n = true) : Calls Try.prog 25 #[.int .u64 n] w fun e w' => e = .returned (.tuple #[.agg #[.int .i64 (kPrio n), .int .i64 (kSeq n), .int .i64 (sVal n)], .int .i64 0]) ∧ Kept w w' := by
  have HP : ∀ w, Hid (Calls Try.prog 16 #[.agg #[.int .i64 (kPrio n), .int .i64 (kSeq n), .int .i64 (sVal n)]] w fun e w' => e = .returned (.tuple #[.int .u64 (n), .int .i64 (0)]) ∧ Kept w w') := fun w => Lib.hid (by
    have h := refput_key (kPrio n) (kSeq n) (sVal n) w
    rw [pair_yes hg] at h
    exact h)
  have H0 := Lib.hid h0; have H1 := Lib.hid h1
  clear h0 h1 hg
  go_enter Try.func25, Try.ntmps25
  go_wp2_with fail
  refine (part_56_8 _ _ H0.out H1.out).mono ?_
  rintro e w1 ⟨rfl, hk1⟩
  go_wp2_with fail
  refine (part_16_40 _ _ H0.out H1.out).mono ?_
  rintro e w2 ⟨rfl, hk2⟩
  go_wp2_with fail
  refine (part_0_16 _ _ H0.out H1.out).mono ?_
  rintro e w3 ⟨rfl, hk3⟩
  have hz := ((hk1.trans hk2).trans hk3).size
  simp at hz
  have r0 : w3.cell? ⟨w.heap.size, 0, none⟩ = some (.int .i64 0) := ((hk1.trans hk2).trans hk3).some (by simp [*])
  have r1 : w3.cell? ⟨w.heap.size, 1, none⟩ = some (.int .i64 0) := ((hk1.trans hk2).trans hk3).some (by simp [*])
  have r2 : w3.cell? ⟨w.heap.size, 2, none⟩ = some (.int .i64 0) := ((hk1.trans hk2).trans hk3).some (by simp [*])
  have f1 : ∀ o, w3.frozen? ⟨w.heap.size, o, none⟩ = false := fun o => by rw [((hk1.trans hk2).trans hk3).froze]; simp
  have K1 : Kept w w3 := (((Kept.refl w).alloc _ _).trans ((hk1.trans hk2).trans hk3))
  have hlt : w.heap.size < w3.heap.size := by omega
  clear hk1 hk2 hk3 hz
  go_wp2_with fail
  refine (HP _).out.mono ?_
  rintro e w7 ⟨rfl, hk7⟩
  have hz := hk7.size
  simp at hz
  have q0 : w7.cell? ⟨w.heap.size, 0, none⟩ = some (.int .i64 0) := hk7.some (by rw [World.cell?_alloc_past _ _ _ hlt]; exact r0)
  have q1 : w7.cell? ⟨w.heap.size, 1, none⟩ = some (.int .i64 0) := hk7.some (by rw [World.cell?_alloc_past _ _ _ hlt]; exact r1)
  have q2 : w7.cell? ⟨w.heap.size, 2, none⟩ = some (.int .i64 0) := hk7.some (by rw [World.cell?_alloc_past _ _ _ hlt]; exact r2)
  have p0 : w7.cell? ⟨w3.heap.size, 0, none⟩ = some (.int .i64 (kPrio n)) := hk7.some (by simp <;> rfl)
  have p1 : w7.cell? ⟨w3.heap.size, 1, none⟩ = some (.int .i64 (kSeq n)) := hk7.some (by simp <;> rfl)
  have p2 : w7.cell? ⟨w3.heap.size, 2, none⟩ = some (.int .i64 (sVal n)) := hk7.some (by simp <;> rfl)
  have f7 : ∀ o, w7.frozen? ⟨w.heap.size, o, none⟩ = false := fun o => by rw [hk7.froze, frozen?_alloc_cells]; exact f1 o
  have K7 : Kept w w7 := ((K1.alloc _ _).trans hk7)
  have hlt7 : w.heap.size < w7.heap.size := by omega
  clear hk7 hz f1
  go_wp2
  refine bodyPost_ret (v := .tuple #[.agg #[.int .i64 (kPrio n), .int .i64 (kSeq n), .int .i64 (sVal n)], .int .i64 0]) ?_ rfl ⟨rfl, ?_⟩
  · simp [results, Try.results25, go_sem, q0, q1, q2]
  · refine (Kept.setCell (Kept.setCell (Kept.setCell K7 ?_ _) ?_ _) ?_ _) <;> simp

set_option maxHeartbeats 800000 in
theorem refget_key_err (n : Int) (w : World) (h0 : 0 ≤ n) (h1 : n < 18446744073709551616) (hb : (putKey (kPrio n) (kSeq n) (sVal n)).2 ≠ 0) : Calls Try.prog 25 #[.int .u64 n] w fun e w' => e = .returned (.tuple #[.agg #[.int .i64 0, .int .i64 0, .int .i64 0], .int .i64 5]) ∧ Kept w w' := by
  have HP : ∀ w, Hid (Calls Try.prog 16 #[.agg #[.int .i64 (kPrio n), .int .i64 (kSeq n), .int .i64 (sVal n)]] w fun e w' => e = .returned (.tuple #[.int .u64 ((putKey (kPrio n) (kSeq n) (sVal n)).1), .int .i64 ((putKey (kPrio n) (kSeq n) (sVal n)).2)]) ∧ Kept w w') := fun w => Lib.hid (by
    have h := refput_key (kPrio n) (kSeq n) (sVal n) w
    exact h)
  have H0 := Lib.hid h0; have H1 := Lib.hid h1
  have b0 : ((putKey (kPrio n) (kSeq n) (sVal n)).2 != 0) = true := by simp [hb]
  have HB := Lib.hid hb
  clear h0 h1 hb
  go_enter Try.func25, Try.ntmps25
  go_wp2_with fail
  refine (part_56_8 _ _ H0.out H1.out).mono ?_
  rintro e w1 ⟨rfl, hk1⟩
  go_wp2_with fail
  refine (part_16_40 _ _ H0.out H1.out).mono ?_
  rintro e w2 ⟨rfl, hk2⟩
  go_wp2_with fail
  refine (part_0_16 _ _ H0.out H1.out).mono ?_
  rintro e w3 ⟨rfl, hk3⟩
  have hz := ((hk1.trans hk2).trans hk3).size
  simp at hz
  have r0 : w3.cell? ⟨w.heap.size, 0, none⟩ = some (.int .i64 0) := ((hk1.trans hk2).trans hk3).some (by simp [*])
  have r1 : w3.cell? ⟨w.heap.size, 1, none⟩ = some (.int .i64 0) := ((hk1.trans hk2).trans hk3).some (by simp [*])
  have r2 : w3.cell? ⟨w.heap.size, 2, none⟩ = some (.int .i64 0) := ((hk1.trans hk2).trans hk3).some (by simp [*])
  have f1 : ∀ o, w3.frozen? ⟨w.heap.size, o, none⟩ = false := fun o => by rw [((hk1.trans hk2).trans hk3).froze]; simp
  have K1 : Kept w w3 := (((Kept.refl w).alloc _ _).trans ((hk1.trans hk2).trans hk3))
  have hlt : w.heap.size < w3.heap.size := by omega
  clear hk1 hk2 hk3 hz
  go_wp2_with fail
  refine (HP _).out.mono ?_
  rintro e w7 ⟨rfl, hk7⟩
  have hz := hk7.size
  simp at hz
  have q0 : w7.cell? ⟨w.heap.size, 0, none⟩ = some (.int .i64 0) := hk7.some (by rw [World.cell?_alloc_past _ _ _ hlt]; exact r0)
  have q1 : w7.cell? ⟨w.heap.size, 1, none⟩ = some (.int .i64 0) := hk7.some (by rw [World.cell?_alloc_past _ _ _ hlt]; exact r1)
  have q2 : w7.cell? ⟨w.heap.size, 2, none⟩ = some (.int .i64 0) := hk7.some (by rw [World.cell?_alloc_past _ _ _ hlt]; exact r2)
  have p0 : w7.cell? ⟨w3.heap.size, 0, none⟩ = some (.int .i64 (kPrio n)) := hk7.some (by simp <;> rfl)
  have p1 : w7.cell? ⟨w3.heap.size, 1, none⟩ = some (.int .i64 (kSeq n)) := hk7.some (by simp <;> rfl)
  have p2 : w7.cell? ⟨w3.heap.size, 2, none⟩ = some (.int .i64 (sVal n)) := hk7.some (by simp <;> rfl)
  have f7 : ∀ o, w7.frozen? ⟨w.heap.size, o, none⟩ = false := fun o => by rw [hk7.froze, frozen?_alloc_cells]; exact f1 o
  have K7 : Kept w w7 := ((K1.alloc _ _).trans hk7)
  have hlt7 : w.heap.size < w7.heap.size := by omega
  clear hk7 hz f1
  go_wp2
  refine bodyPost_ret (v := .tuple #[.agg #[.int .i64 0, .int .i64 0, .int .i64 0], .int .i64 5]) ?_ rfl ⟨rfl, ?_⟩
  · simp [results, Try.results25, go_sem, q0, q1, q2]
  · refine (Kept.setCell (Kept.setCell (Kept.setCell K7 ?_ _) ?_ _) ?_ _) <;> simp

end Go.Proofs.Ytflggocnhinfeaa
