/- Put of each kind: the program's. -/
import Derived.Test.YtlfdiffbepfgbaaG04
set_option linter.unusedVariables false
set_option linter.unusedSimpArgs false

namespace Go.Proofs.Ytlfdiffbepfgbaa.Wo
set_option maxRecDepth 20000
open Go.RowKit

set_option maxHeartbeats 800000 in
theorem put_slot_bad (l : Int) (f : Bool) (v : Int) (w : World)  (hr : ¬ (0 ≤ l ∧ l ≤ 4294967295 ∧ 0 ≤ v ∧ v ≤ 65535)) : Calls Try.prog 91 #[.agg #[.int .i64 l, .bool f, .int .i64 v]] w fun e w' => e = .returned (.tuple #[.int .u64 (0), .int .i64 3]) ∧ Kept w w' := by
  have HW : Hid (¬ (0 ≤ l ∧ l ≤ 4294967295 ∧ 0 ≤ v ∧ v ≤ 65535)) := Lib.hid (by intro h; exact hr (by omega))
  clear hr
  go_enter Try.func91, Try.ntmps91
  go_wp2_with fail
  refine (within2_no _ _ _ _ _ _ ?_ ?_ ?_ ?_ HW.out).mono ?_
  all_goals (try (simp; done))
  rintro e w1 ⟨rfl, hk⟩
  go_wp2
  go_ret2
  exact ⟨rfl, by repeat (first | exact Kept.refl _ | refine Kept.alloc ?_ _ _ | refine Kept.drew ?_ | refine Kept.drewN ?_ _ | refine Kept.trans ?_ (by assumption))⟩

set_option maxHeartbeats 800000 in
theorem put_slot_form (l : Int) (f : Bool) (v : Int) (w : World)  (hr : 0 ≤ l ∧ l ≤ 4294967295 ∧ 0 ≤ v ∧ v ≤ 65535) (hf : f = false ∧ v ≠ 0) : Calls Try.prog 91 #[.agg #[.int .i64 l, .bool f, .int .i64 v]] w fun e w' => e = .returned (.tuple #[.int .u64 (0), .int .i64 5]) ∧ Kept w w' := by
  have HW : Hid (0 ≤ l ∧ l ≤ 4294967295 ∧ 0 ≤ v ∧ v ≤ 65535) := Lib.hid (by omega)
  have b0 : (v != 0) = true := by simp [hf.2]
  obtain ⟨rfl, _⟩ := hf
  clear hr
  go_enter Try.func91, Try.ntmps91
  go_wp2_with fail
  refine (within2_yes _ _ _ _ _ _ ?_ ?_ ?_ ?_ HW.out).mono ?_
  all_goals (try (simp; done))
  rintro e w1 ⟨rfl, hk⟩
  have hz := hk.size
  simp at hz
  have s0 : w1.cell? ⟨w.heap.size, 0, none⟩ = some (.int .i64 l) := hk.some (by simp [*])
  have s1 : w1.cell? ⟨w.heap.size, 1, none⟩ = some (.bool false) := hk.some (by simp [*])
  have s2 : w1.cell? ⟨w.heap.size, 2, none⟩ = some (.int .i64 v) := hk.some (by simp [*])
  go_wp2
  go_ret2
  exact ⟨rfl, by repeat (first | exact Kept.refl _ | refine Kept.alloc ?_ _ _ | refine Kept.drew ?_ | refine Kept.drewN ?_ _ | refine Kept.trans ?_ (by assumption))⟩

set_option maxHeartbeats 800000 in
theorem put_slot_good (l : Int) (f : Bool) (v : Int) (w : World)  (hr : 0 ≤ l ∧ l ≤ 4294967295 ∧ 0 ≤ v ∧ v ≤ 65535) (hf : ¬ (f = false ∧ v ≠ 0)) : Calls Try.prog 91 #[.agg #[.int .i64 l, .bool f, .int .i64 v]] w fun e w' => e = .returned (.tuple #[.int .u64 (v + bitOf f * 65536 + l * 4294967296), .int .i64 0]) ∧ Kept w w' := by
  have HW : Hid (0 ≤ l ∧ l ≤ 4294967295 ∧ 0 ≤ v ∧ v ≤ 65535) := Lib.hid (by omega)
  have HJ : ∀ w, Hid (Calls Try.prog 97 _ w _) := fun w => Lib.hid (joined_slot v (bitOf f) l w (by omega) (by omega) (bitOf_lo _) (bitOf_hi _) (by omega) (by omega))
  cases f
  · have b0 : (v != 0) = false := by simp only [bne_eq_false_iff_eq]; exact Classical.byContradiction fun h => hf ⟨rfl, h⟩
    clear hr hf
    go_enter Try.func91, Try.ntmps91
    go_wp2_with fail
    refine (within2_yes _ _ _ _ _ _ ?_ ?_ ?_ ?_ HW.out).mono ?_
    all_goals (try (simp; done))
    rintro e w1 ⟨rfl, hk⟩
    have hz := hk.size
    simp at hz
    have s0 : w1.cell? ⟨w.heap.size, 0, none⟩ = some (.int .i64 l) := hk.some (by simp [*])
    have s1 : w1.cell? ⟨w.heap.size, 1, none⟩ = some (.bool false) := hk.some (by simp [*])
    have s2 : w1.cell? ⟨w.heap.size, 2, none⟩ = some (.int .i64 v) := hk.some (by simp [*])
    go_wp2_with fail
    have hk' := hk
    have K1 : Kept w w1 := by repeat (first | exact Kept.refl _ | refine Kept.alloc ?_ _ _ | refine Kept.drew ?_ | refine Kept.drewN ?_ _ | refine Kept.trans ?_ (by assumption))
    clear hz hk hk'
    go_region_held3 (fun w' => w'.cell? ⟨w.heap.size, 0, none⟩ = some (.int .i64 l) ∧ w'.cell? ⟨w.heap.size, 1, none⟩ = some (.bool false) ∧ w'.cell? ⟨w.heap.size, 2, none⟩ = some (.int .i64 v)) (first | go_keep | (exact ⟨hk.some (by simp [*]), hk.some (by simp [*]), hk.some (by simp [*])⟩)) (first | (go_at_call 96; refine (table_slotWord _ _).mono ?_; rintro e w1 ⟨rfl, hk⟩) | (go_at_call 98; refine (bit_any _ _).mono ?_; rintro e w' ⟨rfl, rfl⟩) | (go_at_call 97; refine (HJ _).out.mono ?_; rintro e w1 ⟨rfl, hk⟩))
    go_wp2
    go_ret2
    exact ⟨rfl, by repeat (first | exact Kept.refl _ | refine Kept.alloc ?_ _ _ | refine Kept.drew ?_ | refine Kept.drewN ?_ _ | refine Kept.trans ?_ (by assumption))⟩
  · clear hr hf
    go_enter Try.func91, Try.ntmps91
    go_wp2_with fail
    refine (within2_yes _ _ _ _ _ _ ?_ ?_ ?_ ?_ HW.out).mono ?_
    all_goals (try (simp; done))
    rintro e w1 ⟨rfl, hk⟩
    have hz := hk.size
    simp at hz
    have s0 : w1.cell? ⟨w.heap.size, 0, none⟩ = some (.int .i64 l) := hk.some (by simp [*])
    have s1 : w1.cell? ⟨w.heap.size, 1, none⟩ = some (.bool true) := hk.some (by simp [*])
    have s2 : w1.cell? ⟨w.heap.size, 2, none⟩ = some (.int .i64 v) := hk.some (by simp [*])
    go_wp2_with fail
    have hk' := hk
    have K1 : Kept w w1 := by repeat (first | exact Kept.refl _ | refine Kept.alloc ?_ _ _ | refine Kept.drew ?_ | refine Kept.drewN ?_ _ | refine Kept.trans ?_ (by assumption))
    clear hz hk hk'
    go_region_held3 (fun w' => w'.cell? ⟨w.heap.size, 0, none⟩ = some (.int .i64 l) ∧ w'.cell? ⟨w.heap.size, 1, none⟩ = some (.bool true) ∧ w'.cell? ⟨w.heap.size, 2, none⟩ = some (.int .i64 v)) (first | go_keep | (exact ⟨hk.some (by simp [*]), hk.some (by simp [*]), hk.some (by simp [*])⟩)) (first | (go_at_call 96; refine (table_slotWord _ _).mono ?_; rintro e w1 ⟨rfl, hk⟩) | (go_at_call 98; refine (bit_any _ _).mono ?_; rintro e w' ⟨rfl, rfl⟩) | (go_at_call 97; refine (HJ _).out.mono ?_; rintro e w1 ⟨rfl, hk⟩))
    go_wp2
    go_ret2
    exact ⟨rfl, by repeat (first | exact Kept.refl _ | refine Kept.alloc ?_ _ _ | refine Kept.drew ?_ | refine Kept.drewN ?_ _ | refine Kept.trans ?_ (by assumption))⟩

end Go.Proofs.Ytlfdiffbepfgbaa.Wo

namespace Go.Proofs.Ytlfdiffbepfgbaa.Wo
set_option maxRecDepth 20000
open Go.RowKit

theorem put_slot (l : Int) (f : Bool) (v : Int) (w : World)  : Calls Try.prog 91 #[.agg #[.int .i64 l, .bool f, .int .i64 v]] w fun e w' => e = .returned (.tuple #[.int .u64 (putSlot l f v).1, .int .i64 (putSlot l f v).2]) ∧ Kept w w' := by
  by_cases hr : 0 ≤ l ∧ l ≤ 4294967295 ∧ 0 ≤ v ∧ v ≤ 65535
  · by_cases hf : f = false ∧ v ≠ 0
    · rw [putSlot_form hr hf]; exact put_slot_form l f v w hr hf
    · rw [putSlot_good hr hf]; exact put_slot_good l f v w hr hf
  · rw [putSlot_bad f hr]; exact put_slot_bad l f v w  hr

end Go.Proofs.Ytlfdiffbepfgbaa.Wo

namespace Go.Proofs.Ytlfdiffbepfgbaa.Wo
set_option maxRecDepth 20000
open Go.RowKit

set_option maxHeartbeats 800000 in
theorem meaning_slot_yes (n : Int) (l : Int) (f : Bool) (v : Int) (w : World) (HP : ∀ w, Hid (Calls Try.prog 91 #[.agg #[.int .i64 l, .bool f, .int .i64 v]] w fun e w' => e = .returned (.tuple #[.int .u64 n, .int .i64 0]) ∧ Kept w w')) : Calls Try.prog 92 #[.int .u64 n, .agg #[.int .i64 l, .bool f, .int .i64 v], .func (.func 91) #[] #[]] w fun e w' => e = .returned (.tuple #[.agg #[.int .i64 l, .bool f, .int .i64 v], .int .i64 0]) ∧ Kept w w' := by
  go_enter Try.func92, Try.ntmps92
  go_wp2_with fail
  refine (HP _).out.mono ?_
  rintro e w1 ⟨rfl, hk1⟩
  have hz := hk1.size
  simp at hz
  have s0 : w1.cell? ⟨w.heap.size, 0, none⟩ = some (.int .i64 l) := hk1.some (by simp [*])
  have s1 : w1.cell? ⟨w.heap.size, 1, none⟩ = some (.bool f) := hk1.some (by simp [*])
  have s2 : w1.cell? ⟨w.heap.size, 2, none⟩ = some (.int .i64 v) := hk1.some (by simp [*])
  have r0 : w1.cell? ⟨w.heap.size + 1, 0, none⟩ = some (.int .i64 0) := hk1.some (by simp [*])
  have r1 : w1.cell? ⟨w.heap.size + 1, 1, none⟩ = some (.bool false) := hk1.some (by simp [*])
  have r2 : w1.cell? ⟨w.heap.size + 1, 2, none⟩ = some (.int .i64 0) := hk1.some (by simp [*])
  have f1 : ∀ o, w1.frozen? ⟨w.heap.size + 1, o, none⟩ = false := fun o => by rw [hk1.froze]; simp
  have K1 : Kept w w1 := ((((Kept.refl w).alloc _ _).alloc _ _).trans hk1)
  have hlt : w.heap.size + 1 < w1.heap.size := by omega
  clear hk1 hz
  go_wp2
  refine bodyPost_ret (v := .tuple #[.agg #[.int .i64 l, .bool f, .int .i64 v], .int .i64 0]) ?_ rfl ⟨rfl, ?_⟩
  · simp [results, Try.results92, go_sem, r0, r1, r2]
  · refine (Kept.setCell (Kept.setCell (Kept.setCell K1 ?_ _) ?_ _) ?_ _) <;> simp

set_option maxHeartbeats 800000 in
theorem meaning_slot_err (n a b : Int) (l : Int) (f : Bool) (v : Int) (w : World) (HP : ∀ w, Hid (Calls Try.prog 91 #[.agg #[.int .i64 l, .bool f, .int .i64 v]] w fun e w' => e = .returned (.tuple #[.int .u64 a, .int .i64 b]) ∧ Kept w w')) (hb : b ≠ 0) : Calls Try.prog 92 #[.int .u64 n, .agg #[.int .i64 l, .bool f, .int .i64 v], .func (.func 91) #[] #[]] w fun e w' => e = .returned (.tuple #[.agg #[.int .i64 0, .bool false, .int .i64 0], .int .i64 5]) ∧ Kept w w' := by
  have b0 : (b != 0) = true := by simp [hb]
  clear hb
  go_enter Try.func92, Try.ntmps92
  go_wp2_with fail
  refine (HP _).out.mono ?_
  rintro e w1 ⟨rfl, hk1⟩
  have hz := hk1.size
  simp at hz
  have s0 : w1.cell? ⟨w.heap.size, 0, none⟩ = some (.int .i64 l) := hk1.some (by simp [*])
  have s1 : w1.cell? ⟨w.heap.size, 1, none⟩ = some (.bool f) := hk1.some (by simp [*])
  have s2 : w1.cell? ⟨w.heap.size, 2, none⟩ = some (.int .i64 v) := hk1.some (by simp [*])
  have r0 : w1.cell? ⟨w.heap.size + 1, 0, none⟩ = some (.int .i64 0) := hk1.some (by simp [*])
  have r1 : w1.cell? ⟨w.heap.size + 1, 1, none⟩ = some (.bool false) := hk1.some (by simp [*])
  have r2 : w1.cell? ⟨w.heap.size + 1, 2, none⟩ = some (.int .i64 0) := hk1.some (by simp [*])
  have f1 : ∀ o, w1.frozen? ⟨w.heap.size + 1, o, none⟩ = false := fun o => by rw [hk1.froze]; simp
  have K1 : Kept w w1 := ((((Kept.refl w).alloc _ _).alloc _ _).trans hk1)
  have hlt : w.heap.size + 1 < w1.heap.size := by omega
  clear hk1 hz
  go_wp2
  refine bodyPost_ret (v := .tuple #[.agg #[.int .i64 0, .bool false, .int .i64 0], .int .i64 5]) ?_ rfl ⟨rfl, ?_⟩
  · simp [results, Try.results92, go_sem, r0, r1, r2, hlt]
  · refine (Kept.alloc (Kept.setCell (Kept.setCell (Kept.setCell K1 ?_ _) ?_ _) ?_ _) _ _) <;> simp

set_option maxHeartbeats 800000 in
theorem meaning_slot_word (n a : Int) (l : Int) (f : Bool) (v : Int) (w : World) (HP : ∀ w, Hid (Calls Try.prog 91 #[.agg #[.int .i64 l, .bool f, .int .i64 v]] w fun e w' => e = .returned (.tuple #[.int .u64 a, .int .i64 0]) ∧ Kept w w')) (ha : a ≠ n) : Calls Try.prog 92 #[.int .u64 n, .agg #[.int .i64 l, .bool f, .int .i64 v], .func (.func 91) #[] #[]] w fun e w' => e = .returned (.tuple #[.agg #[.int .i64 0, .bool false, .int .i64 0], .int .i64 5]) ∧ Kept w w' := by
  have b0 : (a != n) = true := by simp [ha]
  clear ha
  go_enter Try.func92, Try.ntmps92
  go_wp2_with fail
  refine (HP _).out.mono ?_
  rintro e w1 ⟨rfl, hk1⟩
  have hz := hk1.size
  simp at hz
  have s0 : w1.cell? ⟨w.heap.size, 0, none⟩ = some (.int .i64 l) := hk1.some (by simp [*])
  have s1 : w1.cell? ⟨w.heap.size, 1, none⟩ = some (.bool f) := hk1.some (by simp [*])
  have s2 : w1.cell? ⟨w.heap.size, 2, none⟩ = some (.int .i64 v) := hk1.some (by simp [*])
  have r0 : w1.cell? ⟨w.heap.size + 1, 0, none⟩ = some (.int .i64 0) := hk1.some (by simp [*])
  have r1 : w1.cell? ⟨w.heap.size + 1, 1, none⟩ = some (.bool false) := hk1.some (by simp [*])
  have r2 : w1.cell? ⟨w.heap.size + 1, 2, none⟩ = some (.int .i64 0) := hk1.some (by simp [*])
  have f1 : ∀ o, w1.frozen? ⟨w.heap.size + 1, o, none⟩ = false := fun o => by rw [hk1.froze]; simp
  have K1 : Kept w w1 := ((((Kept.refl w).alloc _ _).alloc _ _).trans hk1)
  have hlt : w.heap.size + 1 < w1.heap.size := by omega
  clear hk1 hz
  go_wp2
  refine bodyPost_ret (v := .tuple #[.agg #[.int .i64 0, .bool false, .int .i64 0], .int .i64 5]) ?_ rfl ⟨rfl, ?_⟩
  · simp [results, Try.results92, go_sem, r0, r1, r2, hlt]
  · refine (Kept.alloc (Kept.setCell (Kept.setCell (Kept.setCell K1 ?_ _) ?_ _) ?_ _) _ _) <;> simp

end Go.Proofs.Ytlfdiffbepfgbaa.Wo

namespace Go.Proofs.Ytlfdiffbepfgbaa.Wo
set_option maxRecDepth 20000
open Go.RowKit

set_option maxHeartbeats 800000 in
theorem get_slot_yes (n : Int) (w : World) (h0 : 0 ≤ n) (h1 : n < 18446744073709551616) (hg : goodSlot n = true) : Calls Try.prog 82 #[.int .u64 n] w fun e w' => e = .returned (.tuple #[.agg #[.int .i64 (sLap n), .bool (sFull n), .int .i64 (sVal n)], .int .i64 0]) ∧ Kept w w' := by
  have HP : ∀ w, Hid (Calls Try.prog 91 #[.agg #[.int .i64 (sLap n), .bool (sFull n), .int .i64 (sVal n)]] w fun e w' => e = .returned (.tuple #[.int .u64 (n), .int .i64 (0)]) ∧ Kept w w') := fun w => Lib.hid (by
    have h := put_slot (sLap n) (sFull n) (sVal n) w
    rw [pair_yes hg] at h
    exact h)
  have H0 := Lib.hid h0; have H1 := Lib.hid h1
  clear h0 h1 hg
  go_enter Try.func82, Try.ntmps82
  go_wp2_with fail
  refine (value_slot _ _ H0.out H1.out).mono ?_
  rintro e w1 ⟨rfl, hk1⟩
  go_wp2_with fail
  refine (meaning_slot_yes _ _ _ _ _ HP).mono ?_
  rintro e w2 ⟨rfl, hk2⟩
  have hz := (hk1.trans hk2).size
  simp at hz
  have r0 : w2.cell? ⟨w.heap.size, 0, none⟩ = some (.int .i64 0) := (hk1.trans hk2).some (by simp [*])
  have r1 : w2.cell? ⟨w.heap.size, 1, none⟩ = some (.bool false) := (hk1.trans hk2).some (by simp [*])
  have r2 : w2.cell? ⟨w.heap.size, 2, none⟩ = some (.int .i64 0) := (hk1.trans hk2).some (by simp [*])
  have f1 : ∀ o, w2.frozen? ⟨w.heap.size, o, none⟩ = false := fun o => by rw [(hk1.trans hk2).froze]; simp
  have K1 : Kept w w2 := (((Kept.refl w).alloc _ _).trans (hk1.trans hk2))
  have hlt : w.heap.size < w2.heap.size := by omega
  clear hk1 hk2 hz
  go_wp2
  refine bodyPost_ret (v := .tuple #[.agg #[.int .i64 (sLap n), .bool (sFull n), .int .i64 (sVal n)], .int .i64 0]) ?_ rfl ⟨rfl, ?_⟩
  · simp [results, Try.results82, go_sem, r0, r1, r2]
  · refine (Kept.setCell (Kept.setCell (Kept.setCell K1 ?_ _) ?_ _) ?_ _) <;> simp

set_option maxHeartbeats 800000 in
theorem get_slot_err (n : Int) (w : World) (h0 : 0 ≤ n) (h1 : n < 18446744073709551616) (hb : (putSlot (sLap n) (sFull n) (sVal n)).2 ≠ 0) : Calls Try.prog 82 #[.int .u64 n] w fun e w' => e = .returned (.tuple #[.agg #[.int .i64 0, .bool false, .int .i64 0], .int .i64 5]) ∧ Kept w w' := by
  have HP : ∀ w, Hid (Calls Try.prog 91 #[.agg #[.int .i64 (sLap n), .bool (sFull n), .int .i64 (sVal n)]] w fun e w' => e = .returned (.tuple #[.int .u64 ((putSlot (sLap n) (sFull n) (sVal n)).1), .int .i64 ((putSlot (sLap n) (sFull n) (sVal n)).2)]) ∧ Kept w w') := fun w => Lib.hid (by
    have h := put_slot (sLap n) (sFull n) (sVal n) w
    exact h)
  have H0 := Lib.hid h0; have H1 := Lib.hid h1
  have HB := Lib.hid hb
  clear h0 h1 hb
  go_enter Try.func82, Try.ntmps82
  go_wp2_with fail
  refine (value_slot _ _ H0.out H1.out).mono ?_
  rintro e w1 ⟨rfl, hk1⟩
  go_wp2_with fail
  refine (meaning_slot_err _ _ _ _ _ _ _ HP HB.out).mono ?_
  rintro e w2 ⟨rfl, hk2⟩
  have hz := (hk1.trans hk2).size
  simp at hz
  have r0 : w2.cell? ⟨w.heap.size, 0, none⟩ = some (.int .i64 0) := (hk1.trans hk2).some (by simp [*])
  have r1 : w2.cell? ⟨w.heap.size, 1, none⟩ = some (.bool false) := (hk1.trans hk2).some (by simp [*])
  have r2 : w2.cell? ⟨w.heap.size, 2, none⟩ = some (.int .i64 0) := (hk1.trans hk2).some (by simp [*])
  have f1 : ∀ o, w2.frozen? ⟨w.heap.size, o, none⟩ = false := fun o => by rw [(hk1.trans hk2).froze]; simp
  have K1 : Kept w w2 := (((Kept.refl w).alloc _ _).trans (hk1.trans hk2))
  have hlt : w.heap.size < w2.heap.size := by omega
  clear hk1 hk2 hz
  go_wp2
  refine bodyPost_ret (v := .tuple #[.agg #[.int .i64 0, .bool false, .int .i64 0], .int .i64 5]) ?_ rfl ⟨rfl, ?_⟩
  · simp [results, Try.results82, go_sem, r0, r1, r2]
  · refine (Kept.setCell (Kept.setCell (Kept.setCell K1 ?_ _) ?_ _) ?_ _) <;> simp

set_option maxHeartbeats 800000 in
theorem get_slot_word (n : Int) (w : World) (h0 : 0 ≤ n) (h1 : n < 18446744073709551616) (hb : (putSlot (sLap n) (sFull n) (sVal n)).2 = 0) (ha : (putSlot (sLap n) (sFull n) (sVal n)).1 ≠ n) : Calls Try.prog 82 #[.int .u64 n] w fun e w' => e = .returned (.tuple #[.agg #[.int .i64 0, .bool false, .int .i64 0], .int .i64 5]) ∧ Kept w w' := by
  have HP : ∀ w, Hid (Calls Try.prog 91 #[.agg #[.int .i64 (sLap n), .bool (sFull n), .int .i64 (sVal n)]] w fun e w' => e = .returned (.tuple #[.int .u64 ((putSlot (sLap n) (sFull n) (sVal n)).1), .int .i64 (0)]) ∧ Kept w w') := fun w => Lib.hid (by
    have h := put_slot (sLap n) (sFull n) (sVal n) w
    rw [hb] at h
    exact h)
  have H0 := Lib.hid h0; have H1 := Lib.hid h1
  have HA := Lib.hid ha
  clear h0 h1 hb ha
  go_enter Try.func82, Try.ntmps82
  go_wp2_with fail
  refine (value_slot _ _ H0.out H1.out).mono ?_
  rintro e w1 ⟨rfl, hk1⟩
  go_wp2_with fail
  refine (meaning_slot_word _ _ _ _ _ _ HP HA.out).mono ?_
  rintro e w2 ⟨rfl, hk2⟩
  have hz := (hk1.trans hk2).size
  simp at hz
  have r0 : w2.cell? ⟨w.heap.size, 0, none⟩ = some (.int .i64 0) := (hk1.trans hk2).some (by simp [*])
  have r1 : w2.cell? ⟨w.heap.size, 1, none⟩ = some (.bool false) := (hk1.trans hk2).some (by simp [*])
  have r2 : w2.cell? ⟨w.heap.size, 2, none⟩ = some (.int .i64 0) := (hk1.trans hk2).some (by simp [*])
  have f1 : ∀ o, w2.frozen? ⟨w.heap.size, o, none⟩ = false := fun o => by rw [(hk1.trans hk2).froze]; simp
  have K1 : Kept w w2 := (((Kept.refl w).alloc _ _).trans (hk1.trans hk2))
  have hlt : w.heap.size < w2.heap.size := by omega
  clear hk1 hk2 hz
  go_wp2
  refine bodyPost_ret (v := .tuple #[.agg #[.int .i64 0, .bool false, .int .i64 0], .int .i64 5]) ?_ rfl ⟨rfl, ?_⟩
  · simp [results, Try.results82, go_sem, r0, r1, r2]
  · refine (Kept.setCell (Kept.setCell (Kept.setCell K1 ?_ _) ?_ _) ?_ _) <;> simp

end Go.Proofs.Ytlfdiffbepfgbaa.Wo
