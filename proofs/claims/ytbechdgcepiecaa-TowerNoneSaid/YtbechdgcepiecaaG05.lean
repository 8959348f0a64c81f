/- Put of each kind: the program's. -/
import Derived.Test.YtbechdgcepiecaaG04
set_option linter.unusedVariables false
set_option linter.unusedSimpArgs false

namespace Go.Proofs.Ytbechdgcepiecaa.Wo
set_option maxRecDepth 20000
open Go.RowKit

set_option maxHeartbeats 800000 in
theorem put_ref_bad (i g : Int) (m : Bool) (w : World) (i0 : -9223372036854775808 ≤ i) (i1 : i ≤ 9223372036854775807) (hr : ¬ (-1 ≤ i ∧ i ≤ 65534 ∧ 0 ≤ g ∧ g ≤ 4294967295)) : Calls Try.prog 116 #[.agg #[.int .i64 i, .int .i64 g, .bool m]] w fun e w' => e = .returned (.tuple #[.int .u64 (0), .int .i64 3]) ∧ Kept w w' := by
  have HW : Hid (¬ (0 ≤ wrap64 (i + 1) ∧ wrap64 (i + 1) ≤ 65535 ∧ 0 ≤ g ∧ g ≤ 4294967295)) := Lib.hid (by intro h; unfold wrap64 at h; exact hr (by omega))
  clear hr
  clear i0 i1
  go_enter Try.func116, Try.ntmps116
  go_wp2_with fail
  go_region_held3 (fun w' => w'.cell? ⟨w.heap.size, 0, none⟩ = some (.int .i64 i) ∧ w'.cell? ⟨w.heap.size, 1, none⟩ = some (.int .i64 g) ∧ w'.cell? ⟨w.heap.size, 2, none⟩ = some (.bool m)) (first | (simp [World.cell?_alloc_at]; done) | go_keep | (exact ⟨hk.some (by simp [*]), hk.some (by simp [*]), hk.some (by simp [*])⟩)) (first | (go_at_call 143; refine (place_any _ _).mono ?_; rintro e w' ⟨rfl, rfl⟩) | (go_at_call 142; refine (within2_no _ _ _ _ _ _ ?_ ?_ ?_ ?_ HW.out).mono ?_; (all_goals (try (simp [*]; done))); rintro e w1 ⟨rfl, hk⟩))
  go_wp2
  go_ret2
  exact ⟨rfl, by repeat (first | exact Kept.refl _ | refine Kept.alloc ?_ _ _ | refine Kept.drew ?_ | refine Kept.drewN ?_ _ | refine Kept.trans ?_ (by assumption))⟩

set_option maxHeartbeats 800000 in
theorem put_ref_form (i g : Int) (m : Bool) (w : World)  (hr : -1 ≤ i ∧ i ≤ 65534 ∧ 0 ≤ g ∧ g ≤ 4294967295) (hf : i = -1 ∧ g ≠ 0) : Calls Try.prog 116 #[.agg #[.int .i64 i, .int .i64 g, .bool m]] w fun e w' => e = .returned (.tuple #[.int .u64 (0), .int .i64 5]) ∧ Kept w w' := by
  have HW : Hid (0 ≤ i + 1 ∧ i + 1 ≤ 65535 ∧ 0 ≤ g ∧ g ≤ 4294967295) := Lib.hid (by omega)
  have I0 := Lib.hid (show -1 ≤ i by omega); have I1 := Lib.hid (show i ≤ 65534 by omega)
  have b0 : (i == -1) = true := by simp [hf.1]
  have b1 : (g != 0) = true := by simp [hf.2]
  clear hf hr
  go_enter Try.func116, Try.ntmps116
  go_wp2_with fail
  go_region_held3 (fun w' => w'.cell? ⟨w.heap.size, 0, none⟩ = some (.int .i64 i) ∧ w'.cell? ⟨w.heap.size, 1, none⟩ = some (.int .i64 g) ∧ w'.cell? ⟨w.heap.size, 2, none⟩ = some (.bool m)) (first | (simp [World.cell?_alloc_at]; done) | go_keep | (exact ⟨hk.some (by simp [*]), hk.some (by simp [*]), hk.some (by simp [*])⟩)) (first | (go_at_call 143; refine (place_in _ I0.out I1.out _).mono ?_; rintro e w' ⟨rfl, rfl⟩) | (go_at_call 142; refine (within2_yes _ _ _ _ _ _ ?_ ?_ ?_ ?_ HW.out).mono ?_; (all_goals (try (simp [*]; done))); rintro e w1 ⟨rfl, hk⟩))
  go_wp2
  go_ret2
  exact ⟨rfl, by repeat (first | exact Kept.refl _ | refine Kept.alloc ?_ _ _ | refine Kept.drew ?_ | refine Kept.drewN ?_ _ | refine Kept.trans ?_ (by assumption))⟩

set_option maxHeartbeats 800000 in
theorem put_ref_good (i g : Int) (m : Bool) (w : World)  (hr : -1 ≤ i ∧ i ≤ 65534 ∧ 0 ≤ g ∧ g ≤ 4294967295) (hf : ¬ (i = -1 ∧ g ≠ 0)) : Calls Try.prog 116 #[.agg #[.int .i64 i, .int .i64 g, .bool m]] w fun e w' => e = .returned (.tuple #[.int .u64 (i + 1 + g * 65536 + bitOf m * 9223372036854775808), .int .i64 0]) ∧ Kept w w' := by
  have HW : Hid (0 ≤ i + 1 ∧ i + 1 ≤ 65535 ∧ 0 ≤ g ∧ g ≤ 4294967295) := Lib.hid (by omega)
  have I0 := Lib.hid (show -1 ≤ i by omega); have I1 := Lib.hid (show i ≤ 65534 by omega)
  have HJ : ∀ w, Hid (Calls Try.prog 144 _ w _) := fun w => Lib.hid (joined_ref (i + 1) g (bitOf m) w (by omega) (by omega) (by omega) (by omega) (bitOf_lo _) (bitOf_hi _))
  by_cases hi : i = -1
  · have b0 : (i == -1) = true := by simp [hi]
    have b1 : (g != 0) = false := by simp only [bne_eq_false_iff_eq]; exact Classical.byContradiction fun h => hf ⟨hi, h⟩
    clear hr hf hi
    go_enter Try.func116, Try.ntmps116
    go_wp2_with fail
    go_region_held3 (fun w' => w'.cell? ⟨w.heap.size, 0, none⟩ = some (.int .i64 i) ∧ w'.cell? ⟨w.heap.size, 1, none⟩ = some (.int .i64 g) ∧ w'.cell? ⟨w.heap.size, 2, none⟩ = some (.bool m)) (first | (simp [World.cell?_alloc_at]; done) | go_keep | (exact ⟨hk.some (by simp [*]), hk.some (by simp [*]), hk.some (by simp [*])⟩)) (first | (go_at_call 143; refine (place_in _ I0.out I1.out _).mono ?_; rintro e w' ⟨rfl, rfl⟩) | (go_at_call 142; refine (within2_yes _ _ _ _ _ _ ?_ ?_ ?_ ?_ HW.out).mono ?_; (all_goals (try (simp [*]; done))); rintro e w1 ⟨rfl, hk⟩))
    go_wp2_with fail
    have hz := hk.size
    simp at hz
    have hk' := hk
    have s0 : w1.cell? ⟨w.heap.size, 0, none⟩ = some (.int .i64 i) := hk'.some (by simp [*])
    have s1 : w1.cell? ⟨w.heap.size, 1, none⟩ = some (.int .i64 g) := hk'.some (by simp [*])
    have s2 : w1.cell? ⟨w.heap.size, 2, none⟩ = some (.bool m) := hk'.some (by simp [*])
    have K1 : Kept w w1 := by repeat (first | exact Kept.refl _ | refine Kept.alloc ?_ _ _ | refine Kept.drew ?_ | refine Kept.drewN ?_ _ | refine Kept.trans ?_ (by assumption))
    clear hz hk hk'
    go_region_held3 (fun w' => w'.cell? ⟨w.heap.size, 0, none⟩ = some (.int .i64 i) ∧ w'.cell? ⟨w.heap.size, 1, none⟩ = some (.int .i64 g) ∧ w'.cell? ⟨w.heap.size, 2, none⟩ = some (.bool m)) (first | go_keep | (exact ⟨hk.some (by simp [*]), hk.some (by simp [*]), hk.some (by simp [*])⟩)) (first | (go_at_call 139; refine (table_refWord _ _).mono ?_; rintro e w1 ⟨rfl, hk⟩) | (go_at_call 143; refine (place_in _ I0.out I1.out _).mono ?_; rintro e w' ⟨rfl, rfl⟩) | (go_at_call 145; refine (bit_any _ _).mono ?_; rintro e w' ⟨rfl, rfl⟩) | (go_at_call 144; refine (HJ _).out.mono ?_; rintro e w1 ⟨rfl, hk⟩))
    go_wp2
    go_ret2
    exact ⟨rfl, by repeat (first | exact Kept.refl _ | refine Kept.alloc ?_ _ _ | refine Kept.drew ?_ | refine Kept.drewN ?_ _ | refine Kept.trans ?_ (by assumption))⟩
  · have b0 : (i == -1) = false := by simp [hi]
    clear hr hf hi
    go_enter Try.func116, Try.ntmps116
    go_wp2_with fail
    go_region_held3 (fun w' => w'.cell? ⟨w.heap.size, 0, none⟩ = some (.int .i64 i) ∧ w'.cell? ⟨w.heap.size, 1, none⟩ = some (.int .i64 g) ∧ w'.cell? ⟨w.heap.size, 2, none⟩ = some (.bool m)) (first | (simp [World.cell?_alloc_at]; done) | go_keep | (exact ⟨hk.some (by simp [*]), hk.some (by simp [*]), hk.some (by simp [*])⟩)) (first | (go_at_call 143; refine (place_in _ I0.out I1.out _).mono ?_; rintro e w' ⟨rfl, rfl⟩) | (go_at_call 142; refine (within2_yes _ _ _ _ _ _ ?_ ?_ ?_ ?_ HW.out).mono ?_; (all_goals (try (simp [*]; done))); rintro e w1 ⟨rfl, hk⟩))
    go_wp2_with fail
    have hz := hk.size
    simp at hz
    have hk' := hk
    have s0 : w1.cell? ⟨w.heap.size, 0, none⟩ = some (.int .i64 i) := hk'.some (by simp [*])
    have s1 : w1.cell? ⟨w.heap.size, 1, none⟩ = some (.int .i64 g) := hk'.some (by simp [*])
    have s2 : w1.cell? ⟨w.heap.size, 2, none⟩ = some (.bool m) := hk'.some (by simp [*])
    have K1 : Kept w w1 := by repeat (first | exact Kept.refl _ | refine Kept.alloc ?_ _ _ | refine Kept.drew ?_ | refine Kept.drewN ?_ _ | refine Kept.trans ?_ (by assumption))
    clear hz hk hk'
    go_region_held3 (fun w' => w'.cell? ⟨w.heap.size, 0, none⟩ = some (.int .i64 i) ∧ w'.cell? ⟨w.heap.size, 1, none⟩ = some (.int .i64 g) ∧ w'.cell? ⟨w.heap.size, 2, none⟩ = some (.bool m)) (first | go_keep | (exact ⟨hk.some (by simp [*]), hk.some (by simp [*]), hk.some (by simp [*])⟩)) (first | (go_at_call 139; refine (table_refWord _ _).mono ?_; rintro e w1 ⟨rfl, hk⟩) | (go_at_call 143; refine (place_in _ I0.out I1.out _).mono ?_; rintro e w' ⟨rfl, rfl⟩) | (go_at_call 145; refine (bit_any _ _).mono ?_; rintro e w' ⟨rfl, rfl⟩) | (go_at_call 144; refine (HJ _).out.mono ?_; rintro e w1 ⟨rfl, hk⟩))
    go_wp2
    go_ret2
    exact ⟨rfl, by repeat (first | exact Kept.refl _ | refine Kept.alloc ?_ _ _ | refine Kept.drew ?_ | refine Kept.drewN ?_ _ | refine Kept.trans ?_ (by assumption))⟩

set_option maxHeartbeats 800000 in
theorem put_top_bad (i t : Int) (w : World) (i0 : -9223372036854775808 ≤ i) (i1 : i ≤ 9223372036854775807) (hr : ¬ (-1 ≤ i ∧ i ≤ 65534 ∧ 0 ≤ t ∧ t ≤ 281474976710655)) : Calls Try.prog 148 #[.agg #[.int .i64 i, .int .i64 t]] w fun e w' => e = .returned (.tuple #[.int .u64 (0), .int .i64 3]) ∧ Kept w w' := by
  have HW : Hid (¬ (0 ≤ wrap64 (i + 1) ∧ wrap64 (i + 1) ≤ 65535 ∧ 0 ≤ t ∧ t ≤ 281474976710655)) := Lib.hid (by intro h; unfold wrap64 at h; exact hr (by omega))
  clear hr
  clear i0 i1
  go_enter Try.func148, Try.ntmps148
  go_wp2_with fail
  go_region_held3 (fun w' => w'.cell? ⟨w.heap.size, 0, none⟩ = some (.int .i64 i) ∧ w'.cell? ⟨w.heap.size, 1, none⟩ = some (.int .i64 t)) (first | (simp [World.cell?_alloc_at]; done) | go_keep | (exact ⟨hk.some (by simp [*]), hk.some (by simp [*])⟩)) (first | (go_at_call 143; refine (place_any _ _).mono ?_; rintro e w' ⟨rfl, rfl⟩) | (go_at_call 142; refine (within2_no _ _ _ _ _ _ ?_ ?_ ?_ ?_ HW.out).mono ?_; (all_goals (try (simp [*]; done))); rintro e w1 ⟨rfl, hk⟩))
  go_wp2
  go_ret2
  exact ⟨rfl, by repeat (first | exact Kept.refl _ | refine Kept.alloc ?_ _ _ | refine Kept.drew ?_ | refine Kept.drewN ?_ _ | refine Kept.trans ?_ (by assumption))⟩

set_option maxHeartbeats 800000 in
theorem put_top_good (i t : Int) (w : World)  (hr : -1 ≤ i ∧ i ≤ 65534 ∧ 0 ≤ t ∧ t ≤ 281474976710655) : Calls Try.prog 148 #[.agg #[.int .i64 i, .int .i64 t]] w fun e w' => e = .returned (.tuple #[.int .u64 (i + 1 + t * 65536), .int .i64 0]) ∧ Kept w w' := by
  have HW : Hid (0 ≤ i + 1 ∧ i + 1 ≤ 65535 ∧ 0 ≤ t ∧ t ≤ 281474976710655) := Lib.hid (by omega)
  have I0 := Lib.hid (show -1 ≤ i by omega); have I1 := Lib.hid (show i ≤ 65534 by omega)
  have HJ : ∀ w, Hid (Calls Try.prog 144 _ w _) := fun w => Lib.hid (joined_top (i + 1) t w (by omega) (by omega) (by omega) (by omega))
  clear hr
  go_enter Try.func148, Try.ntmps148
  go_wp2_with fail
  go_region_held3 (fun w' => w'.cell? ⟨w.heap.size, 0, none⟩ = some (.int .i64 i) ∧ w'.cell? ⟨w.heap.size, 1, none⟩ = some (.int .i64 t)) (first | (simp [World.cell?_alloc_at]; done) | go_keep | (exact ⟨hk.some (by simp [*]), hk.some (by simp [*])⟩)) (first | (go_at_call 143; refine (place_in _ I0.out I1.out _).mono ?_; rintro e w' ⟨rfl, rfl⟩) | (go_at_call 142; refine (within2_yes _ _ _ _ _ _ ?_ ?_ ?_ ?_ HW.out).mono ?_; (all_goals (try (simp [*]; done))); rintro e w1 ⟨rfl, hk⟩))
  go_wp2_with fail
  have hz := hk.size
  simp at hz
  have hk' := hk
  have s0 : w1.cell? ⟨w.heap.size, 0, none⟩ = some (.int .i64 i) := hk'.some (by simp [*])
  have s1 : w1.cell? ⟨w.heap.size, 1, none⟩ = some (.int .i64 t) := hk'.some (by simp [*])
  have K1 : Kept w w1 := by repeat (first | exact Kept.refl _ | refine Kept.alloc ?_ _ _ | refine Kept.drew ?_ | refine Kept.drewN ?_ _ | refine Kept.trans ?_ (by assumption))
  clear hz hk hk'
  go_region_held3 (fun w' => w'.cell? ⟨w.heap.size, 0, none⟩ = some (.int .i64 i) ∧ w'.cell? ⟨w.heap.size, 1, none⟩ = some (.int .i64 t)) (first | go_keep | (exact ⟨hk.some (by simp [*]), hk.some (by simp [*])⟩)) (first | (go_at_call 166; refine (table_topWord _ _).mono ?_; rintro e w1 ⟨rfl, hk⟩) | (go_at_call 143; refine (place_in _ I0.out I1.out _).mono ?_; rintro e w' ⟨rfl, rfl⟩) | (go_at_call 144; refine (HJ _).out.mono ?_; rintro e w1 ⟨rfl, hk⟩))
  go_wp2
  go_ret2
  exact ⟨rfl, by repeat (first | exact Kept.refl _ | refine Kept.alloc ?_ _ _ | refine Kept.drew ?_ | refine Kept.drewN ?_ _ | refine Kept.trans ?_ (by assumption))⟩

set_option maxHeartbeats 800000 in
theorem put_slot_bad (l : Int) (f : Bool) (v : Int) (w : World)  (hr : ¬ (0 ≤ l ∧ l ≤ 4294967295 ∧ 0 ≤ v ∧ v ≤ 65535)) : Calls Try.prog 163 #[.agg #[.int .i64 l, .bool f, .int .i64 v]] w fun e w' => e = .returned (.tuple #[.int .u64 (0), .int .i64 3]) ∧ Kept w w' := by
  have HW : Hid (¬ (0 ≤ l ∧ l ≤ 4294967295 ∧ 0 ≤ v ∧ v ≤ 65535)) := Lib.hid (by intro h; exact hr (by omega))
  clear hr
  go_enter Try.func163, Try.ntmps163
  go_wp2_with fail
  refine (within2_no _ _ _ _ _ _ ?_ ?_ ?_ ?_ HW.out).mono ?_
  all_goals (try (simp; done))
  rintro e w1 ⟨rfl, hk⟩
  go_wp2
  go_ret2
  exact ⟨rfl, by repeat (first | exact Kept.refl _ | refine Kept.alloc ?_ _ _ | refine Kept.drew ?_ | refine Kept.drewN ?_ _ | refine Kept.trans ?_ (by assumption))⟩

set_option maxHeartbeats 800000 in
theorem put_slot_form (l : Int) (f : Bool) (v : Int) (w : World)  (hr : 0 ≤ l ∧ l ≤ 4294967295 ∧ 0 ≤ v ∧ v ≤ 65535) (hf : f = false ∧ v ≠ 0) : Calls Try.prog 163 #[.agg #[.int .i64 l, .bool f, .int .i64 v]] w fun e w' => e = .returned (.tuple #[.int .u64 (0), .int .i64 5]) ∧ Kept w w' := by
  have HW : Hid (0 ≤ l ∧ l ≤ 4294967295 ∧ 0 ≤ v ∧ v ≤ 65535) := Lib.hid (by omega)
  have b0 : (v != 0) = true := by simp [hf.2]
  obtain ⟨rfl, _⟩ := hf
  clear hr
  go_enter Try.func163, Try.ntmps163
  go_wp2_with fail
  refine (within2_yes _ _ _ _ _ _ ?_ ?_ ?_ ?_ HW.out).mono ?_
  all_goals (try (simp; done))
  rintro e w1 ⟨rfl, hk⟩
  have hz := hk.size
  simp at hz
  have s0 : w1.cell? ⟨w.heap.size, 0, none⟩ = some (.int .i64 l) := hk.some (by simp [*])
  have s1 : w1.cell? ⟨w.heap.size, 1, none⟩ = some (.bool false) := hk.some (by simp [*])
  have s2 : w1.cell? ⟨w.heap.size, 2, none⟩ = some (.int .i64 v) := hk.some (by simp [*])
  go_wp2
  go_ret2
  exact ⟨rfl, by repeat (first | exact Kept.refl _ | refine Kept.alloc ?_ _ _ | refine Kept.drew ?_ | refine Kept.drewN ?_ _ | refine Kept.trans ?_ (by assumption))⟩

set_option maxHeartbeats 800000 in
theorem put_slot_good (l : Int) (f : Bool) (v : Int) (w : World)  (hr : 0 ≤ l ∧ l ≤ 4294967295 ∧ 0 ≤ v ∧ v ≤ 65535) (hf : ¬ (f = false ∧ v ≠ 0)) : Calls Try.prog 163 #[.agg #[.int .i64 l, .bool f, .int .i64 v]] w fun e w' => e = .returned (.tuple #[.int .u64 (v + bitOf f * 65536 + l * 4294967296), .int .i64 0]) ∧ Kept w w' := by
  have HW : Hid (0 ≤ l ∧ l ≤ 4294967295 ∧ 0 ≤ v ∧ v ≤ 65535) := Lib.hid (by omega)
  have HJ : ∀ w, Hid (Calls Try.prog 144 _ w _) := fun w => Lib.hid (joined_slot v (bitOf f) l w (by omega) (by omega) (bitOf_lo _) (bitOf_hi _) (by omega) (by omega))
  cases f
  · have b0 : (v != 0) = false := by simp only [bne_eq_false_iff_eq]; exact Classical.byContradiction fun h => hf ⟨rfl, h⟩
    clear hr hf
    go_enter Try.func163, Try.ntmps163
    go_wp2_with fail
    refine (within2_yes _ _ _ _ _ _ ?_ ?_ ?_ ?_ HW.out).mono ?_
    all_goals (try (simp; done))
    rintro e w1 ⟨rfl, hk⟩
    have hz := hk.size
    simp at hz
    have s0 : w1.cell? ⟨w.heap.size, 0, none⟩ = some (.int .i64 l) := hk.some (by simp [*])
    have s1 : w1.cell? ⟨w.heap.size, 1, none⟩ = some (.bool false) := hk.some (by simp [*])
    have s2 : w1.cell? ⟨w.heap.size, 2, none⟩ = some (.int .i64 v) := hk.some (by simp [*])
    go_wp2_with fail
    have hk' := hk
    have K1 : Kept w w1 := by repeat (first | exact Kept.refl _ | refine Kept.alloc ?_ _ _ | refine Kept.drew ?_ | refine Kept.drewN ?_ _ | refine Kept.trans ?_ (by assumption))
    clear hz hk hk'
    go_region_held3 (fun w' => w'.cell? ⟨w.heap.size, 0, none⟩ = some (.int .i64 l) ∧ w'.cell? ⟨w.heap.size, 1, none⟩ = some (.bool false) ∧ w'.cell? ⟨w.heap.size, 2, none⟩ = some (.int .i64 v)) (first | go_keep | (exact ⟨hk.some (by simp [*]), hk.some (by simp [*]), hk.some (by simp [*])⟩)) (first | (go_at_call 171; refine (table_slotWord _ _).mono ?_; rintro e w1 ⟨rfl, hk⟩) | (go_at_call 145; refine (bit_any _ _).mono ?_; rintro e w' ⟨rfl, rfl⟩) | (go_at_call 144; refine (HJ _).out.mono ?_; rintro e w1 ⟨rfl, hk⟩))
    go_wp2
    go_ret2
    exact ⟨rfl, by repeat (first | exact Kept.refl _ | refine Kept.alloc ?_ _ _ | refine Kept.drew ?_ | refine Kept.drewN ?_ _ | refine Kept.trans ?_ (by assumption))⟩
  · clear hr hf
    go_enter Try.func163, Try.ntmps163
    go_wp2_with fail
    refine (within2_yes _ _ _ _ _ _ ?_ ?_ ?_ ?_ HW.out).mono ?_
    all_goals (try (simp; done))
    rintro e w1 ⟨rfl, hk⟩
    have hz := hk.size
    simp at hz
    have s0 : w1.cell? ⟨w.heap.size, 0, none⟩ = some (.int .i64 l) := hk.some (by simp [*])
    have s1 : w1.cell? ⟨w.heap.size, 1, none⟩ = some (.bool true) := hk.some (by simp [*])
    have s2 : w1.cell? ⟨w.heap.size, 2, none⟩ = some (.int .i64 v) := hk.some (by simp [*])
    go_wp2_with fail
    have hk' := hk
    have K1 : Kept w w1 := by repeat (first | exact Kept.refl _ | refine Kept.alloc ?_ _ _ | refine Kept.drew ?_ | refine Kept.drewN ?_ _ | refine Kept.trans ?_ (by assumption))
    clear hz hk hk'
    go_region_held3 (fun w' => w'.cell? ⟨w.heap.size, 0, none⟩ = some (.int .i64 l) ∧ w'.cell? ⟨w.heap.size, 1, none⟩ = some (.bool true) ∧ w'.cell? ⟨w.heap.size, 2, none⟩ = some (.int .i64 v)) (first | go_keep | (exact ⟨hk.some (by simp [*]), hk.some (by simp [*]), hk.some (by simp [*])⟩)) (first | (go_at_call 171; refine (table_slotWord _ _).mono ?_; rintro e w1 ⟨rfl, hk⟩) | (go_at_call 145; refine (bit_any _ _).mono ?_; rintro e w' ⟨rfl, rfl⟩) | (go_at_call 144; refine (HJ _).out.mono ?_; rintro e w1 ⟨rfl, hk⟩))
    go_wp2
    go_ret2
    exact ⟨rfl, by repeat (first | exact Kept.refl _ | refine Kept.alloc ?_ _ _ | refine Kept.drew ?_ | refine Kept.drewN ?_ _ | refine Kept.trans ?_ (by assumption))⟩

end Go.Proofs.Ytbechdgcepiecaa.Wo

namespace Go.Proofs.Ytbechdgcepiecaa.Wo
set_option maxRecDepth 20000
open Go.RowKit

theorem put_ref (i g : Int) (m : Bool) (w : World) (i0 : -9223372036854775808 ≤ i) (i1 : i ≤ 9223372036854775807) : Calls Try.prog 116 #[.agg #[.int .i64 i, .int .i64 g, .bool m]] w fun e w' => e = .returned (.tuple #[.int .u64 (putRef i g m).1, .int .i64 (putRef i g m).2]) ∧ Kept w w' := by
  by_cases hr : -1 ≤ i ∧ i ≤ 65534 ∧ 0 ≤ g ∧ g ≤ 4294967295
  · by_cases hf : i = -1 ∧ g ≠ 0
    · rw [putRef_form m hr hf]; exact put_ref_form i g m w hr hf
    · rw [putRef_good m hr hf]; exact put_ref_good i g m w hr hf
  · rw [putRef_bad m hr]; exact put_ref_bad i g m w i0 i1 hr

theorem put_top (i t : Int) (w : World) (i0 : -9223372036854775808 ≤ i) (i1 : i ≤ 9223372036854775807) : Calls Try.prog 148 #[.agg #[.int .i64 i, .int .i64 t]] w fun e w' => e = .returned (.tuple #[.int .u64 (putTop i t).1, .int .i64 (putTop i t).2]) ∧ Kept w w' := by
  by_cases hr : -1 ≤ i ∧ i ≤ 65534 ∧ 0 ≤ t ∧ t ≤ 281474976710655
  · rw [putTop_good hr]; exact put_top_good i t w hr
  · rw [putTop_bad hr]; exact put_top_bad i t w i0 i1 hr

theorem put_slot (l : Int) (f : Bool) (v : Int) (w : World)  : Calls Try.prog 163 #[.agg #[.int .i64 l, .bool f, .int .i64 v]] w fun e w' => e = .returned (.tuple #[.int .u64 (putSlot l f v).1, .int .i64 (putSlot l f v).2]) ∧ Kept w w' := by
  by_cases hr : 0 ≤ l ∧ l ≤ 4294967295 ∧ 0 ≤ v ∧ v ≤ 65535
  · by_cases hf : f = false ∧ v ≠ 0
    · rw [putSlot_form hr hf]; exact put_slot_form l f v w hr hf
    · rw [putSlot_good hr hf]; exact put_slot_good l f v w hr hf
  · rw [putSlot_bad f hr]; exact put_slot_bad l f v w  hr

end Go.Proofs.Ytbechdgcepiecaa.Wo

namespace Go.Proofs.Ytbechdgcepiecaa.Wo
set_option maxRecDepth 20000
open Go.RowKit

set_option maxHeartbeats 800000 in
theorem meaning_ref_yes (n : Int) (i g : Int) (m : Bool) (w : World) (HP : ∀ w, Hid (Calls Try.prog 116 #[.agg #[.int .i64 i, .int .i64 g, .bool m]] w fun e w' => e = .returned (.tuple #[.int .u64 n, .int .i64 0]) ∧ Kept w w')) : Calls Try.prog 114 #[.int .u64 n, .agg #[.int .i64 i, .int .i64 g, .bool m], .func (.func 116) #[] #[]] w fun e w' => e = .returned (.tuple #[.agg #[.int .i64 i, .int .i64 g, .bool m], .int .i64 0]) ∧ Kept w w' := by
  go_enter Try.func114, Try.ntmps114
  go_wp2_with fail
  refine (HP _).out.mono ?_
  rintro e w1 ⟨rfl, hk1⟩
  have hz := hk1.size
  simp at hz
  have s0 : w1.cell? ⟨w.heap.size, 0, none⟩ = some (.int .i64 i) := hk1.some (by simp [*])
  have s1 : w1.cell? ⟨w.heap.size, 1, none⟩ = some (.int .i64 g) := hk1.some (by simp [*])
  have s2 : w1.cell? ⟨w.heap.size, 2, none⟩ = some (.bool m) := hk1.some (by simp [*])
  have r0 : w1.cell? ⟨w.heap.size + 1, 0, none⟩ = some (.int .i64 0) := hk1.some (by simp [*])
  have r1 : w1.cell? ⟨w.heap.size + 1, 1, none⟩ = some (.int .i64 0) := hk1.some (by simp [*])
  have r2 : w1.cell? ⟨w.heap.size + 1, 2, none⟩ = some (.bool false) := hk1.some (by simp [*])
  have f1 : ∀ o, w1.frozen? ⟨w.heap.size + 1, o, none⟩ = false := fun o => by rw [hk1.froze]; simp
  have K1 : Kept w w1 := ((((Kept.refl w).alloc _ _).alloc _ _).trans hk1)
  have hlt : w.heap.size + 1 < w1.heap.size := by omega
  clear hk1 hz
  go_wp2
  refine bodyPost_ret (v := .tuple #[.agg #[.int .i64 i, .int .i64 g, .bool m], .int .i64 0]) ?_ rfl ⟨rfl, ?_⟩
  · simp [results, Try.results114, go_sem, r0, r1, r2]
  · refine (Kept.setCell (Kept.setCell (Kept.setCell K1 ?_ _) ?_ _) ?_ _) <;> simp

set_option maxHeartbeats 800000 in
theorem meaning_ref_err (n a b : Int) (i g : Int) (m : Bool) (w : World) (HP : ∀ w, Hid (Calls Try.prog 116 #[.agg #[.int .i64 i, .int .i64 g, .bool m]] w fun e w' => e = .returned (.tuple #[.int .u64 a, .int .i64 b]) ∧ Kept w w')) (hb : b ≠ 0) : Calls Try.prog 114 #[.int .u64 n, .agg #[.int .i64 i, .int .i64 g, .bool m], .func (.func 116) #[] #[]] w fun e w' => e = .returned (.tuple #[.agg #[.int .i64 0, .int .i64 0, .bool false], .int .i64 5]) ∧ Kept w w' := by
  have b0 : (b != 0) = true := by simp [hb]
  clear hb
  go_enter Try.func114, Try.ntmps114
  go_wp2_with fail
  refine (HP _).out.mono ?_
  rintro e w1 ⟨rfl, hk1⟩
  have hz := hk1.size
  simp at hz
  have s0 : w1.cell? ⟨w.heap.size, 0, none⟩ = some (.int .i64 i) := hk1.some (by simp [*])
  have s1 : w1.cell? ⟨w.heap.size, 1, none⟩ = some (.int .i64 g) := hk1.some (by simp [*])
  have s2 : w1.cell? ⟨w.heap.size, 2, none⟩ = some (.bool m) := hk1.some (by simp [*])
  have r0 : w1.cell? ⟨w.heap.size + 1, 0, none⟩ = some (.int .i64 0) := hk1.some (by simp [*])
  have r1 : w1.cell? ⟨w.heap.size + 1, 1, none⟩ = some (.int .i64 0) := hk1.some (by simp [*])
  have r2 : w1.cell? ⟨w.heap.size + 1, 2, none⟩ = some (.bool false) := hk1.some (by simp [*])
  have f1 : ∀ o, w1.frozen? ⟨w.heap.size + 1, o, none⟩ = false := fun o => by rw [hk1.froze]; simp
  have K1 : Kept w w1 := ((((Kept.refl w).alloc _ _).alloc _ _).trans hk1)
  have hlt : w.heap.size + 1 < w1.heap.size := by omega
  clear hk1 hz
  go_wp2
  refine bodyPost_ret (v := .tuple #[.agg #[.int .i64 0, .int .i64 0, .bool false], .int .i64 5]) ?_ rfl ⟨rfl, ?_⟩
  · simp [results, Try.results114, go_sem, r0, r1, r2, hlt]
  · refine (Kept.alloc (Kept.setCell (Kept.setCell (Kept.setCell K1 ?_ _) ?_ _) ?_ _) _ _) <;> simp

set_option maxHeartbeats 800000 in
theorem meaning_ref_word (n a : Int) (i g : Int) (m : Bool) (w : World) (HP : ∀ w, Hid (Calls Try.prog 116 #[.agg #[.int .i64 i, .int .i64 g, .bool m]] w fun e w' => e = .returned (.tuple #[.int .u64 a, .int .i64 0]) ∧ Kept w w')) (ha : a ≠ n) : Calls Try.prog 114 #[.int .u64 n, .agg #[.int .i64 i, .int .i64 g, .bool m], .func (.func 116) #[] #[]] w fun e w' => e = .returned (.tuple #[.agg #[.int .i64 0, .int .i64 0, .bool false], .int .i64 5]) ∧ Kept w w' := by
  have b0 : (a != n) = true := by simp [ha]
  clear ha
  go_enter Try.func114, Try.ntmps114
  go_wp2_with fail
  refine (HP _).out.mono ?_
  rintro e w1 ⟨rfl, hk1⟩
  have hz := hk1.size
  simp at hz
  have s0 : w1.cell? ⟨w.heap.size, 0, none⟩ = some (.int .i64 i) := hk1.some (by simp [*])
  have s1 : w1.cell? ⟨w.heap.size, 1, none⟩ = some (.int .i64 g) := hk1.some (by simp [*])
  have s2 : w1.cell? ⟨w.heap.size, 2, none⟩ = some (.bool m) := hk1.some (by simp [*])
  have r0 : w1.cell? ⟨w.heap.size + 1, 0, none⟩ = some (.int .i64 0) := hk1.some (by simp [*])
  have r1 : w1.cell? ⟨w.heap.size + 1, 1, none⟩ = some (.int .i64 0) := hk1.some (by simp [*])
  have r2 : w1.cell? ⟨w.heap.size + 1, 2, none⟩ = some (.bool false) := hk1.some (by simp [*])
  have f1 : ∀ o, w1.frozen? ⟨w.heap.size + 1, o, none⟩ = false := fun o => by rw [hk1.froze]; simp
  have K1 : Kept w w1 := ((((Kept.refl w).alloc _ _).alloc _ _).trans hk1)
  have hlt : w.heap.size + 1 < w1.heap.size := by omega
  clear hk1 hz
  go_wp2
  refine bodyPost_ret (v := .tuple #[.agg #[.int .i64 0, .int .i64 0, .bool false], .int .i64 5]) ?_ rfl ⟨rfl, ?_⟩
  · simp [results, Try.results114, go_sem, r0, r1, r2, hlt]
  · refine (Kept.alloc (Kept.setCell (Kept.setCell (Kept.setCell K1 ?_ _) ?_ _) ?_ _) _ _) <;> simp

set_option maxHeartbeats 800000 in
theorem meaning_top_yes (n : Int) (i t : Int) (w : World) (HP : ∀ w, Hid (Calls Try.prog 148 #[.agg #[.int .i64 i, .int .i64 t]] w fun e w' => e = .returned (.tuple #[.int .u64 n, .int .i64 0]) ∧ Kept w w')) : Calls Try.prog 146 #[.int .u64 n, .agg #[.int .i64 i, .int .i64 t], .func (.func 148) #[] #[]] w fun e w' => e = .returned (.tuple #[.agg #[.int .i64 i, .int .i64 t], .int .i64 0]) ∧ Kept w w' := by
  go_enter Try.func146, Try.ntmps146
  go_wp2_with fail
  refine (HP _).out.mono ?_
  rintro e w1 ⟨rfl, hk1⟩
  have hz := hk1.size
  simp at hz
  have s0 : w1.cell? ⟨w.heap.size, 0, none⟩ = some (.int .i64 i) := hk1.some (by simp [*])
  have s1 : w1.cell? ⟨w.heap.size, 1, none⟩ = some (.int .i64 t) := hk1.some (by simp [*])
  have r0 : w1.cell? ⟨w.heap.size + 1, 0, none⟩ = some (.int .i64 0) := hk1.some (by simp [*])
  have r1 : w1.cell? ⟨w.heap.size + 1, 1, none⟩ = some (.int .i64 0) := hk1.some (by simp [*])
  have f1 : ∀ o, w1.frozen? ⟨w.heap.size + 1, o, none⟩ = false := fun o => by rw [hk1.froze]; simp
  have K1 : Kept w w1 := ((((Kept.refl w).alloc _ _).alloc _ _).trans hk1)
  have hlt : w.heap.size + 1 < w1.heap.size := by omega
  clear hk1 hz
  go_wp2
  refine bodyPost_ret (v := .tuple #[.agg #[.int .i64 i, .int .i64 t], .int .i64 0]) ?_ rfl ⟨rfl, ?_⟩
  · simp [results, Try.results146, go_sem, r0, r1]
  · refine (Kept.setCell (Kept.setCell K1 ?_ _) ?_ _) <;> simp

set_option maxHeartbeats 800000 in
theorem meaning_slot_yes (n : Int) (l : Int) (f : Bool) (v : Int) (w : World) (HP : ∀ w, Hid (Calls Try.prog 163 #[.agg #[.int .i64 l, .bool f, .int .i64 v]] w fun e w' => e = .returned (.tuple #[.int .u64 n, .int .i64 0]) ∧ Kept w w')) : Calls Try.prog 164 #[.int .u64 n, .agg #[.int .i64 l, .bool f, .int .i64 v], .func (.func 163) #[] #[]] w fun e w' => e = .returned (.tuple #[.agg #[.int .i64 l, .bool f, .int .i64 v], .int .i64 0]) ∧ Kept w w' := by
  go_enter Try.func164, Try.ntmps164
  go_wp2_with fail
  refine (HP _).out.mono ?_
  rintro e w1 ⟨rfl, hk1⟩
  have hz := hk1.size
  simp at hz
  have s0 : w1.cell? ⟨w.heap.size, 0, none⟩ = some (.int .i64 l) := hk1.some (by simp [*])
  have s1 : w1.cell? ⟨w.heap.size, 1, none⟩ = some (.bool f) := hk1.some (by simp [*])
  have s2 : w1.cell? ⟨w.heap.size, 2, none⟩ = some (.int .i64 v) := hk1.some (by simp [*])
  have r0 : w1.cell? ⟨w.heap.size + 1, 0, none⟩ = some (.int .i64 0) := hk1.some (by simp [*])
  have r1 : w1.cell? ⟨w.heap.size + 1, 1, none⟩ = some (.bool false) := hk1.some (by simp [*])
  have r2 : w1.cell? ⟨w.heap.size + 1, 2, none⟩ = some (.int .i64 0) := hk1.some (by simp [*])
  have f1 : ∀ o, w1.frozen? ⟨w.heap.size + 1, o, none⟩ = false := fun o => by rw [hk1.froze]; simp
  have K1 : Kept w w1 := ((((Kept.refl w).alloc _ _).alloc _ _).trans hk1)
  have hlt : w.heap.size + 1 < w1.heap.size := by omega
  clear hk1 hz
  go_wp2
  refine bodyPost_ret (v := .tuple #[.agg #[.int .i64 l, .bool f, .int .i64 v], .int .i64 0]) ?_ rfl ⟨rfl, ?_⟩
  · simp [results, Try.results164, go_sem, r0, r1, r2]
  · refine (Kept.setCell (Kept.setCell (Kept.setCell K1 ?_ _) ?_ _) ?_ _) <;> simp

set_option maxHeartbeats 800000 in
theorem meaning_slot_err (n a b : Int) (l : Int) (f : Bool) (v : Int) (w : World) (HP : ∀ w, Hid (Calls Try.prog 163 #[.agg #[.int .i64 l, .bool f, .int .i64 v]] w fun e w' => e = .returned (.tuple #[.int .u64 a, .int .i64 b]) ∧ Kept w w')) (hb : b ≠ 0) : Calls Try.prog 164 #[.int .u64 n, .agg #[.int .i64 l, .bool f, .int .i64 v], .func (.func 163) #[] #[]] w fun e w' => e = .returned (.tuple #[.agg #[.int .i64 0, .bool false, .int .i64 0], .int .i64 5]) ∧ Kept w w' := by
  have b0 : (b != 0) = true := by simp [hb]
  clear hb
  go_enter Try.func164, Try.ntmps164
  go_wp2_with fail
  refine (HP _).out.mono ?_
  rintro e w1 ⟨rfl, hk1⟩
  have hz := hk1.size
  simp at hz
  have s0 : w1.cell? ⟨w.heap.size, 0, none⟩ = some (.int .i64 l) := hk1.some (by simp [*])
  have s1 : w1.cell? ⟨w.heap.size, 1, none⟩ = some (.bool f) := hk1.some (by simp [*])
  have s2 : w1.cell? ⟨w.heap.size, 2, none⟩ = some (.int .i64 v) := hk1.some (by simp [*])
  have r0 : w1.cell? ⟨w.heap.size + 1, 0, none⟩ = some (.int .i64 0) := hk1.some (by simp [*])
  have r1 : w1.cell? ⟨w.heap.size + 1, 1, none⟩ = some (.bool false) := hk1.some (by simp [*])
  have r2 : w1.cell? ⟨w.heap.size + 1, 2, none⟩ = some (.int .i64 0) := hk1.some (by simp [*])
  have f1 : ∀ o, w1.frozen? ⟨w.heap.size + 1, o, none⟩ = false := fun o => by rw [hk1.froze]; simp
  have K1 : Kept w w1 := ((((Kept.refl w).alloc _ _).alloc _ _).trans hk1)
  have hlt : w.heap.size + 1 < w1.heap.size := by omega
  clear hk1 hz
  go_wp2
  refine bodyPost_ret (v := .tuple #[.agg #[.int .i64 0, .bool false, .int .i64 0], .int .i64 5]) ?_ rfl ⟨rfl, ?_⟩
  · simp [results, Try.results164, go_sem, r0, r1, r2, hlt]
  · refine (Kept.alloc (Kept.setCell (Kept.setCell (Kept.setCell K1 ?_ _) ?_ _) ?_ _) _ _) <;> simp

set_option maxHeartbeats 800000 in
theorem meaning_slot_word (n a : Int) (l : Int) (f : Bool) (v : Int) (w : World) (HP : ∀ w, Hid (Calls Try.prog 163 #[.agg #[.int .i64 l, .bool f, .int .i64 v]] w fun e w' => e = .returned (.tuple #[.int .u64 a, .int .i64 0]) ∧ Kept w w')) (ha : a ≠ n) : Calls Try.prog 164 #[.int .u64 n, .agg #[.int .i64 l, .bool f, .int .i64 v], .func (.func 163) #[] #[]] w fun e w' => e = .returned (.tuple #[.agg #[.int .i64 0, .bool false, .int .i64 0], .int .i64 5]) ∧ Kept w w' := by
  have b0 : (a != n) = true := by simp [ha]
  clear ha
  go_enter Try.func164, Try.ntmps164
  go_wp2_with fail
  refine (HP _).out.mono ?_
  rintro e w1 ⟨rfl, hk1⟩
  have hz := hk1.size
  simp at hz
  have s0 : w1.cell? ⟨w.heap.size, 0, none⟩ = some (.int .i64 l) := hk1.some (by simp [*])
  have s1 : w1.cell? ⟨w.heap.size, 1, none⟩ = some (.bool f) := hk1.some (by simp [*])
  have s2 : w1.cell? ⟨w.heap.size, 2, none⟩ = some (.int .i64 v) := hk1.some (by simp [*])
  have r0 : w1.cell? ⟨w.heap.size + 1, 0, none⟩ = some (.int .i64 0) := hk1.some (by simp [*])
  have r1 : w1.cell? ⟨w.heap.size + 1, 1, none⟩ = some (.bool false) := hk1.some (by simp [*])
  have r2 : w1.cell? ⟨w.heap.size + 1, 2, none⟩ = some (.int .i64 0) := hk1.some (by simp [*])
  have f1 : ∀ o, w1.frozen? ⟨w.heap.size + 1, o, none⟩ = false := fun o => by rw [hk1.froze]; simp
  have K1 : Kept w w1 := ((((Kept.refl w).alloc _ _).alloc _ _).trans hk1)
  have hlt : w.heap.size + 1 < w1.heap.size := by omega
  clear hk1 hz
  go_wp2
  refine bodyPost_ret (v := .tuple #[.agg #[.int .i64 0, .bool false, .int .i64 0], .int .i64 5]) ?_ rfl ⟨rfl, ?_⟩
  · simp [results, Try.results164, go_sem, r0, r1, r2, hlt]
  · refine (Kept.alloc (Kept.setCell (Kept.setCell (Kept.setCell K1 ?_ _) ?_ _) ?_ _) _ _) <;> simp

end Go.Proofs.Ytbechdgcepiecaa.Wo
