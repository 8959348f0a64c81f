/- Put of each kind: the program's. -/
import Derived.Test.YtflggocnhinfeaaValue
namespace Go.Proofs.Ytflggocnhinfeaa
open Go.RowKit

set_option maxHeartbeats 800000 in
theorem put_ref_bad (i g : Int) (m : Bool) (w : World) (i0 : -9223372036854775808 ≤ i) (i1 : i ≤ 9223372036854775807) (hr : ¬ (-1 ≤ i ∧ i ≤ 65534 ∧ 0 ≤ g ∧ g ≤ 4294967295)) : Calls Try.prog 9 #[.agg #[.int .i64 i, .int .i64 g, .bool m]] w fun e w' => e = .returned (.tuple #[.int .u64 (0), .int .i64 3]) ∧ Kept w w' := by
  have HW : Hid (¬ (0 ≤ wrap64 (i + 1) ∧ wrap64 (i + 1) ≤ 65535 ∧ 0 ≤ g ∧ g ≤ 4294967295)) := Lib.hid (by intro h; unfold wrap64 at h; exact hr (by omega))
  clear hr
  clear i0 i1
  go_enter Try.func9, Try.ntmps9
  go_wp2_with fail
  go_region_held3 (fun w' => w'.cell? ⟨w.heap.size, 0, none⟩ = some (.int .i64 i) ∧ w'.cell? ⟨w.heap.size, 1, none⟩ = some (.int .i64 g) ∧ w'.cell? ⟨w.heap.size, 2, none⟩ = some (.bool m)) (first | (simp [World.cell?_alloc_at]; done) | go_keep | (exact ⟨hk.some (by simp [*]), hk.some (by simp [*]), hk.some (by simp [*])⟩)) (first | (go_at_call 35; refine (place_any _ _).mono ?_; rintro e w' ⟨rfl, rfl⟩) | (go_at_call 34; refine (within2_no _ _ _ _ _ _ ?_ ?_ ?_ ?_ HW.out).mono ?_; (all_goals (try (simp [*]; done))); rintro e w1 ⟨rfl, hk⟩))
  go_wp2
  go_ret2
  exact ⟨rfl, by repeat (first | exact Kept.refl _ | refine Kept.alloc ?_ _ _ | refine Kept.drew ?_ | refine Kept.drewN ?_ _ | refine Kept.trans ?_ (by assumption))⟩

set_option maxHeartbeats 800000 in
theorem put_ref_form (i g : Int) (m : Bool) (w : World)  (hr : -1 ≤ i ∧ i ≤ 65534 ∧ 0 ≤ g ∧ g ≤ 4294967295) (hf : i = -1 ∧ g ≠ 0) : Calls Try.prog 9 #[.agg #[.int .i64 i, .int .i64 g, .bool m]] w fun e w' => e = .returned (.tuple #[.int .u64 (0), .int .i64 5]) ∧ Kept w w' := by
  have HW : Hid (0 ≤ i + 1 ∧ i + 1 ≤ 65535 ∧ 0 ≤ g ∧ g ≤ 4294967295) := Lib.hid (by omega)
  have I0 := Lib.hid (show -1 ≤ i by omega); have I1 := Lib.hid (show i ≤ 65534 by omega)
  have b0 : (i == -1) = true := by simp [hf.1]
  have b1 : (g != 0) = true := by simp [hf.2]
  clear hf hr
  go_enter Try.func9, Try.ntmps9
  go_wp2_with fail
  go_region_held3 (fun w' => w'.cell? ⟨w.heap.size, 0, none⟩ = some (.int .i64 i) ∧ w'.cell? ⟨w.heap.size, 1, none⟩ = some (.int .i64 g) ∧ w'.cell? ⟨w.heap.size, 2, none⟩ = some (.bool m)) (first | (simp [World.cell?_alloc_at]; done) | go_keep | (exact ⟨hk.some (by simp [*]), hk.some (by simp [*]), hk.some (by simp [*])⟩)) (first | (go_at_call 35; refine (place_in _ I0.out I1.out _).mono ?_; rintro e w' ⟨rfl, rfl⟩) | (go_at_call 34; refine (within2_yes _ _ _ _ _ _ ?_ ?_ ?_ ?_ HW.out).mono ?_; (all_goals (try (simp [*]; done))); rintro e w1 ⟨rfl, hk⟩))
  go_wp2
  go_ret2
  exact ⟨rfl, by repeat (first | exact Kept.refl _ | refine Kept.alloc ?_ _ _ | refine Kept.drew ?_ | refine Kept.drewN ?_ _ | refine Kept.trans ?_ (by assumption))⟩

set_option maxHeartbeats 800000 in
theorem put_ref_good (i g : Int) (m : Bool) (w : World)  (hr : -1 ≤ i ∧ i ≤ 65534 ∧ 0 ≤ g ∧ g ≤ 4294967295) (hf : ¬ (i = -1 ∧ g ≠ 0)) : Calls Try.prog 9 #[.agg #[.int .i64 i, .int .i64 g, .bool m]] w fun e w' => e = .returned (.tuple #[.int .u64 (i + 1 + g * 65536 + bitOf m * 9223372036854775808), .int .i64 0]) ∧ Kept w w' := by
  have HW : Hid (0 ≤ i + 1 ∧ i + 1 ≤ 65535 ∧ 0 ≤ g ∧ g ≤ 4294967295) := Lib.hid (by omega)
  have I0 := Lib.hid (show -1 ≤ i by omega); have I1 := Lib.hid (show i ≤ 65534 by omega)
  have HJ : ∀ w, Hid (Calls Try.prog 37 _ w _) := fun w => Lib.hid (joined_ref (i + 1) g (bitOf m) w (by omega) (by omega) (by omega) (by omega) (bitOf_lo _) (bitOf_hi _))
  by_cases hi : i = -1
  · have b0 : (i == -1) = true := by simp [hi]
    have b1 : (g != 0) = false := by simp only [bne_eq_false_iff_eq]; exact Classical.byContradiction fun h => hf ⟨hi, h⟩
    clear hr hf hi
    go_enter Try.func9, Try.ntmps9
    go_wp2_with fail
    go_region_held3 (fun w' => w'.cell? ⟨w.heap.size, 0, none⟩ = some (.int .i64 i) ∧ w'.cell? ⟨w.heap.size, 1, none⟩ = some (.int .i64 g) ∧ w'.cell? ⟨w.heap.size, 2, none⟩ = some (.bool m)) (first | (simp [World.cell?_alloc_at]; done) | go_keep | (exact ⟨hk.some (by simp [*]), hk.some (by simp [*]), hk.some (by simp [*])⟩)) (first | (go_at_call 35; refine (place_in _ I0.out I1.out _).mono ?_; rintro e w' ⟨rfl, rfl⟩) | (go_at_call 34; refine (within2_yes _ _ _ _ _ _ ?_ ?_ ?_ ?_ HW.out).mono ?_; (all_goals (try (simp [*]; done))); rintro e w1 ⟨rfl, hk⟩))
    go_wp2_with fail
    have hz := hk.size
    simp at hz
    have hk' := hk
    have s0 : w1.cell? ⟨w.heap.size, 0, none⟩ = some (.int .i64 i) := hk'.some (by simp [*])
    have s1 : w1.cell? ⟨w.heap.size, 1, none⟩ = some (.int .i64 g) := hk'.some (by simp [*])
    have s2 : w1.cell? ⟨w.heap.size, 2, none⟩ = some (.bool m) := hk'.some (by simp [*])
    have K1 : Kept w w1 := by repeat (first | exact Kept.refl _ | refine Kept.alloc ?_ _ _ | refine Kept.drew ?_ | refine Kept.drewN ?_ _ | refine Kept.trans ?_ (by assumption))
    clear hz hk hk'
    go_region_held3 (fun w' => w'.cell? ⟨w.heap.size, 0, none⟩ = some (.int .i64 i) ∧ w'.cell? ⟨w.heap.size, 1, none⟩ = some (.int .i64 g) ∧ w'.cell? ⟨w.heap.size, 2, none⟩ = some (.bool m)) (first | go_keep | (exact ⟨hk.some (by simp [*]), hk.some (by simp [*]), hk.some (by simp [*])⟩)) (first | (go_at_call 36; refine (table_refWord _ _).mono ?_; rintro e w1 ⟨rfl, hk⟩) | (go_at_call 35; refine (place_in _ I0.out I1.out _).mono ?_; rintro e w' ⟨rfl, rfl⟩) | (go_at_call 38; refine (bit_any _ _).mono ?_; rintro e w' ⟨rfl, rfl⟩) | (go_at_call 37; refine (HJ _).out.mono ?_; rintro e w1 ⟨rfl, hk⟩))
    go_wp2
    go_ret2
    exact ⟨rfl, by repeat (first | exact Kept.refl _ | refine Kept.alloc ?_ _ _ | refine Kept.drew ?_ | refine Kept.drewN ?_ _ | refine Kept.trans ?_ (by assumption))⟩
  · have b0 : (i == -1) = false := by simp [hi]
    clear hr hf hi
    go_enter Try.func9, Try.ntmps9
    go_wp2_with fail
    go_region_held3 (fun w' => w'.cell? ⟨w.heap.size, 0, none⟩ = some (.int .i64 i) ∧ w'.cell? ⟨w.heap.size, 1, none⟩ = some (.int .i64 g) ∧ w'.cell? ⟨w.heap.size, 2, none⟩ = some (.bool m)) (first | (simp [World.cell?_alloc_at]; done) | go_keep | (exact ⟨hk.some (by simp [*]), hk.some (by simp [*]), hk.some (by simp [*])⟩)) (first | (go_at_call 35; refine (place_in _ I0.out I1.out _).mono ?_; rintro e w' ⟨rfl, rfl⟩) | (go_at_call 34; refine (within2_yes _ _ _ _ _ _ ?_ ?_ ?_ ?_ HW.out).mono ?_; (all_goals (try (simp [*]; done))); rintro e w1 ⟨rfl, hk⟩))
    go_wp2_with fail
    have hz := hk.size
    simp at hz
    have hk' := hk
    have s0 : w1.cell? ⟨w.heap.size, 0, none⟩ = some (.int .i64 i) := hk'.some (by simp [*])
    have s1 : w1.cell? ⟨w.heap.size, 1, none⟩ = some (.int .i64 g) := hk'.some (by simp [*])
    have s2 : w1.cell? ⟨w.heap.size, 2, none⟩ = some (.bool m) := hk'.some (by simp [*])
    have K1 : Kept w w1 := by repeat (first | exact Kept.refl _ | refine Kept.alloc ?_ _ _ | refine Kept.drew ?_ | refine Kept.drewN ?_ _ | refine Kept.trans ?_ (by assumption))
    clear hz hk hk'
    go_region_held3 (fun w' => w'.cell? ⟨w.heap.size, 0, none⟩ = some (.int .i64 i) ∧ w'.cell? ⟨w.heap.size, 1, none⟩ = some (.int .i64 g) ∧ w'.cell? ⟨w.heap.size, 2, none⟩ = some (.bool m)) (first | go_keep | (exact ⟨hk.some (by simp [*]), hk.some (by simp [*]), hk.some (by simp [*])⟩)) (first | (go_at_call 36; refine (table_refWord _ _).mono ?_; rintro e w1 ⟨rfl, hk⟩) | (go_at_call 35; refine (place_in _ I0.out I1.out _).mono ?_; rintro e w' ⟨rfl, rfl⟩) | (go_at_call 38; refine (bit_any _ _).mono ?_; rintro e w' ⟨rfl, rfl⟩) | (go_at_call 37; refine (HJ _).out.mono ?_; rintro e w1 ⟨rfl, hk⟩))
    go_wp2
    go_ret2
    exact ⟨rfl, by repeat (first | exact Kept.refl _ | refine Kept.alloc ?_ _ _ | refine Kept.drew ?_ | refine Kept.drewN ?_ _ | refine Kept.trans ?_ (by assumption))⟩

set_option maxHeartbeats 800000 in
theorem put_top_bad (i t : Int) (w : World) (i0 : -9223372036854775808 ≤ i) (i1 : i ≤ 9223372036854775807) (hr : ¬ (-1 ≤ i ∧ i ≤ 65534 ∧ 0 ≤ t ∧ t ≤ 281474976710655)) : Calls Try.prog 11 #[.agg #[.int .i64 i, .int .i64 t]] w fun e w' => e = .returned (.tuple #[.int .u64 (0), .int .i64 3]) ∧ Kept w w' := by
  have HW : Hid (¬ (0 ≤ wrap64 (i + 1) ∧ wrap64 (i + 1) ≤ 65535 ∧ 0 ≤ t ∧ t ≤ 281474976710655)) := Lib.hid (by intro h; unfold wrap64 at h; exact hr (by omega))
  clear hr
  clear i0 i1
  go_enter Try.func11, Try.ntmps11
  go_wp2_with fail
  go_region_held3 (fun w' => w'.cell? ⟨w.heap.size, 0, none⟩ = some (.int .i64 i) ∧ w'.cell? ⟨w.heap.size, 1, none⟩ = some (.int .i64 t)) (first | (simp [World.cell?_alloc_at]; done) | go_keep | (exact ⟨hk.some (by simp [*]), hk.some (by simp [*])⟩)) (first | (go_at_call 35; refine (place_any _ _).mono ?_; rintro e w' ⟨rfl, rfl⟩) | (go_at_call 34; refine (within2_no _ _ _ _ _ _ ?_ ?_ ?_ ?_ HW.out).mono ?_; (all_goals (try (simp [*]; done))); rintro e w1 ⟨rfl, hk⟩))
  go_wp2
  go_ret2
  exact ⟨rfl, by repeat (first | exact Kept.refl _ | refine Kept.alloc ?_ _ _ | refine Kept.drew ?_ | refine Kept.drewN ?_ _ | refine Kept.trans ?_ (by assumption))⟩

set_option maxHeartbeats 800000 in
theorem put_top_good (i t : Int) (w : World)  (hr : -1 ≤ i ∧ i ≤ 65534 ∧ 0 ≤ t ∧ t ≤ 281474976710655) : Calls Try.prog 11 #[.agg #[.int .i64 i, .int .i64 t]] w fun e w' => e = .returned (.tuple #[.int .u64 (i + 1 + t * 65536), .int .i64 0]) ∧ Kept w w' := by
  have HW : Hid (0 ≤ i + 1 ∧ i + 1 ≤ 65535 ∧ 0 ≤ t ∧ t ≤ 281474976710655) := Lib.hid (by omega)
  have I0 := Lib.hid (show -1 ≤ i by omega); have I1 := Lib.hid (show i ≤ 65534 by omega)
  have HJ : ∀ w, Hid (Calls Try.prog 37 _ w _) := fun w => Lib.hid (joined_top (i + 1) t w (by omega) (by omega) (by omega) (by omega))
  clear hr
  go_enter Try.func11, Try.ntmps11
  go_wp2_with fail
  go_region_held3 (fun w' => w'.cell? ⟨w.heap.size, 0, none⟩ = some (.int .i64 i) ∧ w'.cell? ⟨w.heap.size, 1, none⟩ = some (.int .i64 t)) (first | (simp [World.cell?_alloc_at]; done) | go_keep | (exact ⟨hk.some (by simp [*]), hk.some (by simp [*])⟩)) (first | (go_at_call 35; refine (place_in _ I0.out I1.out _).mono ?_; rintro e w' ⟨rfl, rfl⟩) | (go_at_call 34; refine (within2_yes _ _ _ _ _ _ ?_ ?_ ?_ ?_ HW.out).mono ?_; (all_goals (try (simp [*]; done))); rintro e w1 ⟨rfl, hk⟩))
  go_wp2_with fail
  have hz := hk.size
  simp at hz
  have hk' := hk
  have s0 : w1.cell? ⟨w.heap.size, 0, none⟩ = some (.int .i64 i) := hk'.some (by simp [*])
  have s1 : w1.cell? ⟨w.heap.size, 1, none⟩ = some (.int .i64 t) := hk'.some (by simp [*])
  have K1 : Kept w w1 := by repeat (first | exact Kept.refl _ | refine Kept.alloc ?_ _ _ | refine Kept.drew ?_ | refine Kept.drewN ?_ _ | refine Kept.trans ?_ (by assumption))
  clear hz hk hk'
  go_region_held3 (fun w' => w'.cell? ⟨w.heap.size, 0, none⟩ = some (.int .i64 i) ∧ w'.cell? ⟨w.heap.size, 1, none⟩ = some (.int .i64 t)) (first | go_keep | (exact ⟨hk.some (by simp [*]), hk.some (by simp [*])⟩)) (first | (go_at_call 40; refine (table_topWord _ _).mono ?_; rintro e w1 ⟨rfl, hk⟩) | (go_at_call 35; refine (place_in _ I0.out I1.out _).mono ?_; rintro e w' ⟨rfl, rfl⟩) | (go_at_call 37; refine (HJ _).out.mono ?_; rintro e w1 ⟨rfl, hk⟩))
  go_wp2
  go_ret2
  exact ⟨rfl, by repeat (first | exact Kept.refl _ | refine Kept.alloc ?_ _ _ | refine Kept.drew ?_ | refine Kept.drewN ?_ _ | refine Kept.trans ?_ (by assumption))⟩

set_option maxHeartbeats 800000 in
theorem put_slot_bad (l : Int) (f : Bool) (v : Int) (w : World)  (hr : ¬ (0 ≤ l ∧ l ≤ 4294967295 ∧ 0 ≤ v ∧ v ≤ 65535)) : Calls Try.prog 13 #[.agg #[.int .i64 l, .bool f, .int .i64 v]] w fun e w' => e = .returned (.tuple #[.int .u64 (0), .int .i64 3]) ∧ Kept w w' := by
  have HW : Hid (¬ (0 ≤ l ∧ l ≤ 4294967295 ∧ 0 ≤ v ∧ v ≤ 65535)) := Lib.hid (by intro h; exact hr (by omega))
  clear hr
  go_enter Try.func13, Try.ntmps13
  go_wp2_with fail
  refine (within2_no _ _ _ _ _ _ ?_ ?_ ?_ ?_ HW.out).mono ?_
  all_goals (try (simp; done))
  rintro e w1 ⟨rfl, hk⟩
  go_wp2
  go_ret2
  exact ⟨rfl, by repeat (first | exact Kept.refl _ | refine Kept.alloc ?_ _ _ | refine Kept.drew ?_ | refine Kept.drewN ?_ _ | refine Kept.trans ?_ (by assumption))⟩

set_option maxHeartbeats 800000 in
theorem put_slot_form (l : Int) (f : Bool) (v : Int) (w : World)  (hr : 0 ≤ l ∧ l ≤ 4294967295 ∧ 0 ≤ v ∧ v ≤ 65535) (hf : f = false ∧ v ≠ 0) : Calls Try.prog 13 #[.agg #[.int .i64 l, .bool f, .int .i64 v]] w fun e w' => e = .returned (.tuple #[.int .u64 (0), .int .i64 5]) ∧ Kept w w' := by
  have HW : Hid (0 ≤ l ∧ l ≤ 4294967295 ∧ 0 ≤ v ∧ v ≤ 65535) := Lib.hid (by omega)
  have b0 : (v != 0) = true := by simp [hf.2]
  obtain ⟨rfl, _⟩ := hf
  clear hr
  go_enter Try.func13, Try.ntmps13
  go_wp2_with fail
  refine (within2_yes _ _ _ _ _ _ ?_ ?_ ?_ ?_ HW.out).mono ?_
  all_goals (try (simp; done))
  rintro e w1 ⟨rfl, hk⟩
  have hz := hk.size
  simp at hz
  have s0 : w1.cell? ⟨w.heap.size, 0, none⟩ = some (.int .i64 l) := hk.some (by simp [*])
  have s1 : w1.cell? ⟨w.heap.size, 1, none⟩ = some (.bool false) := hk.some (by simp [*])
  have s2 : w1.cell? ⟨w.heap.size, 2, none⟩ = some (.int .i64 v) := hk.some (by simp [*])
  go_wp2
  go_ret2
  exact ⟨rfl, by repeat (first | exact Kept.refl _ | refine Kept.alloc ?_ _ _ | refine Kept.drew ?_ | refine Kept.drewN ?_ _ | refine Kept.trans ?_ (by assumption))⟩

set_option maxHeartbeats 800000 in
theorem put_slot_good (l : Int) (f : Bool) (v : Int) (w : World)  (hr : 0 ≤ l ∧ l ≤ 4294967295 ∧ 0 ≤ v ∧ v ≤ 65535) (hf : ¬ (f = false ∧ v ≠ 0)) : Calls Try.prog 13 #[.agg #[.int .i64 l, .bool f, .int .i64 v]] w fun e w' => e = .returned (.tuple #[.int .u64 (v + bitOf f * 65536 + l * 4294967296), .int .i64 0]) ∧ Kept w w' := by
  have HW : Hid (0 ≤ l ∧ l ≤ 4294967295 ∧ 0 ≤ v ∧ v ≤ 65535) := Lib.hid (by omega)
  have HJ : ∀ w, Hid (Calls Try.prog 37 _ w _) := fun w => Lib.hid (joined_slot v (bitOf f) l w (by omega) (by omega) (bitOf_lo _) (bitOf_hi _) (by omega) (by omega))
  cases f
  · have b0 : (v != 0) = false := by simp only [bne_eq_false_iff_eq]; exact Classical.byContradiction fun h => hf ⟨rfl, h⟩
    clear hr hf
    go_enter Try.func13, Try.ntmps13
    go_wp2_with fail
    refine (within2_yes _ _ _ _ _ _ ?_ ?_ ?_ ?_ HW.out).mono ?_
    all_goals (try (simp; done))
    rintro e w1 ⟨rfl, hk⟩
    have hz := hk.size
    simp at hz
    have s0 : w1.cell? ⟨w.heap.size, 0, none⟩ = some (.int .i64 l) := hk.some (by simp [*])
    have s1 : w1.cell? ⟨w.heap.size, 1, none⟩ = some (.bool false) := hk.some (by simp [*])
    have s2 : w1.cell? ⟨w.heap.size, 2, none⟩ = some (.int .i64 v) := hk.some (by simp [*])
    go_wp2_with fail
    have hk' := hk
    have K1 : Kept w w1 := by repeat (first | exact Kept.refl _ | refine Kept.alloc ?_ _ _ | refine Kept.drew ?_ | refine Kept.drewN ?_ _ | refine Kept.trans ?_ (by assumption))
    clear hz hk hk'
    go_region_held3 (fun w' => w'.cell? ⟨w.heap.size, 0, none⟩ = some (.int .i64 l) ∧ w'.cell? ⟨w.heap.size, 1, none⟩ = some (.bool false) ∧ w'.cell? ⟨w.heap.size, 2, none⟩ = some (.int .i64 v)) (first | go_keep | (exact ⟨hk.some (by simp [*]), hk.some (by simp [*]), hk.some (by simp [*])⟩)) (first | (go_at_call 41; refine (table_slotWord _ _).mono ?_; rintro e w1 ⟨rfl, hk⟩) | (go_at_call 38; refine (bit_any _ _).mono ?_; rintro e w' ⟨rfl, rfl⟩) | (go_at_call 37; refine (HJ _).out.mono ?_; rintro e w1 ⟨rfl, hk⟩))
    go_wp2
    go_ret2
    exact ⟨rfl, by repeat (first | exact Kept.refl _ | refine Kept.alloc ?_ _ _ | refine Kept.drew ?_ | refine Kept.drewN ?_ _ | refine Kept.trans ?_ (by assumption))⟩
  · clear hr hf
    go_enter Try.func13, Try.ntmps13
    go_wp2_with fail
    refine (within2_yes _ _ _ _ _ _ ?_ ?_ ?_ ?_ HW.out).mono ?_
    all_goals (try (simp; done))
    rintro e w1 ⟨rfl, hk⟩
    have hz := hk.size
    simp at hz
    have s0 : w1.cell? ⟨w.heap.size, 0, none⟩ = some (.int .i64 l) := hk.some (by simp [*])
    have s1 : w1.cell? ⟨w.heap.size, 1, none⟩ = some (.bool true) := hk.some (by simp [*])
    have s2 : w1.cell? ⟨w.heap.size, 2, none⟩ = some (.int .i64 v) := hk.some (by simp [*])
    go_wp2_with fail
    have hk' := hk
    have K1 : Kept w w1 := by repeat (first | exact Kept.refl _ | refine Kept.alloc ?_ _ _ | refine Kept.drew ?_ | refine Kept.drewN ?_ _ | refine Kept.trans ?_ (by assumption))
    clear hz hk hk'
    go_region_held3 (fun w' => w'.cell? ⟨w.heap.size, 0, none⟩ = some (.int .i64 l) ∧ w'.cell? ⟨w.heap.size, 1, none⟩ = some (.bool true) ∧ w'.cell? ⟨w.heap.size, 2, none⟩ = some (.int .i64 v)) (first | go_keep | (exact ⟨hk.some (by simp [*]), hk.some (by simp [*]), hk.some (by simp [*])⟩)) (first | (go_at_call 41; refine (table_slotWord _ _).mono ?_; rintro e w1 ⟨rfl, hk⟩) | (go_at_call 38; refine (bit_any _ _).mono ?_; rintro e w' ⟨rfl, rfl⟩) | (go_at_call 37; refine (HJ _).out.mono ?_; rintro e w1 ⟨rfl, hk⟩))
    go_wp2
    go_ret2
    exact ⟨rfl, by repeat (first | exact Kept.refl _ | refine Kept.alloc ?_ _ _ | refine Kept.drew ?_ | refine Kept.drewN ?_ _ | refine Kept.trans ?_ (by assumption))⟩

set_option maxHeartbeats 800000 in
theorem put_key_bad (p s r : Int) (w : World)  (hr : ¬ (0 ≤ p ∧ p ≤ 254 ∧ 0 ≤ s ∧ s ≤ 1099511627775 ∧ 0 ≤ r ∧ r ≤ 65535)) : Calls Try.prog 15 #[.agg #[.int .i64 p, .int .i64 s, .int .i64 r]] w fun e w' => e = .returned (.tuple #[.int .u64 (0), .int .i64 3]) ∧ Kept w w' := by
  have HW : Hid (¬ (0 ≤ p ∧ p ≤ 254 ∧ 0 ≤ s ∧ s ≤ 1099511627775 ∧ 0 ≤ r ∧ r ≤ 65535)) := Lib.hid (by intro h; exact hr (by omega))
  clear hr
  go_enter Try.func15, Try.ntmps15
  go_wp2_with fail
  refine (within3_no _ _ _ _ _ _ _ _ ?_ ?_ ?_ ?_ ?_ ?_ HW.out).mono ?_
  all_goals (try (simp; done))
  rintro e w1 ⟨rfl, hk⟩
  go_wp2
  go_ret2
  exact ⟨rfl, by repeat (first | exact Kept.refl _ | refine Kept.alloc ?_ _ _ | refine Kept.drew ?_ | refine Kept.drewN ?_ _ | refine Kept.trans ?_ (by assumption))⟩

set_option maxHeartbeats 800000 in
theorem put_key_good (p s r : Int) (w : World)  (hr : 0 ≤ p ∧ p ≤ 254 ∧ 0 ≤ s ∧ s ≤ 1099511627775 ∧ 0 ≤ r ∧ r ≤ 65535) : Calls Try.prog 15 #[.agg #[.int .i64 p, .int .i64 s, .int .i64 r]] w fun e w' => e = .returned (.tuple #[.int .u64 (r + s * 65536 + p * 72057594037927936), .int .i64 0]) ∧ Kept w w' := by
  have HW : Hid (0 ≤ p ∧ p ≤ 254 ∧ 0 ≤ s ∧ s ≤ 1099511627775 ∧ 0 ≤ r ∧ r ≤ 65535) := Lib.hid (by omega)
  have HJ : ∀ w, Hid (Calls Try.prog 37 _ w _) := fun w => Lib.hid (joined_key r s p w (by omega) (by omega) (by omega) (by omega) (by omega) (by omega))
  clear hr
  go_enter Try.func15, Try.ntmps15
  go_wp2_with fail
  refine (within3_yes _ _ _ _ _ _ _ _ ?_ ?_ ?_ ?_ ?_ ?_ HW.out).mono ?_
  all_goals (try (simp; done))
  rintro e w1 ⟨rfl, hk⟩
  have hz := hk.size
  simp at hz
  have s0 : w1.cell? ⟨w.heap.size, 0, none⟩ = some (.int .i64 p) := hk.some (by simp [*])
  have s1 : w1.cell? ⟨w.heap.size, 1, none⟩ = some (.int .i64 s) := hk.some (by simp [*])
  have s2 : w1.cell? ⟨w.heap.size, 2, none⟩ = some (.int .i64 r) := hk.some (by simp [*])
  go_wp2_with fail
  have hk' := hk
  have K1 : Kept w w1 := by repeat (first | exact Kept.refl _ | refine Kept.alloc ?_ _ _ | refine Kept.drew ?_ | refine Kept.drewN ?_ _ | refine Kept.trans ?_ (by assumption))
  clear hz hk hk'
  go_region_held3 (fun w' => w'.cell? ⟨w.heap.size, 0, none⟩ = some (.int .i64 p) ∧ w'.cell? ⟨w.heap.size, 1, none⟩ = some (.int .i64 s) ∧ w'.cell? ⟨w.heap.size, 2, none⟩ = some (.int .i64 r)) (first | go_keep | (exact ⟨hk.some (by simp [*]), hk.some (by simp [*]), hk.some (by simp [*])⟩)) (first | (go_at_call 42; refine (table_keyWord _ _).mono ?_; rintro e w1 ⟨rfl, hk⟩) | (go_at_call 37; refine (HJ _).out.mono ?_; rintro e w1 ⟨rfl, hk⟩))
  go_wp2
  go_ret2
  exact ⟨rfl, by repeat (first | exact Kept.refl _ | refine Kept.alloc ?_ _ _ | refine Kept.drew ?_ | refine Kept.drewN ?_ _ | refine Kept.trans ?_ (by assumption))⟩

end Go.Proofs.Ytflggocnhinfeaa
