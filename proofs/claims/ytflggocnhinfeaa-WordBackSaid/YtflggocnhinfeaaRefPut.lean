/- Put of each kind: the document's answers. -/
import Derived.Test.YtflggocnhinfeaaPut
namespace Go.Proofs.Ytflggocnhinfeaa
open Go.RowKit

set_option maxHeartbeats 800000 in
theorem refput_ref_bad (i g : Int) (m : Bool) (w : World) (hr : ¬ (-1 ≤ i ∧ i ≤ 65534 ∧ 0 ≤ g ∧ g ≤ 4294967295)) : Calls Try.prog 10 #[.agg #[.int .i64 i, .int .i64 g, .bool m]] w fun e w' => e = .returned (.tuple #[.int .u64 (0), .int .i64 3]) ∧ Kept w w' := by
  by_cases h0 : (-1) ≤ i ∧ i ≤ 65534
  rotate_left
  · have b0 := inB_no h0
    clear hr h0
    go_enter Try.func10, Try.ntmps10
    go_wp2_with (go_at_call 39; refine (refwithin_any _ _ _ _).mono ?_; rintro e w' ⟨rfl, rfl⟩)
    go_ret2
    exact ⟨rfl, by repeat (first | exact Kept.refl _ | refine Kept.alloc ?_ _ _ | refine Kept.drew ?_ | refine Kept.drewN ?_ _ | refine Kept.trans ?_ (by assumption))⟩
  have b0 := inB_yes h0
  have h1 : ¬ (0 ≤ g ∧ g ≤ 4294967295) := fun h => hr (by omega)
  have b1 := inB_no h1
  clear hr h0 h1
  go_enter Try.func10, Try.ntmps10
  go_wp2_with (go_at_call 39; refine (refwithin_any _ _ _ _).mono ?_; rintro e w' ⟨rfl, rfl⟩)
  go_ret2
  exact ⟨rfl, by repeat (first | exact Kept.refl _ | refine Kept.alloc ?_ _ _ | refine Kept.drew ?_ | refine Kept.drewN ?_ _ | refine Kept.trans ?_ (by assumption))⟩

set_option maxHeartbeats 800000 in
theorem refput_ref_form (i g : Int) (m : Bool) (w : World) (hr : -1 ≤ i ∧ i ≤ 65534 ∧ 0 ≤ g ∧ g ≤ 4294967295) (hf : i = -1 ∧ g ≠ 0) : Calls Try.prog 10 #[.agg #[.int .i64 i, .int .i64 g, .bool m]] w fun e w' => e = .returned (.tuple #[.int .u64 (0), .int .i64 5]) ∧ Kept w w' := by
  have y0 : inB i (-1) 65534 = true := inB_yes (by omega)
  have y1 : inB g 0 4294967295 = true := inB_yes (by omega)
  have b0 : i < 0 := by omega
  have b1 : (g != 0) = true := by simp [hf.2]
  clear hr hf
  go_enter Try.func10, Try.ntmps10
  go_wp2_with (go_at_call 39; refine (refwithin_any _ _ _ _).mono ?_; rintro e w' ⟨rfl, rfl⟩)
  go_ret2
  exact ⟨rfl, by repeat (first | exact Kept.refl _ | refine Kept.alloc ?_ _ _ | refine Kept.drew ?_ | refine Kept.drewN ?_ _ | refine Kept.trans ?_ (by assumption))⟩

set_option maxHeartbeats 800000 in
theorem refput_ref_good (i g : Int) (m : Bool) (w : World) (hr : -1 ≤ i ∧ i ≤ 65534 ∧ 0 ≤ g ∧ g ≤ 4294967295) (hf : ¬ (i = -1 ∧ g ≠ 0)) : Calls Try.prog 10 #[.agg #[.int .i64 i, .int .i64 g, .bool m]] w fun e w' => e = .returned (.tuple #[.int .u64 (i + 1 + g * 65536 + bitOf m * 9223372036854775808), .int .i64 0]) ∧ Kept w w' := by
  have y0 : inB i (-1) 65534 = true := inB_yes (by omega)
  have y1 : inB g 0 4294967295 = true := inB_yes (by omega)
  have HR := Lib.hid (raw_ref m hr)
  have HM : ∀ w, Hid (Calls Try.prog 29 #[.int .u64 (bits .or .u64 (i + 1) (IntKind.u64.wrap (IntKind.u64.wrap g * 65536))), .bool m] w fun e w' => e = .returned (.int .u64 (i + 1 + g * 65536 + bitOf m * 9223372036854775808)) ∧ w = w') := fun w => Lib.hid (by rw [HR.out.1, ← HR.out.2]; exact refmarks_any _ _ w (by omega) (by omega))
  have hi0 : -1 ≤ i := by omega
  have hi1 : i ≤ 65534 := by omega
  by_cases hi : i < 0
  · have b1 : (g != 0) = false := by simp only [bne_eq_false_iff_eq]; exact Classical.byContradiction fun h => hf ⟨by omega, h⟩
    clear hr hf
    go_enter Try.func10, Try.ntmps10
    go_wp2_with (first | (go_at_call 39; refine (refwithin_any _ _ _ _).mono ?_; rintro e w' ⟨rfl, rfl⟩) | (go_at_call 29; refine (HM _).out.mono ?_; rintro e w' ⟨rfl, rfl⟩))
    go_ret2
    exact ⟨rfl, by repeat (first | exact Kept.refl _ | refine Kept.alloc ?_ _ _ | refine Kept.drew ?_ | refine Kept.drewN ?_ _ | refine Kept.trans ?_ (by assumption))⟩
  · clear hr hf
    go_enter Try.func10, Try.ntmps10
    go_wp2_with (first | (go_at_call 39; refine (refwithin_any _ _ _ _).mono ?_; rintro e w' ⟨rfl, rfl⟩) | (go_at_call 29; refine (HM _).out.mono ?_; rintro e w' ⟨rfl, rfl⟩))
    go_ret2
    exact ⟨rfl, by repeat (first | exact Kept.refl _ | refine Kept.alloc ?_ _ _ | refine Kept.drew ?_ | refine Kept.drewN ?_ _ | refine Kept.trans ?_ (by assumption))⟩

theorem put_ref (i g : Int) (m : Bool) (w : World) (i0 : -9223372036854775808 ≤ i) (i1 : i ≤ 9223372036854775807) : Calls Try.prog 9 #[.agg #[.int .i64 i, .int .i64 g, .bool m]] w fun e w' => e = .returned (.tuple #[.int .u64 (putRef i g m).1, .int .i64 (putRef i g m).2]) ∧ Kept w w' := by
  by_cases hr : -1 ≤ i ∧ i ≤ 65534 ∧ 0 ≤ g ∧ g ≤ 4294967295
  · by_cases hf : i = -1 ∧ g ≠ 0
    · rw [putRef_form m hr hf]; exact put_ref_form i g m w hr hf
    · rw [putRef_good m hr hf]; exact put_ref_good i g m w hr hf
  · rw [putRef_bad m hr]; exact put_ref_bad i g m w i0 i1 hr

theorem refput_ref (i g : Int) (m : Bool) (w : World)  : Calls Try.prog 10 #[.agg #[.int .i64 i, .int .i64 g, .bool m]] w fun e w' => e = .returned (.tuple #[.int .u64 (putRef i g m).1, .int .i64 (putRef i g m).2]) ∧ Kept w w' := by
  by_cases hr : -1 ≤ i ∧ i ≤ 65534 ∧ 0 ≤ g ∧ g ≤ 4294967295
  · by_cases hf : i = -1 ∧ g ≠ 0
    · rw [putRef_form m hr hf]; exact refput_ref_form i g m w hr hf
    · rw [putRef_good m hr hf]; exact refput_ref_good i g m w hr hf
  · rw [putRef_bad m hr]; exact refput_ref_bad i g m w  hr

set_option maxHeartbeats 800000 in
theorem refput_top_bad (i t : Int) (w : World) (hr : ¬ (-1 ≤ i ∧ i ≤ 65534 ∧ 0 ≤ t ∧ t ≤ 281474976710655)) : Calls Try.prog 12 #[.agg #[.int .i64 i, .int .i64 t]] w fun e w' => e = .returned (.tuple #[.int .u64 (0), .int .i64 3]) ∧ Kept w w' := by
  by_cases h0 : (-1) ≤ i ∧ i ≤ 65534
  rotate_left
  · have b0 := inB_no h0
    clear hr h0
    go_enter Try.func12, Try.ntmps12
    go_wp2_with (go_at_call 39; refine (refwithin_any _ _ _ _).mono ?_; rintro e w' ⟨rfl, rfl⟩)
    go_ret2
    exact ⟨rfl, by repeat (first | exact Kept.refl _ | refine Kept.alloc ?_ _ _ | refine Kept.drew ?_ | refine Kept.drewN ?_ _ | refine Kept.trans ?_ (by assumption))⟩
  have b0 := inB_yes h0
  have h1 : ¬ (0 ≤ t ∧ t ≤ 281474976710655) := fun h => hr (by omega)
  have b1 := inB_no h1
  clear hr h0 h1
  go_enter Try.func12, Try.ntmps12
  go_wp2_with (go_at_call 39; refine (refwithin_any _ _ _ _).mono ?_; rintro e w' ⟨rfl, rfl⟩)
  go_ret2
  exact ⟨rfl, by repeat (first | exact Kept.refl _ | refine Kept.alloc ?_ _ _ | refine Kept.drew ?_ | refine Kept.drewN ?_ _ | refine Kept.trans ?_ (by assumption))⟩

set_option maxHeartbeats 800000 in
theorem refput_top_good (i t : Int) (w : World) (hr : -1 ≤ i ∧ i ≤ 65534 ∧ 0 ≤ t ∧ t ≤ 281474976710655) : Calls Try.prog 12 #[.agg #[.int .i64 i, .int .i64 t]] w fun e w' => e = .returned (.tuple #[.int .u64 (i + 1 + t * 65536), .int .i64 0]) ∧ Kept w w' := by
  have y0 : inB i (-1) 65534 = true := inB_yes (by omega)
  have y1 : inB t 0 281474976710655 = true := inB_yes (by omega)
  have HR := Lib.hid (raw_top hr)
  have hi0 : -1 ≤ i := by omega
  have hi1 : i ≤ 65534 := by omega
  clear hr
  go_enter Try.func12, Try.ntmps12
  go_wp2_with (go_at_call 39; refine (refwithin_any _ _ _ _).mono ?_; rintro e w' ⟨rfl, rfl⟩)
  go_ret2
  exact ⟨congrArg (fun x => Ending.returned (.tuple #[.int .u64 x, .int .i64 0])) HR.out, by repeat (first | exact Kept.refl _ | refine Kept.alloc ?_ _ _ | refine Kept.drew ?_ | refine Kept.drewN ?_ _ | refine Kept.trans ?_ (by assumption))⟩

theorem put_top (i t : Int) (w : World) (i0 : -9223372036854775808 ≤ i) (i1 : i ≤ 9223372036854775807) : Calls Try.prog 11 #[.agg #[.int .i64 i, .int .i64 t]] w fun e w' => e = .returned (.tuple #[.int .u64 (putTop i t).1, .int .i64 (putTop i t).2]) ∧ Kept w w' := by
  by_cases hr : -1 ≤ i ∧ i ≤ 65534 ∧ 0 ≤ t ∧ t ≤ 281474976710655
  · rw [putTop_good hr]; exact put_top_good i t w hr
  · rw [putTop_bad hr]; exact put_top_bad i t w i0 i1 hr

theorem refput_top (i t : Int) (w : World)  : Calls Try.prog 12 #[.agg #[.int .i64 i, .int .i64 t]] w fun e w' => e = .returned (.tuple #[.int .u64 (putTop i t).1, .int .i64 (putTop i t).2]) ∧ Kept w w' := by
  by_cases hr : -1 ≤ i ∧ i ≤ 65534 ∧ 0 ≤ t ∧ t ≤ 281474976710655
  · rw [putTop_good hr]; exact refput_top_good i t w hr
  · rw [putTop_bad hr]; exact refput_top_bad i t w  hr

set_option maxHeartbeats 800000 in
theorem refput_slot_bad (l : Int) (f : Bool) (v : Int) (w : World) (hr : ¬ (0 ≤ l ∧ l ≤ 4294967295 ∧ 0 ≤ v ∧ v ≤ 65535)) : Calls Try.prog 14 #[.agg #[.int .i64 l, .bool f, .int .i64 v]] w fun e w' => e = .returned (.tuple #[.int .u64 (0), .int .i64 3]) ∧ Kept w w' := by
  by_cases h0 : 0 ≤ l ∧ l ≤ 4294967295
  rotate_left
  · have b0 := inB_no h0
    clear hr h0
    go_enter Try.func14, Try.ntmps14
    go_wp2_with (go_at_call 39; refine (refwithin_any _ _ _ _).mono ?_; rintro e w' ⟨rfl, rfl⟩)
    go_ret2
    exact ⟨rfl, by repeat (first | exact Kept.refl _ | refine Kept.alloc ?_ _ _ | refine Kept.drew ?_ | refine Kept.drewN ?_ _ | refine Kept.trans ?_ (by assumption))⟩
  have b0 := inB_yes h0
  have h1 : ¬ (0 ≤ v ∧ v ≤ 65535) := fun h => hr (by omega)
  have b1 := inB_no h1
  clear hr h0 h1
  go_enter Try.func14, Try.ntmps14
  go_wp2_with (go_at_call 39; refine (refwithin_any _ _ _ _).mono ?_; rintro e w' ⟨rfl, rfl⟩)
  go_ret2
  exact ⟨rfl, by repeat (first | exact Kept.refl _ | refine Kept.alloc ?_ _ _ | refine Kept.drew ?_ | refine Kept.drewN ?_ _ | refine Kept.trans ?_ (by assumption))⟩

set_option maxHeartbeats 800000 in
theorem refput_slot_form (l : Int) (f : Bool) (v : Int) (w : World) (hr : 0 ≤ l ∧ l ≤ 4294967295 ∧ 0 ≤ v ∧ v ≤ 65535) (hf : f = false ∧ v ≠ 0) : Calls Try.prog 14 #[.agg #[.int .i64 l, .bool f, .int .i64 v]] w fun e w' => e = .returned (.tuple #[.int .u64 (0), .int .i64 5]) ∧ Kept w w' := by
  have y0 : inB l 0 4294967295 = true := inB_yes (by omega)
  have y1 : inB v 0 65535 = true := inB_yes (by omega)
  have b0 : (v != 0) = true := by simp [hf.2]
  obtain ⟨rfl, _⟩ := hf
  clear hr
  go_enter Try.func14, Try.ntmps14
  go_wp2_with (go_at_call 39; refine (refwithin_any _ _ _ _).mono ?_; rintro e w' ⟨rfl, rfl⟩)
  go_ret2
  exact ⟨rfl, by repeat (first | exact Kept.refl _ | refine Kept.alloc ?_ _ _ | refine Kept.drew ?_ | refine Kept.drewN ?_ _ | refine Kept.trans ?_ (by assumption))⟩

set_option maxHeartbeats 800000 in
theorem refput_slot_good (l : Int) (f : Bool) (v : Int) (w : World) (hr : 0 ≤ l ∧ l ≤ 4294967295 ∧ 0 ≤ v ∧ v ≤ 65535) (hf : ¬ (f = false ∧ v ≠ 0)) : Calls Try.prog 14 #[.agg #[.int .i64 l, .bool f, .int .i64 v]] w fun e w' => e = .returned (.tuple #[.int .u64 (v + bitOf f * 65536 + l * 4294967296), .int .i64 0]) ∧ Kept w w' := by
  have y0 : inB l 0 4294967295 = true := inB_yes (by omega)
  have y1 : inB v 0 65535 = true := inB_yes (by omega)
  cases f
  · have hv : v = 0 := Classical.byContradiction fun h => hf ⟨rfl, h⟩
    have b0 : (v != 0) = false := by simp [hv]
    have HR := Lib.hid (raw_slot' (l := l) (v := v) ⟨hr.1, hr.2.1⟩ hv)
    clear hr hf hv
    go_enter Try.func14, Try.ntmps14
    go_wp2_with (go_at_call 39; refine (refwithin_any _ _ _ _).mono ?_; rintro e w' ⟨rfl, rfl⟩)
    go_ret2
    exact ⟨congrArg (fun x => Ending.returned (.tuple #[.int .u64 x, .int .i64 0])) HR.out, by repeat (first | exact Kept.refl _ | refine Kept.alloc ?_ _ _ | refine Kept.drew ?_ | refine Kept.drewN ?_ _ | refine Kept.trans ?_ (by assumption))⟩
  · have HR := Lib.hid (raw_slot hr)
    clear hr hf
    go_enter Try.func14, Try.ntmps14
    go_wp2_with (go_at_call 39; refine (refwithin_any _ _ _ _).mono ?_; rintro e w' ⟨rfl, rfl⟩)
    go_ret2
    exact ⟨congrArg (fun x => Ending.returned (.tuple #[.int .u64 x, .int .i64 0])) HR.out, by repeat (first | exact Kept.refl _ | refine Kept.alloc ?_ _ _ | refine Kept.drew ?_ | refine Kept.drewN ?_ _ | refine Kept.trans ?_ (by assumption))⟩

theorem put_slot (l : Int) (f : Bool) (v : Int) (w : World)  : Calls Try.prog 13 #[.agg #[.int .i64 l, .bool f, .int .i64 v]] w fun e w' => e = .returned (.tuple #[.int .u64 (putSlot l f v).1, .int .i64 (putSlot l f v).2]) ∧ Kept w w' := by
  by_cases hr : 0 ≤ l ∧ l ≤ 4294967295 ∧ 0 ≤ v ∧ v ≤ 65535
  · by_cases hf : f = false ∧ v ≠ 0
    · rw [putSlot_form hr hf]; exact put_slot_form l f v w hr hf
    · rw [putSlot_good hr hf]; exact put_slot_good l f v w hr hf
  · rw [putSlot_bad f hr]; exact put_slot_bad l f v w  hr

theorem refput_slot (l : Int) (f : Bool) (v : Int) (w : World)  : Calls Try.prog 14 #[.agg #[.int .i64 l, .bool f, .int .i64 v]] w fun e w' => e = .returned (.tuple #[.int .u64 (putSlot l f v).1, .int .i64 (putSlot l f v).2]) ∧ Kept w w' := by
  by_cases hr : 0 ≤ l ∧ l ≤ 4294967295 ∧ 0 ≤ v ∧ v ≤ 65535
  · by_cases hf : f = false ∧ v ≠ 0
    · rw [putSlot_form hr hf]; exact refput_slot_form l f v w hr hf
    · rw [putSlot_good hr hf]; exact refput_slot_good l f v w hr hf
  · rw [putSlot_bad f hr]; exact refput_slot_bad l f v w  hr

set_option maxHeartbeats 800000 in
theorem refput_key_bad (p s r : Int) (w : World) (hr : ¬ (0 ≤ p ∧ p ≤ 254 ∧ 0 ≤ s ∧ s ≤ 1099511627775 ∧ 0 ≤ r ∧ r ≤ 65535)) : Calls Try.prog 16 #[.agg #[.int .i64 p, .int .i64 s, .int .i64 r]] w fun e w' => e = .returned (.tuple #[.int .u64 (0), .int .i64 3]) ∧ Kept w w' := by
  by_cases h0 : 0 ≤ p ∧ p ≤ 254
  rotate_left
  · have b0 := inB_no h0
    clear hr h0
    go_enter Try.func16, Try.ntmps16
    go_wp2_with (go_at_call 39; refine (refwithin_any _ _ _ _).mono ?_; rintro e w' ⟨rfl, rfl⟩)
    go_ret2
    exact ⟨rfl, by repeat (first | exact Kept.refl _ | refine Kept.alloc ?_ _ _ | refine Kept.drew ?_ | refine Kept.drewN ?_ _ | refine Kept.trans ?_ (by assumption))⟩
  have b0 := inB_yes h0
  by_cases h1 : 0 ≤ s ∧ s ≤ 1099511627775
  rotate_left
  · have b1 := inB_no h1
    clear hr h0 h1
    go_enter Try.func16, Try.ntmps16
    go_wp2_with (go_at_call 39; refine (refwithin_any _ _ _ _).mono ?_; rintro e w' ⟨rfl, rfl⟩)
    go_ret2
    exact ⟨rfl, by repeat (first | exact Kept.refl _ | refine Kept.alloc ?_ _ _ | refine Kept.drew ?_ | refine Kept.drewN ?_ _ | refine Kept.trans ?_ (by assumption))⟩
  have b1 := inB_yes h1
  have h2 : ¬ (0 ≤ r ∧ r ≤ 65535) := fun h => hr (by omega)
  have b2 := inB_no h2
  clear hr h0 h1 h2
  go_enter Try.func16, Try.ntmps16
  go_wp2_with (go_at_call 39; refine (refwithin_any _ _ _ _).mono ?_; rintro e w' ⟨rfl, rfl⟩)
  go_ret2
  exact ⟨rfl, by repeat (first | exact Kept.refl _ | refine Kept.alloc ?_ _ _ | refine Kept.drew ?_ | refine Kept.drewN ?_ _ | refine Kept.trans ?_ (by assumption))⟩

set_option maxHeartbeats 800000 in
theorem refput_key_good (p s r : Int) (w : World) (hr : 0 ≤ p ∧ p ≤ 254 ∧ 0 ≤ s ∧ s ≤ 1099511627775 ∧ 0 ≤ r ∧ r ≤ 65535) : Calls Try.prog 16 #[.agg #[.int .i64 p, .int .i64 s, .int .i64 r]] w fun e w' => e = .returned (.tuple #[.int .u64 (r + s * 65536 + p * 72057594037927936), .int .i64 0]) ∧ Kept w w' := by
  have y0 : inB p 0 254 = true := inB_yes (by omega)
  have y1 : inB s 0 1099511627775 = true := inB_yes (by omega)
  have y2 : inB r 0 65535 = true := inB_yes (by omega)
  have HR := Lib.hid (raw_key hr)
  clear hr
  go_enter Try.func16, Try.ntmps16
  go_wp2_with (go_at_call 39; refine (refwithin_any _ _ _ _).mono ?_; rintro e w' ⟨rfl, rfl⟩)
  go_ret2
  exact ⟨congrArg (fun x => Ending.returned (.tuple #[.int .u64 x, .int .i64 0])) HR.out, by repeat (first | exact Kept.refl _ | refine Kept.alloc ?_ _ _ | refine Kept.drew ?_ | refine Kept.drewN ?_ _ | refine Kept.trans ?_ (by assumption))⟩

theorem put_key (p s r : Int) (w : World)  : Calls Try.prog 15 #[.agg #[.int .i64 p, .int .i64 s, .int .i64 r]] w fun e w' => e = .returned (.tuple #[.int .u64 (putKey p s r).1, .int .i64 (putKey p s r).2]) ∧ Kept w w' := by
  by_cases hr : 0 ≤ p ∧ p ≤ 254 ∧ 0 ≤ s ∧ s ≤ 1099511627775 ∧ 0 ≤ r ∧ r ≤ 65535
  · rw [putKey_good hr]; exact put_key_good p s r w hr
  · rw [putKey_bad hr]; exact put_key_bad p s r w  hr

theorem refput_key (p s r : Int) (w : World)  : Calls Try.prog 16 #[.agg #[.int .i64 p, .int .i64 s, .int .i64 r]] w fun e w' => e = .returned (.tuple #[.int .u64 (putKey p s r).1, .int .i64 (putKey p s r).2]) ∧ Kept w w' := by
  by_cases hr : 0 ≤ p ∧ p ≤ 254 ∧ 0 ≤ s ∧ s ≤ 1099511627775 ∧ 0 ≤ r ∧ r ≤ 65535
  · rw [putKey_good hr]; exact refput_key_good p s r w hr
  · rw [putKey_bad hr]; exact refput_key_bad p s r w  hr

end Go.Proofs.Ytflggocnhinfeaa
