/- The laws' helpers, and the chapter's examples. -/
import Derived.Test.YtflggocnhinfeaaGet
namespace Go.Proofs.Ytflggocnhinfeaa
open Go.RowKit

set_option maxHeartbeats 800000 in
theorem ref_yes (i g : Int) (m : Bool) (a b : Int) (w : World) (i0 : -9223372036854775808 ≤ i) (i1 : i ≤ 9223372036854775807) (h : putRef i g m = (a, b)) : Calls Try.prog 30 #[.agg #[.int .i64 i, .int .i64 g, .bool m], .int .u64 a, .int .i64 b] w fun e w' => e = .returned (.bool true) ∧ Kept w w' := by
  have HP : ∀ w, Hid (Calls Try.prog 9 #[.agg #[.int .i64 i, .int .i64 g, .bool m]] w fun e w' => e = .returned (.tuple #[.int .u64 a, .int .i64 b]) ∧ Kept w w') := fun w => Lib.hid (by
    have h' := put_ref i g m w i0 i1
    rw [h] at h'
    exact h')
  clear h i0 i1
  go_enter Try.func30, Try.ntmps30
  go_wp2_with fail
  refine (HP _).out.mono ?_
  rintro e w1 ⟨rfl, hk1⟩
  go_wp2
  go_ret
  exact ⟨rfl, by repeat (first | exact Kept.refl _ | refine Kept.alloc ?_ _ _ | refine Kept.drew ?_ | refine Kept.trans ?_ (by assumption))⟩

set_option maxHeartbeats 800000 in
theorem top_yes (i t : Int) (a b : Int) (w : World) (i0 : -9223372036854775808 ≤ i) (i1 : i ≤ 9223372036854775807) (h : putTop i t = (a, b)) : Calls Try.prog 33 #[.agg #[.int .i64 i, .int .i64 t], .int .u64 a, .int .i64 b] w fun e w' => e = .returned (.bool true) ∧ Kept w w' := by
  have HP : ∀ w, Hid (Calls Try.prog 11 #[.agg #[.int .i64 i, .int .i64 t]] w fun e w' => e = .returned (.tuple #[.int .u64 a, .int .i64 b]) ∧ Kept w w') := fun w => Lib.hid (by
    have h' := put_top i t w i0 i1
    rw [h] at h'
    exact h')
  clear h i0 i1
  go_enter Try.func33, Try.ntmps33
  go_wp2_with fail
  refine (HP _).out.mono ?_
  rintro e w1 ⟨rfl, hk1⟩
  go_wp2
  go_ret
  exact ⟨rfl, by repeat (first | exact Kept.refl _ | refine Kept.alloc ?_ _ _ | refine Kept.drew ?_ | refine Kept.trans ?_ (by assumption))⟩

set_option maxHeartbeats 800000 in
theorem slot_yes (l : Int) (f : Bool) (v : Int) (a b : Int) (w : World)  (h : putSlot l f v = (a, b)) : Calls Try.prog 31 #[.agg #[.int .i64 l, .bool f, .int .i64 v], .int .u64 a, .int .i64 b] w fun e w' => e = .returned (.bool true) ∧ Kept w w' := by
  have HP : ∀ w, Hid (Calls Try.prog 13 #[.agg #[.int .i64 l, .bool f, .int .i64 v]] w fun e w' => e = .returned (.tuple #[.int .u64 a, .int .i64 b]) ∧ Kept w w') := fun w => Lib.hid (by
    have h' := put_slot l f v w 
    rw [h] at h'
    exact h')
  clear h
  go_enter Try.func31, Try.ntmps31
  go_wp2_with fail
  refine (HP _).out.mono ?_
  rintro e w1 ⟨rfl, hk1⟩
  go_wp2
  go_ret
  exact ⟨rfl, by repeat (first | exact Kept.refl _ | refine Kept.alloc ?_ _ _ | refine Kept.drew ?_ | refine Kept.trans ?_ (by assumption))⟩

set_option maxHeartbeats 800000 in
theorem key_yes (p s r : Int) (a b : Int) (w : World)  (h : putKey p s r = (a, b)) : Calls Try.prog 32 #[.agg #[.int .i64 p, .int .i64 s, .int .i64 r], .int .u64 a, .int .i64 b] w fun e w' => e = .returned (.bool true) ∧ Kept w w' := by
  have HP : ∀ w, Hid (Calls Try.prog 15 #[.agg #[.int .i64 p, .int .i64 s, .int .i64 r]] w fun e w' => e = .returned (.tuple #[.int .u64 a, .int .i64 b]) ∧ Kept w w') := fun w => Lib.hid (by
    have h' := put_key p s r w 
    rw [h] at h'
    exact h')
  clear h
  go_enter Try.func32, Try.ntmps32
  go_wp2_with fail
  refine (HP _).out.mono ?_
  rintro e w1 ⟨rfl, hk1⟩
  go_wp2
  go_ret
  exact ⟨rfl, by repeat (first | exact Kept.refl _ | refine Kept.alloc ?_ _ _ | refine Kept.drew ?_ | refine Kept.trans ?_ (by assumption))⟩

set_option maxHeartbeats 800000 in
theorem awake_any (w : World) : Calls Try.prog 17 #[] w fun e w' => e = .returned (.bool true) ∧ Kept w w' := by
  go_enter Try.func17, Try.ntmps17
  go_wp2_with (first | (go_at_call 30; refine (ref_yes _ _ _ _ _ _ ?_ ?_ ?_).mono ?_; (all_goals (try (decide; done))); rintro e w' ⟨rfl, hk⟩) | (go_at_call 33; refine (top_yes _ _ _ _ _ ?_ ?_ ?_).mono ?_; (all_goals (try (decide; done))); rintro e w' ⟨rfl, hk⟩) | (go_at_call 31; refine (slot_yes _ _ _ _ _ _ ?_).mono ?_; (all_goals (try (decide; done))); rintro e w' ⟨rfl, hk⟩) | (go_at_call 32; refine (key_yes _ _ _ _ _ _ ?_).mono ?_; (all_goals (try (decide; done))); rintro e w' ⟨rfl, hk⟩))
  go_ret
  exact ⟨rfl, by repeat (first | exact Kept.refl _ | refine Kept.alloc ?_ _ _ | refine Kept.drew ?_ | refine Kept.trans ?_ (by assumption))⟩

theorem k1 (w : World) : Calls Try.prog 18 #[.int .u64 65537] w fun e w' => e = .returned (.tuple #[.agg #[.int .i64 0, .int .i64 1, .bool false], .int .i64 0]) ∧ Kept w w' := by
  have h := get_ref_yes 65537 w (by decide) (by decide) (by decide)
  rw [show rIdx 65537 = 0 by decide, show rGen 65537 = 1 by decide, show markOf 65537 = false by decide] at h; exact h

theorem k2 (w : World) : Calls Try.prog 18 #[.int .u64 65536] w fun e w' => e = .returned (.tuple #[.agg #[.int .i64 0, .int .i64 0, .bool false], .int .i64 5]) ∧ Kept w w' := by
  have h := get_ref_err 65536 w (by decide) (by decide) (by decide)
  exact h

theorem k3 (w : World) : Calls Try.prog 18 #[.int .u64 281474976710657] w fun e w' => e = .returned (.tuple #[.agg #[.int .i64 0, .int .i64 0, .bool false], .int .i64 5]) ∧ Kept w w' := by
  have h := get_ref_word 281474976710657 w (by decide) (by decide) (by decide) (by decide)
  exact h

theorem k4 (w : World) : Calls Try.prog 22 #[.int .u64 9] w fun e w' => e = .returned (.tuple #[.agg #[.int .i64 0, .bool false, .int .i64 0], .int .i64 5]) ∧ Kept w w' := by
  have h := get_slot_err 9 w (by decide) (by decide) (by decide)
  exact h

theorem k5 (w : World) : Calls Try.prog 24 #[.int .u64 18446744073709551615] w fun e w' => e = .returned (.tuple #[.agg #[.int .i64 0, .int .i64 0, .int .i64 0], .int .i64 5]) ∧ Kept w w' := by
  have h := get_key_err 18446744073709551615 w (by decide) (by decide) (by decide)
  exact h

theorem k6 (w : World) : Calls Try.prog 28 #[.int .u64 1, .bool true] w fun e w' => e = .returned (.int .u64 9223372036854775809) ∧ w = w' := by
  have h := marks_any 1 true w (by decide) (by decide)
  rw [show setMark 1 true = 9223372036854775809 by decide] at h
  exact h

theorem k7 (w : World) : Calls Try.prog 26 #[.int .u64 1] w fun e w' => e = .returned (.bool false) ∧ w = w' := by
  have h := marked_any 1 w
  rw [show markOf 1 = false by decide] at h
  exact h

set_option maxHeartbeats 2000000 in
set_option maxRecDepth 100000 in
theorem known_any (w : World) : Calls Try.prog 5 #[] w fun e w' => e = .returned (.bool true) ∧ Kept w w' := by
  go_enter Try.func5, Try.ntmps5
  go_wp2_with (first | (go_at_call 30; refine (ref_yes _ _ _ _ _ _ ?_ ?_ ?_).mono ?_; (all_goals (try (decide; done))); rintro e w' ⟨rfl, hk⟩) | (go_at_call 33; refine (top_yes _ _ _ _ _ ?_ ?_ ?_).mono ?_; (all_goals (try (decide; done))); rintro e w' ⟨rfl, hk⟩) | (go_at_call 31; refine (slot_yes _ _ _ _ _ _ ?_).mono ?_; (all_goals (try (decide; done))); rintro e w' ⟨rfl, hk⟩) | (go_at_call 32; refine (key_yes _ _ _ _ _ _ ?_).mono ?_; (all_goals (try (decide; done))); rintro e w' ⟨rfl, hk⟩))
  refine (k1 _).mono ?_
  rintro e w1 ⟨rfl, hk1⟩
  go_wp2_with fail
  refine (k2 _).mono ?_
  rintro e w2 ⟨rfl, hk2⟩
  go_wp2_with fail
  refine (k3 _).mono ?_
  rintro e w3 ⟨rfl, hk3⟩
  go_wp2_with fail
  refine (k4 _).mono ?_
  rintro e w4 ⟨rfl, hk4⟩
  go_wp2_with fail
  refine (k5 _).mono ?_
  rintro e w5 ⟨rfl, hk5⟩
  have r0 : w5.cell? ⟨w1.heap.size, 0, none⟩ = some (.int .i64 0) := hk5.past (hk4.past (hk3.past (hk2.some (by simp))))
  have r1 : w5.cell? ⟨w1.heap.size, 1, none⟩ = some (.int .i64 1) := hk5.past (hk4.past (hk3.past (hk2.some (by simp))))
  have r2 : w5.cell? ⟨w1.heap.size, 2, none⟩ = some (.bool false) := hk5.past (hk4.past (hk3.past (hk2.some (by simp))))
  have hlt : w1.heap.size < w5.heap.size := lt_of_cell r0
  have K5 : Kept w w5 := by repeat (first | exact Kept.refl _ | refine Kept.trans ?_ (by assumption) | refine Kept.alloc ?_ _ _)
  clear hk1 hk2 hk3 hk4 hk5
  go_wp2_with (first | (go_at_call 30; refine (ref_yes _ _ _ _ _ _ ?_ ?_ ?_).mono ?_; (all_goals (try (decide; done))); rintro e w' ⟨rfl, hk⟩) | (go_at_call 33; refine (top_yes _ _ _ _ _ ?_ ?_ ?_).mono ?_; (all_goals (try (decide; done))); rintro e w' ⟨rfl, hk⟩) | (go_at_call 31; refine (slot_yes _ _ _ _ _ _ ?_).mono ?_; (all_goals (try (decide; done))); rintro e w' ⟨rfl, hk⟩) | (go_at_call 32; refine (key_yes _ _ _ _ _ _ ?_).mono ?_; (all_goals (try (decide; done))); rintro e w' ⟨rfl, hk⟩) | (go_at_call 17; refine (awake_any _).mono ?_; rintro e w' ⟨rfl, hk⟩) | (go_at_call 28; refine (k6 _).mono ?_; rintro e w' ⟨rfl, rfl⟩) | (go_at_call 26; refine (k7 _).mono ?_; rintro e w' ⟨rfl, rfl⟩))
  go_ret
  exact ⟨rfl, by repeat (first | exact Kept.refl _ | exact K5 | refine Kept.alloc ?_ _ _ | refine Kept.drew ?_ | refine Kept.trans ?_ (by assumption))⟩

end Go.Proofs.Ytflggocnhinfeaa
