/- Leaves: functions that only reckon. -/
import Derived.Test.YtflggocnhinfeaaRows
import Derived.Test.YtflggocnhinfeaaKept
import Derived.Test.YtflggocnhinfeaaNum
import Derived.WalkLawsBesides
import Derived.Deep.QuietTactic
import Derived.BigQuiet
import Derived.Lib.Hide
namespace Go.Proofs.Ytflggocnhinfeaa
open Go.RowKit

set_option maxHeartbeats 400000 in
theorem place_any (n : Int) (w : World) : Calls Try.prog 35 #[.int .i64 n] w fun e w' => e = .returned (.int .i64 (wrap64 (n + 1))) ∧ w = w' := by
  go_enter Try.func35, Try.ntmps35
  go_wp2
  go_ret
  exact ⟨rfl, rfl⟩

set_option maxHeartbeats 400000 in
theorem place_in (n : Int) (h0 : -1 ≤ n) (h1 : n ≤ 65534) (w : World) : Calls Try.prog 35 #[.int .i64 n] w fun e w' => e = .returned (.int .i64 (n + 1)) ∧ w = w' := by
  go_enter Try.func35, Try.ntmps35
  go_wp2
  go_ret
  exact ⟨rfl, rfl⟩

set_option maxHeartbeats 400000 in
theorem index_any (n : Int) (h0 : 0 ≤ n) (h1 : n ≤ 65535) (w : World) : Calls Try.prog 55 #[.int .i64 n] w fun e w' => e = .returned (.int .i64 (n - 1)) ∧ w = w' := by
  go_enter Try.func55, Try.ntmps55
  go_wp2
  go_ret
  exact ⟨rfl, rfl⟩

set_option maxHeartbeats 400000 in
theorem bit_any (b : Bool) (w : World) : Calls Try.prog 38 #[.bool b] w fun e w' => e = .returned (.int .i64 (bitOf b)) ∧ w = w' := by
  cases b <;>
  · go_enter Try.func38, Try.ntmps38
    go_wp2
    go_ret
    exact ⟨rfl, rfl⟩

set_option maxHeartbeats 400000 in
theorem rmarked_any (n : Int) (w : World) : Calls Try.prog 52 #[.int .u64 n] w fun e w' => e = .returned (.bool (markOf n)) ∧ w = w' := by
  go_enter Try.func52, Try.ntmps52
  go_wp2
  go_ret
  exact ⟨rfl, rfl⟩

set_option maxHeartbeats 400000 in
theorem marked_any (n : Int) (w : World) : Calls Try.prog 26 #[.int .u64 n] w fun e w' => e = .returned (.bool (markOf n)) ∧ w = w' := by
  go_enter Try.func26, Try.ntmps26
  go_wp2_with (go_at_call 52; refine (rmarked_any _ _).mono ?_; rintro e w' ⟨rfl, rfl⟩)
  go_ret
  exact ⟨rfl, rfl⟩

set_option maxHeartbeats 400000 in
theorem refmarked_any (n : Int) (w : World) : Calls Try.prog 27 #[.int .u64 n] w fun e w' => e = .returned (.bool (markOf n)) ∧ w = w' := by
  go_enter Try.func27, Try.ntmps27
  go_wp2
  go_ret
  exact ⟨rfl, rfl⟩

set_option maxHeartbeats 400000 in
theorem rmarks_any (n : Int) (b : Bool) (w : World) (h0 : 0 ≤ n) (h1 : n < 18446744073709551616) : Calls Try.prog 53 #[.int .u64 n, .bool b] w fun e w' => e = .returned (.int .u64 (setMark n b)) ∧ w = w' := by
  cases b
  · rw [← andNot_mark n h0 h1]
    clear h0 h1
    go_enter Try.func53, Try.ntmps53
    go_wp2
    go_ret
    exact ⟨rfl, rfl⟩
  · rw [← or_mark n h0 h1]
    clear h0 h1
    go_enter Try.func53, Try.ntmps53
    go_wp2
    go_ret
    exact ⟨rfl, rfl⟩

set_option maxHeartbeats 400000 in
theorem marks_any (n : Int) (b : Bool) (w : World) (h0 : 0 ≤ n) (h1 : n < 18446744073709551616) : Calls Try.prog 28 #[.int .u64 n, .bool b] w fun e w' => e = .returned (.int .u64 (setMark n b)) ∧ w = w' := by
  have H0 := Lib.hid h0; have H1 := Lib.hid h1; clear h0 h1
  go_enter Try.func28, Try.ntmps28
  go_wp2_with (go_at_call 53; refine (rmarks_any _ _ _ H0.out H1.out).mono ?_; rintro e w' ⟨rfl, rfl⟩)
  go_ret
  exact ⟨rfl, rfl⟩

set_option maxHeartbeats 400000 in
theorem refmarks_any (n : Int) (b : Bool) (w : World) (h0 : 0 ≤ n) (h1 : n < 18446744073709551616) : Calls Try.prog 29 #[.int .u64 n, .bool b] w fun e w' => e = .returned (.int .u64 (setMark n b)) ∧ w = w' := by
  have e0 : bits .and .u64 n 9223372036854775807 = n % 9223372036854775808 := mask63 n h0 h1
  have e1 : bits .or .u64 (n % 9223372036854775808) 9223372036854775808 = setMark n true := by
    rw [or_mark _ (by omega) (by omega)]; unfold setMark; simp
  have H0 := Lib.hid e0; have H1 := Lib.hid e1; clear e0 e1 h0 h1
  cases b
  · go_enter Try.func29, Try.ntmps29
    go_wp2
    go_ret
    exact ⟨by show Ending.returned (.int .u64 (bits .and .u64 n 9223372036854775807)) = _; rw [H0.out]; simp [setMark], rfl⟩
  · go_enter Try.func29, Try.ntmps29
    go_wp2
    go_ret
    exact ⟨by show Ending.returned (.int .u64 (bits .or .u64 (bits .and .u64 n 9223372036854775807) 9223372036854775808)) = _; rw [H0.out, H1.out], rfl⟩

set_option maxHeartbeats 400000 in
theorem refwithin_any (n lo hi : Int) (w : World) : Calls Try.prog 39 #[.int .i64 n, .int .i64 lo, .int .i64 hi] w fun e w' => e = .returned (.bool (inB n lo hi)) ∧ w = w' := by
  by_cases h : lo ≤ n <;> by_cases h' : n ≤ hi <;>
  · go_enter Try.func39, Try.ntmps39
    go_wp2
    go_ret
    exact ⟨by simp [inB, h, h'], rfl⟩

set_option maxHeartbeats 400000 in
theorem part_0_16 (n : Int) (w : World) (h0 : 0 ≤ n) (h1 : n < 18446744073709551616) : Calls Try.prog 45 #[.int .u64 n, .int .i64 0, .int .i64 16] w fun e w' => e = .returned (.int .i64 (n % 65536)) ∧ Kept w w' := by
  have e0 : wrap64 (bits .and .u64 n 65535) = n % 65536 := by
    rw [mask16 n (by omega) (by omega)]; exact wi _ (by omega) (by omega)
  have H0 := Lib.hid e0; clear e0 h0 h1
  go_enter Try.func45, Try.ntmps45
  go_wp2
  go_quiet (fail)
  go_wp2
  go_ret
  exact ⟨by show Ending.returned (.int .i64 (wrap64 (bits .and .u64 n 65535))) = _; rw [H0.out], (Kept.refl _).drewN _⟩

set_option maxHeartbeats 400000 in
theorem part_16_32 (n : Int) (w : World) (h0 : 0 ≤ n) (h1 : n < 18446744073709551616) : Calls Try.prog 45 #[.int .u64 n, .int .i64 16, .int .i64 32] w fun e w' => e = .returned (.int .i64 (n / 65536 % 4294967296)) ∧ Kept w w' := by
  have e0 : wrap64 (bits .and .u64 (n / 65536) 4294967295) = n / 65536 % 4294967296 := by
    rw [mask32 (n / 65536) (by omega) (by omega)]; exact wi _ (by omega) (by omega)
  have H0 := Lib.hid e0; clear e0 h0 h1
  go_enter Try.func45, Try.ntmps45
  go_wp2
  go_quiet (fail)
  go_wp2
  go_ret
  exact ⟨by show Ending.returned (.int .i64 (wrap64 (bits .and .u64 (n / 65536) 4294967295))) = _; rw [H0.out], (Kept.refl _).drewN _⟩

set_option maxHeartbeats 400000 in
theorem part_16_48 (n : Int) (w : World) (h0 : 0 ≤ n) (h1 : n < 18446744073709551616) : Calls Try.prog 45 #[.int .u64 n, .int .i64 16, .int .i64 48] w fun e w' => e = .returned (.int .i64 (n / 65536 % 281474976710656)) ∧ Kept w w' := by
  have e0 : wrap64 (bits .and .u64 (n / 65536) 281474976710655) = n / 65536 % 281474976710656 := by
    rw [mask48 (n / 65536) (by omega) (by omega)]; exact wi _ (by omega) (by omega)
  have H0 := Lib.hid e0; clear e0 h0 h1
  go_enter Try.func45, Try.ntmps45
  go_wp2
  go_quiet (fail)
  go_wp2
  go_ret
  exact ⟨by show Ending.returned (.int .i64 (wrap64 (bits .and .u64 (n / 65536) 281474976710655))) = _; rw [H0.out], (Kept.refl _).drewN _⟩

set_option maxHeartbeats 400000 in
theorem part_32_32 (n : Int) (w : World) (h0 : 0 ≤ n) (h1 : n < 18446744073709551616) : Calls Try.prog 45 #[.int .u64 n, .int .i64 32, .int .i64 32] w fun e w' => e = .returned (.int .i64 (n / 4294967296 % 4294967296)) ∧ Kept w w' := by
  have e0 : wrap64 (bits .and .u64 (n / 4294967296) 4294967295) = n / 4294967296 % 4294967296 := by
    rw [mask32 (n / 4294967296) (by omega) (by omega)]; exact wi _ (by omega) (by omega)
  have H0 := Lib.hid e0; clear e0 h0 h1
  go_enter Try.func45, Try.ntmps45
  go_wp2
  go_quiet (fail)
  go_wp2
  go_ret
  exact ⟨by show Ending.returned (.int .i64 (wrap64 (bits .and .u64 (n / 4294967296) 4294967295))) = _; rw [H0.out], (Kept.refl _).drewN _⟩

set_option maxHeartbeats 400000 in
theorem part_16_1 (n : Int) (w : World) (h0 : 0 ≤ n) (h1 : n < 18446744073709551616) : Calls Try.prog 45 #[.int .u64 n, .int .i64 16, .int .i64 1] w fun e w' => e = .returned (.int .i64 (n / 65536 % 2)) ∧ Kept w w' := by
  have e0 : wrap64 (bits .and .u64 (n / 65536) 1) = n / 65536 % 2 := by
    rw [mask1 (n / 65536) (by omega) (by omega)]; exact wi _ (by omega) (by omega)
  have H0 := Lib.hid e0; clear e0 h0 h1
  go_enter Try.func45, Try.ntmps45
  go_wp2
  go_quiet (fail)
  go_wp2
  go_ret
  exact ⟨by show Ending.returned (.int .i64 (wrap64 (bits .and .u64 (n / 65536) 1))) = _; rw [H0.out], (Kept.refl _).drewN _⟩

set_option maxHeartbeats 400000 in
theorem part_56_8 (n : Int) (w : World) (h0 : 0 ≤ n) (h1 : n < 18446744073709551616) : Calls Try.prog 45 #[.int .u64 n, .int .i64 56, .int .i64 8] w fun e w' => e = .returned (.int .i64 (n / 72057594037927936 % 256)) ∧ Kept w w' := by
  have e0 : wrap64 (bits .and .u64 (n / 72057594037927936) 255) = n / 72057594037927936 % 256 := by
    rw [mask8 (n / 72057594037927936) (by omega) (by omega)]; exact wi _ (by omega) (by omega)
  have H0 := Lib.hid e0; clear e0 h0 h1
  go_enter Try.func45, Try.ntmps45
  go_wp2
  go_quiet (fail)
  go_wp2
  go_ret
  exact ⟨by show Ending.returned (.int .i64 (wrap64 (bits .and .u64 (n / 72057594037927936) 255))) = _; rw [H0.out], (Kept.refl _).drewN _⟩

set_option maxHeartbeats 400000 in
theorem part_16_40 (n : Int) (w : World) (h0 : 0 ≤ n) (h1 : n < 18446744073709551616) : Calls Try.prog 45 #[.int .u64 n, .int .i64 16, .int .i64 40] w fun e w' => e = .returned (.int .i64 (n / 65536 % 1099511627776)) ∧ Kept w w' := by
  have e0 : wrap64 (bits .and .u64 (n / 65536) 1099511627775) = n / 65536 % 1099511627776 := by
    rw [mask40 (n / 65536) (by omega) (by omega)]; exact wi _ (by omega) (by omega)
  have H0 := Lib.hid e0; clear e0 h0 h1
  go_enter Try.func45, Try.ntmps45
  go_wp2
  go_quiet (fail)
  go_wp2
  go_ret
  exact ⟨by show Ending.returned (.int .i64 (wrap64 (bits .and .u64 (n / 65536) 1099511627775))) = _; rw [H0.out], (Kept.refl _).drewN _⟩

set_option maxHeartbeats 400000 in
theorem table_refWord (n : Int) (w : World) : Calls Try.prog 36 #[.int .u64 n] w fun e w' => e = .returned (.agg #[.int .u64 0, .int .u64 16, .int .u64 16, .int .u64 32, .int .u64 63, .int .u64 1]) ∧ Kept w w' := by
  go_enter Try.func36, Try.ntmps36
  go_wp2
  exact bodyPost_ret (v := .agg #[.int .u64 0, .int .u64 16, .int .u64 16, .int .u64 32, .int .u64 63, .int .u64 1]) (by simp [results, Try.results36, go_sem]) rfl ⟨rfl, (Kept.refl _).alloc _ _⟩

set_option maxHeartbeats 400000 in
theorem table_topWord (n : Int) (w : World) : Calls Try.prog 40 #[.int .u64 n] w fun e w' => e = .returned (.agg #[.int .u64 0, .int .u64 16, .int .u64 16, .int .u64 48, .int .u64 0, .int .u64 0]) ∧ Kept w w' := by
  go_enter Try.func40, Try.ntmps40
  go_wp2
  exact bodyPost_ret (v := .agg #[.int .u64 0, .int .u64 16, .int .u64 16, .int .u64 48, .int .u64 0, .int .u64 0]) (by simp [results, Try.results40, go_sem]) rfl ⟨rfl, (Kept.refl _).alloc _ _⟩

set_option maxHeartbeats 400000 in
theorem table_slotWord (n : Int) (w : World) : Calls Try.prog 41 #[.int .u64 n] w fun e w' => e = .returned (.agg #[.int .u64 0, .int .u64 16, .int .u64 16, .int .u64 1, .int .u64 32, .int .u64 32]) ∧ Kept w w' := by
  go_enter Try.func41, Try.ntmps41
  go_wp2
  exact bodyPost_ret (v := .agg #[.int .u64 0, .int .u64 16, .int .u64 16, .int .u64 1, .int .u64 32, .int .u64 32]) (by simp [results, Try.results41, go_sem]) rfl ⟨rfl, (Kept.refl _).alloc _ _⟩

set_option maxHeartbeats 400000 in
theorem table_keyWord (n : Int) (w : World) : Calls Try.prog 42 #[.int .u64 n] w fun e w' => e = .returned (.agg #[.int .u64 0, .int .u64 16, .int .u64 16, .int .u64 40, .int .u64 56, .int .u64 8]) ∧ Kept w w' := by
  go_enter Try.func42, Try.ntmps42
  go_wp2
  exact bodyPost_ret (v := .agg #[.int .u64 0, .int .u64 16, .int .u64 16, .int .u64 40, .int .u64 56, .int .u64 8]) (by simp [results, Try.results42, go_sem]) rfl ⟨rfl, (Kept.refl _).alloc _ _⟩

end Go.Proofs.Ytflggocnhinfeaa
