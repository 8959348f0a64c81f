/- A table's join and split, at each of the four tables. -/
import Derived.Test.YtflggocnhinfeaaLeaf
namespace Go.Proofs.Ytflggocnhinfeaa
open Go.RowKit

set_option maxHeartbeats 400000 in
theorem joined_ref (a b c : Int) (w : World) (ha : 0 ≤ a) (ha' : a < 65536) (hb : 0 ≤ b) (hb' : b < 4294967296) (hc : 0 ≤ c) (hc' : c < 2) : Calls Try.prog 37 #[.agg #[.int .u64 0, .int .u64 16, .int .u64 16, .int .u64 32, .int .u64 63, .int .u64 1], .agg #[.int .i64 a, .int .i64 b, .int .i64 c]] w fun e w' => e = .returned (.int .u64 (a + b * 65536 + c * 9223372036854775808)) ∧ Kept w w' := by
  have H := Lib.hid (join_ref a b c ha ha' hb hb' hc hc')
  clear ha ha' hb hb' hc hc'
  have i0 : ∀ w, (Instr.index 64 (.agg #[.int .u64 0, .int .u64 16, .int .u64 16, .int .u64 32, .int .u64 63, .int .u64 1]) (.int .i64 0)).run Try.prog w = .ok (.agg #[.int .u64 0, .int .u64 16]) w := fun _ => by kernel_rfl
  have i1 : ∀ w, (Instr.index 64 (.agg #[.int .u64 0, .int .u64 16, .int .u64 16, .int .u64 32, .int .u64 63, .int .u64 1]) (.int .i64 1)).run Try.prog w = .ok (.agg #[.int .u64 16, .int .u64 32]) w := fun _ => by kernel_rfl
  have i2 : ∀ w, (Instr.index 64 (.agg #[.int .u64 0, .int .u64 16, .int .u64 16, .int .u64 32, .int .u64 63, .int .u64 1]) (.int .i64 2)).run Try.prog w = .ok (.agg #[.int .u64 63, .int .u64 1]) w := fun _ => by kernel_rfl
  go_enter Try.func37, Try.ntmps37
  go_wp2
  refine wp_loop_rounds 4 ?_
  rw [rounds_succ]
  go_wp2
  go_quiet (fail)
  go_wp2
  rw [rounds_succ]
  go_wp2
  go_quiet (fail)
  go_wp2
  rw [rounds_succ]
  go_wp2
  go_quiet (fail)
  go_wp2
  rw [rounds_succ]
  go_wp2
  go_ret
  exact ⟨by show Ending.returned (.int .u64 (bits .or .u64 (bits .or .u64 (bits .or .u64 0 (IntKind.u64.wrap (IntKind.u64.wrap a))) (IntKind.u64.wrap (IntKind.u64.wrap b * 65536))) (IntKind.u64.wrap (IntKind.u64.wrap c * 9223372036854775808)))) = _; rw [H.out], (((((((Kept.refl _).alloc _ _).alloc _ _).alloc _ _).drewN _).alloc _ _).drewN _ |>.alloc _ _).drewN _⟩

set_option maxHeartbeats 400000 in
theorem split_ref (n : Int) (w : World) (h0 : 0 ≤ n) (h1 : n < 18446744073709551616) : Calls Try.prog 54 #[.agg #[.int .u64 0, .int .u64 16, .int .u64 16, .int .u64 32, .int .u64 63, .int .u64 1], .int .u64 n] w fun e w' => e = .returned (.agg #[.int .i64 (n % 65536), .int .i64 (n / 65536 % 4294967296), .int .i64 (n / 9223372036854775808 % 2)]) ∧ Kept w w' := by
  have e0 : wrap64 (bits .and .u64 n 65535) = n % 65536 := by
    rw [mask16 n (by omega) (by omega)]; exact wi _ (by omega) (by omega)
  have e1 : wrap64 (bits .and .u64 (n / 65536) 4294967295) = n / 65536 % 4294967296 := by
    rw [mask32 (n / 65536) (by omega) (by omega)]; exact wi _ (by omega) (by omega)
  have e2 : wrap64 (bits .and .u64 (n / 9223372036854775808) 1) = n / 9223372036854775808 % 2 := by
    rw [mask1 (n / 9223372036854775808) (by omega) (by omega)]; exact wi _ (by omega) (by omega)
  have H0 := Lib.hid e0; have H1 := Lib.hid e1; have H2 := Lib.hid e2; clear e0 e1 e2 h0 h1
  have i0 : ∀ w, (Instr.index 64 (.agg #[.int .u64 0, .int .u64 16, .int .u64 16, .int .u64 32, .int .u64 63, .int .u64 1]) (.int .i64 0)).run Try.prog w = .ok (.agg #[.int .u64 0, .int .u64 16]) w := fun _ => by kernel_rfl
  have i1 : ∀ w, (Instr.index 64 (.agg #[.int .u64 0, .int .u64 16, .int .u64 16, .int .u64 32, .int .u64 63, .int .u64 1]) (.int .i64 1)).run Try.prog w = .ok (.agg #[.int .u64 16, .int .u64 32]) w := fun _ => by kernel_rfl
  have i2 : ∀ w, (Instr.index 64 (.agg #[.int .u64 0, .int .u64 16, .int .u64 16, .int .u64 32, .int .u64 63, .int .u64 1]) (.int .i64 2)).run Try.prog w = .ok (.agg #[.int .u64 63, .int .u64 1]) w := fun _ => by kernel_rfl
  go_enter Try.func54, Try.ntmps54
  go_wp2
  refine wp_loop_rounds 4 ?_
  rw [rounds_succ]
  go_wp2
  rw [rounds_succ]
  go_wp2
  rw [rounds_succ]
  go_wp2
  rw [rounds_succ]
  go_wp2
  exact bodyPost_ret (v := .agg #[.int .i64 (wrap64 (bits .and .u64 n 65535)), .int .i64 (wrap64 (bits .and .u64 (n / 65536) 4294967295)), .int .i64 (wrap64 (bits .and .u64 (n / 9223372036854775808) 1))]) (by simp [results, Try.results54, go_sem]) rfl ⟨by rw [H0.out, H1.out, H2.out], by repeat (first | exact Kept.refl _ | refine Kept.alloc ?_ _ _)⟩

set_option maxHeartbeats 400000 in
theorem joined_top (a b : Int) (w : World) (ha : 0 ≤ a) (ha' : a < 65536) (hb : 0 ≤ b) (hb' : b < 281474976710656) : Calls Try.prog 37 #[.agg #[.int .u64 0, .int .u64 16, .int .u64 16, .int .u64 48, .int .u64 0, .int .u64 0], .agg #[.int .i64 a, .int .i64 b, .int .i64 0]] w fun e w' => e = .returned (.int .u64 (a + b * 65536)) ∧ Kept w w' := by
  have H := Lib.hid (join_top a b ha ha' hb hb')
  clear ha ha' hb hb'
  have i0 : ∀ w, (Instr.index 64 (.agg #[.int .u64 0, .int .u64 16, .int .u64 16, .int .u64 48, .int .u64 0, .int .u64 0]) (.int .i64 0)).run Try.prog w = .ok (.agg #[.int .u64 0, .int .u64 16]) w := fun _ => by kernel_rfl
  have i1 : ∀ w, (Instr.index 64 (.agg #[.int .u64 0, .int .u64 16, .int .u64 16, .int .u64 48, .int .u64 0, .int .u64 0]) (.int .i64 1)).run Try.prog w = .ok (.agg #[.int .u64 16, .int .u64 48]) w := fun _ => by kernel_rfl
  have i2 : ∀ w, (Instr.index 64 (.agg #[.int .u64 0, .int .u64 16, .int .u64 16, .int .u64 48, .int .u64 0, .int .u64 0]) (.int .i64 2)).run Try.prog w = .ok (.agg #[.int .u64 0, .int .u64 0]) w := fun _ => by kernel_rfl
  go_enter Try.func37, Try.ntmps37
  go_wp2
  refine wp_loop_rounds 4 ?_
  rw [rounds_succ]
  go_wp2
  go_quiet (fail)
  go_wp2
  rw [rounds_succ]
  go_wp2
  go_quiet (fail)
  go_wp2
  rw [rounds_succ]
  go_wp2
  go_quiet (fail)
  go_wp2
  rw [rounds_succ]
  go_wp2
  go_ret
  exact ⟨by show Ending.returned (.int .u64 (bits .or .u64 (bits .or .u64 (bits .or .u64 0 (IntKind.u64.wrap (IntKind.u64.wrap a))) (IntKind.u64.wrap (IntKind.u64.wrap b * 65536))) 0)) = _; rw [H.out], (((((((Kept.refl _).alloc _ _).alloc _ _).alloc _ _).drewN _).alloc _ _).drewN _ |>.alloc _ _).drewN _⟩

set_option maxHeartbeats 400000 in
theorem split_top (n : Int) (w : World) (h0 : 0 ≤ n) (h1 : n < 18446744073709551616) : Calls Try.prog 54 #[.agg #[.int .u64 0, .int .u64 16, .int .u64 16, .int .u64 48, .int .u64 0, .int .u64 0], .int .u64 n] w fun e w' => e = .returned (.agg #[.int .i64 (n % 65536), .int .i64 (n / 65536 % 281474976710656), .int .i64 (0)]) ∧ Kept w w' := by
  have e0 : wrap64 (bits .and .u64 n 65535) = n % 65536 := by
    rw [mask16 n (by omega) (by omega)]; exact wi _ (by omega) (by omega)
  have e1 : wrap64 (bits .and .u64 (n / 65536) 281474976710655) = n / 65536 % 281474976710656 := by
    rw [mask48 (n / 65536) (by omega) (by omega)]; exact wi _ (by omega) (by omega)
  have e2 : wrap64 (bits .and .u64 n 0) = 0 := by
    rw [mask0 n (by omega) (by omega)]; exact wi 0 (by omega) (by omega)
  have H0 := Lib.hid e0; have H1 := Lib.hid e1; have H2 := Lib.hid e2; clear e0 e1 e2 h0 h1
  have i0 : ∀ w, (Instr.index 64 (.agg #[.int .u64 0, .int .u64 16, .int .u64 16, .int .u64 48, .int .u64 0, .int .u64 0]) (.int .i64 0)).run Try.prog w = .ok (.agg #[.int .u64 0, .int .u64 16]) w := fun _ => by kernel_rfl
  have i1 : ∀ w, (Instr.index 64 (.agg #[.int .u64 0, .int .u64 16, .int .u64 16, .int .u64 48, .int .u64 0, .int .u64 0]) (.int .i64 1)).run Try.prog w = .ok (.agg #[.int .u64 16, .int .u64 48]) w := fun _ => by kernel_rfl
  have i2 : ∀ w, (Instr.index 64 (.agg #[.int .u64 0, .int .u64 16, .int .u64 16, .int .u64 48, .int .u64 0, .int .u64 0]) (.int .i64 2)).run Try.prog w = .ok (.agg #[.int .u64 0, .int .u64 0]) w := fun _ => by kernel_rfl
  go_enter Try.func54, Try.ntmps54
  go_wp2
  refine wp_loop_rounds 4 ?_
  rw [rounds_succ]
  go_wp2
  rw [rounds_succ]
  go_wp2
  rw [rounds_succ]
  go_wp2
  rw [rounds_succ]
  go_wp2
  exact bodyPost_ret (v := .agg #[.int .i64 (wrap64 (bits .and .u64 n 65535)), .int .i64 (wrap64 (bits .and .u64 (n / 65536) 281474976710655)), .int .i64 (wrap64 (bits .and .u64 n 0))]) (by simp [results, Try.results54, go_sem]) rfl ⟨by rw [H0.out, H1.out, H2.out], by repeat (first | exact Kept.refl _ | refine Kept.alloc ?_ _ _)⟩

set_option maxHeartbeats 400000 in
theorem joined_slot (a b c : Int) (w : World) (ha : 0 ≤ a) (ha' : a < 65536) (hb : 0 ≤ b) (hb' : b < 2) (hc : 0 ≤ c) (hc' : c < 4294967296) : Calls Try.prog 37 #[.agg #[.int .u64 0, .int .u64 16, .int .u64 16, .int .u64 1, .int .u64 32, .int .u64 32], .agg #[.int .i64 a, .int .i64 b, .int .i64 c]] w fun e w' => e = .returned (.int .u64 (a + b * 65536 + c * 4294967296)) ∧ Kept w w' := by
  have H := Lib.hid (join_slot a b c ha ha' hb hb' hc hc')
  clear ha ha' hb hb' hc hc'
  have i0 : ∀ w, (Instr.index 64 (.agg #[.int .u64 0, .int .u64 16, .int .u64 16, .int .u64 1, .int .u64 32, .int .u64 32]) (.int .i64 0)).run Try.prog w = .ok (.agg #[.int .u64 0, .int .u64 16]) w := fun _ => by kernel_rfl
  have i1 : ∀ w, (Instr.index 64 (.agg #[.int .u64 0, .int .u64 16, .int .u64 16, .int .u64 1, .int .u64 32, .int .u64 32]) (.int .i64 1)).run Try.prog w = .ok (.agg #[.int .u64 16, .int .u64 1]) w := fun _ => by kernel_rfl
  have i2 : ∀ w, (Instr.index 64 (.agg #[.int .u64 0, .int .u64 16, .int .u64 16, .int .u64 1, .int .u64 32, .int .u64 32]) (.int .i64 2)).run Try.prog w = .ok (.agg #[.int .u64 32, .int .u64 32]) w := fun _ => by kernel_rfl
  go_enter Try.func37, Try.ntmps37
  go_wp2
  refine wp_loop_rounds 4 ?_
  rw [rounds_succ]
  go_wp2
  go_quiet (fail)
  go_wp2
  rw [rounds_succ]
  go_wp2
  go_quiet (fail)
  go_wp2
  rw [rounds_succ]
  go_wp2
  go_quiet (fail)
  go_wp2
  rw [rounds_succ]
  go_wp2
  go_ret
  exact ⟨by show Ending.returned (.int .u64 (bits .or .u64 (bits .or .u64 (bits .or .u64 0 (IntKind.u64.wrap (IntKind.u64.wrap a))) (IntKind.u64.wrap (IntKind.u64.wrap b * 65536))) (IntKind.u64.wrap (IntKind.u64.wrap c * 4294967296)))) = _; rw [H.out], (((((((Kept.refl _).alloc _ _).alloc _ _).alloc _ _).drewN _).alloc _ _).drewN _ |>.alloc _ _).drewN _⟩

set_option maxHeartbeats 400000 in
theorem split_slot (n : Int) (w : World) (h0 : 0 ≤ n) (h1 : n < 18446744073709551616) : Calls Try.prog 54 #[.agg #[.int .u64 0, .int .u64 16, .int .u64 16, .int .u64 1, .int .u64 32, .int .u64 32], .int .u64 n] w fun e w' => e = .returned (.agg #[.int .i64 (n % 65536), .int .i64 (n / 65536 % 2), .int .i64 (n / 4294967296 % 4294967296)]) ∧ Kept w w' := by
  have e0 : wrap64 (bits .and .u64 n 65535) = n % 65536 := by
    rw [mask16 n (by omega) (by omega)]; exact wi _ (by omega) (by omega)
  have e1 : wrap64 (bits .and .u64 (n / 65536) 1) = n / 65536 % 2 := by
    rw [mask1 (n / 65536) (by omega) (by omega)]; exact wi _ (by omega) (by omega)
  have e2 : wrap64 (bits .and .u64 (n / 4294967296) 4294967295) = n / 4294967296 % 4294967296 := by
    rw [mask32 (n / 4294967296) (by omega) (by omega)]; exact wi _ (by omega) (by omega)
  have H0 := Lib.hid e0; have H1 := Lib.hid e1; have H2 := Lib.hid e2; clear e0 e1 e2 h0 h1
  have i0 : ∀ w, (Instr.index 64 (.agg #[.int .u64 0, .int .u64 16, .int .u64 16, .int .u64 1, .int .u64 32, .int .u64 32]) (.int .i64 0)).run Try.prog w = .ok (.agg #[.int .u64 0, .int .u64 16]) w := fun _ => by kernel_rfl
  have i1 : ∀ w, (Instr.index 64 (.agg #[.int .u64 0, .int .u64 16, .int .u64 16, .int .u64 1, .int .u64 32, .int .u64 32]) (.int .i64 1)).run Try.prog w = .ok (.agg #[.int .u64 16, .int .u64 1]) w := fun _ => by kernel_rfl
  have i2 : ∀ w, (Instr.index 64 (.agg #[.int .u64 0, .int .u64 16, .int .u64 16, .int .u64 1, .int .u64 32, .int .u64 32]) (.int .i64 2)).run Try.prog w = .ok (.agg #[.int .u64 32, .int .u64 32]) w := fun _ => by kernel_rfl
  go_enter Try.func54, Try.ntmps54
  go_wp2
  refine wp_loop_rounds 4 ?_
  rw [rounds_succ]
  go_wp2
  rw [rounds_succ]
  go_wp2
  rw [rounds_succ]
  go_wp2
  rw [rounds_succ]
  go_wp2
  exact bodyPost_ret (v := .agg #[.int .i64 (wrap64 (bits .and .u64 n 65535)), .int .i64 (wrap64 (bits .and .u64 (n / 65536) 1)), .int .i64 (wrap64 (bits .and .u64 (n / 4294967296) 4294967295))]) (by simp [results, Try.results54, go_sem]) rfl ⟨by rw [H0.out, H1.out, H2.out], by repeat (first | exact Kept.refl _ | refine Kept.alloc ?_ _ _)⟩

set_option maxHeartbeats 400000 in
theorem joined_key (a b c : Int) (w : World) (ha : 0 ≤ a) (ha' : a < 65536) (hb : 0 ≤ b) (hb' : b < 1099511627776) (hc : 0 ≤ c) (hc' : c < 256) : Calls Try.prog 37 #[.agg #[.int .u64 0, .int .u64 16, .int .u64 16, .int .u64 40, .int .u64 56, .int .u64 8], .agg #[.int .i64 a, .int .i64 b, .int .i64 c]] w fun e w' => e = .returned (.int .u64 (a + b * 65536 + c * 72057594037927936)) ∧ Kept w w' := by
  have H := Lib.hid (join_key a b c ha ha' hb hb' hc hc')
  clear ha ha' hb hb' hc hc'
  have i0 : ∀ w, (Instr.index 64 (.agg #[.int .u64 0, .int .u64 16, .int .u64 16, .int .u64 40, .int .u64 56, .int .u64 8]) (.int .i64 0)).run Try.prog w = .ok (.agg #[.int .u64 0, .int .u64 16]) w := fun _ => by kernel_rfl
  have i1 : ∀ w, (Instr.index 64 (.agg #[.int .u64 0, .int .u64 16, .int .u64 16, .int .u64 40, .int .u64 56, .int .u64 8]) (.int .i64 1)).run Try.prog w = .ok (.agg #[.int .u64 16, .int .u64 40]) w := fun _ => by kernel_rfl
  have i2 : ∀ w, (Instr.index 64 (.agg #[.int .u64 0, .int .u64 16, .int .u64 16, .int .u64 40, .int .u64 56, .int .u64 8]) (.int .i64 2)).run Try.prog w = .ok (.agg #[.int .u64 56, .int .u64 8]) w := fun _ => by kernel_rfl
  go_enter Try.func37, Try.ntmps37
  go_wp2
  refine wp_loop_rounds 4 ?_
  rw [rounds_succ]
  go_wp2
  go_quiet (fail)
  go_wp2
  rw [rounds_succ]
  go_wp2
  go_quiet (fail)
  go_wp2
  rw [rounds_succ]
  go_wp2
  go_quiet (fail)
  go_wp2
  rw [rounds_succ]
  go_wp2
  go_ret
  exact ⟨by show Ending.returned (.int .u64 (bits .or .u64 (bits .or .u64 (bits .or .u64 0 (IntKind.u64.wrap (IntKind.u64.wrap a))) (IntKind.u64.wrap (IntKind.u64.wrap b * 65536))) (IntKind.u64.wrap (IntKind.u64.wrap c * 72057594037927936)))) = _; rw [H.out], (((((((Kept.refl _).alloc _ _).alloc _ _).alloc _ _).drewN _).alloc _ _).drewN _ |>.alloc _ _).drewN _⟩

set_option maxHeartbeats 400000 in
theorem split_key (n : Int) (w : World) (h0 : 0 ≤ n) (h1 : n < 18446744073709551616) : Calls Try.prog 54 #[.agg #[.int .u64 0, .int .u64 16, .int .u64 16, .int .u64 40, .int .u64 56, .int .u64 8], .int .u64 n] w fun e w' => e = .returned (.agg #[.int .i64 (n % 65536), .int .i64 (n / 65536 % 1099511627776), .int .i64 (n / 72057594037927936 % 256)]) ∧ Kept w w' := by
  have e0 : wrap64 (bits .and .u64 n 65535) = n % 65536 := by
    rw [mask16 n (by omega) (by omega)]; exact wi _ (by omega) (by omega)
  have e1 : wrap64 (bits .and .u64 (n / 65536) 1099511627775) = n / 65536 % 1099511627776 := by
    rw [mask40 (n / 65536) (by omega) (by omega)]; exact wi _ (by omega) (by omega)
  have e2 : wrap64 (bits .and .u64 (n / 72057594037927936) 255) = n / 72057594037927936 % 256 := by
    rw [mask8 (n / 72057594037927936) (by omega) (by omega)]; exact wi _ (by omega) (by omega)
  have H0 := Lib.hid e0; have H1 := Lib.hid e1; have H2 := Lib.hid e2; clear e0 e1 e2 h0 h1
  have i0 : ∀ w, (Instr.index 64 (.agg #[.int .u64 0, .int .u64 16, .int .u64 16, .int .u64 40, .int .u64 56, .int .u64 8]) (.int .i64 0)).run Try.prog w = .ok (.agg #[.int .u64 0, .int .u64 16]) w := fun _ => by kernel_rfl
  have i1 : ∀ w, (Instr.index 64 (.agg #[.int .u64 0, .int .u64 16, .int .u64 16, .int .u64 40, .int .u64 56, .int .u64 8]) (.int .i64 1)).run Try.prog w = .ok (.agg #[.int .u64 16, .int .u64 40]) w := fun _ => by kernel_rfl
  have i2 : ∀ w, (Instr.index 64 (.agg #[.int .u64 0, .int .u64 16, .int .u64 16, .int .u64 40, .int .u64 56, .int .u64 8]) (.int .i64 2)).run Try.prog w = .ok (.agg #[.int .u64 56, .int .u64 8]) w := fun _ => by kernel_rfl
  go_enter Try.func54, Try.ntmps54
  go_wp2
  refine wp_loop_rounds 4 ?_
  rw [rounds_succ]
  go_wp2
  rw [rounds_succ]
  go_wp2
  rw [rounds_succ]
  go_wp2
  rw [rounds_succ]
  go_wp2
  exact bodyPost_ret (v := .agg #[.int .i64 (wrap64 (bits .and .u64 n 65535)), .int .i64 (wrap64 (bits .and .u64 (n / 65536) 1099511627775)), .int .i64 (wrap64 (bits .and .u64 (n / 72057594037927936) 255))]) (by simp [results, Try.results54, go_sem]) rfl ⟨by rw [H0.out, H1.out, H2.out], by repeat (first | exact Kept.refl _ | refine Kept.alloc ?_ _ _)⟩

end Go.Proofs.Ytflggocnhinfeaa
