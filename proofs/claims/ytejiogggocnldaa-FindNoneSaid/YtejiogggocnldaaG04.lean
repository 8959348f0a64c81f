/- A table's join and split, at each of the four tables. -/
import Derived.Test.YtejiogggocnldaaG03
import Derived.Deep.RegionHeld3
set_option linter.unusedVariables false
set_option linter.unusedSimpArgs false

namespace Go.Proofs.Ytejiogggocnldaa.Wo
set_option maxRecDepth 20000
open Go.RowKit

set_option maxHeartbeats 400000 in
theorem joined_ref (a b c : Int) (w : World) (ha : 0 ≤ a) (ha' : a < 65536) (hb : 0 ≤ b) (hb' : b < 4294967296) (hc : 0 ≤ c) (hc' : c < 2) : Calls Try.prog 162 #[.agg #[.int .u64 0, .int .u64 16, .int .u64 16, .int .u64 32, .int .u64 63, .int .u64 1], .agg #[.int .i64 a, .int .i64 b, .int .i64 c]] w fun e w' => e = .returned (.int .u64 (a + b * 65536 + c * 9223372036854775808)) ∧ Kept w w' := by
  have H := Lib.hid (join_ref a b c ha ha' hb hb' hc hc')
  clear ha ha' hb hb' hc hc'
  have i0 : ∀ w, (Instr.index 216 (.agg #[.int .u64 0, .int .u64 16, .int .u64 16, .int .u64 32, .int .u64 63, .int .u64 1]) (.int .i64 0)).run Try.prog w = .ok (.agg #[.int .u64 0, .int .u64 16]) w := fun _ => by kernel_rfl
  have i1 : ∀ w, (Instr.index 216 (.agg #[.int .u64 0, .int .u64 16, .int .u64 16, .int .u64 32, .int .u64 63, .int .u64 1]) (.int .i64 1)).run Try.prog w = .ok (.agg #[.int .u64 16, .int .u64 32]) w := fun _ => by kernel_rfl
  have i2 : ∀ w, (Instr.index 216 (.agg #[.int .u64 0, .int .u64 16, .int .u64 16, .int .u64 32, .int .u64 63, .int .u64 1]) (.int .i64 2)).run Try.prog w = .ok (.agg #[.int .u64 63, .int .u64 1]) w := fun _ => by kernel_rfl
  go_enter Try.func162, Try.ntmps162
  go_wp2
  refine wp_loop_rounds 4 ?_
  rw [rounds_succ]
  go_wp2
  go_quiet (fail)
  go_wp2
  rw [rounds_succ]
  go_wp2
  go_quiet (fail)
  go_wp2
  rw [rounds_succ]
  go_wp2
  go_quiet (fail)
  go_wp2
  rw [rounds_succ]
  go_wp2
  go_ret
  exact ⟨by show Ending.returned (.int .u64 (bits .or .u64 (bits .or .u64 (bits .or .u64 0 (IntKind.u64.wrap (IntKind.u64.wrap a))) (IntKind.u64.wrap (IntKind.u64.wrap b * 65536))) (IntKind.u64.wrap (IntKind.u64.wrap c * 9223372036854775808)))) = _; rw [H.out], (((((((Kept.refl _).alloc _ _).alloc _ _).alloc _ _).drewN _).alloc _ _).drewN _ |>.alloc _ _).drewN _⟩

set_option maxHeartbeats 400000 in
theorem split_ref (n : Int) (w : World) (h0 : 0 ≤ n) (h1 : n < 18446744073709551616) : Calls Try.prog 164 #[.agg #[.int .u64 0, .int .u64 16, .int .u64 16, .int .u64 32, .int .u64 63, .int .u64 1], .int .u64 n] w fun e w' => e = .returned (.agg #[.int .i64 (n % 65536), .int .i64 (n / 65536 % 4294967296), .int .i64 (n / 9223372036854775808 % 2)]) ∧ Kept w w' := by
  have e0 : wrap64 (bits .and .u64 n 65535) = n % 65536 := by
    rw [mask16 n (by omega) (by omega)]; exact wi _ (by omega) (by omega)
  have e1 : wrap64 (bits .and .u64 (n / 65536) 4294967295) = n / 65536 % 4294967296 := by
    rw [mask32 (n / 65536) (by omega) (by omega)]; exact wi _ (by omega) (by omega)
  have e2 : wrap64 (bits .and .u64 (n / 9223372036854775808) 1) = n / 9223372036854775808 % 2 := by
    rw [mask1 (n / 9223372036854775808) (by omega) (by omega)]; exact wi _ (by omega) (by omega)
  have H0 := Lib.hid e0; have H1 := Lib.hid e1; have H2 := Lib.hid e2; clear e0 e1 e2 h0 h1
  have i0 : ∀ w, (Instr.index 216 (.agg #[.int .u64 0, .int .u64 16, .int .u64 16, .int .u64 32, .int .u64 63, .int .u64 1]) (.int .i64 0)).run Try.prog w = .ok (.agg #[.int .u64 0, .int .u64 16]) w := fun _ => by kernel_rfl
  have i1 : ∀ w, (Instr.index 216 (.agg #[.int .u64 0, .int .u64 16, .int .u64 16, .int .u64 32, .int .u64 63, .int .u64 1]) (.int .i64 1)).run Try.prog w = .ok (.agg #[.int .u64 16, .int .u64 32]) w := fun _ => by kernel_rfl
  have i2 : ∀ w, (Instr.index 216 (.agg #[.int .u64 0, .int .u64 16, .int .u64 16, .int .u64 32, .int .u64 63, .int .u64 1]) (.int .i64 2)).run Try.prog w = .ok (.agg #[.int .u64 63, .int .u64 1]) w := fun _ => by kernel_rfl
  go_enter Try.func164, Try.ntmps164
  go_wp2
  refine wp_loop_rounds 4 ?_
  rw [rounds_succ]
  go_wp2
  rw [rounds_succ]
  go_wp2
  rw [rounds_succ]
  go_wp2
  rw [rounds_succ]
  go_wp2
  exact bodyPost_ret (v := .agg #[.int .i64 (wrap64 (bits .and .u64 n 65535)), .int .i64 (wrap64 (bits .and .u64 (n / 65536) 4294967295)), .int .i64 (wrap64 (bits .and .u64 (n / 9223372036854775808) 1))]) (by simp [results, Try.results164, go_sem]) rfl ⟨by rw [H0.out, H1.out, H2.out], by repeat (first | exact Kept.refl _ | refine Kept.alloc ?_ _ _)⟩

set_option maxHeartbeats 400000 in
theorem joined_top (a b : Int) (w : World) (ha : 0 ≤ a) (ha' : a < 65536) (hb : 0 ≤ b) (hb' : b < 281474976710656) : Calls Try.prog 162 #[.agg #[.int .u64 0, .int .u64 16, .int .u64 16, .int .u64 48, .int .u64 0, .int .u64 0], .agg #[.int .i64 a, .int .i64 b, .int .i64 0]] w fun e w' => e = .returned (.int .u64 (a + b * 65536)) ∧ Kept w w' := by
  have H := Lib.hid (join_top a b ha ha' hb hb')
  clear ha ha' hb hb'
  have i0 : ∀ w, (Instr.index 216 (.agg #[.int .u64 0, .int .u64 16, .int .u64 16, .int .u64 48, .int .u64 0, .int .u64 0]) (.int .i64 0)).run Try.prog w = .ok (.agg #[.int .u64 0, .int .u64 16]) w := fun _ => by kernel_rfl
  have i1 : ∀ w, (Instr.index 216 (.agg #[.int .u64 0, .int .u64 16, .int .u64 16, .int .u64 48, .int .u64 0, .int .u64 0]) (.int .i64 1)).run Try.prog w = .ok (.agg #[.int .u64 16, .int .u64 48]) w := fun _ => by kernel_rfl
  have i2 : ∀ w, (Instr.index 216 (.agg #[.int .u64 0, .int .u64 16, .int .u64 16, .int .u64 48, .int .u64 0, .int .u64 0]) (.int .i64 2)).run Try.prog w = .ok (.agg #[.int .u64 0, .int .u64 0]) w := fun _ => by kernel_rfl
  go_enter Try.func162, Try.ntmps162
  go_wp2
  refine wp_loop_rounds 4 ?_
  rw [rounds_succ]
  go_wp2
  go_quiet (fail)
  go_wp2
  rw [rounds_succ]
  go_wp2
  go_quiet (fail)
  go_wp2
  rw [rounds_succ]
  go_wp2
  go_quiet (fail)
  go_wp2
  rw [rounds_succ]
  go_wp2
  go_ret
  exact ⟨by show Ending.returned (.int .u64 (bits .or .u64 (bits .or .u64 (bits .or .u64 0 (IntKind.u64.wrap (IntKind.u64.wrap a))) (IntKind.u64.wrap (IntKind.u64.wrap b * 65536))) 0)) = _; rw [H.out], (((((((Kept.refl _).alloc _ _).alloc _ _).alloc _ _).drewN _).alloc _ _).drewN _ |>.alloc _ _).drewN _⟩

set_option maxHeartbeats 400000 in
theorem split_top (n : Int) (w : World) (h0 : 0 ≤ n) (h1 : n < 18446744073709551616) : Calls Try.prog 164 #[.agg #[.int .u64 0, .int .u64 16, .int .u64 16, .int .u64 48, .int .u64 0, .int .u64 0], .int .u64 n] w fun e w' => e = .returned (.agg #[.int .i64 (n % 65536), .int .i64 (n / 65536 % 281474976710656), .int .i64 (0)]) ∧ Kept w w' := by
  have e0 : wrap64 (bits .and .u64 n 65535) = n % 65536 := by
    rw [mask16 n (by omega) (by omega)]; exact wi _ (by omega) (by omega)
  have e1 : wrap64 (bits .and .u64 (n / 65536) 281474976710655) = n / 65536 % 281474976710656 := by
    rw [mask48 (n / 65536) (by omega) (by omega)]; exact wi _ (by omega) (by omega)
  have e2 : wrap64 (bits .and .u64 n 0) = 0 := by
    rw [mask0 n (by omega) (by omega)]; exact wi 0 (by omega) (by omega)
  have H0 := Lib.hid e0; have H1 := Lib.hid e1; have H2 := Lib.hid e2; clear e0 e1 e2 h0 h1
  have i0 : ∀ w, (Instr.index 216 (.agg #[.int .u64 0, .int .u64 16, .int .u64 16, .int .u64 48, .int .u64 0, .int .u64 0]) (.int .i64 0)).run Try.prog w = .ok (.agg #[.int .u64 0, .int .u64 16]) w := fun _ => by kernel_rfl
  have i1 : ∀ w, (Instr.index 216 (.agg #[.int .u64 0, .int .u64 16, .int .u64 16, .int .u64 48, .int .u64 0, .int .u64 0]) (.int .i64 1)).run Try.prog w = .ok (.agg #[.int .u64 16, .int .u64 48]) w := fun _ => by kernel_rfl
  have i2 : ∀ w, (Instr.index 216 (.agg #[.int .u64 0, .int .u64 16, .int .u64 16, .int .u64 48, .int .u64 0, .int .u64 0]) (.int .i64 2)).run Try.prog w = .ok (.agg #[.int .u64 0, .int .u64 0]) w := fun _ => by kernel_rfl
  go_enter Try.func164, Try.ntmps164
  go_wp2
  refine wp_loop_rounds 4 ?_
  rw [rounds_succ]
  go_wp2
  rw [rounds_succ]
  go_wp2
  rw [rounds_succ]
  go_wp2
  rw [rounds_succ]
  go_wp2
  exact bodyPost_ret (v := .agg #[.int .i64 (wrap64 (bits .and .u64 n 65535)), .int .i64 (wrap64 (bits .and .u64 (n / 65536) 281474976710655)), .int .i64 (wrap64 (bits .and .u64 n 0))]) (by simp [results, Try.results164, go_sem]) rfl ⟨by rw [H0.out, H1.out, H2.out], by repeat (first | exact Kept.refl _ | refine Kept.alloc ?_ _ _)⟩

set_option maxHeartbeats 400000 in
theorem joined_slot (a b c : Int) (w : World) (ha : 0 ≤ a) (ha' : a < 65536) (hb : 0 ≤ b) (hb' : b < 2) (hc : 0 ≤ c) (hc' : c < 4294967296) : Calls Try.prog 162 #[.agg #[.int .u64 0, .int .u64 16, .int .u64 16, .int .u64 1, .int .u64 32, .int .u64 32], .agg #[.int .i64 a, .int .i64 b, .int .i64 c]] w fun e w' => e = .returned (.int .u64 (a + b * 65536 + c * 4294967296)) ∧ Kept w w' := by
  have H := Lib.hid (join_slot a b c ha ha' hb hb' hc hc')
  clear ha ha' hb hb' hc hc'
  have i0 : ∀ w, (Instr.index 216 (.agg #[.int .u64 0, .int .u64 16, .int .u64 16, .int .u64 1, .int .u64 32, .int .u64 32]) (.int .i64 0)).run Try.prog w = .ok (.agg #[.int .u64 0, .int .u64 16]) w := fun _ => by kernel_rfl
  have i1 : ∀ w, (Instr.index 216 (.agg #[.int .u64 0, .int .u64 16, .int .u64 16, .int .u64 1, .int .u64 32, .int .u64 32]) (.int .i64 1)).run Try.prog w = .ok (.agg #[.int .u64 16, .int .u64 1]) w := fun _ => by kernel_rfl
  have i2 : ∀ w, (Instr.index 216 (.agg #[.int .u64 0, .int .u64 16, .int .u64 16, .int .u64 1, .int .u64 32, .int .u64 32]) (.int .i64 2)).run Try.prog w = .ok (.agg #[.int .u64 32, .int .u64 32]) w := fun _ => by kernel_rfl
  go_enter Try.func162, Try.ntmps162
  go_wp2
  refine wp_loop_rounds 4 ?_
  rw [rounds_succ]
  go_wp2
  go_quiet (fail)
  go_wp2
  rw [rounds_succ]
  go_wp2
  go_quiet (fail)
  go_wp2
  rw [rounds_succ]
  go_wp2
  go_quiet (fail)
  go_wp2
  rw [rounds_succ]
  go_wp2
  go_ret
  exact ⟨by show Ending.returned (.int .u64 (bits .or .u64 (bits .or .u64 (bits .or .u64 0 (IntKind.u64.wrap (IntKind.u64.wrap a))) (IntKind.u64.wrap (IntKind.u64.wrap b * 65536))) (IntKind.u64.wrap (IntKind.u64.wrap c * 4294967296)))) = _; rw [H.out], (((((((Kept.refl _).alloc _ _).alloc _ _).alloc _ _).drewN _).alloc _ _).drewN _ |>.alloc _ _).drewN _⟩

set_option maxHeartbeats 400000 in
theorem split_slot (n : Int) (w : World) (h0 : 0 ≤ n) (h1 : n < 18446744073709551616) : Calls Try.prog 164 #[.agg #[.int .u64 0, .int .u64 16, .int .u64 16, .int .u64 1, .int .u64 32, .int .u64 32], .int .u64 n] w fun e w' => e = .returned (.agg #[.int .i64 (n % 65536), .int .i64 (n / 65536 % 2), .int .i64 (n / 4294967296 % 4294967296)]) ∧ Kept w w' := by
  have e0 : wrap64 (bits .and .u64 n 65535) = n % 65536 := by
    rw [mask16 n (by omega) (by omega)]; exact wi _ (by omega) (by omega)
  have e1 : wrap64 (bits .and .u64 (n / 65536) 1) = n / 65536 % 2 := by
    rw [mask1 (n / 65536) (by omega) (by omega)]; exact wi _ (by omega) (by omega)
  have e2 : wrap64 (bits .and .u64 (n / 4294967296) 4294967295) = n / 4294967296 % 4294967296 := by
    rw [mask32 (n / 4294967296) (by omega) (by omega)]; exact wi _ (by omega) (by omega)
  have H0 := Lib.hid e0; have H1 := Lib.hid e1; have H2 := Lib.hid e2; clear e0 e1 e2 h0 h1
  have i0 : ∀ w, (Instr.index 216 (.agg #[.int .u64 0, .int .u64 16, .int .u64 16, .int .u64 1, .int .u64 32, .int .u64 32]) (.int .i64 0)).run Try.prog w = .ok (.agg #[.int .u64 0, .int .u64 16]) w := fun _ => by kernel_rfl
  have i1 : ∀ w, (Instr.index 216 (.agg #[.int .u64 0, .int .u64 16, .int .u64 16, .int .u64 1, .int .u64 32, .int .u64 32]) (.int .i64 1)).run Try.prog w = .ok (.agg #[.int .u64 16, .int .u64 1]) w := fun _ => by kernel_rfl
  have i2 : ∀ w, (Instr.index 216 (.agg #[.int .u64 0, .int .u64 16, .int .u64 16, .int .u64 1, .int .u64 32, .int .u64 32]) (.int .i64 2)).run Try.prog w = .ok (.agg #[.int .u64 32, .int .u64 32]) w := fun _ => by kernel_rfl
  go_enter Try.func164, Try.ntmps164
  go_wp2
  refine wp_loop_rounds 4 ?_
  rw [rounds_succ]
  go_wp2
  rw [rounds_succ]
  go_wp2
  rw [rounds_succ]
  go_wp2
  rw [rounds_succ]
  go_wp2
  exact bodyPost_ret (v := .agg #[.int .i64 (wrap64 (bits .and .u64 n 65535)), .int .i64 (wrap64 (bits .and .u64 (n / 65536) 1)), .int .i64 (wrap64 (bits .and .u64 (n / 4294967296) 4294967295))]) (by simp [results, Try.results164, go_sem]) rfl ⟨by rw [H0.out, H1.out, H2.out], by repeat (first | exact Kept.refl _ | refine Kept.alloc ?_ _ _)⟩

set_option maxHeartbeats 400000 in
theorem joined_key (a b c : Int) (w : World) (ha : 0 ≤ a) (ha' : a < 65536) (hb : 0 ≤ b) (hb' : b < 1099511627776) (hc : 0 ≤ c) (hc' : c < 256) : Calls Try.prog 162 #[.agg #[.int .u64 0, .int .u64 16, .int .u64 16, .int .u64 40, .int .u64 56, .int .u64 8], .agg #[.int .i64 a, .int .i64 b, .int .i64 c]] w fun e w' => e = .returned (.int .u64 (a + b * 65536 + c * 72057594037927936)) ∧ Kept w w' := by
  have H := Lib.hid (join_key a b c ha ha' hb hb' hc hc')
  clear ha ha' hb hb' hc hc'
  have i0 : ∀ w, (Instr.index 216 (.agg #[.int .u64 0, .int .u64 16, .int .u64 16, .int .u64 40, .int .u64 56, .int .u64 8]) (.int .i64 0)).run Try.prog w = .ok (.agg #[.int .u64 0, .int .u64 16]) w := fun _ => by kernel_rfl
  have i1 : ∀ w, (Instr.index 216 (.agg #[.int .u64 0, .int .u64 16, .int .u64 16, .int .u64 40, .int .u64 56, .int .u64 8]) (.int .i64 1)).run Try.prog w = .ok (.agg #[.int .u64 16, .int .u64 40]) w := fun _ => by kernel_rfl
  have i2 : ∀ w, (Instr.index 216 (.agg #[.int .u64 0, .int .u64 16, .int .u64 16, .int .u64 40, .int .u64 56, .int .u64 8]) (.int .i64 2)).run Try.prog w = .ok (.agg #[.int .u64 56, .int .u64 8]) w := fun _ => by kernel_rfl
  go_enter Try.func162, Try.ntmps162
  go_wp2
  refine wp_loop_rounds 4 ?_
  rw [rounds_succ]
  go_wp2
  go_quiet (fail)
  go_wp2
  rw [rounds_succ]
  go_wp2
  go_quiet (fail)
  go_wp2
  rw [rounds_succ]
  go_wp2
  go_quiet (fail)
  go_wp2
  rw [rounds_succ]
  go_wp2
  go_ret
  exact ⟨by show Ending.returned (.int .u64 (bits .or .u64 (bits .or .u64 (bits .or .u64 0 (IntKind.u64.wrap (IntKind.u64.wrap a))) (IntKind.u64.wrap (IntKind.u64.wrap b * 65536))) (IntKind.u64.wrap (IntKind.u64.wrap c * 72057594037927936)))) = _; rw [H.out], (((((((Kept.refl _).alloc _ _).alloc _ _).alloc _ _).drewN _).alloc _ _).drewN _ |>.alloc _ _).drewN _⟩

set_option maxHeartbeats 400000 in
theorem split_key (n : Int) (w : World) (h0 : 0 ≤ n) (h1 : n < 18446744073709551616) : Calls Try.prog 164 #[.agg #[.int .u64 0, .int .u64 16, .int .u64 16, .int .u64 40, .int .u64 56, .int .u64 8], .int .u64 n] w fun e w' => e = .returned (.agg #[.int .i64 (n % 65536), .int .i64 (n / 65536 % 1099511627776), .int .i64 (n / 72057594037927936 % 256)]) ∧ Kept w w' := by
  have e0 : wrap64 (bits .and .u64 n 65535) = n % 65536 := by
    rw [mask16 n (by omega) (by omega)]; exact wi _ (by omega) (by omega)
  have e1 : wrap64 (bits .and .u64 (n / 65536) 1099511627775) = n / 65536 % 1099511627776 := by
    rw [mask40 (n / 65536) (by omega) (by omega)]; exact wi _ (by omega) (by omega)
  have e2 : wrap64 (bits .and .u64 (n / 72057594037927936) 255) = n / 72057594037927936 % 256 := by
    rw [mask8 (n / 72057594037927936) (by omega) (by omega)]; exact wi _ (by omega) (by omega)
  have H0 := Lib.hid e0; have H1 := Lib.hid e1; have H2 := Lib.hid e2; clear e0 e1 e2 h0 h1
  have i0 : ∀ w, (Instr.index 216 (.agg #[.int .u64 0, .int .u64 16, .int .u64 16, .int .u64 40, .int .u64 56, .int .u64 8]) (.int .i64 0)).run Try.prog w = .ok (.agg #[.int .u64 0, .int .u64 16]) w := fun _ => by kernel_rfl
  have i1 : ∀ w, (Instr.index 216 (.agg #[.int .u64 0, .int .u64 16, .int .u64 16, .int .u64 40, .int .u64 56, .int .u64 8]) (.int .i64 1)).run Try.prog w = .ok (.agg #[.int .u64 16, .int .u64 40]) w := fun _ => by kernel_rfl
  have i2 : ∀ w, (Instr.index 216 (.agg #[.int .u64 0, .int .u64 16, .int .u64 16, .int .u64 40, .int .u64 56, .int .u64 8]) (.int .i64 2)).run Try.prog w = .ok (.agg #[.int .u64 56, .int .u64 8]) w := fun _ => by kernel_rfl
  go_enter Try.func164, Try.ntmps164
  go_wp2
  refine wp_loop_rounds 4 ?_
  rw [rounds_succ]
  go_wp2
  rw [rounds_succ]
  go_wp2
  rw [rounds_succ]
  go_wp2
  rw [rounds_succ]
  go_wp2
  exact bodyPost_ret (v := .agg #[.int .i64 (wrap64 (bits .and .u64 n 65535)), .int .i64 (wrap64 (bits .and .u64 (n / 65536) 1099511627775)), .int .i64 (wrap64 (bits .and .u64 (n / 72057594037927936) 255))]) (by simp [results, Try.results164, go_sem]) rfl ⟨by rw [H0.out, H1.out, H2.out], by repeat (first | exact Kept.refl _ | refine Kept.alloc ?_ _ _)⟩

end Go.Proofs.Ytejiogggocnldaa.Wo

namespace Go.Proofs.Ytejiogggocnldaa.Wo
set_option maxRecDepth 20000
open Go.RowKit

set_option maxHeartbeats 400000 in
theorem value_top (n : Int) (w : World) (h0 : 0 ≤ n) (h1 : n < 18446744073709551616) : Calls Try.prog 155 #[.int .u64 n] w fun e w' => e = .returned (.agg #[.int .i64 (rIdx n), .int .i64 (tTag n)]) ∧ Kept w w' := by
  have H0 := Lib.hid h0; have H1 := Lib.hid h1; clear h0 h1
  go_enter Try.func155, Try.ntmps155
  go_wp2_with fail
  refine (table_topWord _ _).mono ?_
  rintro e w1 ⟨rfl, hk1⟩
  have hc1 := hk1.cell
  have hz1 := hk1.size
  have hf1 := hk1.froze
  go_wp2_with fail
  refine (split_top _ _ H0.out H1.out).mono ?_
  rintro e w2 ⟨rfl, hk2⟩
  have hc2 := hk2.cell
  have hz2 := hk2.size
  have hf2 := hk2.froze
  have hz1' : w.heap.size + 1 ≤ w1.heap.size := by simpa using hz1
  have hlt : w.heap.size < w2.heap.size := by omega
  have r0 : w2.cell? ⟨w.heap.size, 0, none⟩ = some (.int .i64 0) := by rw [hc2 _ _ (by omega), hc1 _ _ (by simp)]; simp
  have r1 : w2.cell? ⟨w.heap.size, 1, none⟩ = some (.int .i64 0) := by rw [hc2 _ _ (by omega), hc1 _ _ (by simp)]; simp
  have f2 : ∀ o, w2.frozen? ⟨w.heap.size, o, none⟩ = false := fun o => by rw [hf2, hf1]; simp
  have K0 : Kept w w2 := ((Kept.refl w).alloc _ _).trans (hk1.trans hk2)
  clear hc1 hc2 hf1 hf2 hz1 hz2 hk1 hk2
  go_wp2_with fail
  go_region_held3 (fun w' => w'.cell? ⟨w2.heap.size, 0, none⟩ = some (.int .i64 (n % 65536)) ∧ w'.cell? ⟨w2.heap.size, 1, none⟩ = some (.int .i64 (n / 65536 % 281474976710656))) (first | (simp [World.cell?_alloc_at]; done) | go_keep) (first | ((go_at_call 173; refine (index_any _ (by omega) (by omega) _).mono ?_; rintro e w' ⟨rfl, rfl⟩)))
  go_wp2
  refine bodyPost_ret (v := .agg #[(.int .i64 (n % 65536 - 1)), (.int .i64 (n / 65536 % 281474976710656))]) ?_ rfl ⟨rfl, ?_⟩
  · simp [results, Try.results155, go_sem, r0, r1, hlt]
  · refine Kept.drew (Kept.alloc (Kept.setCell (Kept.setCell K0 ?_ _) ?_ _) _ _) <;> simp

set_option maxHeartbeats 400000 in
theorem value_slot (n : Int) (w : World) (h0 : 0 ≤ n) (h1 : n < 18446744073709551616) : Calls Try.prog 141 #[.int .u64 n] w fun e w' => e = .returned (.agg #[.int .i64 (sLap n), .bool (sFull n), .int .i64 (sVal n)]) ∧ Kept w w' := by
  have H0 := Lib.hid h0; have H1 := Lib.hid h1; clear h0 h1
  go_enter Try.func141, Try.ntmps141
  go_wp2_with fail
  refine (table_slotWord _ _).mono ?_
  rintro e w1 ⟨rfl, hk1⟩
  have hc1 := hk1.cell
  have hz1 := hk1.size
  have hf1 := hk1.froze
  go_wp2_with fail
  refine (split_slot _ _ H0.out H1.out).mono ?_
  rintro e w2 ⟨rfl, hk2⟩
  have hc2 := hk2.cell
  have hz2 := hk2.size
  have hf2 := hk2.froze
  have hz1' : w.heap.size + 1 ≤ w1.heap.size := by simpa using hz1
  have hlt : w.heap.size < w2.heap.size := by omega
  have r0 : w2.cell? ⟨w.heap.size, 0, none⟩ = some (.int .i64 0) := by rw [hc2 _ _ (by omega), hc1 _ _ (by simp)]; simp
  have r1 : w2.cell? ⟨w.heap.size, 1, none⟩ = some (.bool false) := by rw [hc2 _ _ (by omega), hc1 _ _ (by simp)]; simp
  have r2 : w2.cell? ⟨w.heap.size, 2, none⟩ = some (.int .i64 0) := by rw [hc2 _ _ (by omega), hc1 _ _ (by simp)]; simp
  have f2 : ∀ o, w2.frozen? ⟨w.heap.size, o, none⟩ = false := fun o => by rw [hf2, hf1]; simp
  have K0 : Kept w w2 := ((Kept.refl w).alloc _ _).trans (hk1.trans hk2)
  clear hc1 hc2 hf1 hf2 hz1 hz2 hk1 hk2
  go_wp2_with fail
  go_wp2
  refine bodyPost_ret (v := .agg #[(.int .i64 (n / 4294967296 % 4294967296)), (.bool (n / 65536 % 2 == 1)), (.int .i64 (n % 65536))]) ?_ rfl ⟨rfl, ?_⟩
  · simp [results, Try.results141, go_sem, r0, r1, r2, hlt]
  · refine Kept.alloc (Kept.setCell (Kept.setCell (Kept.setCell K0 ?_ _) ?_ _) ?_ _) _ _ <;> simp

set_option maxHeartbeats 400000 in
theorem within2_yes (B : Nat) (a b m k : Int) (w : World) (c0 : w.cell? ⟨B, 0, none⟩ = some (.int .i64 a)) (d0 : w.cell? ⟨B, 1, none⟩ = some (.int .i64 m)) (c1 : w.cell? ⟨B, 2, none⟩ = some (.int .i64 b)) (d1 : w.cell? ⟨B, 3, none⟩ = some (.int .i64 k)) (h : 0 ≤ a ∧ a ≤ m ∧ 0 ≤ b ∧ b ≤ k) : Calls Try.prog 160 #[.slice (some ⟨B, 0, none⟩) 2 2] w fun e w' => e = .returned (.bool true) ∧ Kept w w' := by
  have hB := lt_of_cell c0
  obtain ⟨p0, q0, p1, q1⟩ := h
  go_enter Try.func160, Try.ntmps160
  go_wp2
  refine wp_loop_rounds 3 ?_
  rw [rounds_succ]
  go_wp2
  rw [rounds_succ]
  go_wp2
  rw [rounds_succ]
  go_wp2
  go_ret
  exact ⟨rfl, by repeat (first | exact Kept.refl _ | refine Kept.alloc ?_ _ _)⟩

set_option maxHeartbeats 800000 in
theorem within2_no (B : Nat) (a b m k : Int) (w : World) (c0 : w.cell? ⟨B, 0, none⟩ = some (.int .i64 a)) (d0 : w.cell? ⟨B, 1, none⟩ = some (.int .i64 m)) (c1 : w.cell? ⟨B, 2, none⟩ = some (.int .i64 b)) (d1 : w.cell? ⟨B, 3, none⟩ = some (.int .i64 k)) (h : ¬ (0 ≤ a ∧ a ≤ m ∧ 0 ≤ b ∧ b ≤ k)) : Calls Try.prog 160 #[.slice (some ⟨B, 0, none⟩) 2 2] w fun e w' => e = .returned (.bool false) ∧ Kept w w' := by
  have hB := lt_of_cell c0
  by_cases n0 : a < 0
  · clear h
    go_enter Try.func160, Try.ntmps160
    go_wp2
    refine wp_loop_rounds 3 ?_
    rw [rounds_succ]
    go_wp2
    go_ret
    exact ⟨rfl, by repeat (first | exact Kept.refl _ | refine Kept.alloc ?_ _ _)⟩
  by_cases u0 : m < a
  · clear h
    go_enter Try.func160, Try.ntmps160
    go_wp2
    refine wp_loop_rounds 3 ?_
    rw [rounds_succ]
    go_wp2
    go_ret
    exact ⟨rfl, by repeat (first | exact Kept.refl _ | refine Kept.alloc ?_ _ _)⟩
  by_cases n1 : b < 0
  · clear h
    go_enter Try.func160, Try.ntmps160
    go_wp2
    refine wp_loop_rounds 3 ?_
    rw [rounds_succ]
    go_wp2
    rw [rounds_succ]
    go_wp2
    go_ret
    exact ⟨rfl, by repeat (first | exact Kept.refl _ | refine Kept.alloc ?_ _ _)⟩
  by_cases u1 : k < b
  · clear h
    go_enter Try.func160, Try.ntmps160
    go_wp2
    refine wp_loop_rounds 3 ?_
    rw [rounds_succ]
    go_wp2
    rw [rounds_succ]
    go_wp2
    go_ret
    exact ⟨rfl, by repeat (first | exact Kept.refl _ | refine Kept.alloc ?_ _ _)⟩
  exact absurd (by omega) h

set_option maxHeartbeats 400000 in
theorem within3_yes (B : Nat) (a b c m k l : Int) (w : World) (c0 : w.cell? ⟨B, 0, none⟩ = some (.int .i64 a)) (d0 : w.cell? ⟨B, 1, none⟩ = some (.int .i64 m)) (c1 : w.cell? ⟨B, 2, none⟩ = some (.int .i64 b)) (d1 : w.cell? ⟨B, 3, none⟩ = some (.int .i64 k)) (c2 : w.cell? ⟨B, 4, none⟩ = some (.int .i64 c)) (d2 : w.cell? ⟨B, 5, none⟩ = some (.int .i64 l)) (h : 0 ≤ a ∧ a ≤ m ∧ 0 ≤ b ∧ b ≤ k ∧ 0 ≤ c ∧ c ≤ l) : Calls Try.prog 160 #[.slice (some ⟨B, 0, none⟩) 3 3] w fun e w' => e = .returned (.bool true) ∧ Kept w w' := by
  have hB := lt_of_cell c0
  obtain ⟨p0, q0, p1, q1, p2, q2⟩ := h
  go_enter Try.func160, Try.ntmps160
  go_wp2
  refine wp_loop_rounds 4 ?_
  rw [rounds_succ]
  go_wp2
  rw [rounds_succ]
  go_wp2
  rw [rounds_succ]
  go_wp2
  rw [rounds_succ]
  go_wp2
  go_ret
  exact ⟨rfl, by repeat (first | exact Kept.refl _ | refine Kept.alloc ?_ _ _)⟩

set_option maxHeartbeats 800000 in
theorem within3_no (B : Nat) (a b c m k l : Int) (w : World) (c0 : w.cell? ⟨B, 0, none⟩ = some (.int .i64 a)) (d0 : w.cell? ⟨B, 1, none⟩ = some (.int .i64 m)) (c1 : w.cell? ⟨B, 2, none⟩ = some (.int .i64 b)) (d1 : w.cell? ⟨B, 3, none⟩ = some (.int .i64 k)) (c2 : w.cell? ⟨B, 4, none⟩ = some (.int .i64 c)) (d2 : w.cell? ⟨B, 5, none⟩ = some (.int .i64 l)) (h : ¬ (0 ≤ a ∧ a ≤ m ∧ 0 ≤ b ∧ b ≤ k ∧ 0 ≤ c ∧ c ≤ l)) : Calls Try.prog 160 #[.slice (some ⟨B, 0, none⟩) 3 3] w fun e w' => e = .returned (.bool false) ∧ Kept w w' := by
  have hB := lt_of_cell c0
  by_cases n0 : a < 0
  · clear h
    go_enter Try.func160, Try.ntmps160
    go_wp2
    refine wp_loop_rounds 4 ?_
    rw [rounds_succ]
    go_wp2
    go_ret
    exact ⟨rfl, by repeat (first | exact Kept.refl _ | refine Kept.alloc ?_ _ _)⟩
  by_cases u0 : m < a
  · clear h
    go_enter Try.func160, Try.ntmps160
    go_wp2
    refine wp_loop_rounds 4 ?_
    rw [rounds_succ]
    go_wp2
    go_ret
    exact ⟨rfl, by repeat (first | exact Kept.refl _ | refine Kept.alloc ?_ _ _)⟩
  by_cases n1 : b < 0
  · clear h
    go_enter Try.func160, Try.ntmps160
    go_wp2
    refine wp_loop_rounds 4 ?_
    rw [rounds_succ]
    go_wp2
    rw [rounds_succ]
    go_wp2
    go_ret
    exact ⟨rfl, by repeat (first | exact Kept.refl _ | refine Kept.alloc ?_ _ _)⟩
  by_cases u1 : k < b
  · clear h
    go_enter Try.func160, Try.ntmps160
    go_wp2
    refine wp_loop_rounds 4 ?_
    rw [rounds_succ]
    go_wp2
    rw [rounds_succ]
    go_wp2
    go_ret
    exact ⟨rfl, by repeat (first | exact Kept.refl _ | refine Kept.alloc ?_ _ _)⟩
  by_cases n2 : c < 0
  · clear h
    go_enter Try.func160, Try.ntmps160
    go_wp2
    refine wp_loop_rounds 4 ?_
    rw [rounds_succ]
    go_wp2
    rw [rounds_succ]
    go_wp2
    rw [rounds_succ]
    go_wp2
    go_ret
    exact ⟨rfl, by repeat (first | exact Kept.refl _ | refine Kept.alloc ?_ _ _)⟩
  by_cases u2 : l < c
  · clear h
    go_enter Try.func160, Try.ntmps160
    go_wp2
    refine wp_loop_rounds 4 ?_
    rw [rounds_succ]
    go_wp2
    rw [rounds_succ]
    go_wp2
    rw [rounds_succ]
    go_wp2
    go_ret
    exact ⟨rfl, by repeat (first | exact Kept.refl _ | refine Kept.alloc ?_ _ _)⟩
  exact absurd (by omega) h

end Go.Proofs.Ytejiogggocnldaa.Wo

namespace Go.Proofs.Ytejiogggocnldaa.Wo
set_option maxRecDepth 20000
open Go.RowKit

set_option maxHeartbeats 800000 in
theorem put_top_bad (i t : Int) (w : World) (i0 : -9223372036854775808 ≤ i) (i1 : i ≤ 9223372036854775807) (hr : ¬ (-1 ≤ i ∧ i ≤ 65534 ∧ 0 ≤ t ∧ t ≤ 281474976710655)) : Calls Try.prog 156 #[.agg #[.int .i64 i, .int .i64 t]] w fun e w' => e = .returned (.tuple #[.int .u64 (0), .int .i64 3]) ∧ Kept w w' := by
  have HW : Hid (¬ (0 ≤ wrap64 (i + 1) ∧ wrap64 (i + 1) ≤ 65535 ∧ 0 ≤ t ∧ t ≤ 281474976710655)) := Lib.hid (by intro h; unfold wrap64 at h; exact hr (by omega))
  clear hr
  clear i0 i1
  go_enter Try.func156, Try.ntmps156
  go_wp2_with fail
  go_region_held3 (fun w' => w'.cell? ⟨w.heap.size, 0, none⟩ = some (.int .i64 i) ∧ w'.cell? ⟨w.heap.size, 1, none⟩ = some (.int .i64 t)) (first | (simp [World.cell?_alloc_at]; done) | go_keep | (exact ⟨hk.some (by simp [*]), hk.some (by simp [*])⟩)) (first | (go_at_call 174; refine (place_any _ _).mono ?_; rintro e w' ⟨rfl, rfl⟩) | (go_at_call 160; refine (within2_no _ _ _ _ _ _ ?_ ?_ ?_ ?_ HW.out).mono ?_; (all_goals (try (simp [*]; done))); rintro e w1 ⟨rfl, hk⟩))
  go_wp2
  go_ret2
  exact ⟨rfl, by repeat (first | exact Kept.refl _ | refine Kept.alloc ?_ _ _ | refine Kept.drew ?_ | refine Kept.drewN ?_ _ | refine Kept.trans ?_ (by assumption))⟩

set_option maxHeartbeats 800000 in
theorem put_top_good (i t : Int) (w : World)  (hr : -1 ≤ i ∧ i ≤ 65534 ∧ 0 ≤ t ∧ t ≤ 281474976710655) : Calls Try.prog 156 #[.agg #[.int .i64 i, .int .i64 t]] w fun e w' => e = .returned (.tuple #[.int .u64 (i + 1 + t * 65536), .int .i64 0]) ∧ Kept w w' := by
  have HW : Hid (0 ≤ i + 1 ∧ i + 1 ≤ 65535 ∧ 0 ≤ t ∧ t ≤ 281474976710655) := Lib.hid (by omega)
  have I0 := Lib.hid (show -1 ≤ i by omega); have I1 := Lib.hid (show i ≤ 65534 by omega)
  have HJ : ∀ w, Hid (Calls Try.prog 162 _ w _) := fun w => Lib.hid (joined_top (i + 1) t w (by omega) (by omega) (by omega) (by omega))
  clear hr
  go_enter Try.func156, Try.ntmps156
  go_wp2_with fail
  go_region_held3 (fun w' => w'.cell? ⟨w.heap.size, 0, none⟩ = some (.int .i64 i) ∧ w'.cell? ⟨w.heap.size, 1, none⟩ = some (.int .i64 t)) (first | (simp [World.cell?_alloc_at]; done) | go_keep | (exact ⟨hk.some (by simp [*]), hk.some (by simp [*])⟩)) (first | (go_at_call 174; refine (place_in _ I0.out I1.out _).mono ?_; rintro e w' ⟨rfl, rfl⟩) | (go_at_call 160; refine (within2_yes _ _ _ _ _ _ ?_ ?_ ?_ ?_ HW.out).mono ?_; (all_goals (try (simp [*]; done))); rintro e w1 ⟨rfl, hk⟩))
  go_wp2_with fail
  have hz := hk.size
  simp at hz
  have hk' := hk
  have s0 : w1.cell? ⟨w.heap.size, 0, none⟩ = some (.int .i64 i) := hk'.some (by simp [*])
  have s1 : w1.cell? ⟨w.heap.size, 1, none⟩ = some (.int .i64 t) := hk'.some (by simp [*])
  have K1 : Kept w w1 := by repeat (first | exact Kept.refl _ | refine Kept.alloc ?_ _ _ | refine Kept.drew ?_ | refine Kept.drewN ?_ _ | refine Kept.trans ?_ (by assumption))
  clear hz hk hk'
  go_region_held3 (fun w' => w'.cell? ⟨w.heap.size, 0, none⟩ = some (.int .i64 i) ∧ w'.cell? ⟨w.heap.size, 1, none⟩ = some (.int .i64 t)) (first | go_keep | (exact ⟨hk.some (by simp [*]), hk.some (by simp [*])⟩)) (first | (go_at_call 172; refine (table_topWord _ _).mono ?_; rintro e w1 ⟨rfl, hk⟩) | (go_at_call 174; refine (place_in _ I0.out I1.out _).mono ?_; rintro e w' ⟨rfl, rfl⟩) | (go_at_call 162; refine (HJ _).out.mono ?_; rintro e w1 ⟨rfl, hk⟩))
  go_wp2
  go_ret2
  exact ⟨rfl, by repeat (first | exact Kept.refl _ | refine Kept.alloc ?_ _ _ | refine Kept.drew ?_ | refine Kept.drewN ?_ _ | refine Kept.trans ?_ (by assumption))⟩

set_option maxHeartbeats 800000 in
theorem put_slot_bad (l : Int) (f : Bool) (v : Int) (w : World)  (hr : ¬ (0 ≤ l ∧ l ≤ 4294967295 ∧ 0 ≤ v ∧ v ≤ 65535)) : Calls Try.prog 139 #[.agg #[.int .i64 l, .bool f, .int .i64 v]] w fun e w' => e = .returned (.tuple #[.int .u64 (0), .int .i64 3]) ∧ Kept w w' := by
  have HW : Hid (¬ (0 ≤ l ∧ l ≤ 4294967295 ∧ 0 ≤ v ∧ v ≤ 65535)) := Lib.hid (by intro h; exact hr (by omega))
  clear hr
  go_enter Try.func139, Try.ntmps139
  go_wp2_with fail
  refine (within2_no _ _ _ _ _ _ ?_ ?_ ?_ ?_ HW.out).mono ?_
  all_goals (try (simp; done))
  rintro e w1 ⟨rfl, hk⟩
  go_wp2
  go_ret2
  exact ⟨rfl, by repeat (first | exact Kept.refl _ | refine Kept.alloc ?_ _ _ | refine Kept.drew ?_ | refine Kept.drewN ?_ _ | refine Kept.trans ?_ (by assumption))⟩

set_option maxHeartbeats 800000 in
theorem put_slot_form (l : Int) (f : Bool) (v : Int) (w : World)  (hr : 0 ≤ l ∧ l ≤ 4294967295 ∧ 0 ≤ v ∧ v ≤ 65535) (hf : f = false ∧ v ≠ 0) : Calls Try.prog 139 #[.agg #[.int .i64 l, .bool f, .int .i64 v]] w fun e w' => e = .returned (.tuple #[.int .u64 (0), .int .i64 5]) ∧ Kept w w' := by
  have HW : Hid (0 ≤ l ∧ l ≤ 4294967295 ∧ 0 ≤ v ∧ v ≤ 65535) := Lib.hid (by omega)
  have b0 : (v != 0) = true := by simp [hf.2]
  obtain ⟨rfl, _⟩ := hf
  clear hr
  go_enter Try.func139, Try.ntmps139
  go_wp2_with fail
  refine (within2_yes _ _ _ _ _ _ ?_ ?_ ?_ ?_ HW.out).mono ?_
  all_goals (try (simp; done))
  rintro e w1 ⟨rfl, hk⟩
  have hz := hk.size
  simp at hz
  have s0 : w1.cell? ⟨w.heap.size, 0, none⟩ = some (.int .i64 l) := hk.some (by simp [*])
  have s1 : w1.cell? ⟨w.heap.size, 1, none⟩ = some (.bool false) := hk.some (by simp [*])
  have s2 : w1.cell? ⟨w.heap.size, 2, none⟩ = some (.int .i64 v) := hk.some (by simp [*])
  go_wp2
  go_ret2
  exact ⟨rfl, by repeat (first | exact Kept.refl _ | refine Kept.alloc ?_ _ _ | refine Kept.drew ?_ | refine Kept.drewN ?_ _ | refine Kept.trans ?_ (by assumption))⟩

set_option maxHeartbeats 800000 in
theorem put_slot_good (l : Int) (f : Bool) (v : Int) (w : World)  (hr : 0 ≤ l ∧ l ≤ 4294967295 ∧ 0 ≤ v ∧ v ≤ 65535) (hf : ¬ (f = false ∧ v ≠ 0)) : Calls Try.prog 139 #[.agg #[.int .i64 l, .bool f, .int .i64 v]] w fun e w' => e = .returned (.tuple #[.int .u64 (v + bitOf f * 65536 + l * 4294967296), .int .i64 0]) ∧ Kept w w' := by
  have HW : Hid (0 ≤ l ∧ l ≤ 4294967295 ∧ 0 ≤ v ∧ v ≤ 65535) := Lib.hid (by omega)
  have HJ : ∀ w, Hid (Calls Try.prog 162 _ w _) := fun w => Lib.hid (joined_slot v (bitOf f) l w (by omega) (by omega) (bitOf_lo _) (bitOf_hi _) (by omega) (by omega))
  cases f
  · have b0 : (v != 0) = false := by simp only [bne_eq_false_iff_eq]; exact Classical.byContradiction fun h => hf ⟨rfl, h⟩
    clear hr hf
    go_enter Try.func139, Try.ntmps139
    go_wp2_with fail
    refine (within2_yes _ _ _ _ _ _ ?_ ?_ ?_ ?_ HW.out).mono ?_
    all_goals (try (simp; done))
    rintro e w1 ⟨rfl, hk⟩
    have hz := hk.size
    simp at hz
    have s0 : w1.cell? ⟨w.heap.size, 0, none⟩ = some (.int .i64 l) := hk.some (by simp [*])
    have s1 : w1.cell? ⟨w.heap.size, 1, none⟩ = some (.bool false) := hk.some (by simp [*])
    have s2 : w1.cell? ⟨w.heap.size, 2, none⟩ = some (.int .i64 v) := hk.some (by simp [*])
    go_wp2_with fail
    have hk' := hk
    have K1 : Kept w w1 := by repeat (first | exact Kept.refl _ | refine Kept.alloc ?_ _ _ | refine Kept.drew ?_ | refine Kept.drewN ?_ _ | refine Kept.trans ?_ (by assumption))
    clear hz hk hk'
    go_region_held3 (fun w' => w'.cell? ⟨w.heap.size, 0, none⟩ = some (.int .i64 l) ∧ w'.cell? ⟨w.heap.size, 1, none⟩ = some (.bool false) ∧ w'.cell? ⟨w.heap.size, 2, none⟩ = some (.int .i64 v)) (first | go_keep | (exact ⟨hk.some (by simp [*]), hk.some (by simp [*]), hk.some (by simp [*])⟩)) (first | (go_at_call 161; refine (table_slotWord _ _).mono ?_; rintro e w1 ⟨rfl, hk⟩) | (go_at_call 163; refine (bit_any _ _).mono ?_; rintro e w' ⟨rfl, rfl⟩) | (go_at_call 162; refine (HJ _).out.mono ?_; rintro e w1 ⟨rfl, hk⟩))
    go_wp2
    go_ret2
    exact ⟨rfl, by repeat (first | exact Kept.refl _ | refine Kept.alloc ?_ _ _ | refine Kept.drew ?_ | refine Kept.drewN ?_ _ | refine Kept.trans ?_ (by assumption))⟩
  · clear hr hf
    go_enter Try.func139, Try.ntmps139
    go_wp2_with fail
    refine (within2_yes _ _ _ _ _ _ ?_ ?_ ?_ ?_ HW.out).mono ?_
    all_goals (try (simp; done))
    rintro e w1 ⟨rfl, hk⟩
    have hz := hk.size
    simp at hz
    have s0 : w1.cell? ⟨w.heap.size, 0, none⟩ = some (.int .i64 l) := hk.some (by simp [*])
    have s1 : w1.cell? ⟨w.heap.size, 1, none⟩ = some (.bool true) := hk.some (by simp [*])
    have s2 : w1.cell? ⟨w.heap.size, 2, none⟩ = some (.int .i64 v) := hk.some (by simp [*])
    go_wp2_with fail
    have hk' := hk
    have K1 : Kept w w1 := by repeat (first | exact Kept.refl _ | refine Kept.alloc ?_ _ _ | refine Kept.drew ?_ | refine Kept.drewN ?_ _ | refine Kept.trans ?_ (by assumption))
    clear hz hk hk'
    go_region_held3 (fun w' => w'.cell? ⟨w.heap.size, 0, none⟩ = some (.int .i64 l) ∧ w'.cell? ⟨w.heap.size, 1, none⟩ = some (.bool true) ∧ w'.cell? ⟨w.heap.size, 2, none⟩ = some (.int .i64 v)) (first | go_keep | (exact ⟨hk.some (by simp [*]), hk.some (by simp [*]), hk.some (by simp [*])⟩)) (first | (go_at_call 161; refine (table_slotWord _ _).mono ?_; rintro e w1 ⟨rfl, hk⟩) | (go_at_call 163; refine (bit_any _ _).mono ?_; rintro e w' ⟨rfl, rfl⟩) | (go_at_call 162; refine (HJ _).out.mono ?_; rintro e w1 ⟨rfl, hk⟩))
    go_wp2
    go_ret2
    exact ⟨rfl, by repeat (first | exact Kept.refl _ | refine Kept.alloc ?_ _ _ | refine Kept.drew ?_ | refine Kept.drewN ?_ _ | refine Kept.trans ?_ (by assumption))⟩

end Go.Proofs.Ytejiogggocnldaa.Wo

namespace Go.Proofs.Ytejiogggocnldaa.Wo
set_option maxRecDepth 20000
open Go.RowKit

theorem put_top (i t : Int) (w : World) (i0 : -9223372036854775808 ≤ i) (i1 : i ≤ 9223372036854775807) : Calls Try.prog 156 #[.agg #[.int .i64 i, .int .i64 t]] w fun e w' => e = .returned (.tuple #[.int .u64 (putTop i t).1, .int .i64 (putTop i t).2]) ∧ Kept w w' := by
  by_cases hr : -1 ≤ i ∧ i ≤ 65534 ∧ 0 ≤ t ∧ t ≤ 281474976710655
  · rw [putTop_good hr]; exact put_top_good i t w hr
  · rw [putTop_bad hr]; exact put_top_bad i t w i0 i1 hr

theorem put_slot (l : Int) (f : Bool) (v : Int) (w : World)  : Calls Try.prog 139 #[.agg #[.int .i64 l, .bool f, .int .i64 v]] w fun e w' => e = .returned (.tuple #[.int .u64 (putSlot l f v).1, .int .i64 (putSlot l f v).2]) ∧ Kept w w' := by
  by_cases hr : 0 ≤ l ∧ l ≤ 4294967295 ∧ 0 ≤ v ∧ v ≤ 65535
  · by_cases hf : f = false ∧ v ≠ 0
    · rw [putSlot_form hr hf]; exact put_slot_form l f v w hr hf
    · rw [putSlot_good hr hf]; exact put_slot_good l f v w hr hf
  · rw [putSlot_bad f hr]; exact put_slot_bad l f v w  hr

end Go.Proofs.Ytejiogggocnldaa.Wo
