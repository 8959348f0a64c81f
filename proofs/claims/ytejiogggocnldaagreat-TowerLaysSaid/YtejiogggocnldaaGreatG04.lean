/- Leaves: functions that only reckon. -/
import Derived.Test.YtejiogggocnldaaGreatRows
import Derived.Test.YtejiogggocnldaaGreatG00
import Derived.Test.YtejiogggocnldaaGreatG03
import Derived.WalkLawsBesides
import Derived.Deep.QuietTactic
import Derived.BigQuiet
import Derived.Lib.Hide
import Derived.Deep.RegionHeld3
set_option linter.unusedVariables false
set_option linter.unusedSimpArgs false

namespace Go.Proofs.YtejiogggocnldaaGreat.Wo
set_option maxRecDepth 20000
open Go.RowKit

set_option maxHeartbeats 400000 in
theorem place_any (n : Int) (w : World) : Calls Tryz.prog 112 #[.int .i64 n] w fun e w' => e = .returned (.int .i64 (wrap64 (n + 1))) ∧ w = w' := by
  go_enter Tryz.func112, Tryz.ntmps112
  go_wp2
  go_ret
  exact ⟨rfl, rfl⟩

set_option maxHeartbeats 400000 in
theorem place_in (n : Int) (h0 : -1 ≤ n) (h1 : n ≤ 65534) (w : World) : Calls Tryz.prog 112 #[.int .i64 n] w fun e w' => e = .returned (.int .i64 (n + 1)) ∧ w = w' := by
  go_enter Tryz.func112, Tryz.ntmps112
  go_wp2
  go_ret
  exact ⟨rfl, rfl⟩

set_option maxHeartbeats 400000 in
theorem index_any (n : Int) (h0 : 0 ≤ n) (h1 : n ≤ 65535) (w : World) : Calls Tryz.prog 212 #[.int .i64 n] w fun e w' => e = .returned (.int .i64 (n - 1)) ∧ w = w' := by
  go_enter Tryz.func212, Tryz.ntmps212
  go_wp2
  go_ret
  exact ⟨rfl, rfl⟩

set_option maxHeartbeats 400000 in
theorem bit_any (b : Bool) (w : World) : Calls Tryz.prog 115 #[.bool b] w fun e w' => e = .returned (.int .i64 (bitOf b)) ∧ w = w' := by
  cases b <;>
  · go_enter Tryz.func115, Tryz.ntmps115
    go_wp2
    go_ret
    exact ⟨rfl, rfl⟩

set_option maxHeartbeats 400000 in
theorem rmarked_any (n : Int) (w : World) : Calls Tryz.prog 167 #[.int .u64 n] w fun e w' => e = .returned (.bool (markOf n)) ∧ w = w' := by
  go_enter Tryz.func167, Tryz.ntmps167
  go_wp2
  go_ret
  exact ⟨rfl, rfl⟩

set_option maxHeartbeats 400000 in
theorem marked_any (n : Int) (w : World) : Calls Tryz.prog 106 #[.int .u64 n] w fun e w' => e = .returned (.bool (markOf n)) ∧ w = w' := by
  go_enter Tryz.func106, Tryz.ntmps106
  go_wp2_with (go_at_call 167; refine (rmarked_any _ _).mono ?_; rintro e w' ⟨rfl, rfl⟩)
  go_ret
  exact ⟨rfl, rfl⟩

set_option maxHeartbeats 400000 in
theorem refmarked_any (n : Int) (w : World) : Calls Tryz.prog 198 #[.int .u64 n] w fun e w' => e = .returned (.bool (markOf n)) ∧ w = w' := by
  go_enter Tryz.func198, Tryz.ntmps198
  go_wp2
  go_ret
  exact ⟨rfl, rfl⟩

set_option maxHeartbeats 400000 in
theorem rmarks_any (n : Int) (b : Bool) (w : World) (h0 : 0 ≤ n) (h1 : n < 18446744073709551616) : Calls Tryz.prog 116 #[.int .u64 n, .bool b] w fun e w' => e = .returned (.int .u64 (setMark n b)) ∧ w = w' := by
  cases b
  · rw [← andNot_mark n h0 h1]
    clear h0 h1
    go_enter Tryz.func116, Tryz.ntmps116
    go_wp2
    go_ret
    exact ⟨rfl, rfl⟩
  · rw [← or_mark n h0 h1]
    clear h0 h1
    go_enter Tryz.func116, Tryz.ntmps116
    go_wp2
    go_ret
    exact ⟨rfl, rfl⟩

set_option maxHeartbeats 400000 in
theorem marks_any (n : Int) (b : Bool) (w : World) (h0 : 0 ≤ n) (h1 : n < 18446744073709551616) : Calls Tryz.prog 49 #[.int .u64 n, .bool b] w fun e w' => e = .returned (.int .u64 (setMark n b)) ∧ w = w' := by
  have H0 := Lib.hid h0; have H1 := Lib.hid h1; clear h0 h1
  go_enter Tryz.func49, Tryz.ntmps49
  go_wp2_with (go_at_call 116; refine (rmarks_any _ _ _ H0.out H1.out).mono ?_; rintro e w' ⟨rfl, rfl⟩)
  go_ret
  exact ⟨rfl, rfl⟩

set_option maxHeartbeats 400000 in
theorem refmarks_any (n : Int) (b : Bool) (w : World) (h0 : 0 ≤ n) (h1 : n < 18446744073709551616) : Calls Tryz.prog 216 #[.int .u64 n, .bool b] w fun e w' => e = .returned (.int .u64 (setMark n b)) ∧ w = w' := by
  have e0 : bits .and .u64 n 9223372036854775807 = n % 9223372036854775808 := mask63 n h0 h1
  have e1 : bits .or .u64 (n % 9223372036854775808) 9223372036854775808 = setMark n true := by
    rw [or_mark _ (by omega) (by omega)]; unfold setMark; simp
  have H0 := Lib.hid e0; have H1 := Lib.hid e1; clear e0 e1 h0 h1
  cases b
  · go_enter Tryz.func216, Tryz.ntmps216
    go_wp2
    go_ret
    exact ⟨by show Ending.returned (.int .u64 (bits .and .u64 n 9223372036854775807)) = _; rw [H0.out]; simp [setMark], rfl⟩
  · go_enter Tryz.func216, Tryz.ntmps216
    go_wp2
    go_ret
    exact ⟨by show Ending.returned (.int .u64 (bits .or .u64 (bits .and .u64 n 9223372036854775807) 9223372036854775808)) = _; rw [H0.out, H1.out], rfl⟩

set_option maxHeartbeats 400000 in
theorem refwithin_any (n lo hi : Int) (w : World) : Calls Tryz.prog 215 #[.int .i64 n, .int .i64 lo, .int .i64 hi] w fun e w' => e = .returned (.bool (inB n lo hi)) ∧ w = w' := by
  by_cases h : lo ≤ n <;> by_cases h' : n ≤ hi <;>
  · go_enter Tryz.func215, Tryz.ntmps215
    go_wp2
    go_ret
    exact ⟨by simp [inB, h, h'], rfl⟩

set_option maxHeartbeats 400000 in
theorem part_0_16 (n : Int) (w : World) (h0 : 0 ≤ n) (h1 : n < 18446744073709551616) : Calls Tryz.prog 197 #[.int .u64 n, .int .i64 0, .int .i64 16] w fun e w' => e = .returned (.int .i64 (n % 65536)) ∧ Kept w w' := by
  have e0 : wrap64 (bits .and .u64 n 65535) = n % 65536 := by
    rw [mask16 n (by omega) (by omega)]; exact wi _ (by omega) (by omega)
  have H0 := Lib.hid e0; clear e0 h0 h1
  go_enter Tryz.func197, Tryz.ntmps197
  go_wp2
  go_quiet (fail)
  go_wp2
  go_ret
  exact ⟨by show Ending.returned (.int .i64 (wrap64 (bits .and .u64 n 65535))) = _; rw [H0.out], (Kept.refl _).drewN _⟩

set_option maxHeartbeats 400000 in
theorem part_16_32 (n : Int) (w : World) (h0 : 0 ≤ n) (h1 : n < 18446744073709551616) : Calls Tryz.prog 197 #[.int .u64 n, .int .i64 16, .int .i64 32] w fun e w' => e = .returned (.int .i64 (n / 65536 % 4294967296)) ∧ Kept w w' := by
  have e0 : wrap64 (bits .and .u64 (n / 65536) 4294967295) = n / 65536 % 4294967296 := by
    rw [mask32 (n / 65536) (by omega) (by omega)]; exact wi _ (by omega) (by omega)
  have H0 := Lib.hid e0; clear e0 h0 h1
  go_enter Tryz.func197, Tryz.ntmps197
  go_wp2
  go_quiet (fail)
  go_wp2
  go_ret
  exact ⟨by show Ending.returned (.int .i64 (wrap64 (bits .and .u64 (n / 65536) 4294967295))) = _; rw [H0.out], (Kept.refl _).drewN _⟩

set_option maxHeartbeats 400000 in
theorem part_16_48 (n : Int) (w : World) (h0 : 0 ≤ n) (h1 : n < 18446744073709551616) : Calls Tryz.prog 197 #[.int .u64 n, .int .i64 16, .int .i64 48] w fun e w' => e = .returned (.int .i64 (n / 65536 % 281474976710656)) ∧ Kept w w' := by
  have e0 : wrap64 (bits .and .u64 (n / 65536) 281474976710655) = n / 65536 % 281474976710656 := by
    rw [mask48 (n / 65536) (by omega) (by omega)]; exact wi _ (by omega) (by omega)
  have H0 := Lib.hid e0; clear e0 h0 h1
  go_enter Tryz.func197, Tryz.ntmps197
  go_wp2
  go_quiet (fail)
  go_wp2
  go_ret
  exact ⟨by show Ending.returned (.int .i64 (wrap64 (bits .and .u64 (n / 65536) 281474976710655))) = _; rw [H0.out], (Kept.refl _).drewN _⟩

set_option maxHeartbeats 400000 in
theorem part_32_32 (n : Int) (w : World) (h0 : 0 ≤ n) (h1 : n < 18446744073709551616) : Calls Tryz.prog 197 #[.int .u64 n, .int .i64 32, .int .i64 32] w fun e w' => e = .returned (.int .i64 (n / 4294967296 % 4294967296)) ∧ Kept w w' := by
  have e0 : wrap64 (bits .and .u64 (n / 4294967296) 4294967295) = n / 4294967296 % 4294967296 := by
    rw [mask32 (n / 4294967296) (by omega) (by omega)]; exact wi _ (by omega) (by omega)
  have H0 := Lib.hid e0; clear e0 h0 h1
  go_enter Tryz.func197, Tryz.ntmps197
  go_wp2
  go_quiet (fail)
  go_wp2
  go_ret
  exact ⟨by show Ending.returned (.int .i64 (wrap64 (bits .and .u64 (n / 4294967296) 4294967295))) = _; rw [H0.out], (Kept.refl _).drewN _⟩

set_option maxHeartbeats 400000 in
theorem part_16_1 (n : Int) (w : World) (h0 : 0 ≤ n) (h1 : n < 18446744073709551616) : Calls Tryz.prog 197 #[.int .u64 n, .int .i64 16, .int .i64 1] w fun e w' => e = .returned (.int .i64 (n / 65536 % 2)) ∧ Kept w w' := by
  have e0 : wrap64 (bits .and .u64 (n / 65536) 1) = n / 65536 % 2 := by
    rw [mask1 (n / 65536) (by omega) (by omega)]; exact wi _ (by omega) (by omega)
  have H0 := Lib.hid e0; clear e0 h0 h1
  go_enter Tryz.func197, Tryz.ntmps197
  go_wp2
  go_quiet (fail)
  go_wp2
  go_ret
  exact ⟨by show Ending.returned (.int .i64 (wrap64 (bits .and .u64 (n / 65536) 1))) = _; rw [H0.out], (Kept.refl _).drewN _⟩

set_option maxHeartbeats 400000 in
theorem part_56_8 (n : Int) (w : World) (h0 : 0 ≤ n) (h1 : n < 18446744073709551616) : Calls Tryz.prog 197 #[.int .u64 n, .int .i64 56, .int .i64 8] w fun e w' => e = .returned (.int .i64 (n / 72057594037927936 % 256)) ∧ Kept w w' := by
  have e0 : wrap64 (bits .and .u64 (n / 72057594037927936) 255) = n / 72057594037927936 % 256 := by
    rw [mask8 (n / 72057594037927936) (by omega) (by omega)]; exact wi _ (by omega) (by omega)
  have H0 := Lib.hid e0; clear e0 h0 h1
  go_enter Tryz.func197, Tryz.ntmps197
  go_wp2
  go_quiet (fail)
  go_wp2
  go_ret
  exact ⟨by show Ending.returned (.int .i64 (wrap64 (bits .and .u64 (n / 72057594037927936) 255))) = _; rw [H0.out], (Kept.refl _).drewN _⟩

set_option maxHeartbeats 400000 in
theorem part_16_40 (n : Int) (w : World) (h0 : 0 ≤ n) (h1 : n < 18446744073709551616) : Calls Tryz.prog 197 #[.int .u64 n, .int .i64 16, .int .i64 40] w fun e w' => e = .returned (.int .i64 (n / 65536 % 1099511627776)) ∧ Kept w w' := by
  have e0 : wrap64 (bits .and .u64 (n / 65536) 1099511627775) = n / 65536 % 1099511627776 := by
    rw [mask40 (n / 65536) (by omega) (by omega)]; exact wi _ (by omega) (by omega)
  have H0 := Lib.hid e0; clear e0 h0 h1
  go_enter Tryz.func197, Tryz.ntmps197
  go_wp2
  go_quiet (fail)
  go_wp2
  go_ret
  exact ⟨by show Ending.returned (.int .i64 (wrap64 (bits .and .u64 (n / 65536) 1099511627775))) = _; rw [H0.out], (Kept.refl _).drewN _⟩

set_option maxHeartbeats 400000 in
theorem table_refWord (n : Int) (w : World) : Calls Tryz.prog 113 #[.int .u64 n] w fun e w' => e = .returned (.agg #[.int .u64 0, .int .u64 16, .int .u64 16, .int .u64 32, .int .u64 63, .int .u64 1]) ∧ Kept w w' := by
  go_enter Tryz.func113, Tryz.ntmps113
  go_wp2
  exact bodyPost_ret (v := .agg #[.int .u64 0, .int .u64 16, .int .u64 16, .int .u64 32, .int .u64 63, .int .u64 1]) (by simp [results, Tryz.results113, go_sem]) rfl ⟨rfl, (Kept.refl _).alloc _ _⟩

set_option maxHeartbeats 400000 in
theorem table_topWord (n : Int) (w : World) : Calls Tryz.prog 225 #[.int .u64 n] w fun e w' => e = .returned (.agg #[.int .u64 0, .int .u64 16, .int .u64 16, .int .u64 48, .int .u64 0, .int .u64 0]) ∧ Kept w w' := by
  go_enter Tryz.func225, Tryz.ntmps225
  go_wp2
  exact bodyPost_ret (v := .agg #[.int .u64 0, .int .u64 16, .int .u64 16, .int .u64 48, .int .u64 0, .int .u64 0]) (by simp [results, Tryz.results225, go_sem]) rfl ⟨rfl, (Kept.refl _).alloc _ _⟩

end Go.Proofs.YtejiogggocnldaaGreat.Wo

namespace Go.Proofs.YtejiogggocnldaaGreat.Wo
set_option maxRecDepth 20000
open Go.RowKit

set_option maxHeartbeats 400000 in
theorem joined_ref (a b c : Int) (w : World) (ha : 0 ≤ a) (ha' : a < 65536) (hb : 0 ≤ b) (hb' : b < 4294967296) (hc : 0 ≤ c) (hc' : c < 2) : Calls Tryz.prog 114 #[.agg #[.int .u64 0, .int .u64 16, .int .u64 16, .int .u64 32, .int .u64 63, .int .u64 1], .agg #[.int .i64 a, .int .i64 b, .int .i64 c]] w fun e w' => e = .returned (.int .u64 (a + b * 65536 + c * 9223372036854775808)) ∧ Kept w w' := by
  have H := Lib.hid (join_ref a b c ha ha' hb hb' hc hc')
  clear ha ha' hb hb' hc hc'
  have i0 : ∀ w, (Instr.index 190 (.agg #[.int .u64 0, .int .u64 16, .int .u64 16, .int .u64 32, .int .u64 63, .int .u64 1]) (.int .i64 0)).run Tryz.prog w = .ok (.agg #[.int .u64 0, .int .u64 16]) w := fun _ => by kernel_rfl
  have i1 : ∀ w, (Instr.index 190 (.agg #[.int .u64 0, .int .u64 16, .int .u64 16, .int .u64 32, .int .u64 63, .int .u64 1]) (.int .i64 1)).run Tryz.prog w = .ok (.agg #[.int .u64 16, .int .u64 32]) w := fun _ => by kernel_rfl
  have i2 : ∀ w, (Instr.index 190 (.agg #[.int .u64 0, .int .u64 16, .int .u64 16, .int .u64 32, .int .u64 63, .int .u64 1]) (.int .i64 2)).run Tryz.prog w = .ok (.agg #[.int .u64 63, .int .u64 1]) w := fun _ => by kernel_rfl
  go_enter Tryz.func114, Tryz.ntmps114
  go_wp2
  refine wp_loop_rounds 4 ?_
  rw [rounds_succ]
  go_wp2
  go_quiet (fail)
  go_wp2
  rw [rounds_succ]
  go_wp2
  go_quiet (fail)
  go_wp2
  rw [rounds_succ]
  go_wp2
  go_quiet (fail)
  go_wp2
  rw [rounds_succ]
  go_wp2
  go_ret
  exact ⟨by show Ending.returned (.int .u64 (bits .or .u64 (bits .or .u64 (bits .or .u64 0 (IntKind.u64.wrap (IntKind.u64.wrap a))) (IntKind.u64.wrap (IntKind.u64.wrap b * 65536))) (IntKind.u64.wrap (IntKind.u64.wrap c * 9223372036854775808)))) = _; rw [H.out], (((((((Kept.refl _).alloc _ _).alloc _ _).alloc _ _).drewN _).alloc _ _).drewN _ |>.alloc _ _).drewN _⟩

set_option maxHeartbeats 400000 in
theorem split_ref (n : Int) (w : World) (h0 : 0 ≤ n) (h1 : n < 18446744073709551616) : Calls Tryz.prog 211 #[.agg #[.int .u64 0, .int .u64 16, .int .u64 16, .int .u64 32, .int .u64 63, .int .u64 1], .int .u64 n] w fun e w' => e = .returned (.agg #[.int .i64 (n % 65536), .int .i64 (n / 65536 % 4294967296), .int .i64 (n / 9223372036854775808 % 2)]) ∧ Kept w w' := by
  have e0 : wrap64 (bits .and .u64 n 65535) = n % 65536 := by
    rw [mask16 n (by omega) (by omega)]; exact wi _ (by omega) (by omega)
  have e1 : wrap64 (bits .and .u64 (n / 65536) 4294967295) = n / 65536 % 4294967296 := by
    rw [mask32 (n / 65536) (by omega) (by omega)]; exact wi _ (by omega) (by omega)
  have e2 : wrap64 (bits .and .u64 (n / 9223372036854775808) 1) = n / 9223372036854775808 % 2 := by
    rw [mask1 (n / 9223372036854775808) (by omega) (by omega)]; exact wi _ (by omega) (by omega)
  have H0 := Lib.hid e0; have H1 := Lib.hid e1; have H2 := Lib.hid e2; clear e0 e1 e2 h0 h1
  have i0 : ∀ w, (Instr.index 190 (.agg #[.int .u64 0, .int .u64 16, .int .u64 16, .int .u64 32, .int .u64 63, .int .u64 1]) (.int .i64 0)).run Tryz.prog w = .ok (.agg #[.int .u64 0, .int .u64 16]) w := fun _ => by kernel_rfl
  have i1 : ∀ w, (Instr.index 190 (.agg #[.int .u64 0, .int .u64 16, .int .u64 16, .int .u64 32, .int .u64 63, .int .u64 1]) (.int .i64 1)).run Tryz.prog w = .ok (.agg #[.int .u64 16, .int .u64 32]) w := fun _ => by kernel_rfl
  have i2 : ∀ w, (Instr.index 190 (.agg #[.int .u64 0, .int .u64 16, .int .u64 16, .int .u64 32, .int .u64 63, .int .u64 1]) (.int .i64 2)).run Tryz.prog w = .ok (.agg #[.int .u64 63, .int .u64 1]) w := fun _ => by kernel_rfl
  go_enter Tryz.func211, Tryz.ntmps211
  go_wp2
  refine wp_loop_rounds 4 ?_
  rw [rounds_succ]
  go_wp2
  rw [rounds_succ]
  go_wp2
  rw [rounds_succ]
  go_wp2
  rw [rounds_succ]
  go_wp2
  exact bodyPost_ret (v := .agg #[.int .i64 (wrap64 (bits .and .u64 n 65535)), .int .i64 (wrap64 (bits .and .u64 (n / 65536) 4294967295)), .int .i64 (wrap64 (bits .and .u64 (n / 9223372036854775808) 1))]) (by simp [results, Tryz.results211, go_sem]) rfl ⟨by rw [H0.out, H1.out, H2.out], by repeat (first | exact Kept.refl _ | refine Kept.alloc ?_ _ _)⟩

set_option maxHeartbeats 400000 in
theorem joined_top (a b : Int) (w : World) (ha : 0 ≤ a) (ha' : a < 65536) (hb : 0 ≤ b) (hb' : b < 281474976710656) : Calls Tryz.prog 114 #[.agg #[.int .u64 0, .int .u64 16, .int .u64 16, .int .u64 48, .int .u64 0, .int .u64 0], .agg #[.int .i64 a, .int .i64 b, .int .i64 0]] w fun e w' => e = .returned (.int .u64 (a + b * 65536)) ∧ Kept w w' := by
  have H := Lib.hid (join_top a b ha ha' hb hb')
  clear ha ha' hb hb'
  have i0 : ∀ w, (Instr.index 190 (.agg #[.int .u64 0, .int .u64 16, .int .u64 16, .int .u64 48, .int .u64 0, .int .u64 0]) (.int .i64 0)).run Tryz.prog w = .ok (.agg #[.int .u64 0, .int .u64 16]) w := fun _ => by kernel_rfl
  have i1 : ∀ w, (Instr.index 190 (.agg #[.int .u64 0, .int .u64 16, .int .u64 16, .int .u64 48, .int .u64 0, .int .u64 0]) (.int .i64 1)).run Tryz.prog w = .ok (.agg #[.int .u64 16, .int .u64 48]) w := fun _ => by kernel_rfl
  have i2 : ∀ w, (Instr.index 190 (.agg #[.int .u64 0, .int .u64 16, .int .u64 16, .int .u64 48, .int .u64 0, .int .u64 0]) (.int .i64 2)).run Tryz.prog w = .ok (.agg #[.int .u64 0, .int .u64 0]) w := fun _ => by kernel_rfl
  go_enter Tryz.func114, Tryz.ntmps114
  go_wp2
  refine wp_loop_rounds 4 ?_
  rw [rounds_succ]
  go_wp2
  go_quiet (fail)
  go_wp2
  rw [rounds_succ]
  go_wp2
  go_quiet (fail)
  go_wp2
  rw [rounds_succ]
  go_wp2
  go_quiet (fail)
  go_wp2
  rw [rounds_succ]
  go_wp2
  go_ret
  exact ⟨by show Ending.returned (.int .u64 (bits .or .u64 (bits .or .u64 (bits .or .u64 0 (IntKind.u64.wrap (IntKind.u64.wrap a))) (IntKind.u64.wrap (IntKind.u64.wrap b * 65536))) 0)) = _; rw [H.out], (((((((Kept.refl _).alloc _ _).alloc _ _).alloc _ _).drewN _).alloc _ _).drewN _ |>.alloc _ _).drewN _⟩

set_option maxHeartbeats 400000 in
theorem split_top (n : Int) (w : World) (h0 : 0 ≤ n) (h1 : n < 18446744073709551616) : Calls Tryz.prog 211 #[.agg #[.int .u64 0, .int .u64 16, .int .u64 16, .int .u64 48, .int .u64 0, .int .u64 0], .int .u64 n] w fun e w' => e = .returned (.agg #[.int .i64 (n % 65536), .int .i64 (n / 65536 % 281474976710656), .int .i64 (0)]) ∧ Kept w w' := by
  have e0 : wrap64 (bits .and .u64 n 65535) = n % 65536 := by
    rw [mask16 n (by omega) (by omega)]; exact wi _ (by omega) (by omega)
  have e1 : wrap64 (bits .and .u64 (n / 65536) 281474976710655) = n / 65536 % 281474976710656 := by
    rw [mask48 (n / 65536) (by omega) (by omega)]; exact wi _ (by omega) (by omega)
  have e2 : wrap64 (bits .and .u64 n 0) = 0 := by
    rw [mask0 n (by omega) (by omega)]; exact wi 0 (by omega) (by omega)
  have H0 := Lib.hid e0; have H1 := Lib.hid e1; have H2 := Lib.hid e2; clear e0 e1 e2 h0 h1
  have i0 : ∀ w, (Instr.index 190 (.agg #[.int .u64 0, .int .u64 16, .int .u64 16, .int .u64 48, .int .u64 0, .int .u64 0]) (.int .i64 0)).run Tryz.prog w = .ok (.agg #[.int .u64 0, .int .u64 16]) w := fun _ => by kernel_rfl
  have i1 : ∀ w, (Instr.index 190 (.agg #[.int .u64 0, .int .u64 16, .int .u64 16, .int .u64 48, .int .u64 0, .int .u64 0]) (.int .i64 1)).run Tryz.prog w = .ok (.agg #[.int .u64 16, .int .u64 48]) w := fun _ => by kernel_rfl
  have i2 : ∀ w, (Instr.index 190 (.agg #[.int .u64 0, .int .u64 16, .int .u64 16, .int .u64 48, .int .u64 0, .int .u64 0]) (.int .i64 2)).run Tryz.prog w = .ok (.agg #[.int .u64 0, .int .u64 0]) w := fun _ => by kernel_rfl
  go_enter Tryz.func211, Tryz.ntmps211
  go_wp2
  refine wp_loop_rounds 4 ?_
  rw [rounds_succ]
  go_wp2
  rw [rounds_succ]
  go_wp2
  rw [rounds_succ]
  go_wp2
  rw [rounds_succ]
  go_wp2
  exact bodyPost_ret (v := .agg #[.int .i64 (wrap64 (bits .and .u64 n 65535)), .int .i64 (wrap64 (bits .and .u64 (n / 65536) 281474976710655)), .int .i64 (wrap64 (bits .and .u64 n 0))]) (by simp [results, Tryz.results211, go_sem]) rfl ⟨by rw [H0.out, H1.out, H2.out], by repeat (first | exact Kept.refl _ | refine Kept.alloc ?_ _ _)⟩

set_option maxHeartbeats 400000 in
theorem joined_slot (a b c : Int) (w : World) (ha : 0 ≤ a) (ha' : a < 65536) (hb : 0 ≤ b) (hb' : b < 2) (hc : 0 ≤ c) (hc' : c < 4294967296) : Calls Tryz.prog 114 #[.agg #[.int .u64 0, .int .u64 16, .int .u64 16, .int .u64 1, .int .u64 32, .int .u64 32], .agg #[.int .i64 a, .int .i64 b, .int .i64 c]] w fun e w' => e = .returned (.int .u64 (a + b * 65536 + c * 4294967296)) ∧ Kept w w' := by
  have H := Lib.hid (join_slot a b c ha ha' hb hb' hc hc')
  clear ha ha' hb hb' hc hc'
  have i0 : ∀ w, (Instr.index 190 (.agg #[.int .u64 0, .int .u64 16, .int .u64 16, .int .u64 1, .int .u64 32, .int .u64 32]) (.int .i64 0)).run Tryz.prog w = .ok (.agg #[.int .u64 0, .int .u64 16]) w := fun _ => by kernel_rfl
  have i1 : ∀ w, (Instr.index 190 (.agg #[.int .u64 0, .int .u64 16, .int .u64 16, .int .u64 1, .int .u64 32, .int .u64 32]) (.int .i64 1)).run Tryz.prog w = .ok (.agg #[.int .u64 16, .int .u64 1]) w := fun _ => by kernel_rfl
  have i2 : ∀ w, (Instr.index 190 (.agg #[.int .u64 0, .int .u64 16, .int .u64 16, .int .u64 1, .int .u64 32, .int .u64 32]) (.int .i64 2)).run Tryz.prog w = .ok (.agg #[.int .u64 32, .int .u64 32]) w := fun _ => by kernel_rfl
  go_enter Tryz.func114, Tryz.ntmps114
  go_wp2
  refine wp_loop_rounds 4 ?_
  rw [rounds_succ]
  go_wp2
  go_quiet (fail)
  go_wp2
  rw [rounds_succ]
  go_wp2
  go_quiet (fail)
  go_wp2
  rw [rounds_succ]
  go_wp2
  go_quiet (fail)
  go_wp2
  rw [rounds_succ]
  go_wp2
  go_ret
  exact ⟨by show Ending.returned (.int .u64 (bits .or .u64 (bits .or .u64 (bits .or .u64 0 (IntKind.u64.wrap (IntKind.u64.wrap a))) (IntKind.u64.wrap (IntKind.u64.wrap b * 65536))) (IntKind.u64.wrap (IntKind.u64.wrap c * 4294967296)))) = _; rw [H.out], (((((((Kept.refl _).alloc _ _).alloc _ _).alloc _ _).drewN _).alloc _ _).drewN _ |>.alloc _ _).drewN _⟩

set_option maxHeartbeats 400000 in
theorem split_slot (n : Int) (w : World) (h0 : 0 ≤ n) (h1 : n < 18446744073709551616) : Calls Tryz.prog 211 #[.agg #[.int .u64 0, .int .u64 16, .int .u64 16, .int .u64 1, .int .u64 32, .int .u64 32], .int .u64 n] w fun e w' => e = .returned (.agg #[.int .i64 (n % 65536), .int .i64 (n / 65536 % 2), .int .i64 (n / 4294967296 % 4294967296)]) ∧ Kept w w' := by
  have e0 : wrap64 (bits .and .u64 n 65535) = n % 65536 := by
    rw [mask16 n (by omega) (by omega)]; exact wi _ (by omega) (by omega)
  have e1 : wrap64 (bits .and .u64 (n / 65536) 1) = n / 65536 % 2 := by
    rw [mask1 (n / 65536) (by omega) (by omega)]; exact wi _ (by omega) (by omega)
  have e2 : wrap64 (bits .and .u64 (n / 4294967296) 4294967295) = n / 4294967296 % 4294967296 := by
    rw [mask32 (n / 4294967296) (by omega) (by omega)]; exact wi _ (by omega) (by omega)
  have H0 := Lib.hid e0; have H1 := Lib.hid e1; have H2 := Lib.hid e2; clear e0 e1 e2 h0 h1
  have i0 : ∀ w, (Instr.index 190 (.agg #[.int .u64 0, .int .u64 16, .int .u64 16, .int .u64 1, .int .u64 32, .int .u64 32]) (.int .i64 0)).run Tryz.prog w = .ok (.agg #[.int .u64 0, .int .u64 16]) w := fun _ => by kernel_rfl
  have i1 : ∀ w, (Instr.index 190 (.agg #[.int .u64 0, .int .u64 16, .int .u64 16, .int .u64 1, .int .u64 32, .int .u64 32]) (.int .i64 1)).run Tryz.prog w = .ok (.agg #[.int .u64 16, .int .u64 1]) w := fun _ => by kernel_rfl
  have i2 : ∀ w, (Instr.index 190 (.agg #[.int .u64 0, .int .u64 16, .int .u64 16, .int .u64 1, .int .u64 32, .int .u64 32]) (.int .i64 2)).run Tryz.prog w = .ok (.agg #[.int .u64 32, .int .u64 32]) w := fun _ => by kernel_rfl
  go_enter Tryz.func211, Tryz.ntmps211
  go_wp2
  refine wp_loop_rounds 4 ?_
  rw [rounds_succ]
  go_wp2
  rw [rounds_succ]
  go_wp2
  rw [rounds_succ]
  go_wp2
  rw [rounds_succ]
  go_wp2
  exact bodyPost_ret (v := .agg #[.int .i64 (wrap64 (bits .and .u64 n 65535)), .int .i64 (wrap64 (bits .and .u64 (n / 65536) 1)), .int .i64 (wrap64 (bits .and .u64 (n / 4294967296) 4294967295))]) (by simp [results, Tryz.results211, go_sem]) rfl ⟨by rw [H0.out, H1.out, H2.out], by repeat (first | exact Kept.refl _ | refine Kept.alloc ?_ _ _)⟩

set_option maxHeartbeats 400000 in
theorem joined_key (a b c : Int) (w : World) (ha : 0 ≤ a) (ha' : a < 65536) (hb : 0 ≤ b) (hb' : b < 1099511627776) (hc : 0 ≤ c) (hc' : c < 256) : Calls Tryz.prog 114 #[.agg #[.int .u64 0, .int .u64 16, .int .u64 16, .int .u64 40, .int .u64 56, .int .u64 8], .agg #[.int .i64 a, .int .i64 b, .int .i64 c]] w fun e w' => e = .returned (.int .u64 (a + b * 65536 + c * 72057594037927936)) ∧ Kept w w' := by
  have H := Lib.hid (join_key a b c ha ha' hb hb' hc hc')
  clear ha ha' hb hb' hc hc'
  have i0 : ∀ w, (Instr.index 190 (.agg #[.int .u64 0, .int .u64 16, .int .u64 16, .int .u64 40, .int .u64 56, .int .u64 8]) (.int .i64 0)).run Tryz.prog w = .ok (.agg #[.int .u64 0, .int .u64 16]) w := fun _ => by kernel_rfl
  have i1 : ∀ w, (Instr.index 190 (.agg #[.int .u64 0, .int .u64 16, .int .u64 16, .int .u64 40, .int .u64 56, .int .u64 8]) (.int .i64 1)).run Tryz.prog w = .ok (.agg #[.int .u64 16, .int .u64 40]) w := fun _ => by kernel_rfl
  have i2 : ∀ w, (Instr.index 190 (.agg #[.int .u64 0, .int .u64 16, .int .u64 16, .int .u64 40, .int .u64 56, .int .u64 8]) (.int .i64 2)).run Tryz.prog w = .ok (.agg #[.int .u64 56, .int .u64 8]) w := fun _ => by kernel_rfl
  go_enter Tryz.func114, Tryz.ntmps114
  go_wp2
  refine wp_loop_rounds 4 ?_
  rw [rounds_succ]
  go_wp2
  go_quiet (fail)
  go_wp2
  rw [rounds_succ]
  go_wp2
  go_quiet (fail)
  go_wp2
  rw [rounds_succ]
  go_wp2
  go_quiet (fail)
  go_wp2
  rw [rounds_succ]
  go_wp2
  go_ret
  exact ⟨by show Ending.returned (.int .u64 (bits .or .u64 (bits .or .u64 (bits .or .u64 0 (IntKind.u64.wrap (IntKind.u64.wrap a))) (IntKind.u64.wrap (IntKind.u64.wrap b * 65536))) (IntKind.u64.wrap (IntKind.u64.wrap c * 72057594037927936)))) = _; rw [H.out], (((((((Kept.refl _).alloc _ _).alloc _ _).alloc _ _).drewN _).alloc _ _).drewN _ |>.alloc _ _).drewN _⟩

set_option maxHeartbeats 400000 in
theorem split_key (n : Int) (w : World) (h0 : 0 ≤ n) (h1 : n < 18446744073709551616) : Calls Tryz.prog 211 #[.agg #[.int .u64 0, .int .u64 16, .int .u64 16, .int .u64 40, .int .u64 56, .int .u64 8], .int .u64 n] w fun e w' => e = .returned (.agg #[.int .i64 (n % 65536), .int .i64 (n / 65536 % 1099511627776), .int .i64 (n / 72057594037927936 % 256)]) ∧ Kept w w' := by
  have e0 : wrap64 (bits .and .u64 n 65535) = n % 65536 := by
    rw [mask16 n (by omega) (by omega)]; exact wi _ (by omega) (by omega)
  have e1 : wrap64 (bits .and .u64 (n / 65536) 1099511627775) = n / 65536 % 1099511627776 := by
    rw [mask40 (n / 65536) (by omega) (by omega)]; exact wi _ (by omega) (by omega)
  have e2 : wrap64 (bits .and .u64 (n / 72057594037927936) 255) = n / 72057594037927936 % 256 := by
    rw [mask8 (n / 72057594037927936) (by omega) (by omega)]; exact wi _ (by omega) (by omega)
  have H0 := Lib.hid e0; have H1 := Lib.hid e1; have H2 := Lib.hid e2; clear e0 e1 e2 h0 h1
  have i0 : ∀ w, (Instr.index 190 (.agg #[.int .u64 0, .int .u64 16, .int .u64 16, .int .u64 40, .int .u64 56, .int .u64 8]) (.int .i64 0)).run Tryz.prog w = .ok (.agg #[.int .u64 0, .int .u64 16]) w := fun _ => by kernel_rfl
  have i1 : ∀ w, (Instr.index 190 (.agg #[.int .u64 0, .int .u64 16, .int .u64 16, .int .u64 40, .int .u64 56, .int .u64 8]) (.int .i64 1)).run Tryz.prog w = .ok (.agg #[.int .u64 16, .int .u64 40]) w := fun _ => by kernel_rfl
  have i2 : ∀ w, (Instr.index 190 (.agg #[.int .u64 0, .int .u64 16, .int .u64 16, .int .u64 40, .int .u64 56, .int .u64 8]) (.int .i64 2)).run Tryz.prog w = .ok (.agg #[.int .u64 56, .int .u64 8]) w := fun _ => by kernel_rfl
  go_enter Tryz.func211, Tryz.ntmps211
  go_wp2
  refine wp_loop_rounds 4 ?_
  rw [rounds_succ]
  go_wp2
  rw [rounds_succ]
  go_wp2
  rw [rounds_succ]
  go_wp2
  rw [rounds_succ]
  go_wp2
  exact bodyPost_ret (v := .agg #[.int .i64 (wrap64 (bits .and .u64 n 65535)), .int .i64 (wrap64 (bits .and .u64 (n / 65536) 1099511627775)), .int .i64 (wrap64 (bits .and .u64 (n / 72057594037927936) 255))]) (by simp [results, Tryz.results211, go_sem]) rfl ⟨by rw [H0.out, H1.out, H2.out], by repeat (first | exact Kept.refl _ | refine Kept.alloc ?_ _ _)⟩

end Go.Proofs.YtejiogggocnldaaGreat.Wo

namespace Go.Proofs.YtejiogggocnldaaGreat.Wo
set_option maxRecDepth 20000
open Go.RowKit

set_option maxHeartbeats 400000 in
theorem value_ref (n : Int) (w : World) (h0 : 0 ≤ n) (h1 : n < 18446744073709551616) : Calls Tryz.prog 187 #[.int .u64 n] w fun e w' => e = .returned (.agg #[.int .i64 (rIdx n), .int .i64 (rGen n), .bool (markOf n)]) ∧ Kept w w' := by
  have H0 := Lib.hid h0; have H1 := Lib.hid h1; clear h0 h1
  go_enter Tryz.func187, Tryz.ntmps187
  go_wp2_with fail
  refine (table_refWord _ _).mono ?_
  rintro e w1 ⟨rfl, hk1⟩
  have hc1 := hk1.cell
  have hz1 := hk1.size
  have hf1 := hk1.froze
  go_wp2_with fail
  refine (split_ref _ _ H0.out H1.out).mono ?_
  rintro e w2 ⟨rfl, hk2⟩
  have hc2 := hk2.cell
  have hz2 := hk2.size
  have hf2 := hk2.froze
  have hz1' : w.heap.size + 1 ≤ w1.heap.size := by simpa using hz1
  have hlt : w.heap.size < w2.heap.size := by omega
  have r0 : w2.cell? ⟨w.heap.size, 0, none⟩ = some (.int .i64 0) := by rw [hc2 _ _ (by omega), hc1 _ _ (by simp)]; simp
  have r1 : w2.cell? ⟨w.heap.size, 1, none⟩ = some (.int .i64 0) := by rw [hc2 _ _ (by omega), hc1 _ _ (by simp)]; simp
  have r2 : w2.cell? ⟨w.heap.size, 2, none⟩ = some (.bool false) := by rw [hc2 _ _ (by omega), hc1 _ _ (by simp)]; simp
  have f2 : ∀ o, w2.frozen? ⟨w.heap.size, o, none⟩ = false := fun o => by rw [hf2, hf1]; simp
  have K0 : Kept w w2 := ((Kept.refl w).alloc _ _).trans (hk1.trans hk2)
  clear hc1 hc2 hf1 hf2 hz1 hz2 hk1 hk2
  go_wp2_with fail
  go_region_held3 (fun w' => w'.cell? ⟨w2.heap.size, 0, none⟩ = some (.int .i64 (n % 65536)) ∧ w'.cell? ⟨w2.heap.size, 1, none⟩ = some (.int .i64 (n / 65536 % 4294967296)) ∧ w'.cell? ⟨w2.heap.size, 2, none⟩ = some (.int .i64 (n / 9223372036854775808 % 2))) (first | (simp [World.cell?_alloc_at]; done) | go_keep) (first | ((go_at_call 212; refine (index_any _ (by omega) (by omega) _).mono ?_; rintro e w' ⟨rfl, rfl⟩)))
  go_wp2
  refine bodyPost_ret (v := .agg #[(.int .i64 (n % 65536 - 1)), (.int .i64 (n / 65536 % 4294967296)), (.bool (n / 9223372036854775808 % 2 == 1))]) ?_ rfl ⟨by rw [show n / 9223372036854775808 % 2 = n / 9223372036854775808 by have := H0.out; have := H1.out; omega]; rfl, ?_⟩
  · simp [results, Tryz.results187, go_sem, r0, r1, r2, hlt]
  · refine Kept.drew (Kept.alloc (Kept.setCell (Kept.setCell (Kept.setCell K0 ?_ _) ?_ _) ?_ _) _ _) <;> simp

set_option maxHeartbeats 400000 in
theorem value_top (n : Int) (w : World) (h0 : 0 ≤ n) (h1 : n < 18446744073709551616) : Calls Tryz.prog 218 #[.int .u64 n] w fun e w' => e = .returned (.agg #[.int .i64 (rIdx n), .int .i64 (tTag n)]) ∧ Kept w w' := by
  have H0 := Lib.hid h0; have H1 := Lib.hid h1; clear h0 h1
  go_enter Tryz.func218, Tryz.ntmps218
  go_wp2_with fail
  refine (table_topWord _ _).mono ?_
  rintro e w1 ⟨rfl, hk1⟩
  have hc1 := hk1.cell
  have hz1 := hk1.size
  have hf1 := hk1.froze
  go_wp2_with fail
  refine (split_top _ _ H0.out H1.out).mono ?_
  rintro e w2 ⟨rfl, hk2⟩
  have hc2 := hk2.cell
  have hz2 := hk2.size
  have hf2 := hk2.froze
  have hz1' : w.heap.size + 1 ≤ w1.heap.size := by simpa using hz1
  have hlt : w.heap.size < w2.heap.size := by omega
  have r0 : w2.cell? ⟨w.heap.size, 0, none⟩ = some (.int .i64 0) := by rw [hc2 _ _ (by omega), hc1 _ _ (by simp)]; simp
  have r1 : w2.cell? ⟨w.heap.size, 1, none⟩ = some (.int .i64 0) := by rw [hc2 _ _ (by omega), hc1 _ _ (by simp)]; simp
  have f2 : ∀ o, w2.frozen? ⟨w.heap.size, o, none⟩ = false := fun o => by rw [hf2, hf1]; simp
  have K0 : Kept w w2 := ((Kept.refl w).alloc _ _).trans (hk1.trans hk2)
  clear hc1 hc2 hf1 hf2 hz1 hz2 hk1 hk2
  go_wp2_with fail
  go_region_held3 (fun w' => w'.cell? ⟨w2.heap.size, 0, none⟩ = some (.int .i64 (n % 65536)) ∧ w'.cell? ⟨w2.heap.size, 1, none⟩ = some (.int .i64 (n / 65536 % 281474976710656))) (first | (simp [World.cell?_alloc_at]; done) | go_keep) (first | ((go_at_call 212; refine (index_any _ (by omega) (by omega) _).mono ?_; rintro e w' ⟨rfl, rfl⟩)))
  go_wp2
  refine bodyPost_ret (v := .agg #[(.int .i64 (n % 65536 - 1)), (.int .i64 (n / 65536 % 281474976710656))]) ?_ rfl ⟨rfl, ?_⟩
  · simp [results, Tryz.results218, go_sem, r0, r1, hlt]
  · refine Kept.drew (Kept.alloc (Kept.setCell (Kept.setCell K0 ?_ _) ?_ _) _ _) <;> simp

set_option maxHeartbeats 400000 in
theorem within2_yes (B : Nat) (a b m k : Int) (w : World) (c0 : w.cell? ⟨B, 0, none⟩ = some (.int .i64 a)) (d0 : w.cell? ⟨B, 1, none⟩ = some (.int .i64 m)) (c1 : w.cell? ⟨B, 2, none⟩ = some (.int .i64 b)) (d1 : w.cell? ⟨B, 3, none⟩ = some (.int .i64 k)) (h : 0 ≤ a ∧ a ≤ m ∧ 0 ≤ b ∧ b ≤ k) : Calls Tryz.prog 111 #[.slice (some ⟨B, 0, none⟩) 2 2] w fun e w' => e = .returned (.bool true) ∧ Kept w w' := by
  have hB := lt_of_cell c0
  obtain ⟨p0, q0, p1, q1⟩ := h
  go_enter Tryz.func111, Tryz.ntmps111
  go_wp2
  refine wp_loop_rounds 3 ?_
  rw [rounds_succ]
  go_wp2
  rw [rounds_succ]
  go_wp2
  rw [rounds_succ]
  go_wp2
  go_ret
  exact ⟨rfl, by repeat (first | exact Kept.refl _ | refine Kept.alloc ?_ _ _)⟩

set_option maxHeartbeats 800000 in
theorem within2_no (B : Nat) (a b m k : Int) (w : World) (c0 : w.cell? ⟨B, 0, none⟩ = some (.int .i64 a)) (d0 : w.cell? ⟨B, 1, none⟩ = some (.int .i64 m)) (c1 : w.cell? ⟨B, 2, none⟩ = some (.int .i64 b)) (d1 : w.cell? ⟨B, 3, none⟩ = some (.int .i64 k)) (h : ¬ (0 ≤ a ∧ a ≤ m ∧ 0 ≤ b ∧ b ≤ k)) : Calls Tryz.prog 111 #[.slice (some ⟨B, 0, none⟩) 2 2] w fun e w' => e = .returned (.bool false) ∧ Kept w w' := by
  have hB := lt_of_cell c0
  by_cases n0 : a < 0
  · clear h
    go_enter Tryz.func111, Tryz.ntmps111
    go_wp2
    refine wp_loop_rounds 3 ?_
    rw [rounds_succ]
    go_wp2
    go_ret
    exact ⟨rfl, by repeat (first | exact Kept.refl _ | refine Kept.alloc ?_ _ _)⟩
  by_cases u0 : m < a
  · clear h
    go_enter Tryz.func111, Tryz.ntmps111
    go_wp2
    refine wp_loop_rounds 3 ?_
    rw [rounds_succ]
    go_wp2
    go_ret
    exact ⟨rfl, by repeat (first | exact Kept.refl _ | refine Kept.alloc ?_ _ _)⟩
  by_cases n1 : b < 0
  · clear h
    go_enter Tryz.func111, Tryz.ntmps111
    go_wp2
    refine wp_loop_rounds 3 ?_
    rw [rounds_succ]
    go_wp2
    rw [rounds_succ]
    go_wp2
    go_ret
    exact ⟨rfl, by repeat (first | exact Kept.refl _ | refine Kept.alloc ?_ _ _)⟩
  by_cases u1 : k < b
  · clear h
    go_enter Tryz.func111, Tryz.ntmps111
    go_wp2
    refine wp_loop_rounds 3 ?_
    rw [rounds_succ]
    go_wp2
    rw [rounds_succ]
    go_wp2
    go_ret
    exact ⟨rfl, by repeat (first | exact Kept.refl _ | refine Kept.alloc ?_ _ _)⟩
  exact absurd (by omega) h

set_option maxHeartbeats 400000 in
theorem within3_yes (B : Nat) (a b c m k l : Int) (w : World) (c0 : w.cell? ⟨B, 0, none⟩ = some (.int .i64 a)) (d0 : w.cell? ⟨B, 1, none⟩ = some (.int .i64 m)) (c1 : w.cell? ⟨B, 2, none⟩ = some (.int .i64 b)) (d1 : w.cell? ⟨B, 3, none⟩ = some (.int .i64 k)) (c2 : w.cell? ⟨B, 4, none⟩ = some (.int .i64 c)) (d2 : w.cell? ⟨B, 5, none⟩ = some (.int .i64 l)) (h : 0 ≤ a ∧ a ≤ m ∧ 0 ≤ b ∧ b ≤ k ∧ 0 ≤ c ∧ c ≤ l) : Calls Tryz.prog 111 #[.slice (some ⟨B, 0, none⟩) 3 3] w fun e w' => e = .returned (.bool true) ∧ Kept w w' := by
  have hB := lt_of_cell c0
  obtain ⟨p0, q0, p1, q1, p2, q2⟩ := h
  go_enter Tryz.func111, Tryz.ntmps111
  go_wp2
  refine wp_loop_rounds 4 ?_
  rw [rounds_succ]
  go_wp2
  rw [rounds_succ]
  go_wp2
  rw [rounds_succ]
  go_wp2
  rw [rounds_succ]
  go_wp2
  go_ret
  exact ⟨rfl, by repeat (first | exact Kept.refl _ | refine Kept.alloc ?_ _ _)⟩

set_option maxHeartbeats 800000 in
theorem within3_no (B : Nat) (a b c m k l : Int) (w : World) (c0 : w.cell? ⟨B, 0, none⟩ = some (.int .i64 a)) (d0 : w.cell? ⟨B, 1, none⟩ = some (.int .i64 m)) (c1 : w.cell? ⟨B, 2, none⟩ = some (.int .i64 b)) (d1 : w.cell? ⟨B, 3, none⟩ = some (.int .i64 k)) (c2 : w.cell? ⟨B, 4, none⟩ = some (.int .i64 c)) (d2 : w.cell? ⟨B, 5, none⟩ = some (.int .i64 l)) (h : ¬ (0 ≤ a ∧ a ≤ m ∧ 0 ≤ b ∧ b ≤ k ∧ 0 ≤ c ∧ c ≤ l)) : Calls Tryz.prog 111 #[.slice (some ⟨B, 0, none⟩) 3 3] w fun e w' => e = .returned (.bool false) ∧ Kept w w' := by
  have hB := lt_of_cell c0
  by_cases n0 : a < 0
  · clear h
    go_enter Tryz.func111, Tryz.ntmps111
    go_wp2
    refine wp_loop_rounds 4 ?_
    rw [rounds_succ]
    go_wp2
    go_ret
    exact ⟨rfl, by repeat (first | exact Kept.refl _ | refine Kept.alloc ?_ _ _)⟩
  by_cases u0 : m < a
  · clear h
    go_enter Tryz.func111, Tryz.ntmps111
    go_wp2
    refine wp_loop_rounds 4 ?_
    rw [rounds_succ]
    go_wp2
    go_ret
    exact ⟨rfl, by repeat (first | exact Kept.refl _ | refine Kept.alloc ?_ _ _)⟩
  by_cases n1 : b < 0
  · clear h
    go_enter Tryz.func111, Tryz.ntmps111
    go_wp2
    refine wp_loop_rounds 4 ?_
    rw [rounds_succ]
    go_wp2
    rw [rounds_succ]
    go_wp2
    go_ret
    exact ⟨rfl, by repeat (first | exact Kept.refl _ | refine Kept.alloc ?_ _ _)⟩
  by_cases u1 : k < b
  · clear h
    go_enter Tryz.func111, Tryz.ntmps111
    go_wp2
    refine wp_loop_rounds 4 ?_
    rw [rounds_succ]
    go_wp2
    rw [rounds_succ]
    go_wp2
    go_ret
    exact ⟨rfl, by repeat (first | exact Kept.refl _ | refine Kept.alloc ?_ _ _)⟩
  by_cases n2 : c < 0
  · clear h
    go_enter Tryz.func111, Tryz.ntmps111
    go_wp2
    refine wp_loop_rounds 4 ?_
    rw [rounds_succ]
    go_wp2
    rw [rounds_succ]
    go_wp2
    rw [rounds_succ]
    go_wp2
    go_ret
    exact ⟨rfl, by repeat (first | exact Kept.refl _ | refine Kept.alloc ?_ _ _)⟩
  by_cases u2 : l < c
  · clear h
    go_enter Tryz.func111, Tryz.ntmps111
    go_wp2
    refine wp_loop_rounds 4 ?_
    rw [rounds_succ]
    go_wp2
    rw [rounds_succ]
    go_wp2
    rw [rounds_succ]
    go_wp2
    go_ret
    exact ⟨rfl, by repeat (first | exact Kept.refl _ | refine Kept.alloc ?_ _ _)⟩
  exact absurd (by omega) h

end Go.Proofs.YtejiogggocnldaaGreat.Wo
