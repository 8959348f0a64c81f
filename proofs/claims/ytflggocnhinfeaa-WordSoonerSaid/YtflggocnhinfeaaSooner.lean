/- The walk of WordSooner. -/
import Derived.Test.YtflggocnhinfeaaHelp
import Derived.OpenShut
namespace Go.Proofs.Ytflggocnhinfeaa
open Go.RowKit

set_option maxHeartbeats 2000000 in
set_option maxRecDepth 100000 in
theorem sooner_out1 (p s r p' s' r' : Int) (w : World) (x b y c : Int) (HA : ∀ w, Hid (Calls Try.prog 15 #[.agg #[.int .i64 p, .int .i64 s, .int .i64 r]] w fun e w' => e = .returned (.tuple #[.int .u64 (x), .int .i64 b]) ∧ Kept w w')) (HB : ∀ w, Hid (Calls Try.prog 15 #[.agg #[.int .i64 p', .int .i64 s', .int .i64 r']] w fun e w' => e = .returned (.tuple #[.int .u64 (y), .int .i64 c]) ∧ Kept w w')) (hb : (b != 0) = true) : Calls Try.prog 8 #[.agg #[.int .i64 p, .int .i64 s, .int .i64 r], .agg #[.int .i64 p', .int .i64 s', .int .i64 r']] w fun e w' => e = .returned (.bool true) ∧ Kept w w' := by
  go_enter Try.func8, Try.ntmps8
  go_wp2_with fail
  refine (known_any _).mono ?_
  rintro e w1 ⟨rfl, k1⟩
  have hc := k1.cell
  go_wp2_with fail
  refine (HA _).out.mono ?_
  rintro e w2 ⟨rfl, k2⟩
  clear hc
  have k := k1.trans k2
  clear k1 k2
  have hc := k.cell
  go_wp2_with fail
  refine (HB _).out.mono ?_
  rintro e w3 ⟨rfl, k2⟩
  clear hc
  have k1 := k.trans k2
  clear k k2
  have hc := k1.cell
  have hz := k1.size
  simp at hz
  go_wp2
  go_ret
  exact ⟨rfl, ((Kept.refl w).alloc _ _).alloc _ _ |>.trans k1⟩

set_option maxHeartbeats 2000000 in
set_option maxRecDepth 100000 in
theorem sooner_out2 (p s r p' s' r' : Int) (w : World) (x y c : Int) (HA : ∀ w, Hid (Calls Try.prog 15 #[.agg #[.int .i64 p, .int .i64 s, .int .i64 r]] w fun e w' => e = .returned (.tuple #[.int .u64 (x), .int .i64 0]) ∧ Kept w w')) (HB : ∀ w, Hid (Calls Try.prog 15 #[.agg #[.int .i64 p', .int .i64 s', .int .i64 r']] w fun e w' => e = .returned (.tuple #[.int .u64 (y), .int .i64 c]) ∧ Kept w w')) (hb : (c != 0) = true) : Calls Try.prog 8 #[.agg #[.int .i64 p, .int .i64 s, .int .i64 r], .agg #[.int .i64 p', .int .i64 s', .int .i64 r']] w fun e w' => e = .returned (.bool true) ∧ Kept w w' := by
  go_enter Try.func8, Try.ntmps8
  go_wp2_with fail
  refine (known_any _).mono ?_
  rintro e w1 ⟨rfl, k1⟩
  have hc := k1.cell
  go_wp2_with fail
  refine (HA _).out.mono ?_
  rintro e w2 ⟨rfl, k2⟩
  clear hc
  have k := k1.trans k2
  clear k1 k2
  have hc := k.cell
  go_wp2_with fail
  refine (HB _).out.mono ?_
  rintro e w3 ⟨rfl, k2⟩
  clear hc
  have k1 := k.trans k2
  clear k k2
  have hc := k1.cell
  have hz := k1.size
  simp at hz
  go_wp2
  go_ret
  exact ⟨rfl, ((Kept.refl w).alloc _ _).alloc _ _ |>.trans k1⟩

set_option maxHeartbeats 2000000 in
set_option maxRecDepth 100000 in
theorem sooner_lt (p s r p' s' r' : Int) (w : World) (x y : Int) (HA : ∀ w, Hid (Calls Try.prog 15 #[.agg #[.int .i64 p, .int .i64 s, .int .i64 r]] w fun e w' => e = .returned (.tuple #[.int .u64 (x), .int .i64 0]) ∧ Kept w w')) (HB : ∀ w, Hid (Calls Try.prog 15 #[.agg #[.int .i64 p', .int .i64 s', .int .i64 r']] w fun e w' => e = .returned (.tuple #[.int .u64 (y), .int .i64 0]) ∧ Kept w w')) (hx : x < 18446744073709551615) (hy : y < 18446744073709551615) (c0 : p < p') (c1 : x < y) : Calls Try.prog 8 #[.agg #[.int .i64 p, .int .i64 s, .int .i64 r], .agg #[.int .i64 p', .int .i64 s', .int .i64 r']] w fun e w' => e = .returned (.bool true) ∧ Kept w w' := by
  have d0 : (p == p') = false := by simp; omega
  have d1 : (x == y) = false := by simp; omega
  go_enter Try.func8, Try.ntmps8
  go_wp2_with fail
  refine (known_any _).mono ?_
  rintro e w1 ⟨rfl, k1⟩
  have hc := k1.cell
  go_wp2_with fail
  refine (HA _).out.mono ?_
  rintro e w2 ⟨rfl, k2⟩
  clear hc
  have k := k1.trans k2
  clear k1 k2
  have hc := k.cell
  go_wp2_with fail
  refine (HB _).out.mono ?_
  rintro e w3 ⟨rfl, k2⟩
  clear hc
  have k1 := k.trans k2
  clear k k2
  have hc := k1.cell
  have hz := k1.size
  simp at hz
  go_wp2
  go_ret
  exact ⟨rfl, ((Kept.refl w).alloc _ _).alloc _ _ |>.trans k1⟩

set_option maxHeartbeats 2000000 in
set_option maxRecDepth 100000 in
theorem sooner_gt (p s r p' s' r' : Int) (w : World) (x y : Int) (HA : ∀ w, Hid (Calls Try.prog 15 #[.agg #[.int .i64 p, .int .i64 s, .int .i64 r]] w fun e w' => e = .returned (.tuple #[.int .u64 (x), .int .i64 0]) ∧ Kept w w')) (HB : ∀ w, Hid (Calls Try.prog 15 #[.agg #[.int .i64 p', .int .i64 s', .int .i64 r']] w fun e w' => e = .returned (.tuple #[.int .u64 (y), .int .i64 0]) ∧ Kept w w')) (hx : x < 18446744073709551615) (hy : y < 18446744073709551615) (c0 : p' < p) (c1 : y < x) : Calls Try.prog 8 #[.agg #[.int .i64 p, .int .i64 s, .int .i64 r], .agg #[.int .i64 p', .int .i64 s', .int .i64 r']] w fun e w' => e = .returned (.bool true) ∧ Kept w w' := by
  have d0 : (p == p') = false := by simp; omega
  have d1 : (x == y) = false := by simp; omega
  go_enter Try.func8, Try.ntmps8
  go_wp2_with fail
  refine (known_any _).mono ?_
  rintro e w1 ⟨rfl, k1⟩
  have hc := k1.cell
  go_wp2_with fail
  refine (HA _).out.mono ?_
  rintro e w2 ⟨rfl, k2⟩
  clear hc
  have k := k1.trans k2
  clear k1 k2
  have hc := k.cell
  go_wp2_with fail
  refine (HB _).out.mono ?_
  rintro e w3 ⟨rfl, k2⟩
  clear hc
  have k1 := k.trans k2
  clear k k2
  have hc := k1.cell
  have hz := k1.size
  simp at hz
  go_wp2
  go_ret
  exact ⟨rfl, ((Kept.refl w).alloc _ _).alloc _ _ |>.trans k1⟩

set_option maxHeartbeats 2000000 in
set_option maxRecDepth 100000 in
theorem sooner_lt2 (p s r s' r' : Int) (w : World) (x y : Int) (HA : ∀ w, Hid (Calls Try.prog 15 #[.agg #[.int .i64 p, .int .i64 s, .int .i64 r]] w fun e w' => e = .returned (.tuple #[.int .u64 (x), .int .i64 0]) ∧ Kept w w')) (HB : ∀ w, Hid (Calls Try.prog 15 #[.agg #[.int .i64 p, .int .i64 s', .int .i64 r']] w fun e w' => e = .returned (.tuple #[.int .u64 (y), .int .i64 0]) ∧ Kept w w')) (hx : x < 18446744073709551615) (hy : y < 18446744073709551615) (c0 : s < s') (c1 : x < y) : Calls Try.prog 8 #[.agg #[.int .i64 p, .int .i64 s, .int .i64 r], .agg #[.int .i64 p, .int .i64 s', .int .i64 r']] w fun e w' => e = .returned (.bool true) ∧ Kept w w' := by
  have d0 : (s == s') = false := by simp; omega
  have d1 : (x == y) = false := by simp; omega
  go_enter Try.func8, Try.ntmps8
  go_wp2_with fail
  refine (known_any _).mono ?_
  rintro e w1 ⟨rfl, k1⟩
  have hc := k1.cell
  go_wp2_with fail
  refine (HA _).out.mono ?_
  rintro e w2 ⟨rfl, k2⟩
  clear hc
  have k := k1.trans k2
  clear k1 k2
  have hc := k.cell
  go_wp2_with fail
  refine (HB _).out.mono ?_
  rintro e w3 ⟨rfl, k2⟩
  clear hc
  have k1 := k.trans k2
  clear k k2
  have hc := k1.cell
  have hz := k1.size
  simp at hz
  go_wp2
  go_ret
  exact ⟨rfl, ((Kept.refl w).alloc _ _).alloc _ _ |>.trans k1⟩

set_option maxHeartbeats 2000000 in
set_option maxRecDepth 100000 in
theorem sooner_gt2 (p s r s' r' : Int) (w : World) (x y : Int) (HA : ∀ w, Hid (Calls Try.prog 15 #[.agg #[.int .i64 p, .int .i64 s, .int .i64 r]] w fun e w' => e = .returned (.tuple #[.int .u64 (x), .int .i64 0]) ∧ Kept w w')) (HB : ∀ w, Hid (Calls Try.prog 15 #[.agg #[.int .i64 p, .int .i64 s', .int .i64 r']] w fun e w' => e = .returned (.tuple #[.int .u64 (y), .int .i64 0]) ∧ Kept w w')) (hx : x < 18446744073709551615) (hy : y < 18446744073709551615) (c0 : s' < s) (c1 : y < x) : Calls Try.prog 8 #[.agg #[.int .i64 p, .int .i64 s, .int .i64 r], .agg #[.int .i64 p, .int .i64 s', .int .i64 r']] w fun e w' => e = .returned (.bool true) ∧ Kept w w' := by
  have d0 : (s == s') = false := by simp; omega
  have d1 : (x == y) = false := by simp; omega
  go_enter Try.func8, Try.ntmps8
  go_wp2_with fail
  refine (known_any _).mono ?_
  rintro e w1 ⟨rfl, k1⟩
  have hc := k1.cell
  go_wp2_with fail
  refine (HA _).out.mono ?_
  rintro e w2 ⟨rfl, k2⟩
  clear hc
  have k := k1.trans k2
  clear k1 k2
  have hc := k.cell
  go_wp2_with fail
  refine (HB _).out.mono ?_
  rintro e w3 ⟨rfl, k2⟩
  clear hc
  have k1 := k.trans k2
  clear k k2
  have hc := k1.cell
  have hz := k1.size
  simp at hz
  go_wp2
  go_ret
  exact ⟨rfl, ((Kept.refl w).alloc _ _).alloc _ _ |>.trans k1⟩

set_option maxHeartbeats 2000000 in
set_option maxRecDepth 100000 in
theorem sooner_lt3 (p s r r' : Int) (w : World) (x y : Int) (HA : ∀ w, Hid (Calls Try.prog 15 #[.agg #[.int .i64 p, .int .i64 s, .int .i64 r]] w fun e w' => e = .returned (.tuple #[.int .u64 (x), .int .i64 0]) ∧ Kept w w')) (HB : ∀ w, Hid (Calls Try.prog 15 #[.agg #[.int .i64 p, .int .i64 s, .int .i64 r']] w fun e w' => e = .returned (.tuple #[.int .u64 (y), .int .i64 0]) ∧ Kept w w')) (hx : x < 18446744073709551615) (hy : y < 18446744073709551615) (c0 : r < r') (c1 : x < y) : Calls Try.prog 8 #[.agg #[.int .i64 p, .int .i64 s, .int .i64 r], .agg #[.int .i64 p, .int .i64 s, .int .i64 r']] w fun e w' => e = .returned (.bool true) ∧ Kept w w' := by
  have d0 : (r == r') = false := by simp; omega
  have d1 : (x == y) = false := by simp; omega
  go_enter Try.func8, Try.ntmps8
  go_wp2_with fail
  refine (known_any _).mono ?_
  rintro e w1 ⟨rfl, k1⟩
  have hc := k1.cell
  go_wp2_with fail
  refine (HA _).out.mono ?_
  rintro e w2 ⟨rfl, k2⟩
  clear hc
  have k := k1.trans k2
  clear k1 k2
  have hc := k.cell
  go_wp2_with fail
  refine (HB _).out.mono ?_
  rintro e w3 ⟨rfl, k2⟩
  clear hc
  have k1 := k.trans k2
  clear k k2
  have hc := k1.cell
  have hz := k1.size
  simp at hz
  go_wp2
  go_ret
  exact ⟨rfl, ((Kept.refl w).alloc _ _).alloc _ _ |>.trans k1⟩

set_option maxHeartbeats 2000000 in
set_option maxRecDepth 100000 in
theorem sooner_gt3 (p s r r' : Int) (w : World) (x y : Int) (HA : ∀ w, Hid (Calls Try.prog 15 #[.agg #[.int .i64 p, .int .i64 s, .int .i64 r]] w fun e w' => e = .returned (.tuple #[.int .u64 (x), .int .i64 0]) ∧ Kept w w')) (HB : ∀ w, Hid (Calls Try.prog 15 #[.agg #[.int .i64 p, .int .i64 s, .int .i64 r']] w fun e w' => e = .returned (.tuple #[.int .u64 (y), .int .i64 0]) ∧ Kept w w')) (hx : x < 18446744073709551615) (hy : y < 18446744073709551615) (c0 : r' < r) (c1 : y < x) : Calls Try.prog 8 #[.agg #[.int .i64 p, .int .i64 s, .int .i64 r], .agg #[.int .i64 p, .int .i64 s, .int .i64 r']] w fun e w' => e = .returned (.bool true) ∧ Kept w w' := by
  have d0 : (r == r') = false := by simp; omega
  have d1 : (x == y) = false := by simp; omega
  go_enter Try.func8, Try.ntmps8
  go_wp2_with fail
  refine (known_any _).mono ?_
  rintro e w1 ⟨rfl, k1⟩
  have hc := k1.cell
  go_wp2_with fail
  refine (HA _).out.mono ?_
  rintro e w2 ⟨rfl, k2⟩
  clear hc
  have k := k1.trans k2
  clear k1 k2
  have hc := k.cell
  go_wp2_with fail
  refine (HB _).out.mono ?_
  rintro e w3 ⟨rfl, k2⟩
  clear hc
  have k1 := k.trans k2
  clear k k2
  have hc := k1.cell
  have hz := k1.size
  simp at hz
  go_wp2
  go_ret
  exact ⟨rfl, ((Kept.refl w).alloc _ _).alloc _ _ |>.trans k1⟩

set_option maxHeartbeats 2000000 in
set_option maxRecDepth 100000 in
theorem sooner_eq (p s r : Int) (w : World) (x : Int) (HA : ∀ w, Hid (Calls Try.prog 15 #[.agg #[.int .i64 p, .int .i64 s, .int .i64 r]] w fun e w' => e = .returned (.tuple #[.int .u64 (x), .int .i64 0]) ∧ Kept w w')) (HB : ∀ w, Hid (Calls Try.prog 15 #[.agg #[.int .i64 p, .int .i64 s, .int .i64 r]] w fun e w' => e = .returned (.tuple #[.int .u64 (x), .int .i64 0]) ∧ Kept w w')) (hx : x < 18446744073709551615) : Calls Try.prog 8 #[.agg #[.int .i64 p, .int .i64 s, .int .i64 r], .agg #[.int .i64 p, .int .i64 s, .int .i64 r]] w fun e w' => e = .returned (.bool true) ∧ Kept w w' := by
  go_enter Try.func8, Try.ntmps8
  go_wp2_with fail
  refine (known_any _).mono ?_
  rintro e w1 ⟨rfl, k1⟩
  have hc := k1.cell
  go_wp2_with fail
  refine (HA _).out.mono ?_
  rintro e w2 ⟨rfl, k2⟩
  clear hc
  have k := k1.trans k2
  clear k1 k2
  have hc := k.cell
  go_wp2_with fail
  refine (HB _).out.mono ?_
  rintro e w3 ⟨rfl, k2⟩
  clear hc
  have k1 := k.trans k2
  clear k k2
  have hc := k1.cell
  have hz := k1.size
  simp at hz
  go_wp2
  go_ret
  exact ⟨rfl, ((Kept.refl w).alloc _ _).alloc _ _ |>.trans k1⟩

theorem wordSooner_any (p s r p' s' r' : Int) (_w0_0 : (Lit.int .i64 p).wf = true) (_w0_1 : (Lit.int .i64 s).wf = true) (_w0_2 : (Lit.int .i64 r).wf = true) (_w1_0 : (Lit.int .i64 p').wf = true) (_w1_1 : (Lit.int .i64 s').wf = true) (_w1_2 : (Lit.int .i64 r').wf = true) (w : World) : Calls Try.prog 8 #[.agg #[.int .i64 p, .int .i64 s, .int .i64 r], .agg #[.int .i64 p', .int .i64 s', .int .i64 r']] w fun e w' => e = .returned (.bool true) ∧ Kept w w' := by
  have GB : ∀ w, Hid _ := fun w => Lib.hid (put_key p' s' r' w)
  by_cases ra : 0 ≤ p ∧ p ≤ 254 ∧ 0 ≤ s ∧ s ≤ 1099511627775 ∧ 0 ≤ r ∧ r ≤ 65535
  · have GA : ∀ w, Hid _ := fun w => Lib.hid (put_key_good p s r w ra)
    by_cases rb : 0 ≤ p' ∧ p' ≤ 254 ∧ 0 ≤ s' ∧ s' ≤ 1099511627775 ∧ 0 ≤ r' ∧ r' ≤ 65535
    · have GB : ∀ w, Hid _ := fun w => Lib.hid (put_key_good p' s' r' w rb)
      rcases (by omega : p < p' ∨ p' < p ∨ p = p' ∧ (s < s' ∨ s' < s ∨ s = s' ∧ (r < r' ∨ r' < r ∨ r = r'))) with h | h | ⟨rfl, h | h | ⟨rfl, h | h | rfl⟩⟩
      · exact sooner_lt p s r p' s' r' w _ _ GA GB (by omega) (by omega) h (by omega)
      · exact sooner_gt p s r p' s' r' w _ _ GA GB (by omega) (by omega) h (by omega)
      · exact sooner_lt2 p s r s' r' w _ _ GA GB (by omega) (by omega) h (by omega)
      · exact sooner_gt2 p s r s' r' w _ _ GA GB (by omega) (by omega) h (by omega)
      · exact sooner_lt3 p s r r' w _ _ GA GB (by omega) (by omega) h (by omega)
      · exact sooner_gt3 p s r r' w _ _ GA GB (by omega) (by omega) h (by omega)
      · exact sooner_eq p s r w _ GA GB (by omega)
    · exact sooner_out2 p s r p' s' r' w _ _ _ GA GB (by rw [putKey_bad rb]; decide)
  · exact sooner_out1 p s r p' s' r' w _ _ _ _ (fun w => Lib.hid (put_key p s r w)) GB (by rw [putKey_bad ra]; decide)
end Go.Proofs.Ytflggocnhinfeaa
