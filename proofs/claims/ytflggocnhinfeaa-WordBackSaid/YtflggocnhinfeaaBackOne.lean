/- What WordBack's walks lean on. -/
import Derived.Test.YtflggocnhinfeaaGot
import Derived.Test.YtflggocnhinfeaaBackNum
import Derived.OpenShut
namespace Go.Proofs.Ytflggocnhinfeaa
open Go.RowKit

theorem put_ref_is (i : Int) (g : Int) (m : Bool) (a b : Int) (h0 : -9223372036854775808 ≤ i) (h1 : i ≤ 9223372036854775807) (h : putRef i g m = (a, b)) (w : World) : Hid (Calls Try.prog 9 #[.agg #[.int .i64 i, .int .i64 g, .bool m]] w fun e W => e = .returned (.tuple #[.int .u64 a, .int .i64 b]) ∧ Kept w W) := Lib.hid (by
  have h' := put_ref i g m w h0 h1
  rw [h] at h'
  exact h')
theorem get_ref_is (i : Int) (g : Int) (m : Bool) (a : Int) (h : putRef i g m = (a, 0)) (w : World) : Hid (Calls Try.prog 18 #[.int .u64 a] w fun e W => e = .returned (.tuple #[.agg #[.int .i64 i, .int .i64 g, .bool m], .int .i64 0]) ∧ Kept w W) := Lib.hid (by
  have hr := putRef_range i g m
  rw [h] at hr
  have hg : goodRef a = true := by unfold goodRef; rw [(putRef_back h).1, (putRef_back h).2.1, (putRef_back h).2.2, h]; simp
  have h' := get_ref_yes a w hr.1 hr.2 hg
  rw [(putRef_back h).1, (putRef_back h).2.1, (putRef_back h).2.2] at h'
  exact h')
theorem put_slot_is (l : Int) (f : Bool) (v : Int) (a b : Int) (h : putSlot l f v = (a, b)) (w : World) : Hid (Calls Try.prog 13 #[.agg #[.int .i64 l, .bool f, .int .i64 v]] w fun e W => e = .returned (.tuple #[.int .u64 a, .int .i64 b]) ∧ Kept w W) := Lib.hid (by
  have h' := put_slot l f v w
  rw [h] at h'
  exact h')
theorem get_slot_is (l : Int) (f : Bool) (v : Int) (a : Int) (h : putSlot l f v = (a, 0)) (w : World) : Hid (Calls Try.prog 22 #[.int .u64 a] w fun e W => e = .returned (.tuple #[.agg #[.int .i64 l, .bool f, .int .i64 v], .int .i64 0]) ∧ Kept w W) := Lib.hid (by
  have hr := putSlot_range l f v
  rw [h] at hr
  have hg : goodSlot a = true := by unfold goodSlot; rw [(putSlot_back h).1, (putSlot_back h).2.1, (putSlot_back h).2.2, h]; simp
  have h' := get_slot_yes a w hr.1 hr.2 hg
  rw [(putSlot_back h).1, (putSlot_back h).2.1, (putSlot_back h).2.2] at h'
  exact h')
theorem put_top_is (j : Int) (t : Int) (a b : Int) (h0 : -9223372036854775808 ≤ j) (h1 : j ≤ 9223372036854775807) (h : putTop j t = (a, b)) (w : World) : Hid (Calls Try.prog 11 #[.agg #[.int .i64 j, .int .i64 t]] w fun e W => e = .returned (.tuple #[.int .u64 a, .int .i64 b]) ∧ Kept w W) := Lib.hid (by
  have h' := put_top j t w h0 h1
  rw [h] at h'
  exact h')
theorem get_top_is (j : Int) (t : Int) (a : Int) (h : putTop j t = (a, 0)) (w : World) : Hid (Calls Try.prog 20 #[.int .u64 a] w fun e W => e = .returned (.tuple #[.agg #[.int .i64 j, .int .i64 t], .int .i64 0]) ∧ Kept w W) := Lib.hid (by
  have hr := putTop_range j t
  rw [h] at hr
  have h' := get_top a w hr.1 hr.2
  rw [(putTop_back h).1, (putTop_back h).2] at h'
  exact h')
theorem eq_ref (i : Int) (g : Int) (m : Bool) (i' : Int) (g' : Int) (m' : Bool) (W : World) : (binOp .eql 23 (.agg #[.int .i64 i, .int .i64 g, .bool m]) (.agg #[.int .i64 i', .int .i64 g', .bool m'])).run Try.prog W = .ok (.bool (i == i' && (g == g' && m == m'))) W := by
  cases h0 : (i == i') <;> cases h1 : (g == g') <;> cases h2 : (m == m') <;> (go_simp; try rfl)
theorem eq_slot (l : Int) (f : Bool) (v : Int) (l' : Int) (f' : Bool) (v' : Int) (W : World) : (binOp .eql 27 (.agg #[.int .i64 l, .bool f, .int .i64 v]) (.agg #[.int .i64 l', .bool f', .int .i64 v'])).run Try.prog W = .ok (.bool (l == l' && (f == f' && v == v'))) W := by
  cases h0 : (l == l') <;> cases h1 : (f == f') <;> cases h2 : (v == v') <;> (go_simp; try rfl)
theorem eq_top (j : Int) (t : Int) (j' : Int) (t' : Int) (W : World) : (binOp .eql 25 (.agg #[.int .i64 j, .int .i64 t]) (.agg #[.int .i64 j', .int .i64 t'])).run Try.prog W = .ok (.bool (j == j' && t == t')) W := by
  cases h0 : (j == j') <;> cases h1 : (t == t') <;> (go_simp; try rfl)
end Go.Proofs.Ytflggocnhinfeaa
