/- Words with the mark, and without it: plain mathematics. -/
import Derived.Test.YtflggocnhinfeaaNum
namespace Go.Proofs.Ytflggocnhinfeaa
open Go.RowKit

theorem mark_ref (n : Int) (h0 : 0 ≤ n) (h1 : n < 18446744073709551616) (h : goodRef n = true) (b : Bool) : putRef (rIdx n) (rGen n) b = (setMark n b, 0) := by
  have h' := pair_yes h
  have lo : -1 ≤ rIdx n ∧ rIdx n ≤ 65534 ∧ 0 ≤ rGen n ∧ rGen n ≤ 4294967295 := by unfold rIdx rGen; omega
  by_cases hf : rIdx n = -1 ∧ rGen n ≠ 0
  · rw [putRef_form _ lo hf] at h'; exact absurd (congrArg Prod.snd h') (by simp)
  · rw [putRef_good _ lo hf] at h'
    rw [putRef_good _ lo hf]
    have e := congrArg Prod.fst h'
    simp only at e
    have hm := bitOf_lo (markOf n); have hm' := bitOf_hi (markOf n)
    have e2 : rIdx n + 1 + rGen n * 65536 = n % 9223372036854775808 := by
      generalize bitOf (markOf n) = c at *
      have : c = 0 ∨ c = 1 := by omega
      rcases this with rfl | rfl <;> omega
    rw [e2]
    unfold setMark bitOf; cases b <;> simp
theorem setMark_lo (n : Int) (b : Bool) : 0 ≤ setMark n b := by unfold setMark; cases b <;> simp <;> omega
theorem setMark_hi (n : Int) (b : Bool) : setMark n b < 18446744073709551616 := by unfold setMark; cases b <;> simp <;> omega
theorem markOf_set (n : Int) (b : Bool) : markOf (setMark n b) = b := by
  unfold setMark markOf
  cases b
  · simp; omega
  · simp; omega
theorem set_back (n : Int) (h0 : 0 ≤ n) (h1 : n < 18446744073709551616) (b : Bool) : setMark (setMark n b) (markOf n) = n := by
  unfold setMark markOf
  by_cases h : 9223372036854775808 ≤ n
  · have e : n / 9223372036854775808 = 1 := by omega
    rw [e]; cases b <;> simp <;> omega
  · have e : n / 9223372036854775808 = 0 := by omega
    rw [e]; cases b <;> simp <;> omega
end Go.Proofs.Ytflggocnhinfeaa
