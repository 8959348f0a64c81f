/- What is put is got, in numbers; unlike ones have unlike words. -/
import Derived.Test.YtflggocnhinfeaaMark
namespace Go.Proofs.Ytflggocnhinfeaa
open Go.RowKit

theorem putRef_range (i g : Int) (m : Bool) : 0 ≤ (putRef i g m).1 ∧ (putRef i g m).1 < 18446744073709551616 := by
  have h1 := bitOf_lo m; have h2 := bitOf_hi m
  by_cases hr : -1 ≤ i ∧ i ≤ 65534 ∧ 0 ≤ g ∧ g ≤ 4294967295
  · by_cases hf : i = -1 ∧ g ≠ 0
    · rw [putRef_form m hr hf]; decide
    · rw [putRef_good m hr hf]; simp only; omega
  · rw [putRef_bad m hr]; decide
theorem putRef_back {i g a : Int} {m : Bool} (h : putRef i g m = (a, 0)) : rIdx a = i ∧ rGen a = g ∧ markOf a = m := by
  by_cases hr : -1 ≤ i ∧ i ≤ 65534 ∧ 0 ≤ g ∧ g ≤ 4294967295
  · by_cases hf : i = -1 ∧ g ≠ 0
    · rw [putRef_form m hr hf] at h; exact absurd (congrArg Prod.snd h) (by simp)
    · rw [putRef_good m hr hf] at h
      have e := congrArg Prod.fst h
      simp only at e
      subst e
      unfold rIdx rGen markOf bitOf
      cases m
      · simp; omega
      · simp; omega
  · rw [putRef_bad m hr] at h; exact absurd (congrArg Prod.snd h) (by simp)
theorem putRef_apart {i g a i' g' a' : Int} {m m' : Bool} (h : putRef i g m = (a, 0)) (h' : putRef i' g' m' = (a', 0)) : (a == a') = (i == i' && (g == g' && m == m')) := by
  have b := putRef_back h; have b' := putRef_back h'
  rw [Bool.eq_iff_iff]
  simp only [beq_iff_eq, Bool.and_eq_true]
  constructor
  · intro e; subst e; exact ⟨b.1.symm.trans b'.1, b.2.1.symm.trans b'.2.1, b.2.2.symm.trans b'.2.2⟩
  · rintro ⟨rfl, rfl, rfl⟩; exact congrArg Prod.fst (h.symm.trans h')
theorem putTop_range (i g : Int) : 0 ≤ (putTop i g).1 ∧ (putTop i g).1 < 18446744073709551616 := by
  by_cases hr : -1 ≤ i ∧ i ≤ 65534 ∧ 0 ≤ g ∧ g ≤ 281474976710655
  · rw [putTop_good hr]; simp only; omega
  · rw [putTop_bad hr]; decide
theorem putTop_back {i g a : Int} (h : putTop i g = (a, 0)) : rIdx a = i ∧ tTag a = g := by
  by_cases hr : -1 ≤ i ∧ i ≤ 65534 ∧ 0 ≤ g ∧ g ≤ 281474976710655
  · rw [putTop_good hr] at h
    have e := congrArg Prod.fst h
    simp only at e
    subst e
    unfold rIdx tTag
    omega
  · rw [putTop_bad hr] at h; exact absurd (congrArg Prod.snd h) (by simp)
theorem putTop_apart {i g a i' g' a' : Int} (h : putTop i g = (a, 0)) (h' : putTop i' g' = (a', 0)) : (a == a') = (i == i' && g == g') := by
  have b := putTop_back h; have b' := putTop_back h'
  rw [Bool.eq_iff_iff]
  simp only [beq_iff_eq, Bool.and_eq_true]
  constructor
  · intro e; subst e; exact ⟨b.1.symm.trans b'.1, b.2.symm.trans b'.2⟩
  · rintro ⟨rfl, rfl⟩; exact congrArg Prod.fst (h.symm.trans h')
theorem putSlot_range (l : Int) (f : Bool) (v : Int) : 0 ≤ (putSlot l f v).1 ∧ (putSlot l f v).1 < 18446744073709551616 := by
  have h1 := bitOf_lo f; have h2 := bitOf_hi f
  by_cases hr : 0 ≤ l ∧ l ≤ 4294967295 ∧ 0 ≤ v ∧ v ≤ 65535
  · by_cases hf : f = false ∧ v ≠ 0
    · rw [putSlot_form hr hf]; decide
    · rw [putSlot_good hr hf]; simp only; omega
  · rw [putSlot_bad f hr]; decide
theorem putSlot_back {l a : Int} {f : Bool} {v : Int} (h : putSlot l f v = (a, 0)) : sLap a = l ∧ sFull a = f ∧ sVal a = v := by
  by_cases hr : 0 ≤ l ∧ l ≤ 4294967295 ∧ 0 ≤ v ∧ v ≤ 65535
  · by_cases hf : f = false ∧ v ≠ 0
    · rw [putSlot_form hr hf] at h; exact absurd (congrArg Prod.snd h) (by simp)
    · rw [putSlot_good hr hf] at h
      have e := congrArg Prod.fst h
      simp only at e
      subst e
      unfold sLap sFull sVal bitOf
      cases f
      · simp; omega
      · simp; omega
  · rw [putSlot_bad f hr] at h; exact absurd (congrArg Prod.snd h) (by simp)
theorem putSlot_apart {l a v l' a' v' : Int} {f f' : Bool} (h : putSlot l f v = (a, 0)) (h' : putSlot l' f' v' = (a', 0)) : (a == a') = (l == l' && (f == f' && v == v')) := by
  have b := putSlot_back h; have b' := putSlot_back h'
  rw [Bool.eq_iff_iff]
  simp only [beq_iff_eq, Bool.and_eq_true]
  constructor
  · intro e; subst e; exact ⟨b.1.symm.trans b'.1, b.2.1.symm.trans b'.2.1, b.2.2.symm.trans b'.2.2⟩
  · rintro ⟨rfl, rfl, rfl⟩; exact congrArg Prod.fst (h.symm.trans h')
end Go.Proofs.Ytflggocnhinfeaa
