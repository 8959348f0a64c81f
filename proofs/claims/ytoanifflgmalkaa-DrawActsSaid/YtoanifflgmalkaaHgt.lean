/- Height: what it is, and that the document's answer and the program's are it. -/
import Derived.Test.YtoanifflgmalkaaProg
import Derived.Test.YtoanifflgmalkaaButs
import Derived.Test.YtoanifflgmalkaaNum
import Derived.WalkLawsBesides
import Derived.Laws.ShiftsVarLaws
import Derived.Lib.Hide
namespace Go.Proofs.Ytoanifflgmalkaa
open Go.RowKit

/-- How many bits 1 a number has from the lowest one on (at most 'fuel'). -/
def tr : Nat → Nat → Nat
  | 0, _ => 0
  | fuel + 1, u => if u % 2 = 1 then tr fuel (u / 2) + 1 else 0
theorem tr_le (fuel u : Nat) : tr fuel u ≤ fuel := by
  induction fuel generalizing u with
  | zero => simp [tr]
  | succ n ih => simp only [tr]; split <;> have := ih (u / 2) <;> omega
theorem tr_odd (fuel u k : Nat) (h : k < tr fuel u) : u / 2 ^ k % 2 = 1 := by
  induction fuel generalizing u k with
  | zero => simp [tr] at h
  | succ n ih =>
    simp only [tr] at h
    split at h
    · cases k with
      | zero => simpa using by assumption
      | succ k =>
        have := ih (u / 2) k (by omega)
        rw [Nat.div_div_eq_div_mul] at this
        rw [Nat.pow_succ, Nat.mul_comm]
        exact this
    · omega
theorem tr_even (fuel u : Nat) (h : u < 2 ^ fuel) : u / 2 ^ (tr fuel u) % 2 = 0 := by
  induction fuel generalizing u with
  | zero => simp [tr]; omega
  | succ n ih =>
    simp only [tr]
    split
    · have := ih (u / 2) (by rw [Nat.pow_succ] at h; omega)
      rw [Nat.div_div_eq_div_mul] at this
      rw [Nat.pow_succ, Nat.mul_comm]
      exact this
    · simp; omega

def ones (n : Int) : Nat := tr 64 (n % 18446744073709551616).toNat
theorem ones_le (n : Int) : ones n ≤ 64 := tr_le _ _
theorem low (n : Int) : (n % 18446744073709551616).toNat < 2 ^ 64 := by omega
/-- The bit behind the run is 0, each in it 1. -/
theorem ones_bit (n : Int) (k : Nat) (h : k ≤ ones n) : (n % 18446744073709551616) / 2 ^ k % 2 = if k < ones n then 1 else 0 := by
  have e : (n % 18446744073709551616) = (((n % 18446744073709551616).toNat : Nat) : Int) := by omega
  have h1 : (n % 18446744073709551616).toNat / 2 ^ k % 2 = if k < ones n then 1 else 0 := by
    split
    · exact tr_odd 64 _ k (by assumption)
    · have : k = ones n := by omega
      rw [this]
      exact tr_even 64 _ (low n)
  rw [e]
  have h2 : ((((n % 18446744073709551616).toNat / 2 ^ k % 2 : Nat)) : Int) = if k < ones n then 1 else 0 := by rw [h1]; split <;> rfl
  rw [← h2]
  simp

theorem part_range (n : Int) (k : Nat) : 0 ≤ n % 18446744073709551616 / 2 ^ k ∧ n % 18446744073709551616 / 2 ^ k < 18446744073709551616 := by
  have h1 : 0 ≤ n % 18446744073709551616 := by omega
  have h2 : n % 18446744073709551616 < 18446744073709551616 := by omega
  have h3 : (0 : Int) < 2 ^ k := Int.pow_pos (by omega)
  exact ⟨Int.ediv_nonneg h1 (by omega), Int.lt_of_le_of_lt (Int.ediv_le_self _ h1) h2⟩

def hgt (n most : Int) : Int := max 1 (min most ((ones n : Int) + 1))

set_option maxHeartbeats 1000000 in
theorem refHeight_any (n most : Int) (h1 : -9223372036854775808 ≤ n) (h2 : n ≤ 9223372036854775807) (h3 : -9223372036854775808 ≤ most) (h4 : most ≤ 9223372036854775807) (w : World) :
    Calls Try.prog 18 #[.int .i64 n, .int .i64 most] w fun e w' => e = .returned (.int .i64 (hgt n most)) ∧ w = w' := by
  go_enter Try.func18, Try.ntmps18
  go_wp2
  go_loopw [5, 6] (fun h v wr => ∃ k : Nat, k ≤ ones n ∧ (k = 0 ∨ (k : Int) < most) ∧ h = .int .i64 (1 + k) ∧ v = .int .u64 ((n % 18446744073709551616) / 2 ^ k) ∧ wr = w) (fun h _ _ => 100 - (intOf h).toNat)
  case atStart => exact ⟨0, Nat.zero_le _, by simp, by simp, by simp [IntKind.wrap, IntKind.bits, IntKind.signed], rfl⟩
  case round =>
    obtain ⟨k, hk, hm, rfl, rfl, rfl⟩ := hrel
    have hb := ones_bit n k hk
    have hle := ones_le n
    obtain ⟨X, hX⟩ : ∃ X, X = n % 18446744073709551616 / 2 ^ k := ⟨_, rfl⟩
    have hX0 : 0 ≤ X ∧ X < 18446744073709551616 := by rw [hX]; exact part_range n k
    rw [← hX] at hb ⊢
    have e3 : IntKind.u64.wrap (X / 2) = X / 2 := by
      simp [IntKind.wrap, IntKind.bits, IntKind.signed]
      omega
    have E4 := Lib.hid (show X / 2 = n % 18446744073709551616 / 2 ^ (k + 1) by
      rw [hX, Int.ediv_ediv_of_nonneg (by have := Int.pow_pos (n := 2) (m := k) (by omega); omega), Int.pow_succ])
    clear hX
    by_cases hlt : k < ones n
    · rw [if_pos hlt] at hb
      have t1 : (X % 2 == 1) = true := by rw [hb]; rfl
      clear hb
      by_cases hlm : (1 : Int) + k < most
      · go_wp2
        refine ⟨⟨k + 1, by omega, .inr (by omega), by congr 1, ?_, trivial⟩, ?_⟩
        · rw [← E4.out]
        · simp [intOf]; omega
      · have hv : hgt n most = 1 + (k : Int) := by unfold hgt; omega
        have HV := Lib.hid hv
        clear hv
        go_wp2
        go_ret
        exact ⟨by show Ending.returned (.int .i64 (1 + (k : Int))) = _; rw [HV.out], rfl⟩
    · rw [if_neg hlt] at hb
      have t1 : (X % 2 == 1) = false := by rw [hb]; rfl
      have hv : hgt n most = 1 + (k : Int) := by unfold hgt; omega
      have HV := Lib.hid hv
      clear hb hv
      by_cases hlm : (1 : Int) + k < most
      · go_wp2
        go_ret
        exact ⟨by show Ending.returned (.int .i64 (1 + (k : Int))) = _; rw [HV.out], rfl⟩
      · go_wp2
        go_ret
        exact ⟨by show Ending.returned (.int .i64 (1 + (k : Int))) = _; rw [HV.out], rfl⟩

set_option maxHeartbeats 1000000 in
theorem height_any (n most : Int) (h1 : -9223372036854775808 ≤ n) (h2 : n ≤ 9223372036854775807) (h3 : -9223372036854775808 ≤ most) (h4 : most ≤ 9223372036854775807) (w : World) :
    Calls Try.prog 26 #[.int .i64 n, .int .i64 most] w fun e w' => e = .returned (.int .i64 (hgt n most)) ∧ w = w' := by
  have hlim : (if (1 : Int) > most then (1 : Int) else most) = max 1 most := by
    rw [Int.max_def]; split <;> split <;> omega
  have hl1 : (1 : Int) ≤ max 1 most := by omega
  have hl2 : max 1 most ≤ 9223372036854775807 := by omega
  go_enter Try.func26, Try.ntmps26
  go_wp2
  go_loopw [6, 10] (fun v h wr => ∃ k : Nat, k ≤ ones n ∧ (k : Int) ≤ max 1 most ∧ h = .int .i64 k ∧ wr = w) (fun _ h _ => 100 - (intOf h).toNat)
  case atStart => exact ⟨0, Nat.zero_le _, by omega, rfl, rfl⟩
  case round =>
    obtain ⟨k, hk, hm, rfl, rfl⟩ := hrel
    have hb := ones_bit n k hk
    have hle := ones_le n
    have ht : bits .and .u64 (IntKind.u64.wrap n / 2 ^ k) 1 = if k < ones n then 1 else 0 := by
      have e : IntKind.u64.wrap n = n % 18446744073709551616 := by rw [IntKind.wrap_u64]
      rw [e, mask1 _ (part_range n k).1 (part_range n k).2]
      exact hb
    clear hb
    by_cases hlt : k < ones n
    · rw [if_pos hlt] at ht
      have t1 : (bits .and .u64 (IntKind.u64.wrap n / 2 ^ k) 1 == 0) = false := by rw [ht]; rfl
      clear ht
      by_cases hlm : (k : Int) < max 1 most
      · go_wp2
        exact ⟨⟨k + 1, by omega, by omega, by congr 1, trivial⟩, by simp [intOf]; omega⟩
      · have HV := Lib.hid (show hgt n most = max 1 most by unfold hgt; omega)
        go_wp2
        go_ret
        exact ⟨by show Ending.returned (.int .i64 (max 1 most)) = _; rw [HV.out], rfl⟩
    · rw [if_neg hlt] at ht
      have t1 : (bits .and .u64 (IntKind.u64.wrap n / 2 ^ k) 1 == 0) = true := by rw [ht]; rfl
      clear ht
      by_cases hlm : (k : Int) < max 1 most
      · have HV := Lib.hid (show hgt n most = (k : Int) + 1 by unfold hgt; omega)
        go_wp2
        go_ret
        exact ⟨by show Ending.returned (.int .i64 ((k : Int) + 1)) = _; rw [HV.out], rfl⟩
      · have HV := Lib.hid (show hgt n most = max 1 most by unfold hgt; omega)
        go_wp2
        go_ret
        exact ⟨by show Ending.returned (.int .i64 (max 1 most)) = _; rw [HV.out], rfl⟩
end Go.Proofs.Ytoanifflgmalkaa
