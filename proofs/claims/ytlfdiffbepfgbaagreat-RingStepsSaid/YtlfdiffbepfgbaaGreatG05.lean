/- A ring in numbers: what words its slots are read as, what each step of each operation does. Plain mathematics. -/
import Derived.Test.YtlfdiffbepfgbaaGreatG00
import Derived.Test.YtlfdiffbepfgbaaGreatG01
import Derived.Test.YtlfdiffbepfgbaaGreatG04
import Derived.Test.YtlfdiffbepfgbaaGreatRows
import Derived.WalkLawsBesides
import Derived.Deep.QuietTactic
import Derived.BigQuiet
import Derived.Lib.Hide
set_option linter.unusedVariables false
set_option linter.unusedSimpArgs false

namespace Go.Proofs.YtlfdiffbepfgbaaGreat.Ri
set_option maxRecDepth 20000
open Go.RowKit
open Wo (St acc wordAt)
open Sk (Wd)

structure Rng where
  H : Int
  T : Int
  K : Int
  N : Int

def lap (R : Rng) (t : Int) : Int := t / R.N % 4294967296
def cell (R : Rng) (t : Int) : Int := R.K + t % R.N
def wlap (w : Int) : Int := w / 4294967296
def full (w : Int) : Bool := w / 65536 % 2 == 1
def vac (R : Rng) (t : Int) : Int := lap R t * 4294967296
def fullW (l v : Int) : Int := l * 4294967296 + 65536 + v
def plus (t : Int) : Int := (t + 1) % 18446744073709551616
def free (R : Rng) (t w : Int) : Bool := !full w && wlap w * 4294967296 == vac R t
def taken (R : Rng) (t w : Int) : Bool := full w && wlap w * 4294967296 == vac R t
def keptB (R : Rng) (t w : Int) : Bool := full w && (wlap w + 1) % 4294967296 * 4294967296 == vac R t

structure ROp where
  line : Nat
  t : Int
  w : Int
  v : Int
  er : Int

def rSt (n : Nat) (R : Rng) (s : St) (x : ROp) : St :=
  if x.line = 1 then acc n s 1 R.T false 0
  else if x.line = 2 then acc n s 1 (cell R x.t) false 0
  else if x.line = 3 then acc n s 3 (cell R x.t) (wordAt n s (cell R x.t) == x.w) (fullW (lap R x.t) x.v)
  else if x.line = 4 ∨ x.line = 5 then acc n s 3 R.T (wordAt n s R.T == x.t) (plus x.t)
  else if x.line = 6 then acc n s 1 R.H false 0
  else if x.line = 7 then acc n s 1 (cell R x.t) false 0
  else if x.line = 8 then acc n s 2 (cell R x.t) true ((lap R x.t + 1) % 4294967296 * 4294967296)
  else if x.line = 9 then acc n s 2 R.H true (plus x.t)
  else s
def rLook (R : Rng) (u : Int) (x : ROp) : ROp :=
  if free R x.t u then ⟨3, x.t, u, x.v, x.er⟩ else if keptB R x.t u then ⟨0, x.t, u, x.v, 7⟩ else ⟨5, x.t, u, x.v, x.er⟩
def rAhead (R : Rng) (u : Int) (x : ROp) : ROp :=
  if taken R x.t u then ⟨0, x.t, u, u % 65536, 0⟩ else ⟨0, x.t, u, x.v, 15⟩
def rOp (n : Nat) (R : Rng) (s : St) (x : ROp) : ROp :=
  if x.line = 1 then ⟨2, wordAt n s R.T, x.w, x.v, x.er⟩
  else if x.line = 2 then rLook R (wordAt n s (cell R x.t)) x
  else if x.line = 3 then ⟨if wordAt n s (cell R x.t) = x.w then 4 else 5, x.t, x.w, x.v, x.er⟩
  else if x.line = 4 then ⟨0, x.t, x.w, x.v, 0⟩
  else if x.line = 5 then ⟨1, x.t, x.w, x.v, x.er⟩
  else if x.line = 6 then ⟨7, wordAt n s R.H, x.w, x.v, x.er⟩
  else if x.line = 7 then rAhead R (wordAt n s (cell R x.t)) x
  else if x.line = 8 then ⟨9, x.t, x.w, x.v, x.er⟩
  else if x.line = 9 then ⟨0, x.t, x.w, x.v, 0⟩
  else x

structure Rng.Ok (R : Rng) (n : Nat) : Prop where
  N1 : 1 ≤ R.N
  N2 : R.N ≤ 4096
  H1 : 0 ≤ R.H
  H2 : R.H < n
  T1 : 0 ≤ R.T
  T2 : R.T < n
  K1 : 0 ≤ R.K
  K2 : R.K + R.N ≤ n
  n2 : n ≤ 4096

structure ROp.Good (x : ROp) : Prop where
  t0 : 0 ≤ x.t
  t1 : x.t < 18446744073709551616
  w0 : 0 ≤ x.w
  w1 : x.w < 18446744073709551616
  v0 : x.line ≠ 0 → 0 ≤ x.v ∧ x.v ≤ 65535
  ln : x.line ≤ 9
  er : (x.line ≠ 0 ∧ x.er = 14) ∨ (x.line = 0 ∧ x.er ≠ 14)

theorem lap_lo (R : Rng) (t : Int) : 0 ≤ lap R t := by unfold lap; omega
theorem lap_hi (R : Rng) (t : Int) : lap R t ≤ 4294967295 := by unfold lap; omega
theorem vac_lo (R : Rng) (t : Int) : 0 ≤ vac R t := by have := lap_lo R t; unfold vac; omega
theorem vac_hi (R : Rng) (t : Int) : vac R t < 18446744073709551616 := by have := lap_hi R t; unfold vac; omega
theorem vac_wlap (R : Rng) (t : Int) : wlap (vac R t) = lap R t := by unfold wlap vac; omega
theorem cell_lo {R : Rng} {n : Nat} (h : R.Ok n) (t : Int) : R.K ≤ cell R t ∧ cell R t < R.K + R.N := by
  have h1 := h.N1
  have a := Int.emod_nonneg t (show R.N ≠ 0 by omega)
  have b := Int.emod_lt_of_pos t (show 0 < R.N by omega)
  unfold cell
  omega
theorem cell_in {R : Rng} {n : Nat} (h : R.Ok n) (t : Int) : 0 ≤ cell R t ∧ cell R t < n := by
  have := cell_lo h t
  have := h.K1
  have := h.K2
  omega
theorem wlap_lo {w : Int} (h : 0 ≤ w) : 0 ≤ wlap w := by unfold wlap; omega
theorem wlap_hi {w : Int} (h : w < 18446744073709551616) : wlap w ≤ 4294967295 := by unfold wlap; omega
theorem plus_lo (t : Int) : 0 ≤ plus t := by unfold plus; omega
theorem plus_hi (t : Int) : plus t < 18446744073709551616 := by unfold plus; omega
theorem fullW_lo {l v : Int} (h : 0 ≤ l) (h' : 0 ≤ v) : 0 ≤ fullW l v := by unfold fullW; omega
theorem fullW_hi {l v : Int} (h : l ≤ 4294967295) (h' : v ≤ 65535) : fullW l v < 18446744073709551616 := by unfold fullW; omega

theorem mask_bit (i : Nat) (b : Bool) (hi : i < 64) : ((b && Nat.testBit 18446744069414715391 i) || Nat.testBit 65536 i) = ((decide (32 ≤ i) && b) || (Nat.testBit 65536 i || (decide (i < 16) && b))) := by
  have h : ∀ j : Fin 64, ∀ b : Bool, ((b && Nat.testBit 18446744069414715391 j.val) || Nat.testBit 65536 j.val) = ((decide (32 ≤ j.val) && b) || (Nat.testBit 65536 j.val || (decide (j.val < 16) && b))) := by decide +kernel
  exact h ⟨i, hi⟩ b
theorem read_nat (a : Nat) (h : a < 18446744073709551616) : (a &&& 18446744069414715391) ||| 65536 = a / 4294967296 * 4294967296 + 65536 + a % 65536 := by
  have e1 : a / 4294967296 * 4294967296 + 65536 + a % 65536 = (a / 2 ^ 32 * 2 ^ 32) ||| (65536 ||| a % 2 ^ 16) := by
    rw [nat_join 16 65536 (a % 2 ^ 16) (by decide) (Nat.mod_lt _ (by decide)), nat_join 32 (a / 2 ^ 32 * 2 ^ 32) (65536 + a % 2 ^ 16) (by omega) (by omega)]
    omega
  rw [e1]
  refine Nat.eq_of_testBit_eq fun i => ?_
  by_cases hi : i < 64
  · have h32 : ∀ j, (a / 2 ^ 32 * 2 ^ 32).testBit j = (decide (32 ≤ j) && a.testBit j) := fun j => by
      rw [Nat.testBit_mul_two_pow, Nat.testBit_div_two_pow]
      by_cases hj : 32 ≤ j
      · simp [hj]
      · simp [hj]
    rw [Nat.testBit_or, Nat.testBit_and, Nat.testBit_or, Nat.testBit_or, h32, Nat.testBit_mod_two_pow]
    exact mask_bit i _ hi
  · have hz : ∀ x : Nat, x < 2 ^ 64 → x.testBit i = false := fun x hx => Nat.testBit_lt_two_pow (Nat.lt_of_lt_of_le hx (Nat.pow_le_pow_right (by decide) (by omega)))
    rw [hz _ (by
      have h1 : a &&& 18446744069414715391 < 2 ^ 64 := Nat.and_lt_two_pow _ (by decide)
      exact Nat.or_lt_two_pow h1 (by decide)), hz _ (by
      refine Nat.or_lt_two_pow (by omega) (Nat.or_lt_two_pow (by decide) (by omega)))]
theorem read_bits (w : Int) (h0 : 0 ≤ w) (h1 : w < 18446744073709551616) : bits .or .u64 (bits .andNot .u64 w 4294836224) 65536 = fullW (wlap w) (w % 65536) := by
  obtain ⟨a, rfl⟩ := Int.eq_ofNat_of_zero_le h0
  have ha : a < 18446744073709551616 := by omega
  have e : bits .andNot .u64 (a : Int) 4294836224 = ((a &&& (18446744073709551615 - 4294836224) : Nat) : Int) := u64_andNot_nat a 4294836224 ha (by decide)
  have e2 : ∀ b : Nat, b < 18446744073709551616 → bits .or .u64 (b : Int) 65536 = ((b ||| 65536 : Nat) : Int) := fun b hb => u64_or_nat b 65536 hb (by decide)
  rw [e, e2 _ (by
    have h1 : a &&& (18446744073709551615 - 4294836224) < 2 ^ 64 := Nat.and_lt_two_pow _ (by decide)
    exact h1)]
  have := read_nat a ha
  rw [show (18446744073709551615 - 4294836224 : Nat) = 18446744069414715391 from rfl, this]
  unfold fullW wlap
  omega
theorem full_bits (w : Int) (h0 : 0 ≤ w) (h1 : w < 18446744073709551616) : bits .and .u64 w 65536 = w / 65536 % 2 * 65536 := by
  obtain ⟨a, rfl⟩ := Int.eq_ofNat_of_zero_le h0
  have ha : a < 18446744073709551616 := by omega
  have e : bits .and .u64 (a : Int) 65536 = ((a &&& 65536 : Nat) : Int) := u64_and_nat a 65536 ha (by decide)
  have hb : a.testBit 16 = decide (a / 65536 % 2 = 1) := Nat.testBit_eq_decide_div_mod_eq
  have m : a / 65536 % 2 = 0 ∨ a / 65536 % 2 = 1 := by omega
  rw [e]
  rcases m with m | m
  · have hb : a.testBit 16 = false := by rw [hb, m]; rfl
    have : a &&& 65536 = 0 := Nat.eq_of_testBit_eq fun i => by
      rw [Nat.testBit_and, show (65536 : Nat) = 2 ^ 16 from rfl, Nat.testBit_two_pow]
      by_cases h : 16 = i
      · subst h; rw [hb]; simp
      · simp [h]
    rw [this]
    omega
  · have hb : a.testBit 16 = true := by rw [hb, m]; rfl
    have : a &&& 65536 = 65536 := Nat.eq_of_testBit_eq fun i => by
      rw [Nat.testBit_and, show (65536 : Nat) = 2 ^ 16 from rfl, Nat.testBit_two_pow]
      by_cases h : 16 = i
      · subst h; rw [hb]; simp
      · simp [h]
    rw [this]
    omega
theorem goodSlot_full {l v : Int} (l0 : 0 ≤ l) (l1 : l ≤ 4294967295) (v0 : 0 ≤ v) (v1 : v ≤ 65535) : Wo.goodSlot (fullW l v) = true ∧ Wo.sLap (fullW l v) = l ∧ Wo.sFull (fullW l v) = true ∧ Wo.sVal (fullW l v) = v := by
  have e1 : Wo.sLap (fullW l v) = l := by unfold Wo.sLap fullW; omega
  have e2 : Wo.sFull (fullW l v) = true := by unfold Wo.sFull fullW; simp; omega
  have e3 : Wo.sVal (fullW l v) = v := by unfold Wo.sVal fullW; omega
  refine ⟨?_, e1, e2, e3⟩
  unfold Wo.goodSlot Wo.putSlot
  rw [e1, e2, e3, if_pos (by omega), if_neg (by simp)]
  unfold fullW Wo.bitOf
  simp
  omega
theorem and_lap (x : Int) (h0 : 0 ≤ x) (h1 : x < 4611686018427387904) : bits .and .i64 x 4294967295 = x % 4294967296 :=
  bits_mask .i64 62 (by decide) (fun n a b => by have := Wo.wi n a (by omega); unfold wrap64 at this; rw [IntKind.wrap_i64]; exact this) 32 (by decide) x h0 (by omega)

theorem rOp_good {n : Nat} {R : Rng} {s : St} {x : ROp} (h : x.Good) (hs : Wd n s) : (rOp n R s x).Good := by
  obtain ⟨t0, t1, w0, w1, v0, ln, er⟩ := h
  have a := hs.word R.T
  have b := hs.word R.H
  have c := hs.word (cell R x.t)
  rcases er with ⟨hl, he⟩ | ⟨hl, he⟩
  · have v0 := v0 hl
    have m0 : 0 ≤ wordAt n s (cell R x.t) % 65536 ∧ wordAt n s (cell R x.t) % 65536 ≤ 65535 := by omega
    have : x.line = 1 ∨ x.line = 2 ∨ x.line = 3 ∨ x.line = 4 ∨ x.line = 5 ∨ x.line = 6 ∨ x.line = 7 ∨ x.line = 8 ∨ x.line = 9 := by omega
    unfold rOp
    rcases this with e | e | e | e | e | e | e | e | e <;> simp only [e, if_pos, if_neg, ↓reduceIte, Nat.reduceEqDiff]
    · exact ⟨a.1, a.2, w0, w1, fun _ => v0, by simp, .inl ⟨by simp, he⟩⟩
    · unfold rLook
      split
      · exact ⟨t0, t1, c.1, c.2, fun _ => v0, by simp, .inl ⟨by simp, he⟩⟩
      · split
        · exact ⟨t0, t1, c.1, c.2, fun _ => v0, by simp, .inr ⟨rfl, by simp⟩⟩
        · exact ⟨t0, t1, c.1, c.2, fun _ => v0, by simp, .inl ⟨by simp, he⟩⟩
    · split
      · exact ⟨t0, t1, w0, w1, fun _ => v0, by simp, .inl ⟨by simp, he⟩⟩
      · exact ⟨t0, t1, w0, w1, fun _ => v0, by simp, .inl ⟨by simp, he⟩⟩
    · exact ⟨t0, t1, w0, w1, fun _ => v0, by simp, .inr ⟨rfl, by simp⟩⟩
    · exact ⟨t0, t1, w0, w1, fun _ => v0, by simp, .inl ⟨by simp, he⟩⟩
    · exact ⟨b.1, b.2, w0, w1, fun _ => v0, by simp, .inl ⟨by simp, he⟩⟩
    · unfold rAhead
      split
      · exact ⟨t0, t1, c.1, c.2, fun _ => m0, by simp, .inr ⟨rfl, by simp⟩⟩
      · exact ⟨t0, t1, c.1, c.2, fun _ => v0, by simp, .inr ⟨rfl, by simp⟩⟩
    · exact ⟨t0, t1, w0, w1, fun _ => v0, by simp, .inl ⟨by simp, he⟩⟩
    · exact ⟨t0, t1, w0, w1, fun _ => v0, by simp, .inr ⟨rfl, by simp⟩⟩
  · have : rOp n R s x = x := by unfold rOp; simp [hl]
    rw [this]
    exact ⟨t0, t1, w0, w1, v0, ln, .inr ⟨hl, he⟩⟩
theorem rSt_wd {n : Nat} {R : Rng} {s : St} {x : ROp} (h : x.Good) (hs : Wd n s) : Wd n (rSt n R s x) := by
  have l0 := lap_lo R x.t
  have l1 := lap_hi R x.t
  have p0 := plus_lo x.t
  have p1 := plus_hi x.t
  unfold rSt
  repeat' split
  all_goals first
    | exact hs
    | exact hs.acc _ _ _ _ (by omega) (by omega)
    | (have v := h.v0 (by omega); exact hs.acc _ _ _ _ (fullW_lo l0 v.1) (fullW_hi l1 v.2))
theorem rSt_cnt (n : Nat) (R : Rng) (s : St) (x : ROp) : s.cnt ≤ (rSt n R s x).cnt ∧ (rSt n R s x).cnt ≤ s.cnt + 1 := by
  unfold rSt
  repeat' split
  all_goals first | (rw [Sk.acc_cnt]; omega) | omega
end Go.Proofs.YtlfdiffbepfgbaaGreat.Ri

namespace Go.Proofs.YtlfdiffbepfgbaaGreat.Wo
set_option maxRecDepth 20000
open Go.RowKit

set_option maxHeartbeats 400000 in
theorem place_any (n : Int) (w : World) : Calls Tryz.prog 254 #[.int .i64 n] w fun e w' => e = .returned (.int .i64 (wrap64 (n + 1))) ∧ w = w' := by
  go_enter Tryz.func254, Tryz.ntmps254
  go_wp2
  go_ret
  exact ⟨rfl, rfl⟩

set_option maxHeartbeats 400000 in
theorem place_in (n : Int) (h0 : -1 ≤ n) (h1 : n ≤ 65534) (w : World) : Calls Tryz.prog 254 #[.int .i64 n] w fun e w' => e = .returned (.int .i64 (n + 1)) ∧ w = w' := by
  go_enter Tryz.func254, Tryz.ntmps254
  go_wp2
  go_ret
  exact ⟨rfl, rfl⟩

set_option maxHeartbeats 400000 in
theorem index_any (n : Int) (h0 : 0 ≤ n) (h1 : n ≤ 65535) (w : World) : Calls Tryz.prog 252 #[.int .i64 n] w fun e w' => e = .returned (.int .i64 (n - 1)) ∧ w = w' := by
  go_enter Tryz.func252, Tryz.ntmps252
  go_wp2
  go_ret
  exact ⟨rfl, rfl⟩

set_option maxHeartbeats 400000 in
theorem bit_any (b : Bool) (w : World) : Calls Tryz.prog 306 #[.bool b] w fun e w' => e = .returned (.int .i64 (bitOf b)) ∧ w = w' := by
  cases b <;>
  · go_enter Tryz.func306, Tryz.ntmps306
    go_wp2
    go_ret
    exact ⟨rfl, rfl⟩

set_option maxHeartbeats 400000 in
theorem part_0_16 (n : Int) (w : World) (h0 : 0 ≤ n) (h1 : n < 18446744073709551616) : Calls Tryz.prog 267 #[.int .u64 n, .int .i64 0, .int .i64 16] w fun e w' => e = .returned (.int .i64 (n % 65536)) ∧ Kept w w' := by
  have e0 : wrap64 (bits .and .u64 n 65535) = n % 65536 := by
    rw [mask16 n (by omega) (by omega)]; exact wi _ (by omega) (by omega)
  have H0 := Lib.hid e0; clear e0 h0 h1
  go_enter Tryz.func267, Tryz.ntmps267
  go_wp2
  go_quiet (fail)
  go_wp2
  go_ret
  exact ⟨by show Ending.returned (.int .i64 (wrap64 (bits .and .u64 n 65535))) = _; rw [H0.out], (Kept.refl _).drewN _⟩

set_option maxHeartbeats 400000 in
theorem part_16_32 (n : Int) (w : World) (h0 : 0 ≤ n) (h1 : n < 18446744073709551616) : Calls Tryz.prog 267 #[.int .u64 n, .int .i64 16, .int .i64 32] w fun e w' => e = .returned (.int .i64 (n / 65536 % 4294967296)) ∧ Kept w w' := by
  have e0 : wrap64 (bits .and .u64 (n / 65536) 4294967295) = n / 65536 % 4294967296 := by
    rw [mask32 (n / 65536) (by omega) (by omega)]; exact wi _ (by omega) (by omega)
  have H0 := Lib.hid e0; clear e0 h0 h1
  go_enter Tryz.func267, Tryz.ntmps267
  go_wp2
  go_quiet (fail)
  go_wp2
  go_ret
  exact ⟨by show Ending.returned (.int .i64 (wrap64 (bits .and .u64 (n / 65536) 4294967295))) = _; rw [H0.out], (Kept.refl _).drewN _⟩

set_option maxHeartbeats 400000 in
theorem part_16_48 (n : Int) (w : World) (h0 : 0 ≤ n) (h1 : n < 18446744073709551616) : Calls Tryz.prog 267 #[.int .u64 n, .int .i64 16, .int .i64 48] w fun e w' => e = .returned (.int .i64 (n / 65536 % 281474976710656)) ∧ Kept w w' := by
  have e0 : wrap64 (bits .and .u64 (n / 65536) 281474976710655) = n / 65536 % 281474976710656 := by
    rw [mask48 (n / 65536) (by omega) (by omega)]; exact wi _ (by omega) (by omega)
  have H0 := Lib.hid e0; clear e0 h0 h1
  go_enter Tryz.func267, Tryz.ntmps267
  go_wp2
  go_quiet (fail)
  go_wp2
  go_ret
  exact ⟨by show Ending.returned (.int .i64 (wrap64 (bits .and .u64 (n / 65536) 281474976710655))) = _; rw [H0.out], (Kept.refl _).drewN _⟩

set_option maxHeartbeats 400000 in
theorem part_32_32 (n : Int) (w : World) (h0 : 0 ≤ n) (h1 : n < 18446744073709551616) : Calls Tryz.prog 267 #[.int .u64 n, .int .i64 32, .int .i64 32] w fun e w' => e = .returned (.int .i64 (n / 4294967296 % 4294967296)) ∧ Kept w w' := by
  have e0 : wrap64 (bits .and .u64 (n / 4294967296) 4294967295) = n / 4294967296 % 4294967296 := by
    rw [mask32 (n / 4294967296) (by omega) (by omega)]; exact wi _ (by omega) (by omega)
  have H0 := Lib.hid e0; clear e0 h0 h1
  go_enter Tryz.func267, Tryz.ntmps267
  go_wp2
  go_quiet (fail)
  go_wp2
  go_ret
  exact ⟨by show Ending.returned (.int .i64 (wrap64 (bits .and .u64 (n / 4294967296) 4294967295))) = _; rw [H0.out], (Kept.refl _).drewN _⟩

set_option maxHeartbeats 400000 in
theorem part_16_1 (n : Int) (w : World) (h0 : 0 ≤ n) (h1 : n < 18446744073709551616) : Calls Tryz.prog 267 #[.int .u64 n, .int .i64 16, .int .i64 1] w fun e w' => e = .returned (.int .i64 (n / 65536 % 2)) ∧ Kept w w' := by
  have e0 : wrap64 (bits .and .u64 (n / 65536) 1) = n / 65536 % 2 := by
    rw [mask1 (n / 65536) (by omega) (by omega)]; exact wi _ (by omega) (by omega)
  have H0 := Lib.hid e0; clear e0 h0 h1
  go_enter Tryz.func267, Tryz.ntmps267
  go_wp2
  go_quiet (fail)
  go_wp2
  go_ret
  exact ⟨by show Ending.returned (.int .i64 (wrap64 (bits .and .u64 (n / 65536) 1))) = _; rw [H0.out], (Kept.refl _).drewN _⟩

set_option maxHeartbeats 400000 in
theorem part_56_8 (n : Int) (w : World) (h0 : 0 ≤ n) (h1 : n < 18446744073709551616) : Calls Tryz.prog 267 #[.int .u64 n, .int .i64 56, .int .i64 8] w fun e w' => e = .returned (.int .i64 (n / 72057594037927936 % 256)) ∧ Kept w w' := by
  have e0 : wrap64 (bits .and .u64 (n / 72057594037927936) 255) = n / 72057594037927936 % 256 := by
    rw [mask8 (n / 72057594037927936) (by omega) (by omega)]; exact wi _ (by omega) (by omega)
  have H0 := Lib.hid e0; clear e0 h0 h1
  go_enter Tryz.func267, Tryz.ntmps267
  go_wp2
  go_quiet (fail)
  go_wp2
  go_ret
  exact ⟨by show Ending.returned (.int .i64 (wrap64 (bits .and .u64 (n / 72057594037927936) 255))) = _; rw [H0.out], (Kept.refl _).drewN _⟩

set_option maxHeartbeats 400000 in
theorem part_16_40 (n : Int) (w : World) (h0 : 0 ≤ n) (h1 : n < 18446744073709551616) : Calls Tryz.prog 267 #[.int .u64 n, .int .i64 16, .int .i64 40] w fun e w' => e = .returned (.int .i64 (n / 65536 % 1099511627776)) ∧ Kept w w' := by
  have e0 : wrap64 (bits .and .u64 (n / 65536) 1099511627775) = n / 65536 % 1099511627776 := by
    rw [mask40 (n / 65536) (by omega) (by omega)]; exact wi _ (by omega) (by omega)
  have H0 := Lib.hid e0; clear e0 h0 h1
  go_enter Tryz.func267, Tryz.ntmps267
  go_wp2
  go_quiet (fail)
  go_wp2
  go_ret
  exact ⟨by show Ending.returned (.int .i64 (wrap64 (bits .and .u64 (n / 65536) 1099511627775))) = _; rw [H0.out], (Kept.refl _).drewN _⟩

set_option maxHeartbeats 400000 in
theorem table_refWord (n : Int) (w : World) : Calls Tryz.prog 305 #[.int .u64 n] w fun e w' => e = .returned (.agg #[.int .u64 0, .int .u64 16, .int .u64 16, .int .u64 32, .int .u64 63, .int .u64 1]) ∧ Kept w w' := by
  go_enter Tryz.func305, Tryz.ntmps305
  go_wp2
  exact bodyPost_ret (v := .agg #[.int .u64 0, .int .u64 16, .int .u64 16, .int .u64 32, .int .u64 63, .int .u64 1]) (by simp [results, Tryz.results305, go_sem]) rfl ⟨rfl, (Kept.refl _).alloc _ _⟩

set_option maxHeartbeats 400000 in
theorem table_topWord (n : Int) (w : World) : Calls Tryz.prog 250 #[.int .u64 n] w fun e w' => e = .returned (.agg #[.int .u64 0, .int .u64 16, .int .u64 16, .int .u64 48, .int .u64 0, .int .u64 0]) ∧ Kept w w' := by
  go_enter Tryz.func250, Tryz.ntmps250
  go_wp2
  exact bodyPost_ret (v := .agg #[.int .u64 0, .int .u64 16, .int .u64 16, .int .u64 48, .int .u64 0, .int .u64 0]) (by simp [results, Tryz.results250, go_sem]) rfl ⟨rfl, (Kept.refl _).alloc _ _⟩

set_option maxHeartbeats 400000 in
theorem table_slotWord (n : Int) (w : World) : Calls Tryz.prog 343 #[.int .u64 n] w fun e w' => e = .returned (.agg #[.int .u64 0, .int .u64 16, .int .u64 16, .int .u64 1, .int .u64 32, .int .u64 32]) ∧ Kept w w' := by
  go_enter Tryz.func343, Tryz.ntmps343
  go_wp2
  exact bodyPost_ret (v := .agg #[.int .u64 0, .int .u64 16, .int .u64 16, .int .u64 1, .int .u64 32, .int .u64 32]) (by simp [results, Tryz.results343, go_sem]) rfl ⟨rfl, (Kept.refl _).alloc _ _⟩

end Go.Proofs.YtlfdiffbepfgbaaGreat.Wo

namespace Go.Proofs.YtlfdiffbepfgbaaGreat.Wo
set_option maxRecDepth 20000
open Go.RowKit

set_option maxHeartbeats 400000 in
theorem joined_ref (a b c : Int) (w : World) (ha : 0 ≤ a) (ha' : a < 65536) (hb : 0 ≤ b) (hb' : b < 4294967296) (hc : 0 ≤ c) (hc' : c < 2) : Calls Tryz.prog 255 #[.agg #[.int .u64 0, .int .u64 16, .int .u64 16, .int .u64 32, .int .u64 63, .int .u64 1], .agg #[.int .i64 a, .int .i64 b, .int .i64 c]] w fun e w' => e = .returned (.int .u64 (a + b * 65536 + c * 9223372036854775808)) ∧ Kept w w' := by
  have H := Lib.hid (join_ref a b c ha ha' hb hb' hc hc')
  clear ha ha' hb hb' hc hc'
  have i0 : ∀ w, (Instr.index 376 (.agg #[.int .u64 0, .int .u64 16, .int .u64 16, .int .u64 32, .int .u64 63, .int .u64 1]) (.int .i64 0)).run Tryz.prog w = .ok (.agg #[.int .u64 0, .int .u64 16]) w := fun _ => by kernel_rfl
  have i1 : ∀ w, (Instr.index 376 (.agg #[.int .u64 0, .int .u64 16, .int .u64 16, .int .u64 32, .int .u64 63, .int .u64 1]) (.int .i64 1)).run Tryz.prog w = .ok (.agg #[.int .u64 16, .int .u64 32]) w := fun _ => by kernel_rfl
  have i2 : ∀ w, (Instr.index 376 (.agg #[.int .u64 0, .int .u64 16, .int .u64 16, .int .u64 32, .int .u64 63, .int .u64 1]) (.int .i64 2)).run Tryz.prog w = .ok (.agg #[.int .u64 63, .int .u64 1]) w := fun _ => by kernel_rfl
  go_enter Tryz.func255, Tryz.ntmps255
  go_wp2
  refine wp_loop_rounds 4 ?_
  rw [rounds_succ]
  go_wp2
  go_quiet (fail)
  go_wp2
  rw [rounds_succ]
  go_wp2
  go_quiet (fail)
  go_wp2
  rw [rounds_succ]
  go_wp2
  go_quiet (fail)
  go_wp2
  rw [rounds_succ]
  go_wp2
  go_ret
  exact ⟨by show Ending.returned (.int .u64 (bits .or .u64 (bits .or .u64 (bits .or .u64 0 (IntKind.u64.wrap (IntKind.u64.wrap a))) (IntKind.u64.wrap (IntKind.u64.wrap b * 65536))) (IntKind.u64.wrap (IntKind.u64.wrap c * 9223372036854775808)))) = _; rw [H.out], (((((((Kept.refl _).alloc _ _).alloc _ _).alloc _ _).drewN _).alloc _ _).drewN _ |>.alloc _ _).drewN _⟩

set_option maxHeartbeats 400000 in
theorem split_ref (n : Int) (w : World) (h0 : 0 ≤ n) (h1 : n < 18446744073709551616) : Calls Tryz.prog 251 #[.agg #[.int .u64 0, .int .u64 16, .int .u64 16, .int .u64 32, .int .u64 63, .int .u64 1], .int .u64 n] w fun e w' => e = .returned (.agg #[.int .i64 (n % 65536), .int .i64 (n / 65536 % 4294967296), .int .i64 (n / 9223372036854775808 % 2)]) ∧ Kept w w' := by
  have e0 : wrap64 (bits .and .u64 n 65535) = n % 65536 := by
    rw [mask16 n (by omega) (by omega)]; exact wi _ (by omega) (by omega)
  have e1 : wrap64 (bits .and .u64 (n / 65536) 4294967295) = n / 65536 % 4294967296 := by
    rw [mask32 (n / 65536) (by omega) (by omega)]; exact wi _ (by omega) (by omega)
  have e2 : wrap64 (bits .and .u64 (n / 9223372036854775808) 1) = n / 9223372036854775808 % 2 := by
    rw [mask1 (n / 9223372036854775808) (by omega) (by omega)]; exact wi _ (by omega) (by omega)
  have H0 := Lib.hid e0; have H1 := Lib.hid e1; have H2 := Lib.hid e2; clear e0 e1 e2 h0 h1
  have i0 : ∀ w, (Instr.index 376 (.agg #[.int .u64 0, .int .u64 16, .int .u64 16, .int .u64 32, .int .u64 63, .int .u64 1]) (.int .i64 0)).run Tryz.prog w = .ok (.agg #[.int .u64 0, .int .u64 16]) w := fun _ => by kernel_rfl
  have i1 : ∀ w, (Instr.index 376 (.agg #[.int .u64 0, .int .u64 16, .int .u64 16, .int .u64 32, .int .u64 63, .int .u64 1]) (.int .i64 1)).run Tryz.prog w = .ok (.agg #[.int .u64 16, .int .u64 32]) w := fun _ => by kernel_rfl
  have i2 : ∀ w, (Instr.index 376 (.agg #[.int .u64 0, .int .u64 16, .int .u64 16, .int .u64 32, .int .u64 63, .int .u64 1]) (.int .i64 2)).run Tryz.prog w = .ok (.agg #[.int .u64 63, .int .u64 1]) w := fun _ => by kernel_rfl
  go_enter Tryz.func251, Tryz.ntmps251
  go_wp2
  refine wp_loop_rounds 4 ?_
  rw [rounds_succ]
  go_wp2
  rw [rounds_succ]
  go_wp2
  rw [rounds_succ]
  go_wp2
  rw [rounds_succ]
  go_wp2
  exact bodyPost_ret (v := .agg #[.int .i64 (wrap64 (bits .and .u64 n 65535)), .int .i64 (wrap64 (bits .and .u64 (n / 65536) 4294967295)), .int .i64 (wrap64 (bits .and .u64 (n / 9223372036854775808) 1))]) (by simp [results, Tryz.results251, go_sem]) rfl ⟨by rw [H0.out, H1.out, H2.out], by repeat (first | exact Kept.refl _ | refine Kept.alloc ?_ _ _)⟩

set_option maxHeartbeats 400000 in
theorem joined_top (a b : Int) (w : World) (ha : 0 ≤ a) (ha' : a < 65536) (hb : 0 ≤ b) (hb' : b < 281474976710656) : Calls Tryz.prog 255 #[.agg #[.int .u64 0, .int .u64 16, .int .u64 16, .int .u64 48, .int .u64 0, .int .u64 0], .agg #[.int .i64 a, .int .i64 b, .int .i64 0]] w fun e w' => e = .returned (.int .u64 (a + b * 65536)) ∧ Kept w w' := by
  have H := Lib.hid (join_top a b ha ha' hb hb')
  clear ha ha' hb hb'
  have i0 : ∀ w, (Instr.index 376 (.agg #[.int .u64 0, .int .u64 16, .int .u64 16, .int .u64 48, .int .u64 0, .int .u64 0]) (.int .i64 0)).run Tryz.prog w = .ok (.agg #[.int .u64 0, .int .u64 16]) w := fun _ => by kernel_rfl
  have i1 : ∀ w, (Instr.index 376 (.agg #[.int .u64 0, .int .u64 16, .int .u64 16, .int .u64 48, .int .u64 0, .int .u64 0]) (.int .i64 1)).run Tryz.prog w = .ok (.agg #[.int .u64 16, .int .u64 48]) w := fun _ => by kernel_rfl
  have i2 : ∀ w, (Instr.index 376 (.agg #[.int .u64 0, .int .u64 16, .int .u64 16, .int .u64 48, .int .u64 0, .int .u64 0]) (.int .i64 2)).run Tryz.prog w = .ok (.agg #[.int .u64 0, .int .u64 0]) w := fun _ => by kernel_rfl
  go_enter Tryz.func255, Tryz.ntmps255
  go_wp2
  refine wp_loop_rounds 4 ?_
  rw [rounds_succ]
  go_wp2
  go_quiet (fail)
  go_wp2
  rw [rounds_succ]
  go_wp2
  go_quiet (fail)
  go_wp2
  rw [rounds_succ]
  go_wp2
  go_quiet (fail)
  go_wp2
  rw [rounds_succ]
  go_wp2
  go_ret
  exact ⟨by show Ending.returned (.int .u64 (bits .or .u64 (bits .or .u64 (bits .or .u64 0 (IntKind.u64.wrap (IntKind.u64.wrap a))) (IntKind.u64.wrap (IntKind.u64.wrap b * 65536))) 0)) = _; rw [H.out], (((((((Kept.refl _).alloc _ _).alloc _ _).alloc _ _).drewN _).alloc _ _).drewN _ |>.alloc _ _).drewN _⟩

set_option maxHeartbeats 400000 in
theorem split_top (n : Int) (w : World) (h0 : 0 ≤ n) (h1 : n < 18446744073709551616) : Calls Tryz.prog 251 #[.agg #[.int .u64 0, .int .u64 16, .int .u64 16, .int .u64 48, .int .u64 0, .int .u64 0], .int .u64 n] w fun e w' => e = .returned (.agg #[.int .i64 (n % 65536), .int .i64 (n / 65536 % 281474976710656), .int .i64 (0)]) ∧ Kept w w' := by
  have e0 : wrap64 (bits .and .u64 n 65535) = n % 65536 := by
    rw [mask16 n (by omega) (by omega)]; exact wi _ (by omega) (by omega)
  have e1 : wrap64 (bits .and .u64 (n / 65536) 281474976710655) = n / 65536 % 281474976710656 := by
    rw [mask48 (n / 65536) (by omega) (by omega)]; exact wi _ (by omega) (by omega)
  have e2 : wrap64 (bits .and .u64 n 0) = 0 := by
    rw [mask0 n (by omega) (by omega)]; exact wi 0 (by omega) (by omega)
  have H0 := Lib.hid e0; have H1 := Lib.hid e1; have H2 := Lib.hid e2; clear e0 e1 e2 h0 h1
  have i0 : ∀ w, (Instr.index 376 (.agg #[.int .u64 0, .int .u64 16, .int .u64 16, .int .u64 48, .int .u64 0, .int .u64 0]) (.int .i64 0)).run Tryz.prog w = .ok (.agg #[.int .u64 0, .int .u64 16]) w := fun _ => by kernel_rfl
  have i1 : ∀ w, (Instr.index 376 (.agg #[.int .u64 0, .int .u64 16, .int .u64 16, .int .u64 48, .int .u64 0, .int .u64 0]) (.int .i64 1)).run Tryz.prog w = .ok (.agg #[.int .u64 16, .int .u64 48]) w := fun _ => by kernel_rfl
  have i2 : ∀ w, (Instr.index 376 (.agg #[.int .u64 0, .int .u64 16, .int .u64 16, .int .u64 48, .int .u64 0, .int .u64 0]) (.int .i64 2)).run Tryz.prog w = .ok (.agg #[.int .u64 0, .int .u64 0]) w := fun _ => by kernel_rfl
  go_enter Tryz.func251, Tryz.ntmps251
  go_wp2
  refine wp_loop_rounds 4 ?_
  rw [rounds_succ]
  go_wp2
  rw [rounds_succ]
  go_wp2
  rw [rounds_succ]
  go_wp2
  rw [rounds_succ]
  go_wp2
  exact bodyPost_ret (v := .agg #[.int .i64 (wrap64 (bits .and .u64 n 65535)), .int .i64 (wrap64 (bits .and .u64 (n / 65536) 281474976710655)), .int .i64 (wrap64 (bits .and .u64 n 0))]) (by simp [results, Tryz.results251, go_sem]) rfl ⟨by rw [H0.out, H1.out, H2.out], by repeat (first | exact Kept.refl _ | refine Kept.alloc ?_ _ _)⟩

set_option maxHeartbeats 400000 in
theorem joined_slot (a b c : Int) (w : World) (ha : 0 ≤ a) (ha' : a < 65536) (hb : 0 ≤ b) (hb' : b < 2) (hc : 0 ≤ c) (hc' : c < 4294967296) : Calls Tryz.prog 255 #[.agg #[.int .u64 0, .int .u64 16, .int .u64 16, .int .u64 1, .int .u64 32, .int .u64 32], .agg #[.int .i64 a, .int .i64 b, .int .i64 c]] w fun e w' => e = .returned (.int .u64 (a + b * 65536 + c * 4294967296)) ∧ Kept w w' := by
  have H := Lib.hid (join_slot a b c ha ha' hb hb' hc hc')
  clear ha ha' hb hb' hc hc'
  have i0 : ∀ w, (Instr.index 376 (.agg #[.int .u64 0, .int .u64 16, .int .u64 16, .int .u64 1, .int .u64 32, .int .u64 32]) (.int .i64 0)).run Tryz.prog w = .ok (.agg #[.int .u64 0, .int .u64 16]) w := fun _ => by kernel_rfl
  have i1 : ∀ w, (Instr.index 376 (.agg #[.int .u64 0, .int .u64 16, .int .u64 16, .int .u64 1, .int .u64 32, .int .u64 32]) (.int .i64 1)).run Tryz.prog w = .ok (.agg #[.int .u64 16, .int .u64 1]) w := fun _ => by kernel_rfl
  have i2 : ∀ w, (Instr.index 376 (.agg #[.int .u64 0, .int .u64 16, .int .u64 16, .int .u64 1, .int .u64 32, .int .u64 32]) (.int .i64 2)).run Tryz.prog w = .ok (.agg #[.int .u64 32, .int .u64 32]) w := fun _ => by kernel_rfl
  go_enter Tryz.func255, Tryz.ntmps255
  go_wp2
  refine wp_loop_rounds 4 ?_
  rw [rounds_succ]
  go_wp2
  go_quiet (fail)
  go_wp2
  rw [rounds_succ]
  go_wp2
  go_quiet (fail)
  go_wp2
  rw [rounds_succ]
  go_wp2
  go_quiet (fail)
  go_wp2
  rw [rounds_succ]
  go_wp2
  go_ret
  exact ⟨by show Ending.returned (.int .u64 (bits .or .u64 (bits .or .u64 (bits .or .u64 0 (IntKind.u64.wrap (IntKind.u64.wrap a))) (IntKind.u64.wrap (IntKind.u64.wrap b * 65536))) (IntKind.u64.wrap (IntKind.u64.wrap c * 4294967296)))) = _; rw [H.out], (((((((Kept.refl _).alloc _ _).alloc _ _).alloc _ _).drewN _).alloc _ _).drewN _ |>.alloc _ _).drewN _⟩

set_option maxHeartbeats 400000 in
theorem split_slot (n : Int) (w : World) (h0 : 0 ≤ n) (h1 : n < 18446744073709551616) : Calls Tryz.prog 251 #[.agg #[.int .u64 0, .int .u64 16, .int .u64 16, .int .u64 1, .int .u64 32, .int .u64 32], .int .u64 n] w fun e w' => e = .returned (.agg #[.int .i64 (n % 65536), .int .i64 (n / 65536 % 2), .int .i64 (n / 4294967296 % 4294967296)]) ∧ Kept w w' := by
  have e0 : wrap64 (bits .and .u64 n 65535) = n % 65536 := by
    rw [mask16 n (by omega) (by omega)]; exact wi _ (by omega) (by omega)
  have e1 : wrap64 (bits .and .u64 (n / 65536) 1) = n / 65536 % 2 := by
    rw [mask1 (n / 65536) (by omega) (by omega)]; exact wi _ (by omega) (by omega)
  have e2 : wrap64 (bits .and .u64 (n / 4294967296) 4294967295) = n / 4294967296 % 4294967296 := by
    rw [mask32 (n / 4294967296) (by omega) (by omega)]; exact wi _ (by omega) (by omega)
  have H0 := Lib.hid e0; have H1 := Lib.hid e1; have H2 := Lib.hid e2; clear e0 e1 e2 h0 h1
  have i0 : ∀ w, (Instr.index 376 (.agg #[.int .u64 0, .int .u64 16, .int .u64 16, .int .u64 1, .int .u64 32, .int .u64 32]) (.int .i64 0)).run Tryz.prog w = .ok (.agg #[.int .u64 0, .int .u64 16]) w := fun _ => by kernel_rfl
  have i1 : ∀ w, (Instr.index 376 (.agg #[.int .u64 0, .int .u64 16, .int .u64 16, .int .u64 1, .int .u64 32, .int .u64 32]) (.int .i64 1)).run Tryz.prog w = .ok (.agg #[.int .u64 16, .int .u64 1]) w := fun _ => by kernel_rfl
  have i2 : ∀ w, (Instr.index 376 (.agg #[.int .u64 0, .int .u64 16, .int .u64 16, .int .u64 1, .int .u64 32, .int .u64 32]) (.int .i64 2)).run Tryz.prog w = .ok (.agg #[.int .u64 32, .int .u64 32]) w := fun _ => by kernel_rfl
  go_enter Tryz.func251, Tryz.ntmps251
  go_wp2
  refine wp_loop_rounds 4 ?_
  rw [rounds_succ]
  go_wp2
  rw [rounds_succ]
  go_wp2
  rw [rounds_succ]
  go_wp2
  rw [rounds_succ]
  go_wp2
  exact bodyPost_ret (v := .agg #[.int .i64 (wrap64 (bits .and .u64 n 65535)), .int .i64 (wrap64 (bits .and .u64 (n / 65536) 1)), .int .i64 (wrap64 (bits .and .u64 (n / 4294967296) 4294967295))]) (by simp [results, Tryz.results251, go_sem]) rfl ⟨by rw [H0.out, H1.out, H2.out], by repeat (first | exact Kept.refl _ | refine Kept.alloc ?_ _ _)⟩

set_option maxHeartbeats 400000 in
theorem joined_key (a b c : Int) (w : World) (ha : 0 ≤ a) (ha' : a < 65536) (hb : 0 ≤ b) (hb' : b < 1099511627776) (hc : 0 ≤ c) (hc' : c < 256) : Calls Tryz.prog 255 #[.agg #[.int .u64 0, .int .u64 16, .int .u64 16, .int .u64 40, .int .u64 56, .int .u64 8], .agg #[.int .i64 a, .int .i64 b, .int .i64 c]] w fun e w' => e = .returned (.int .u64 (a + b * 65536 + c * 72057594037927936)) ∧ Kept w w' := by
  have H := Lib.hid (join_key a b c ha ha' hb hb' hc hc')
  clear ha ha' hb hb' hc hc'
  have i0 : ∀ w, (Instr.index 376 (.agg #[.int .u64 0, .int .u64 16, .int .u64 16, .int .u64 40, .int .u64 56, .int .u64 8]) (.int .i64 0)).run Tryz.prog w = .ok (.agg #[.int .u64 0, .int .u64 16]) w := fun _ => by kernel_rfl
  have i1 : ∀ w, (Instr.index 376 (.agg #[.int .u64 0, .int .u64 16, .int .u64 16, .int .u64 40, .int .u64 56, .int .u64 8]) (.int .i64 1)).run Tryz.prog w = .ok (.agg #[.int .u64 16, .int .u64 40]) w := fun _ => by kernel_rfl
  have i2 : ∀ w, (Instr.index 376 (.agg #[.int .u64 0, .int .u64 16, .int .u64 16, .int .u64 40, .int .u64 56, .int .u64 8]) (.int .i64 2)).run Tryz.prog w = .ok (.agg #[.int .u64 56, .int .u64 8]) w := fun _ => by kernel_rfl
  go_enter Tryz.func255, Tryz.ntmps255
  go_wp2
  refine wp_loop_rounds 4 ?_
  rw [rounds_succ]
  go_wp2
  go_quiet (fail)
  go_wp2
  rw [rounds_succ]
  go_wp2
  go_quiet (fail)
  go_wp2
  rw [rounds_succ]
  go_wp2
  go_quiet (fail)
  go_wp2
  rw [rounds_succ]
  go_wp2
  go_ret
  exact ⟨by show Ending.returned (.int .u64 (bits .or .u64 (bits .or .u64 (bits .or .u64 0 (IntKind.u64.wrap (IntKind.u64.wrap a))) (IntKind.u64.wrap (IntKind.u64.wrap b * 65536))) (IntKind.u64.wrap (IntKind.u64.wrap c * 72057594037927936)))) = _; rw [H.out], (((((((Kept.refl _).alloc _ _).alloc _ _).alloc _ _).drewN _).alloc _ _).drewN _ |>.alloc _ _).drewN _⟩

set_option maxHeartbeats 400000 in
theorem split_key (n : Int) (w : World) (h0 : 0 ≤ n) (h1 : n < 18446744073709551616) : Calls Tryz.prog 251 #[.agg #[.int .u64 0, .int .u64 16, .int .u64 16, .int .u64 40, .int .u64 56, .int .u64 8], .int .u64 n] w fun e w' => e = .returned (.agg #[.int .i64 (n % 65536), .int .i64 (n / 65536 % 1099511627776), .int .i64 (n / 72057594037927936 % 256)]) ∧ Kept w w' := by
  have e0 : wrap64 (bits .and .u64 n 65535) = n % 65536 := by
    rw [mask16 n (by omega) (by omega)]; exact wi _ (by omega) (by omega)
  have e1 : wrap64 (bits .and .u64 (n / 65536) 1099511627775) = n / 65536 % 1099511627776 := by
    rw [mask40 (n / 65536) (by omega) (by omega)]; exact wi _ (by omega) (by omega)
  have e2 : wrap64 (bits .and .u64 (n / 72057594037927936) 255) = n / 72057594037927936 % 256 := by
    rw [mask8 (n / 72057594037927936) (by omega) (by omega)]; exact wi _ (by omega) (by omega)
  have H0 := Lib.hid e0; have H1 := Lib.hid e1; have H2 := Lib.hid e2; clear e0 e1 e2 h0 h1
  have i0 : ∀ w, (Instr.index 376 (.agg #[.int .u64 0, .int .u64 16, .int .u64 16, .int .u64 40, .int .u64 56, .int .u64 8]) (.int .i64 0)).run Tryz.prog w = .ok (.agg #[.int .u64 0, .int .u64 16]) w := fun _ => by kernel_rfl
  have i1 : ∀ w, (Instr.index 376 (.agg #[.int .u64 0, .int .u64 16, .int .u64 16, .int .u64 40, .int .u64 56, .int .u64 8]) (.int .i64 1)).run Tryz.prog w = .ok (.agg #[.int .u64 16, .int .u64 40]) w := fun _ => by kernel_rfl
  have i2 : ∀ w, (Instr.index 376 (.agg #[.int .u64 0, .int .u64 16, .int .u64 16, .int .u64 40, .int .u64 56, .int .u64 8]) (.int .i64 2)).run Tryz.prog w = .ok (.agg #[.int .u64 56, .int .u64 8]) w := fun _ => by kernel_rfl
  go_enter Tryz.func251, Tryz.ntmps251
  go_wp2
  refine wp_loop_rounds 4 ?_
  rw [rounds_succ]
  go_wp2
  rw [rounds_succ]
  go_wp2
  rw [rounds_succ]
  go_wp2
  rw [rounds_succ]
  go_wp2
  exact bodyPost_ret (v := .agg #[.int .i64 (wrap64 (bits .and .u64 n 65535)), .int .i64 (wrap64 (bits .and .u64 (n / 65536) 1099511627775)), .int .i64 (wrap64 (bits .and .u64 (n / 72057594037927936) 255))]) (by simp [results, Tryz.results251, go_sem]) rfl ⟨by rw [H0.out, H1.out, H2.out], by repeat (first | exact Kept.refl _ | refine Kept.alloc ?_ _ _)⟩

end Go.Proofs.YtlfdiffbepfgbaaGreat.Wo
