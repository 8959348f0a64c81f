/- The words as numbers: plain mathematics, nothing of the program. -/
import Derived.WalkKit
import Derived.Laws.BitsAllLaws
import Derived.Laws.Bits64
import Derived.WalkSpells
import Derived.Deep.Draws
set_option linter.unusedVariables false
set_option linter.unusedSimpArgs false

namespace Go.Proofs.YtlfdiffbepfgbaaGreat.Wo
set_option maxRecDepth 20000
open Go.RowKit

theorem wu (n : Int) (h0 : 0 ≤ n) (h1 : n < 18446744073709551616) : IntKind.u64.wrap n = n := by
  rw [IntKind.wrap_u64]; omega
theorem wi (n : Int) (h0 : 0 ≤ n) (h1 : n < 9223372036854775808) : wrap64 n = n := by
  unfold wrap64; omega

theorem or_up (i : Nat) (x y : Int) (hx0 : 0 ≤ x) (hx : x < 2 ^ i) (hxl : x < 18446744073709551616) (hy0 : 0 ≤ y) (hy : y % 2 ^ i = 0) (hyl : y < 18446744073709551616) : bits .or .u64 x y = x + y := by
  obtain ⟨a, rfl⟩ := Int.eq_ofNat_of_zero_le hx0
  obtain ⟨b, rfl⟩ := Int.eq_ofNat_of_zero_le hy0
  rw [u64_or_nat a b (by omega) (by omega), Nat.or_comm, nat_join i b a (by exact_mod_cast hy) (by exact_mod_cast hx)]
  push_cast; omega
theorem or_down (i : Nat) (x y : Int) (hx0 : 0 ≤ x) (hx : x < 2 ^ i) (hxl : x < 18446744073709551616) (hy0 : 0 ≤ y) (hy : y % 2 ^ i = 0) (hyl : y < 18446744073709551616) : bits .or .u64 y x = y + x := by
  obtain ⟨a, rfl⟩ := Int.eq_ofNat_of_zero_le hx0
  obtain ⟨b, rfl⟩ := Int.eq_ofNat_of_zero_le hy0
  rw [u64_or_nat b a (by omega) (by omega), nat_join i b a (by exact_mod_cast hy) (by exact_mod_cast hx)]
  push_cast; omega
theorem and_mask (i : Nat) (hi : i ≤ 64) (x : Int) (h0 : 0 ≤ x) (h1 : x < 18446744073709551616) : bits .and .u64 x (2 ^ i - 1) = x % 2 ^ i :=
  bits_mask .u64 64 (by decide) (fun n a b => wu n a (by omega)) i hi x h0 (by omega)

theorem mask1 (x : Int) (h0 : 0 ≤ x) (h1 : x < 18446744073709551616) : bits .and .u64 x 1 = x % 2 := and_mask 1 (by decide) x h0 h1
theorem mask8 (x : Int) (h0 : 0 ≤ x) (h1 : x < 18446744073709551616) : bits .and .u64 x 255 = x % 256 := and_mask 8 (by decide) x h0 h1
theorem mask16 (x : Int) (h0 : 0 ≤ x) (h1 : x < 18446744073709551616) : bits .and .u64 x 65535 = x % 65536 := and_mask 16 (by decide) x h0 h1
theorem mask32 (x : Int) (h0 : 0 ≤ x) (h1 : x < 18446744073709551616) : bits .and .u64 x 4294967295 = x % 4294967296 := and_mask 32 (by decide) x h0 h1
theorem mask40 (x : Int) (h0 : 0 ≤ x) (h1 : x < 18446744073709551616) : bits .and .u64 x 1099511627775 = x % 1099511627776 := and_mask 40 (by decide) x h0 h1
theorem mask48 (x : Int) (h0 : 0 ≤ x) (h1 : x < 18446744073709551616) : bits .and .u64 x 281474976710655 = x % 281474976710656 := and_mask 48 (by decide) x h0 h1
theorem mask63 (x : Int) (h0 : 0 ≤ x) (h1 : x < 18446744073709551616) : bits .and .u64 x 9223372036854775807 = x % 9223372036854775808 := and_mask 63 (by decide) x h0 h1
theorem mask0 (x : Int) (h0 : 0 ≤ x) (h1 : x < 18446744073709551616) : bits .and .u64 x 0 = 0 := by
  have := and_mask 0 (by decide) x h0 h1
  simp at this
  rw [this]

def setMark (w : Int) (b : Bool) : Int := w % 9223372036854775808 + (if b then 9223372036854775808 else 0)
theorem or_mark (w : Int) (h0 : 0 ≤ w) (h1 : w < 18446744073709551616) : bits .or .u64 w 9223372036854775808 = setMark w true := by
  unfold setMark
  obtain ⟨a, rfl⟩ := Int.eq_ofNat_of_zero_le h0
  have ha : a < 18446744073709551616 := by omega
  have e : bits .or .u64 (a : Int) 9223372036854775808 = ((a ||| 9223372036854775808 : Nat) : Int) := u64_or_nat a 9223372036854775808 ha (by decide)
  rw [e]
  have hd : a = 9223372036854775808 * (a / 9223372036854775808) + a % 9223372036854775808 := (Nat.div_add_mod _ _).symm
  have hl : a % 9223372036854775808 < 2 ^ 63 := Nat.mod_lt _ (by decide)
  have key : a ||| 9223372036854775808 = a % 9223372036854775808 + 9223372036854775808 := by
    have hq : a / 9223372036854775808 < 2 := by omega
    have h2 : a / 9223372036854775808 = 0 ∨ a / 9223372036854775808 = 1 := by omega
    rcases h2 with h2 | h2
    · rw [h2] at hd
      have : a % 9223372036854775808 = a := by omega
      rw [this, Nat.or_comm, nat_join 63 9223372036854775808 a (by decide) (by omega)]; omega
    · rw [h2] at hd
      have e1 : a = 9223372036854775808 ||| (a % 9223372036854775808) := by
        rw [nat_join 63 9223372036854775808 (a % 9223372036854775808) (by decide) hl]; omega
      have e2 : a ||| 9223372036854775808 = a := by
        conv => lhs; rw [e1]
        rw [Nat.or_comm, ← Nat.or_assoc, Nat.or_self]; exact e1.symm
      rw [e2]; omega
  rw [key]; simp
theorem andNot_mark (w : Int) (h0 : 0 ≤ w) (h1 : w < 18446744073709551616) : bits .andNot .u64 w 9223372036854775808 = setMark w false := by
  unfold setMark
  obtain ⟨a, rfl⟩ := Int.eq_ofNat_of_zero_le h0
  have ha : a < 18446744073709551616 := by omega
  have e : bits .andNot .u64 (a : Int) 9223372036854775808 = ((a &&& (18446744073709551615 - 9223372036854775808) : Nat) : Int) := u64_andNot_nat a 9223372036854775808 ha (by decide)
  rw [e]
  have := Nat.and_two_pow_sub_one_eq_mod a 63
  simp at this
  simp [this]

def inB (n lo hi : Int) : Bool := decide (lo ≤ n) && decide (n ≤ hi)
theorem inB_yes {n lo hi : Int} (h : lo ≤ n ∧ n ≤ hi) : inB n lo hi = true := by simp [inB, h.1, h.2]
theorem inB_no {n lo hi : Int} (h : ¬ (lo ≤ n ∧ n ≤ hi)) : inB n lo hi = false := by
  cases e : inB n lo hi with
  | false => rfl
  | true => simp [inB] at e; exact absurd e h

def bitOf (b : Bool) : Int := if b then 1 else 0
theorem bitOf_lo (b : Bool) : 0 ≤ bitOf b := by cases b <;> decide
theorem bitOf_hi (b : Bool) : bitOf b < 2 := by cases b <;> decide

def putRef (i g : Int) (m : Bool) : Int × Int :=
  if -1 ≤ i ∧ i ≤ 65534 ∧ 0 ≤ g ∧ g ≤ 4294967295 then (if i = -1 ∧ g ≠ 0 then (0, 5) else (i + 1 + g * 65536 + bitOf m * 9223372036854775808, 0)) else (0, 3)
def putTop (i t : Int) : Int × Int := if -1 ≤ i ∧ i ≤ 65534 ∧ 0 ≤ t ∧ t ≤ 281474976710655 then (i + 1 + t * 65536, 0) else (0, 3)
def putSlot (l : Int) (f : Bool) (v : Int) : Int × Int :=
  if 0 ≤ l ∧ l ≤ 4294967295 ∧ 0 ≤ v ∧ v ≤ 65535 then (if f = false ∧ v ≠ 0 then (0, 5) else (v + bitOf f * 65536 + l * 4294967296, 0)) else (0, 3)
def putKey (p s r : Int) : Int × Int :=
  if 0 ≤ p ∧ p ≤ 254 ∧ 0 ≤ s ∧ s ≤ 1099511627775 ∧ 0 ≤ r ∧ r ≤ 65535 then (r + s * 65536 + p * 72057594037927936, 0) else (0, 3)

theorem putRef_bad {i g : Int} (m : Bool) (h : ¬ (-1 ≤ i ∧ i ≤ 65534 ∧ 0 ≤ g ∧ g ≤ 4294967295)) : putRef i g m = (0, 3) := by unfold putRef; rw [if_neg h]
theorem putRef_form {i g : Int} (m : Bool) (h : -1 ≤ i ∧ i ≤ 65534 ∧ 0 ≤ g ∧ g ≤ 4294967295) (h' : i = -1 ∧ g ≠ 0) : putRef i g m = (0, 5) := by unfold putRef; rw [if_pos h, if_pos h']
theorem putRef_good {i g : Int} (m : Bool) (h : -1 ≤ i ∧ i ≤ 65534 ∧ 0 ≤ g ∧ g ≤ 4294967295) (h' : ¬ (i = -1 ∧ g ≠ 0)) : putRef i g m = (i + 1 + g * 65536 + bitOf m * 9223372036854775808, 0) := by unfold putRef; rw [if_pos h, if_neg h']
theorem putTop_bad {i t : Int} (h : ¬ (-1 ≤ i ∧ i ≤ 65534 ∧ 0 ≤ t ∧ t ≤ 281474976710655)) : putTop i t = (0, 3) := by unfold putTop; rw [if_neg h]
theorem putTop_good {i t : Int} (h : -1 ≤ i ∧ i ≤ 65534 ∧ 0 ≤ t ∧ t ≤ 281474976710655) : putTop i t = (i + 1 + t * 65536, 0) := by unfold putTop; rw [if_pos h]
theorem putSlot_bad {l v : Int} (f : Bool) (h : ¬ (0 ≤ l ∧ l ≤ 4294967295 ∧ 0 ≤ v ∧ v ≤ 65535)) : putSlot l f v = (0, 3) := by unfold putSlot; rw [if_neg h]
theorem putSlot_form {l v : Int} {f : Bool} (h : 0 ≤ l ∧ l ≤ 4294967295 ∧ 0 ≤ v ∧ v ≤ 65535) (h' : f = false ∧ v ≠ 0) : putSlot l f v = (0, 5) := by unfold putSlot; rw [if_pos h, if_pos h']
theorem putSlot_good {l v : Int} {f : Bool} (h : 0 ≤ l ∧ l ≤ 4294967295 ∧ 0 ≤ v ∧ v ≤ 65535) (h' : ¬ (f = false ∧ v ≠ 0)) : putSlot l f v = (v + bitOf f * 65536 + l * 4294967296, 0) := by unfold putSlot; rw [if_pos h, if_neg h']
theorem putKey_bad {p s r : Int} (h : ¬ (0 ≤ p ∧ p ≤ 254 ∧ 0 ≤ s ∧ s ≤ 1099511627775 ∧ 0 ≤ r ∧ r ≤ 65535)) : putKey p s r = (0, 3) := by unfold putKey; rw [if_neg h]
theorem putKey_good {p s r : Int} (h : 0 ≤ p ∧ p ≤ 254 ∧ 0 ≤ s ∧ s ≤ 1099511627775 ∧ 0 ≤ r ∧ r ≤ 65535) : putKey p s r = (r + s * 65536 + p * 72057594037927936, 0) := by unfold putKey; rw [if_pos h]

def markOf (w : Int) : Bool := w / 9223372036854775808 == 1
def rIdx (w : Int) : Int := w % 65536 - 1
def rGen (w : Int) : Int := w / 65536 % 4294967296
def tTag (w : Int) : Int := w / 65536 % 281474976710656
def sLap (w : Int) : Int := w / 4294967296 % 4294967296
def sFull (w : Int) : Bool := w / 65536 % 2 == 1
def sVal (w : Int) : Int := w % 65536
def kPrio (w : Int) : Int := w / 72057594037927936 % 256
def kSeq (w : Int) : Int := w / 65536 % 1099511627776

def goodRef (w : Int) : Bool := putRef (rIdx w) (rGen w) (markOf w) == (w, 0)
def goodSlot (w : Int) : Bool := putSlot (sLap w) (sFull w) (sVal w) == (w, 0)
def goodKey (w : Int) : Bool := putKey (kPrio w) (kSeq w) (sVal w) == (w, 0)

theorem join_ref (a b c : Int) (ha : 0 ≤ a) (ha' : a < 65536) (hb : 0 ≤ b) (hb' : b < 4294967296) (hc : 0 ≤ c) (hc' : c < 2) :
    bits .or .u64 (bits .or .u64 (bits .or .u64 0 (IntKind.u64.wrap (IntKind.u64.wrap a))) (IntKind.u64.wrap (IntKind.u64.wrap b * 65536))) (IntKind.u64.wrap (IntKind.u64.wrap c * 9223372036854775808)) = a + b * 65536 + c * 9223372036854775808 := by
  rw [wu a (by omega) (by omega), wu a (by omega) (by omega), wu b (by omega) (by omega), wu (b * 65536) (by omega) (by omega), wu c (by omega) (by omega), wu (c * 9223372036854775808) (by omega) (by omega)]
  rw [or_up 0 0 a (by omega) (by omega) (by omega) (by omega) (by omega) (by omega), or_up 16 (0 + a) (b * 65536) (by omega) (by omega) (by omega) (by omega) (by omega) (by omega), or_up 63 (0 + a + b * 65536) (c * 9223372036854775808) (by omega) (by omega) (by omega) (by omega) (by omega) (by omega)]
  omega
theorem join_top (a b : Int) (ha : 0 ≤ a) (ha' : a < 65536) (hb : 0 ≤ b) (hb' : b < 281474976710656) :
    bits .or .u64 (bits .or .u64 (bits .or .u64 0 (IntKind.u64.wrap (IntKind.u64.wrap a))) (IntKind.u64.wrap (IntKind.u64.wrap b * 65536))) 0 = a + b * 65536 := by
  rw [wu a (by omega) (by omega), wu a (by omega) (by omega), wu b (by omega) (by omega), wu (b * 65536) (by omega) (by omega)]
  rw [or_up 0 0 a (by omega) (by omega) (by omega) (by omega) (by omega) (by omega), or_up 16 (0 + a) (b * 65536) (by omega) (by omega) (by omega) (by omega) (by omega) (by omega), or_up 64 (0 + a + b * 65536) 0 (by omega) (by omega) (by omega) (by omega) (by omega) (by omega)]
  omega
theorem join_slot (a b c : Int) (ha : 0 ≤ a) (ha' : a < 65536) (hb : 0 ≤ b) (hb' : b < 2) (hc : 0 ≤ c) (hc' : c < 4294967296) :
    bits .or .u64 (bits .or .u64 (bits .or .u64 0 (IntKind.u64.wrap (IntKind.u64.wrap a))) (IntKind.u64.wrap (IntKind.u64.wrap b * 65536))) (IntKind.u64.wrap (IntKind.u64.wrap c * 4294967296)) = a + b * 65536 + c * 4294967296 := by
  rw [wu a (by omega) (by omega), wu a (by omega) (by omega), wu b (by omega) (by omega), wu (b * 65536) (by omega) (by omega), wu c (by omega) (by omega), wu (c * 4294967296) (by omega) (by omega)]
  rw [or_up 0 0 a (by omega) (by omega) (by omega) (by omega) (by omega) (by omega), or_up 16 (0 + a) (b * 65536) (by omega) (by omega) (by omega) (by omega) (by omega) (by omega), or_up 32 (0 + a + b * 65536) (c * 4294967296) (by omega) (by omega) (by omega) (by omega) (by omega) (by omega)]
  omega
theorem join_key (a b c : Int) (ha : 0 ≤ a) (ha' : a < 65536) (hb : 0 ≤ b) (hb' : b < 1099511627776) (hc : 0 ≤ c) (hc' : c < 256) :
    bits .or .u64 (bits .or .u64 (bits .or .u64 0 (IntKind.u64.wrap (IntKind.u64.wrap a))) (IntKind.u64.wrap (IntKind.u64.wrap b * 65536))) (IntKind.u64.wrap (IntKind.u64.wrap c * 72057594037927936)) = a + b * 65536 + c * 72057594037927936 := by
  rw [wu a (by omega) (by omega), wu a (by omega) (by omega), wu b (by omega) (by omega), wu (b * 65536) (by omega) (by omega), wu c (by omega) (by omega), wu (c * 72057594037927936) (by omega) (by omega)]
  rw [or_up 0 0 a (by omega) (by omega) (by omega) (by omega) (by omega) (by omega), or_up 16 (0 + a) (b * 65536) (by omega) (by omega) (by omega) (by omega) (by omega) (by omega), or_up 56 (0 + a + b * 65536) (c * 72057594037927936) (by omega) (by omega) (by omega) (by omega) (by omega) (by omega)]
  omega
theorem raw_ref {i g : Int} (m : Bool) (h : -1 ≤ i ∧ i ≤ 65534 ∧ 0 ≤ g ∧ g ≤ 4294967295) : bits .or .u64 (i + 1) (IntKind.u64.wrap (IntKind.u64.wrap g * 65536)) = i + 1 + g * 65536 ∧ setMark (i + 1 + g * 65536) m = i + 1 + g * 65536 + bitOf m * 9223372036854775808 := by
  constructor
  · rw [wu g (by omega) (by omega), wu (g * 65536) (by omega) (by omega), or_up 16 (i + 1) (g * 65536) (by omega) (by omega) (by omega) (by omega) (by omega) (by omega)]
  · unfold setMark bitOf; cases m <;> simp <;> omega
theorem raw_top {i g : Int} (h : -1 ≤ i ∧ i ≤ 65534 ∧ 0 ≤ g ∧ g ≤ 281474976710655) : bits .or .u64 (i + 1) (IntKind.u64.wrap (IntKind.u64.wrap g * 65536)) = i + 1 + g * 65536 := by
  rw [wu g (by omega) (by omega), wu (g * 65536) (by omega) (by omega), or_up 16 (i + 1) (g * 65536) (by omega) (by omega) (by omega) (by omega) (by omega) (by omega)]
theorem raw_slot {l v : Int} (h : 0 ≤ l ∧ l ≤ 4294967295 ∧ 0 ≤ v ∧ v ≤ 65535) : bits .or .u64 (bits .or .u64 (IntKind.u64.wrap (IntKind.u64.wrap l * 4294967296)) 65536) (IntKind.u64.wrap v) = v + bitOf true * 65536 + l * 4294967296 := by
  rw [wu l (by omega) (by omega), wu (l * 4294967296) (by omega) (by omega), wu v (by omega) (by omega), or_down 32 65536 (l * 4294967296) (by omega) (by omega) (by omega) (by omega) (by omega) (by omega), or_down 16 v (l * 4294967296 + 65536) (by omega) (by omega) (by omega) (by omega) (by omega) (by omega)]
  show _ = v + 1 * 65536 + _; omega
theorem raw_slot' {l v : Int} (h : 0 ≤ l ∧ l ≤ 4294967295) (h' : v = 0) : IntKind.u64.wrap (IntKind.u64.wrap l * 4294967296) = v + bitOf false * 65536 + l * 4294967296 := by
  rw [wu l (by omega) (by omega), wu (l * 4294967296) (by omega) (by omega)]
  show _ = v + 0 * 65536 + _; omega
theorem raw_key {p s r : Int} (h : 0 ≤ p ∧ p ≤ 254 ∧ 0 ≤ s ∧ s ≤ 1099511627775 ∧ 0 ≤ r ∧ r ≤ 65535) : bits .or .u64 (bits .or .u64 (IntKind.u64.wrap (IntKind.u64.wrap p * 72057594037927936)) (IntKind.u64.wrap (IntKind.u64.wrap s * 65536))) (IntKind.u64.wrap r) = r + s * 65536 + p * 72057594037927936 := by
  rw [wu p (by omega) (by omega), wu (p * 72057594037927936) (by omega) (by omega), wu s (by omega) (by omega), wu (s * 65536) (by omega) (by omega), wu r (by omega) (by omega), or_down 56 (s * 65536) (p * 72057594037927936) (by omega) (by omega) (by omega) (by omega) (by omega) (by omega), or_down 16 r (p * 72057594037927936 + s * 65536) (by omega) (by omega) (by omega) (by omega) (by omega) (by omega)]
  omega
theorem pair_yes {x : Int × Int} {w : Int} (h : (x == (w, 0)) = true) : x = (w, 0) := by simpa using h
theorem pair_no {x : Int × Int} {w : Int} (h : (x == (w, 0)) = false) : x.2 ≠ 0 ∨ x.2 = 0 ∧ x.1 ≠ w := by
  obtain ⟨a, b⟩ := x
  by_cases hb : b = 0
  · right; refine ⟨hb, fun e => ?_⟩; subst hb; rw [show a = w from e] at h; simp at h
  · left; exact hb
theorem top_good (n : Int) (h0 : 0 ≤ n) (h1 : n < 18446744073709551616) : putTop (rIdx n) (tTag n) = (n, 0) := by
  unfold rIdx tTag
  rw [putTop_good (by omega), show n % 65536 - 1 + 1 + n / 65536 % 281474976710656 * 65536 = n by omega]
theorem key_word (n : Int) (h0 : 0 ≤ n) (h1 : n < 18446744073709551616) (h : (putKey (kPrio n) (kSeq n) (sVal n)).2 = 0) : (putKey (kPrio n) (kSeq n) (sVal n)).1 = n := by
  unfold kPrio kSeq sVal at *
  by_cases hr : 0 ≤ n / 72057594037927936 % 256 ∧ n / 72057594037927936 % 256 ≤ 254 ∧ 0 ≤ n / 65536 % 1099511627776 ∧ n / 65536 % 1099511627776 ≤ 1099511627775 ∧ 0 ≤ n % 65536 ∧ n % 65536 ≤ 65535
  · rw [putKey_good hr]; show n % 65536 + n / 65536 % 1099511627776 * 65536 + n / 72057594037927936 % 256 * 72057594037927936 = n; omega
  · rw [putKey_bad hr] at h; exact absurd (show (3 : Int) = 0 from h) (by decide)
theorem rIdx_lo (n : Int) : -1 ≤ rIdx n := by unfold rIdx; omega
theorem rIdx_hi (n : Int) : rIdx n ≤ 65534 := by unfold rIdx; omega
end Go.Proofs.YtlfdiffbepfgbaaGreat.Wo

namespace Go.Proofs.YtlfdiffbepfgbaaGreat
open Go.RowKit

structure Kept (w w' : World) : Prop where
  below : Below w.heap.size w w'

theorem Kept.refl (w : World) : Kept w w := ⟨Below.refl _ _⟩
theorem Kept.trans {a b c : World} (h : Kept a b) (k : Kept b c) : Kept a c :=
  ⟨h.below.trans (k.below.mono h.below.size)⟩
theorem Kept.alloc {a w : World} (h : Kept a w) (c : Array Value) (t : TypeId) : Kept a (w.alloc (.cells c t)) :=
  ⟨h.below.alloc h.below.size _⟩
theorem Kept.drew {a w : World} (h : Kept a w) : Kept a w.drew := ⟨h.below.drew⟩
theorem Kept.drewN {a w : World} (h : Kept a w) (n : Nat) : Kept a (w.drewN n) := ⟨h.below.trans ⟨rfl, rfl, rfl, Nat.le_refl _, fun _ _ => rfl⟩⟩
theorem Kept.setCell {a w : World} (h : Kept a w) {p : Addr} (hp : a.heap.size ≤ p.block) (v : Value) : Kept a (w.setCell p v) :=
  ⟨h.below.setCell hp v⟩
theorem Kept.froze {w w' : World} (h : Kept w w') (a : Addr) (ha : a.block < w.heap.size) : w'.frozen? a = w.frozen? a := World.frozen?_of_block (h.below.block _ ha)
theorem Kept.soft {w w' : World} (h : Kept w w') {b i : Nat} (hb : b < w.heap.size) (hf : w.frozen? ⟨b, i, none⟩ = false) : w'.frozen? ⟨b, i, none⟩ = false := (h.froze ⟨b, i, none⟩ hb).trans hf
theorem Kept.cell {w w' : World} (h : Kept w w') (b o : Nat) (hb : b < w.heap.size) : w'.cell? ⟨b, o, none⟩ = w.cell? ⟨b, o, none⟩ := h.below.cell (p := ⟨b, o, none⟩) hb
theorem Kept.size {w w' : World} (h : Kept w w') : w.heap.size ≤ w'.heap.size := h.below.size
theorem lt_of_cell {w : World} {b o : Nat} {v : Value} (h : w.cell? ⟨b, o, none⟩ = some v) : b < w.heap.size := World.block_lt_of_cell? w ⟨b, o, none⟩ h
theorem Kept.some {w w' : World} (h : Kept w w') {b o : Nat} {v : Value} (hc : w.cell? ⟨b, o, none⟩ = some v) : w'.cell? ⟨b, o, none⟩ = some v := by
  rw [h.cell b o (lt_of_cell hc)]; exact hc
theorem Kept.past {w w' : World} {x : Obj} (h : Kept (w.alloc x) w') {b o : Nat} {v : Value} (hc : w.cell? ⟨b, o, none⟩ = Option.some v) : w'.cell? ⟨b, o, none⟩ = Option.some v :=
  h.some (by rw [World.cell?_alloc_past _ _ _ (lt_of_cell hc)]; exact hc)
end Go.Proofs.YtlfdiffbepfgbaaGreat

namespace Go.Proofs.YtlfdiffbepfgbaaGreat
open Go.RowKit

structure But (S : Nat → Prop) (w w' : World) : Prop where
  os : w'.os = w.os
  tape : w'.tape = w.tape
  output : w'.output = w.output
  size : w.heap.size ≤ w'.heap.size
  block : ∀ k, k < w.heap.size → ¬ S k → w'.heap[k]? = w.heap[k]?
  froze : ∀ a, a.block < w.heap.size → w'.frozen? a = w.frozen? a

theorem Kept.but {w w' : World} (h : Kept w w') (S : Nat → Prop) : But S w w' :=
  ⟨h.below.os, h.below.tape, h.below.output, h.below.size, fun k hk _ => h.below.block k hk, h.froze⟩
theorem But.refl (S : Nat → Prop) (w : World) : But S w w := (Kept.refl w).but S
theorem But.mono {S T : Nat → Prop} {w w' : World} (h : But S w w') (hST : ∀ k, k < w.heap.size → S k → T k) : But T w w' :=
  ⟨h.os, h.tape, h.output, h.size, fun k hk hT => h.block k hk (fun hS => hT (hST k hk hS)), h.froze⟩
theorem But.trans {S T : Nat → Prop} {a b c : World} (h : But S a b) (k : But T b c) (hT : ∀ i, i < a.heap.size → T i → S i) : But S a c :=
  ⟨k.os.trans h.os, k.tape.trans h.tape, k.output.trans h.output, Nat.le_trans h.size k.size,
   fun i hi hS => (k.block i (Nat.lt_of_lt_of_le hi h.size) (fun ht => hS (hT i hi ht))).trans (h.block i hi hS), fun x hx => (k.froze x (Nat.lt_of_lt_of_le hx h.size)).trans (h.froze x hx)⟩
theorem But.then {S : Nat → Prop} {a b c : World} (h : But S a b) (k : Kept b c) : But S a c := h.trans (k.but S) (fun _ _ h => h)
theorem But.alloc {S : Nat → Prop} {a w : World} (h : But S a w) (c : Array Value) (t : TypeId) : But S a (w.alloc (.cells c t)) := h.then ((Kept.refl w).alloc c t)
theorem But.drew {S : Nat → Prop} {a w : World} (h : But S a w) : But S a w.drew := h.then (Kept.refl w).drew
theorem But.drewN {S : Nat → Prop} {a w : World} (h : But S a w) (n : Nat) : But S a (w.drewN n) := h.then ((Kept.refl w).drewN n)
theorem But.setCell {S : Nat → Prop} {a w : World} (h : But S a w) {p : Addr} (hp : S p.block ∨ a.heap.size ≤ p.block) (v : Value) : But S a (w.setCell p v) :=
  ⟨h.os, h.tape, h.output, by simpa using h.size, fun k hk hS => by
    rw [Below.heap_setCell _ _ _ _ (by
      rcases hp with hp | hp
      · intro e; subst e; exact hS hp
      · omega)]
    exact h.block k hk hS, fun x hx => (World.frozen?_setCell _ _ _ _).trans (h.froze x hx)⟩
theorem But.cell {S : Nat → Prop} {w w' : World} (h : But S w w') (b o : Nat) (hb : b < w.heap.size) (hS : ¬ S b) : w'.cell? ⟨b, o, none⟩ = w.cell? ⟨b, o, none⟩ :=
  World.cell?_of_block (w := w) (h.block b hb hS)
theorem But.some {S : Nat → Prop} {w w' : World} (h : But S w w') {b o : Nat} {v : Value} (hc : w.cell? ⟨b, o, none⟩ = Option.some v) (hS : ¬ S b) : w'.cell? ⟨b, o, none⟩ = Option.some v := by
  rw [h.cell b o (lt_of_cell hc) hS]; exact hc
theorem But.soft {S : Nat → Prop} {w w' : World} (h : But S w w') {b i : Nat} (hb : b < w.heap.size) (hf : w.frozen? ⟨b, i, none⟩ = false) : w'.frozen? ⟨b, i, none⟩ = false := (h.froze ⟨b, i, none⟩ hb).trans hf
theorem But.kept {S : Nat → Prop} {w w' : World} (h : But S w w') (hS : ∀ k, k < w.heap.size → ¬ S k) : Kept w w' :=
  ⟨⟨h.os, h.tape, h.output, h.size, fun k hk => h.block k hk (hS k hk)⟩⟩

theorem cell_set (w : World) (b o o' : Nat) (v : Value) : (w.setCell ⟨b, o, none⟩ v).cell? ⟨b, o', none⟩ = if o = o' then (w.cell? ⟨b, o', none⟩).map (fun _ => v) else w.cell? ⟨b, o', none⟩ := by
  by_cases h : o = o'
  · subst h
    rw [if_pos rfl]
    cases hc : w.cell? ⟨b, o, none⟩ with
    | some u => exact World.cell?_setCell_same _ _ _ hc
    | none =>
      simp only [World.cell?, World.setCell, Array.getElem?_modify] at *
      cases hh : w.heap[b]? with
      | none => simp
      | some x =>
        cases x <;> simp_all
  · rw [if_neg h]
    exact World.cell?_setCell_other _ _ _ _ (by intro e; injection e; contradiction)
theorem cell_set_far (w : World) (b b' o o' : Nat) (v : Value) (h : b ≠ b') : (w.setCell ⟨b, o, none⟩ v).cell? ⟨b', o', none⟩ = w.cell? ⟨b', o', none⟩ :=
  World.cell?_setCell_other _ _ _ _ (by intro e; injection e; contradiction)
theorem cell_set_far' (w : World) (b b' o o' : Nat) (v : Value) (h : b' ≠ b) : (w.setCell ⟨b, o, none⟩ v).cell? ⟨b', o', none⟩ = w.cell? ⟨b', o', none⟩ :=
  cell_set_far _ _ _ _ _ _ (Ne.symm h)
theorem But.here {b : Nat} {a w : World} (h : But (fun k => k = b) a w) (o : Nat) (v : Value) : But (fun k => k = b) a (w.setCell ⟨b, o, none⟩ v) := h.setCell (p := ⟨b, o, none⟩) (Or.inl rfl) v
theorem cell_new (w : World) (C : Array Value) (t : TypeId) (n i : Nat) (h : n = w.heap.size) : (w.alloc (.cells C t)).cell? ⟨n, i, none⟩ = C[i]? := by
  subst h; simp
end Go.Proofs.YtlfdiffbepfgbaaGreat
