/- DrawSkips and DrawHeights, walked. -/
import Derived.Test.YtoanifflgmalkaaPair
import Derived.Deep.RegionHeld3
namespace Go.Proofs.Ytoanifflgmalkaa
open Go.RowKit

def SkRel (u : World) (D S : Nat) (a : Option Addr) (c : Nat) (D' S' : Nat) (a' : Option Addr) (c' len n : Nat) (f : Nat → Int) (i : Value) (wr : World) : Prop :=
  ∃ k : Nat, k ≤ n ∧ i = .int .i64 k ∧ Pair u wr D S a c 0 D' S' a' c' (min k len) len f
def TwRel (u : World) (D S : Nat) (a : Option Addr) (c : Nat) (D' S' : Nat) (a' : Option Addr) (c' len n : Nat) (f : Nat → Int) (i : Value) (wr : World) : Prop :=
  ∃ k : Nat, k ≤ len + 1 ∧ i = .int .i64 k ∧ Pair u wr D S a c (min (n + k) len) D' S' a' c' (min (n + k) len) len f

set_option maxHeartbeats 4000000 in
theorem skips_any {w : World} {a : Option Addr} {len cap : Nat} {f : Nat → Int} (h : Row w a len cap f) (x : Int) :
    Calls Try.prog 8 #[.slice a len cap, .int .i64 x] w fun e w' => e = .returned (.bool true) ∧ Kept w w' := by
  have H := Lib.hid h
  clear h
  by_cases hl : len ≤ 200
  · go_enter Try.func8, Try.ntmps8
    go_wp2_with fail; refine (known_any _).mono ?_; rintro e w1 ⟨rfl, k1⟩
    have K1 := Lib.hid k1
    clear k1
    go_wp2_with fail; refine (pick_any x 210 (by decide) (by decide) _).mono ?_; rintro e w2 ⟨rfl, rfl⟩
    obtain ⟨n, hn⟩ : ∃ n : Nat, x % 210 = n := ⟨(x % 210).toNat, by omega⟩
    have hn2 : n < 210 := by omega
    rw [hn]
    clear hn
    go_wp2_with fail; refine (new_held (H.out.kept K1.out) (by omega)).mono ?_; rintro e w3 ⟨D, S, a1, C1, rfl, hS, k3, h3⟩
    have H3 := Lib.hid h3
    have K3 := Lib.hid (K1.out.trans k3)
    have S3 := Lib.hid hS
    clear h3 k3 hS
    go_wp2_with fail; refine (new_held (H.out.kept K3.out) (by omega)).mono ?_; rintro e w4 ⟨D', S', a2, C2, rfl, hS', k4, h4⟩
    have hP : Pair w w4 D S a1 C1 0 D' S' a2 C2 0 len f := ⟨K3.out.trans k4, H3.out.kept k4, h4, by have := H3.out.lt.2; omega, by have := S3.out; have := K1.out.size; omega, by have := K3.out.size; omega⟩
    have P := Lib.hid hP
    clear hP h4 k4 hS'
    go_wp2
    go_loopw [10] (SkRel w D S a1 C1 D' S' a2 C2 len n f) (fun i _ => n - (intOf i).toNat)
    case atStart => exact ⟨0, Nat.zero_le _, rfl, by rw [Nat.zero_min]; exact P.out⟩
    case round =>
      obtain ⟨k, hk, rfl, hp⟩ := hrel
      have Q := Lib.hid hp
      clear hp
      by_cases hlt : k < n
      · go_wp2_with fail; refine (Q.out.nextB).mono ?_; rintro e w5 ⟨rfl, p5⟩
        have P5 := Lib.hid p5
        clear p5
        go_wp2
        go_roundw
        case rel => exact ⟨k + 1, by omega, by go_num, by rw [show min (k + 1) len = min k len + min 1 (len - min k len) by omega]; exact P5.out⟩
        case measure => simp [intOf]; omega
      · obtain rfl : k = n := by omega
        go_wp2_with fail; refine (Q.out.skipA k).mono ?_; rintro e w6 ⟨rfl, p6⟩
        have e0 : min (k : Int).toNat (len - 0) = min k len := by omega
        rw [e0] at p6 ⊢
        rw [Nat.zero_add] at p6
        have P6 := Lib.hid p6
        clear p6 e0
        have e1 : (if (len : Int) < (k : Int) then (len : Int) else (k : Int)) = ((min k len : Nat) : Int) := by split <;> omega
        by_cases hc : (len : Int) < k
        · have e2 : min k len = len := by omega
          rw [e2] at e1 ⊢
          have P6 : Hid (Pair w w6 D S a1 C1 len D' S' a2 C2 len len f) := Lib.hid (by have := P6.out; rw [e2] at this; exact this)
          clear e2
          go_wp2
          go_loopw [11] (TwRel w D S a1 C1 D' S' a2 C2 len k f) (fun i _ => len + 1 - (intOf i).toNat)
          case atStart => exact ⟨0, Nat.zero_le _, rfl, by rw [show min (k + 0) len = len by omega]; exact P6.out⟩
          case round =>
            obtain ⟨q, hq, rfl, hp⟩ := hrel
            have Q2 := Lib.hid hp
            clear hp
            by_cases hlt2 : q < len + 1
            · have hb : min (k + q) len ≤ len := Nat.min_le_right _ _
              obtain ⟨t, ht⟩ : ∃ t, t = min (k + q) len := ⟨_, rfl⟩
              have Q2 : Hid (Pair w wr D S a1 C1 t D' S' a2 C2 t len f) := Lib.hid (by rw [ht]; exact Q2.out)
              have HT := Lib.hid ht
              rw [← ht] at hb
              clear ht
              go_wp2_with fail; refine (Q2.out.leftA).mono ?_; rintro e v1 ⟨rfl, p1⟩
              have P1 := Lib.hid p1
              clear p1
              go_wp2_with fail; refine (P1.out.leftB).mono ?_; rintro e v2 ⟨rfl, p2⟩
              have P2 := Lib.hid p2
              clear p2
              go_wp2_with fail; refine (P2.out.nextA).mono ?_; rintro e v3 ⟨rfl, p3⟩
              have P3 := Lib.hid p3
              clear p3
              go_wp2_with fail; refine (P3.out.nextB).mono ?_; rintro e v4 ⟨rfl, p4⟩
              have P4 := Lib.hid p4
              clear p4
              go_wp2
              go_roundw
              case rel => exact ⟨q + 1, by omega, by go_num, by rw [show min (k + (q + 1)) len = t + min 1 (len - t) by have := HT.out; omega]; exact P4.out⟩
              case measure => simp [intOf]; omega
            · obtain rfl : q = len + 1 := by omega
              have Q3 : Hid (Pair w wr D S a1 C1 len D' S' a2 C2 len len f) := Lib.hid (by have := Q2.out; rw [show min (k + (len + 1)) len = len by omega] at this; exact this)
              go_wp2_with fail; refine (Q3.out.leftA).mono ?_; rintro e v5 ⟨rfl, p5⟩
              have P5 := Lib.hid p5
              clear p5
              go_wp2
              go_ret
              exact ⟨rfl, P5.out.kept⟩
        · have e2 : min k len = k := by omega
          rw [e2] at e1 ⊢
          have P6 : Hid (Pair w w6 D S a1 C1 k D' S' a2 C2 k len f) := Lib.hid (by have := P6.out; rw [e2] at this; exact this)
          clear e2
          go_wp2
          go_loopw [11] (TwRel w D S a1 C1 D' S' a2 C2 len k f) (fun i _ => len + 1 - (intOf i).toNat)
          case atStart => exact ⟨0, Nat.zero_le _, rfl, by rw [show min (k + 0) len = k by omega]; exact P6.out⟩
          case round =>
            obtain ⟨q, hq, rfl, hp⟩ := hrel
            have Q2 := Lib.hid hp
            clear hp
            by_cases hlt2 : q < len + 1
            · have hb : min (k + q) len ≤ len := Nat.min_le_right _ _
              obtain ⟨t, ht⟩ : ∃ t, t = min (k + q) len := ⟨_, rfl⟩
              have Q2 : Hid (Pair w wr D S a1 C1 t D' S' a2 C2 t len f) := Lib.hid (by rw [ht]; exact Q2.out)
              have HT := Lib.hid ht
              rw [← ht] at hb
              clear ht
              go_wp2_with fail; refine (Q2.out.leftA).mono ?_; rintro e v1 ⟨rfl, p1⟩
              have P1 := Lib.hid p1
              clear p1
              go_wp2_with fail; refine (P1.out.leftB).mono ?_; rintro e v2 ⟨rfl, p2⟩
              have P2 := Lib.hid p2
              clear p2
              go_wp2_with fail; refine (P2.out.nextA).mono ?_; rintro e v3 ⟨rfl, p3⟩
              have P3 := Lib.hid p3
              clear p3
              go_wp2_with fail; refine (P3.out.nextB).mono ?_; rintro e v4 ⟨rfl, p4⟩
              have P4 := Lib.hid p4
              clear p4
              go_wp2
              go_roundw
              case rel => exact ⟨q + 1, by omega, by go_num, by rw [show min (k + (q + 1)) len = t + min 1 (len - t) by have := HT.out; omega]; exact P4.out⟩
              case measure => simp [intOf]; omega
            · obtain rfl : q = len + 1 := by omega
              have Q3 : Hid (Pair w wr D S a1 C1 len D' S' a2 C2 len len f) := Lib.hid (by have := Q2.out; rw [show min (k + (len + 1)) len = len by omega] at this; exact this)
              go_wp2_with fail; refine (Q3.out.leftA).mono ?_; rintro e v5 ⟨rfl, p5⟩
              have P5 := Lib.hid p5
              clear p5
              go_wp2
              go_ret
              exact ⟨rfl, P5.out.kept⟩
  · go_enter Try.func8, Try.ntmps8
    go_wp2_with fail; refine (known_any _).mono ?_; rintro e w1 ⟨rfl, k1⟩
    go_wp2
    go_ret
    exact ⟨rfl, k1⟩
end Go.Proofs.Ytoanifflgmalkaa
