/- DrawHeights, walked. -/
import Derived.Test.YtoanifflgmalkaaPair
import Derived.Deep.RegionHeld3
namespace Go.Proofs.Ytoanifflgmalkaa
open Go.RowKit

def HsRel (u : World) (len : Nat) (v i : Value) (wr : World) : Prop := ∃ k : Nat, k ≤ len ∧ v = .bool true ∧ i = .int .i64 k ∧ Kept u wr

set_option maxHeartbeats 4000000 in
theorem heightsLaw_any {w : World} {a : Option Addr} {len cap : Nat} {f : Nat → Int} (h : Row w a len cap f) (most : Int) (h3 : -9223372036854775808 ≤ most) (h4 : most ≤ 9223372036854775807) :
    Calls Try.prog 4 #[.slice a len cap, .int .i64 most] w fun e w' => e = .returned (.bool true) ∧ Kept w w' := by
  have H := Lib.hid h
  clear h
  by_cases hl : len ≤ 100
  · go_enter Try.func4, Try.ntmps4
    go_wp2_with fail; refine (copyInts_any a len cap f w (by omega) H.out).mono ?_; rintro e w1 ⟨b, C, rfl, k1, m1⟩
    have K1 := Lib.hid k1
    have M1 := Lib.hid m1
    clear k1 m1
    go_wp2_with fail; refine (heights_any (M1.out.row H.out.1) (by omega) most h3 h4).mono ?_; rintro e w2 ⟨b2, rfl, k2, m2⟩
    have K2 := Lib.hid k2
    have M2 := Lib.hid m2
    clear k2 m2
    go_wp2_with fail; refine (refHeights_any (H.out.kept (K1.out.trans K2.out)) (by omega) most h3 h4).mono ?_; rintro e w3 ⟨a3, C3, rfl, k3, r3⟩
    have K3 := Lib.hid k3
    have R3 := Lib.hid r3
    clear k3 r3
    go_wp2_with fail; refine (sameInts_yes _ _ len len C3 _ _ (by omega) (M2.out.reads.kept K3.out) R3.out).mono ?_; rintro e w4 ⟨rfl, k4⟩
    have K4 := Lib.hid k4
    clear k4
    have M4 := Lib.hid ((M2.out.kept K3.out).kept K4.out)
    go_wp2_with fail; refine (overInts_any b2 len len _ _ (by omega) M4.out.cell M4.out.old M4.out.soft).mono ?_; rintro e w5 ⟨rfl, k5⟩
    have K5 : Hid (Kept w w5) := Lib.hid ((((K1.out.trans K2.out).trans K3.out).trans K4.out).fresh k5 (by have := M2.out.new; have := K1.out.size; omega))
    have R5 : Hid (Reads w5 (some ⟨b, 0, none⟩) len f) := Lib.hid (.inr ⟨b, 0, rfl, fun i hi => by
      rw [Nat.zero_add]
      exact k5.some (K4.out.some (K3.out.some (K2.out.some (M1.out.cell i hi)))) (by have := M1.out.old; have := M2.out.new; omega)⟩)
    clear k5
    go_wp2
    go_loopw [7, 8] (HsRel w5 len) (fun _ i _ => len - (intOf i).toNat)
    case atStart => exact ⟨0, Nat.zero_le _, rfl, rfl, Kept.refl _⟩
    case round =>
      obtain ⟨k, hk, rfl, rfl, hK⟩ := hrel
      have K6 := Lib.hid hK
      clear hK
      by_cases hlt : k < len
      · obtain ⟨q, o, rfl, hcc⟩ := H.out.reads.resolve_left (show ¬ len = 0 by omega)
        have c0 : wr.cell? ⟨q, o + k, none⟩ = some (.int .i64 (f k)) := K6.out.some (K5.out.some (hcc k hlt))
        clear hcc
        have l1 := H.out.1.lo k
        have l2 := H.out.1.hi k
        have l3 := H.out.2.1
        have l4 := H.out.2.2.1
        unfold maxLen at l4
        go_wp2_with fail
        go_region_held3 (fun w' => w'.cell? ⟨q, o + k, none⟩ = some (.int .i64 (f k))) (first | assumption | go_keep) (first | (go_at_call 26; refine (height_any (f k) most l1 l2 h3 h4 _).mono ?_; rintro e w' ⟨rfl, rfl⟩) | (go_at_call 18; refine (refHeight_any (f k) most l1 l2 h3 h4 _).mono ?_; rintro e w' ⟨rfl, rfl⟩))
        go_wp2
        go_roundw
        case rel => exact ⟨k + 1, by omega, rfl, by go_num, K6.out.drew⟩
        case measure => simp [intOf]; omega
      · obtain rfl : k = len := by omega
        go_wp2_with fail; refine (sameInts_yes _ _ k C cap f _ (by omega) (R5.out.kept K6.out) (H.out.reads.kept (K5.out.trans K6.out))).mono ?_; rintro e w7 ⟨rfl, k7⟩
        have K7 := Lib.hid k7
        clear k7
        go_wp2_with fail; refine (awake_any _).mono ?_; rintro e w8 ⟨rfl, k8⟩
        go_wp2
        go_ret
        exact ⟨rfl, ((K5.out.trans K6.out).trans K7.out).trans k8⟩
  · go_enter Try.func4, Try.ntmps4
    go_wp2_with fail; refine (awake_any _).mono ?_; rintro e w1 ⟨rfl, k1⟩
    go_wp2
    go_ret
    exact ⟨rfl, k1⟩
end Go.Proofs.Ytoanifflgmalkaa
