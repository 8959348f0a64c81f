/- 'alike', over the model. -/
import Derived.Test.YtfndjklpjjcelaaDoes
namespace Go.Proofs.Ytfndjklpjjcelaa
open Go.RowKit

set_option maxHeartbeats 2000000 in
theorem alike_yes (C : Cells) (M M2 : Nat) (S S2 : Nat → Prop) (n : Nat) (s : St) (w : World) (hn : n ≤ 1000000) (hi : C.Is w M S n s) (hj : C.Is w M2 S2 n s) :
    Calls Try.prog 30 #[.pointer (some ⟨M, 0, none⟩), .pointer (some ⟨M2, 0, none⟩)] w fun e w' => e = .returned (.bool true) ∧ Kept w w' := by
  have HI : Hid (∀ w', Kept w w' → C.Is w' M S n s) := Lib.hid (fun w' h => C.frame hi (h.but (fun _ => False)) (fun _ _ h => h))
  have HJ : Hid (∀ w', Kept w w' → C.Is w' M2 S2 n s) := Lib.hid (fun w' h => C.frame hj (h.but (fun _ => False)) (fun _ _ h => h))
  clear hi hj
  go_enter Try.func30, Try.ntmps30
  go_wp2_with fail
  refine (C.last M S n s _ (HI.out _ (Kept.refl _))).mono ?_
  rintro e w1 ⟨rfl, k1⟩
  have c1 : Kept w w1 := (Kept.refl _).trans k1
  clear k1
  go_wp2_with fail
  refine (C.last M2 S2 n s _ (HJ.out _ c1)).mono ?_
  rintro e w2 ⟨rfl, k2⟩
  have c2 : Kept w w2 := c1.trans k2
  clear k2
  go_wp2_with fail
  refine (C.count M S n s _ (HI.out _ c2)).mono ?_
  rintro e w3 ⟨rfl, k3⟩
  have c3 : Kept w w3 := c2.trans k3
  clear k3
  go_wp2_with fail
  refine (C.count M2 S2 n s _ (HJ.out _ c3)).mono ?_
  rintro e w4 ⟨rfl, k4⟩
  have c4 : Kept w w4 := c3.trans k4
  clear k4
  go_wp2_with fail
  refine (C.size M S n s _ (HI.out _ c4)).mono ?_
  rintro e w5 ⟨rfl, k5⟩
  have c5 : Kept w w5 := c4.trans k5
  clear k5
  go_wp2_with fail
  refine (C.size M2 S2 n s _ (HJ.out _ c5)).mono ?_
  rintro e w6 ⟨rfl, k6⟩
  have c6 : Kept w w6 := c5.trans k6
  clear k6
  go_wp2_with fail
  refine (C.words M S n s _ (HI.out _ c6)).mono ?_
  rintro e w7 ⟨b, c, rfl, hb, hb', hw0, _, k7⟩
  have hw := Lib.hid hw0
  have c7 : Kept w w7 := c6.trans k7
  clear hw0 k7 hb
  go_wp2_with fail
  refine (C.words M2 S2 n s _ (HJ.out _ c7)).mono ?_
  rintro e w8 ⟨b2, c2, rfl, hb2, hb2', hw0, _, k8⟩
  have hv := Lib.hid hw0
  clear hw0 hb2
  go_wp2_with fail
  refine (sameWords_yes b 0 c b2 0 c2 n s.ws _ (by omega) (fun i hi => ?_) (fun i hi => ?_)).mono ?_
  · rw [Nat.zero_add]; exact k8.some (hw.out i hi)
  · rw [Nat.zero_add]; exact hv.out i hi
  rintro e w9 ⟨rfl, k9⟩
  go_wp2
  go_ret
  exact ⟨rfl, (c7.trans k8).trans k9⟩
end Go.Proofs.Ytfndjklpjjcelaa
