/- awake. -/
import Derived.Test.YteomggjkdaddhaaHeAwake
namespace Go.Proofs.Yteomggjkdaddhaa
open Go.RowKit

theorem lay_nothing (W : World) : Lay W (.slice none 0 0) 0 (flatI ((none : Option (List It)).getD [])) := .inl (.inl ⟨rfl, rfl, rfl⟩)
set_option maxRecDepth 100000 in
set_option maxHeartbeats 4000000 in
theorem awake_any (w : World) : Calls Try.prog 9 #[] w fun e w' => e = .returned (.bool true) ∧ Kept w w' := by
  go_enter Try.func9, Try.ntmps9
  go_wp2_with fail; refine (putOp_any 4 9 _).mono ?_; rintro e v1 ⟨rfl, k1⟩
  have K1 := Lib.hid k1
  clear k1
  go_wp2_with fail; refine (nexts_at ⟨4, 9, 0, 4⟩ ⟨0, 0, 0⟩ (some [⟨3, 7⟩, ⟨4, 9⟩, ⟨5, 8⟩]) (by decide) (lay_new (heap_alloc_new _ _) (by decide)) rfl (by decide) rfl).mono ?_; rintro e v2 ⟨rfl, k2⟩
  have K2 := Lib.hid ((K1.out.alloc _ _).trans k2)
  clear k2
  go_wp2_with fail; refine (nexts_at ⟨5, 0, 0, 0⟩ ⟨0, 7, 3⟩ (some [⟨5, 8⟩]) (by decide) (lay_new (heap_alloc_new _ _) (by decide)) rfl (by decide) rfl).mono ?_; rintro e v3 ⟨rfl, k3⟩
  have K3 := Lib.hid ((K2.out.alloc _ _).trans k3)
  clear k3
  go_wp2_with fail; refine (putOp_any 5 1 _).mono ?_; rintro e v4 ⟨rfl, k4⟩
  have K4 := Lib.hid (K3.out.trans k4)
  clear k4
  go_wp2_with fail; refine (nexts_at ⟨4, 1, 0, 5⟩ ⟨0, 0, 0⟩ none (by decide) (lay_nothing _) rfl (by decide) rfl).mono ?_; rintro e v5 ⟨rfl, k5⟩
  have K5 := Lib.hid (K4.out.trans k5)
  clear k5
  go_wp2
  go_ret
  exact ⟨rfl, K5.out⟩
end Go.Proofs.Yteomggjkdaddhaa
