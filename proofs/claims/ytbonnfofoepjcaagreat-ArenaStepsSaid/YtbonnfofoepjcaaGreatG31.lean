/- ArenaSteps: where the statement's guard lets go, and all of it. Written by gen11y.py. -/
import Derived.Test.YtbonnfofoepjcaaGreatG30
import Derived.Test.YtbonnfofoepjcaaGreatG19
set_option linter.unusedVariables false
set_option linter.unusedSimpArgs false

namespace Go.Proofs.YtbonnfofoepjcaaGreat.Sk
set_option maxRecDepth 100000
open Go.RowKit
open Wo (St acc wordAt PMem RefIs)

set_option maxHeartbeats 4000000 in
theorem aearly_fits (A : Arn) (sz : Int) (a2 a3 : Option Addr) (m2 m3 c2 c3 : Nat) (w : World) (hG : -9223372036854775808 ≤ A.G ∧ A.G ≤ 9223372036854775807) (hV : -9223372036854775808 ≤ A.V ∧ A.V ≤ 9223372036854775807) (f : Int) (hF : fitsA A sz = f) (hf : (f != 0) = true) :
    Calls Tryz.prog 3 #[.agg #[.int .i64 A.F.T, .int .i64 A.F.K, .int .i64 A.F.N, .int .i64 A.G, .int .i64 A.V, .int .i64 A.L], .int .i64 sz, .slice a2 m2 c2, .slice a3 m3 c3] w fun e w' => e = .returned (.bool true) ∧ Kept w w' := by
  have FP : ∀ W, Hid (Calls Tryz.prog 11 #[.agg #[.int .i64 A.F.T, .int .i64 A.F.K, .int .i64 A.F.N, .int .i64 A.G, .int .i64 A.V, .int .i64 A.L], .int .i64 sz] W fun e w' => e = .returned (.int .i64 f) ∧ Kept W w') := fun W => Lib.hid (by have h := pfitsA_any A sz W; rw [hF] at h; exact h)
  have FR : ∀ W, Hid (Calls Tryz.prog 12 #[.agg #[.int .i64 A.F.T, .int .i64 A.F.K, .int .i64 A.F.N, .int .i64 A.G, .int .i64 A.V, .int .i64 A.L], .int .i64 sz] W fun e w' => e = .returned (.int .i64 f) ∧ Kept W w') := fun W => Lib.hid (by have h := rfitsA_any A sz W hG hV; rw [hF] at h; exact h)
  clear hF hG hV
  go_enter Tryz.func3, Tryz.ntmps3
  go_upto_region 1 with fail
  obtain ⟨W1, hW1⟩ : ∃ W1, W1 = w.alloc (.cells #[.int .i64 A.F.T, .int .i64 A.F.K, .int .i64 A.F.N, .int .i64 A.G, .int .i64 A.V, .int .i64 A.L] 25) := ⟨_, rfl⟩
  have t0 : W1.cell? ⟨w.heap.size, 0, none⟩ = some (.int .i64 A.F.T) := by rw [hW1]; exact cell_new w _ _ _ 0 rfl
  have t1 : W1.cell? ⟨w.heap.size, 1, none⟩ = some (.int .i64 A.F.K) := by rw [hW1]; exact cell_new w _ _ _ 1 rfl
  have t2 : W1.cell? ⟨w.heap.size, 2, none⟩ = some (.int .i64 A.F.N) := by rw [hW1]; exact cell_new w _ _ _ 2 rfl
  have t3 : W1.cell? ⟨w.heap.size, 3, none⟩ = some (.int .i64 A.G) := by rw [hW1]; exact cell_new w _ _ _ 3 rfl
  have t4 : W1.cell? ⟨w.heap.size, 4, none⟩ = some (.int .i64 A.V) := by rw [hW1]; exact cell_new w _ _ _ 4 rfl
  have t5 : W1.cell? ⟨w.heap.size, 5, none⟩ = some (.int .i64 A.L) := by rw [hW1]; exact cell_new w _ _ _ 5 rfl
  have k1 : Kept w W1 := by rw [hW1]; exact (Kept.refl w).alloc _ _
  rw [← hW1]
  have K1 := Lib.hid k1
  clear hW1 k1
  go_region_held3 (fun w' => w'.cell? ⟨w.heap.size, 0, none⟩ = some (.int .i64 A.F.T) ∧ w'.cell? ⟨w.heap.size, 1, none⟩ = some (.int .i64 A.F.K) ∧ w'.cell? ⟨w.heap.size, 2, none⟩ = some (.int .i64 A.F.N) ∧ w'.cell? ⟨w.heap.size, 3, none⟩ = some (.int .i64 A.G) ∧ w'.cell? ⟨w.heap.size, 4, none⟩ = some (.int .i64 A.V) ∧ w'.cell? ⟨w.heap.size, 5, none⟩ = some (.int .i64 A.L)) (first | go_keep | (exact ⟨k2.some t0, k2.some t1, k2.some t2, k2.some t3, k2.some t4, k2.some t5⟩) | (exact ⟨d0, d1, d2, d3, d4, d5⟩)) (first
    | (go_at_call 11; refine (FP _).out.mono ?_; rintro e w2 ⟨rfl, k2⟩; have KT : Kept W1 w2 := Kept.trans (b := _) (by first | exact Kept.refl _ | exact (Kept.refl _).drew | exact (Kept.refl _).drewN _) k2)
    | (go_at_call 12; refine (FR _).out.mono ?_; rintro e w3 ⟨rfl, k3⟩; have KU : Kept W1 w3 := Kept.trans (b := _) (by first | exact KT | exact KT.drew | exact KT.drewN _) k3; have d0 := KU.some t0; have d1 := KU.some t1; have d2 := KU.some t2; have d3 := KU.some t3; have d4 := KU.some t4; have d5 := KU.some t5))
  have K3 := Lib.hid (K1.out.trans KU)
  clear t0 t1 t2 t3 t4 t5 k2 k3 KT KU K1
  rename_i hcells
  clear hcells
  go_wp2_with fail
  refine (FR _).out.mono ?_
  rintro e w4 ⟨rfl, k4⟩
  have t2 := k4.some d2
  have K4 := Lib.hid (K3.out.trans k4)
  clear d0 d1 d2 d3 d4 d5 k4
  go_wp2_with fail
  refine (aawake_any _).mono ?_
  rintro e w5 ⟨rfl, k5⟩
  go_wp2
  go_ret
  exact ⟨rfl, K4.out.trans k5⟩

set_option maxHeartbeats 4000000 in
theorem aearly_size (A : Arn) (sz : Int) (a2 a3 : Option Addr) (m2 m3 c2 c3 : Nat) (w : World) (hG : -9223372036854775808 ≤ A.G ∧ A.G ≤ 9223372036854775807) (hV : -9223372036854775808 ≤ A.V ∧ A.V ≤ 9223372036854775807) (hF : fitsA A sz = 0) (g0 : 12 < A.F.N) :
    Calls Tryz.prog 3 #[.agg #[.int .i64 A.F.T, .int .i64 A.F.K, .int .i64 A.F.N, .int .i64 A.G, .int .i64 A.V, .int .i64 A.L], .int .i64 sz, .slice a2 m2 c2, .slice a3 m3 c3] w fun e w' => e = .returned (.bool true) ∧ Kept w w' := by
  have FP : ∀ W, Hid (Calls Tryz.prog 11 #[.agg #[.int .i64 A.F.T, .int .i64 A.F.K, .int .i64 A.F.N, .int .i64 A.G, .int .i64 A.V, .int .i64 A.L], .int .i64 sz] W fun e w' => e = .returned (.int .i64 0) ∧ Kept W w') := fun W => Lib.hid (by have h := pfitsA_any A sz W; rw [hF] at h; exact h)
  have FR : ∀ W, Hid (Calls Tryz.prog 12 #[.agg #[.int .i64 A.F.T, .int .i64 A.F.K, .int .i64 A.F.N, .int .i64 A.G, .int .i64 A.V, .int .i64 A.L], .int .i64 sz] W fun e w' => e = .returned (.int .i64 0) ∧ Kept W w') := fun W => Lib.hid (by have h := rfitsA_any A sz W hG hV; rw [hF] at h; exact h)
  clear hF hG hV
  go_enter Tryz.func3, Tryz.ntmps3
  go_upto_region 1 with fail
  obtain ⟨W1, hW1⟩ : ∃ W1, W1 = w.alloc (.cells #[.int .i64 A.F.T, .int .i64 A.F.K, .int .i64 A.F.N, .int .i64 A.G, .int .i64 A.V, .int .i64 A.L] 25) := ⟨_, rfl⟩
  have t0 : W1.cell? ⟨w.heap.size, 0, none⟩ = some (.int .i64 A.F.T) := by rw [hW1]; exact cell_new w _ _ _ 0 rfl
  have t1 : W1.cell? ⟨w.heap.size, 1, none⟩ = some (.int .i64 A.F.K) := by rw [hW1]; exact cell_new w _ _ _ 1 rfl
  have t2 : W1.cell? ⟨w.heap.size, 2, none⟩ = some (.int .i64 A.F.N) := by rw [hW1]; exact cell_new w _ _ _ 2 rfl
  have t3 : W1.cell? ⟨w.heap.size, 3, none⟩ = some (.int .i64 A.G) := by rw [hW1]; exact cell_new w _ _ _ 3 rfl
  have t4 : W1.cell? ⟨w.heap.size, 4, none⟩ = some (.int .i64 A.V) := by rw [hW1]; exact cell_new w _ _ _ 4 rfl
  have t5 : W1.cell? ⟨w.heap.size, 5, none⟩ = some (.int .i64 A.L) := by rw [hW1]; exact cell_new w _ _ _ 5 rfl
  have k1 : Kept w W1 := by rw [hW1]; exact (Kept.refl w).alloc _ _
  rw [← hW1]
  have K1 := Lib.hid k1
  clear hW1 k1
  go_region_held3 (fun w' => w'.cell? ⟨w.heap.size, 0, none⟩ = some (.int .i64 A.F.T) ∧ w'.cell? ⟨w.heap.size, 1, none⟩ = some (.int .i64 A.F.K) ∧ w'.cell? ⟨w.heap.size, 2, none⟩ = some (.int .i64 A.F.N) ∧ w'.cell? ⟨w.heap.size, 3, none⟩ = some (.int .i64 A.G) ∧ w'.cell? ⟨w.heap.size, 4, none⟩ = some (.int .i64 A.V) ∧ w'.cell? ⟨w.heap.size, 5, none⟩ = some (.int .i64 A.L)) (first | go_keep | (exact ⟨k2.some t0, k2.some t1, k2.some t2, k2.some t3, k2.some t4, k2.some t5⟩) | (exact ⟨d0, d1, d2, d3, d4, d5⟩)) (first
    | (go_at_call 11; refine (FP _).out.mono ?_; rintro e w2 ⟨rfl, k2⟩; have KT : Kept W1 w2 := Kept.trans (b := _) (by first | exact Kept.refl _ | exact (Kept.refl _).drew | exact (Kept.refl _).drewN _) k2)
    | (go_at_call 12; refine (FR _).out.mono ?_; rintro e w3 ⟨rfl, k3⟩; have KU : Kept W1 w3 := Kept.trans (b := _) (by first | exact KT | exact KT.drew | exact KT.drewN _) k3; have d0 := KU.some t0; have d1 := KU.some t1; have d2 := KU.some t2; have d3 := KU.some t3; have d4 := KU.some t4; have d5 := KU.some t5))
  have K3 := Lib.hid (K1.out.trans KU)
  clear t0 t1 t2 t3 t4 t5 k2 k3 KT KU K1
  rename_i hcells
  clear hcells
  go_wp2_with fail
  refine (FR _).out.mono ?_
  rintro e w4 ⟨rfl, k4⟩
  have t2 := k4.some d2
  have K4 := Lib.hid (K3.out.trans k4)
  clear d0 d1 d2 d3 d4 d5 k4
  go_wp2_with fail
  refine (aawake_any _).mono ?_
  rintro e w5 ⟨rfl, k5⟩
  go_wp2
  go_ret
  exact ⟨rfl, K4.out.trans k5⟩

set_option maxHeartbeats 4000000 in
theorem aearly_wide (A : Arn) (sz : Int) (a2 a3 : Option Addr) (m2 m3 c2 c3 : Nat) (w : World) (hG : -9223372036854775808 ≤ A.G ∧ A.G ≤ 9223372036854775807) (hV : -9223372036854775808 ≤ A.V ∧ A.V ≤ 9223372036854775807) (hF : fitsA A sz = 0) (g0 : A.F.N ≤ 12) (g1 : 64 < sz) :
    Calls Tryz.prog 3 #[.agg #[.int .i64 A.F.T, .int .i64 A.F.K, .int .i64 A.F.N, .int .i64 A.G, .int .i64 A.V, .int .i64 A.L], .int .i64 sz, .slice a2 m2 c2, .slice a3 m3 c3] w fun e w' => e = .returned (.bool true) ∧ Kept w w' := by
  have FP : ∀ W, Hid (Calls Tryz.prog 11 #[.agg #[.int .i64 A.F.T, .int .i64 A.F.K, .int .i64 A.F.N, .int .i64 A.G, .int .i64 A.V, .int .i64 A.L], .int .i64 sz] W fun e w' => e = .returned (.int .i64 0) ∧ Kept W w') := fun W => Lib.hid (by have h := pfitsA_any A sz W; rw [hF] at h; exact h)
  have FR : ∀ W, Hid (Calls Tryz.prog 12 #[.agg #[.int .i64 A.F.T, .int .i64 A.F.K, .int .i64 A.F.N, .int .i64 A.G, .int .i64 A.V, .int .i64 A.L], .int .i64 sz] W fun e w' => e = .returned (.int .i64 0) ∧ Kept W w') := fun W => Lib.hid (by have h := rfitsA_any A sz W hG hV; rw [hF] at h; exact h)
  clear hF hG hV
  go_enter Tryz.func3, Tryz.ntmps3
  go_upto_region 1 with fail
  obtain ⟨W1, hW1⟩ : ∃ W1, W1 = w.alloc (.cells #[.int .i64 A.F.T, .int .i64 A.F.K, .int .i64 A.F.N, .int .i64 A.G, .int .i64 A.V, .int .i64 A.L] 25) := ⟨_, rfl⟩
  have t0 : W1.cell? ⟨w.heap.size, 0, none⟩ = some (.int .i64 A.F.T) := by rw [hW1]; exact cell_new w _ _ _ 0 rfl
  have t1 : W1.cell? ⟨w.heap.size, 1, none⟩ = some (.int .i64 A.F.K) := by rw [hW1]; exact cell_new w _ _ _ 1 rfl
  have t2 : W1.cell? ⟨w.heap.size, 2, none⟩ = some (.int .i64 A.F.N) := by rw [hW1]; exact cell_new w _ _ _ 2 rfl
  have t3 : W1.cell? ⟨w.heap.size, 3, none⟩ = some (.int .i64 A.G) := by rw [hW1]; exact cell_new w _ _ _ 3 rfl
  have t4 : W1.cell? ⟨w.heap.size, 4, none⟩ = some (.int .i64 A.V) := by rw [hW1]; exact cell_new w _ _ _ 4 rfl
  have t5 : W1.cell? ⟨w.heap.size, 5, none⟩ = some (.int .i64 A.L) := by rw [hW1]; exact cell_new w _ _ _ 5 rfl
  have k1 : Kept w W1 := by rw [hW1]; exact (Kept.refl w).alloc _ _
  rw [← hW1]
  have K1 := Lib.hid k1
  clear hW1 k1
  go_region_held3 (fun w' => w'.cell? ⟨w.heap.size, 0, none⟩ = some (.int .i64 A.F.T) ∧ w'.cell? ⟨w.heap.size, 1, none⟩ = some (.int .i64 A.F.K) ∧ w'.cell? ⟨w.heap.size, 2, none⟩ = some (.int .i64 A.F.N) ∧ w'.cell? ⟨w.heap.size, 3, none⟩ = some (.int .i64 A.G) ∧ w'.cell? ⟨w.heap.size, 4, none⟩ = some (.int .i64 A.V) ∧ w'.cell? ⟨w.heap.size, 5, none⟩ = some (.int .i64 A.L)) (first | go_keep | (exact ⟨k2.some t0, k2.some t1, k2.some t2, k2.some t3, k2.some t4, k2.some t5⟩) | (exact ⟨d0, d1, d2, d3, d4, d5⟩)) (first
    | (go_at_call 11; refine (FP _).out.mono ?_; rintro e w2 ⟨rfl, k2⟩; have KT : Kept W1 w2 := Kept.trans (b := _) (by first | exact Kept.refl _ | exact (Kept.refl _).drew | exact (Kept.refl _).drewN _) k2)
    | (go_at_call 12; refine (FR _).out.mono ?_; rintro e w3 ⟨rfl, k3⟩; have KU : Kept W1 w3 := Kept.trans (b := _) (by first | exact KT | exact KT.drew | exact KT.drewN _) k3; have d0 := KU.some t0; have d1 := KU.some t1; have d2 := KU.some t2; have d3 := KU.some t3; have d4 := KU.some t4; have d5 := KU.some t5))
  have K3 := Lib.hid (K1.out.trans KU)
  clear t0 t1 t2 t3 t4 t5 k2 k3 KT KU K1
  rename_i hcells
  clear hcells
  go_wp2_with fail
  refine (FR _).out.mono ?_
  rintro e w4 ⟨rfl, k4⟩
  have t2 := k4.some d2
  have K4 := Lib.hid (K3.out.trans k4)
  clear d0 d1 d2 d3 d4 d5 k4
  go_wp2_with fail
  refine (aawake_any _).mono ?_
  rintro e w5 ⟨rfl, k5⟩
  go_wp2
  go_ret
  exact ⟨rfl, K4.out.trans k5⟩

set_option maxHeartbeats 4000000 in
theorem aearly_words (A : Arn) (sz : Int) (a2 a3 : Option Addr) (m2 m3 c2 c3 : Nat) (w : World) (hG : -9223372036854775808 ≤ A.G ∧ A.G ≤ 9223372036854775807) (hV : -9223372036854775808 ≤ A.V ∧ A.V ≤ 9223372036854775807) (hF : fitsA A sz = 0) (g0 : A.F.N ≤ 12) (g1 : sz ≤ 64) (g2 : (64 : Int) < m2) :
    Calls Tryz.prog 3 #[.agg #[.int .i64 A.F.T, .int .i64 A.F.K, .int .i64 A.F.N, .int .i64 A.G, .int .i64 A.V, .int .i64 A.L], .int .i64 sz, .slice a2 m2 c2, .slice a3 m3 c3] w fun e w' => e = .returned (.bool true) ∧ Kept w w' := by
  have FP : ∀ W, Hid (Calls Tryz.prog 11 #[.agg #[.int .i64 A.F.T, .int .i64 A.F.K, .int .i64 A.F.N, .int .i64 A.G, .int .i64 A.V, .int .i64 A.L], .int .i64 sz] W fun e w' => e = .returned (.int .i64 0) ∧ Kept W w') := fun W => Lib.hid (by have h := pfitsA_any A sz W; rw [hF] at h; exact h)
  have FR : ∀ W, Hid (Calls Tryz.prog 12 #[.agg #[.int .i64 A.F.T, .int .i64 A.F.K, .int .i64 A.F.N, .int .i64 A.G, .int .i64 A.V, .int .i64 A.L], .int .i64 sz] W fun e w' => e = .returned (.int .i64 0) ∧ Kept W w') := fun W => Lib.hid (by have h := rfitsA_any A sz W hG hV; rw [hF] at h; exact h)
  clear hF hG hV
  go_enter Tryz.func3, Tryz.ntmps3
  go_upto_region 1 with fail
  obtain ⟨W1, hW1⟩ : ∃ W1, W1 = w.alloc (.cells #[.int .i64 A.F.T, .int .i64 A.F.K, .int .i64 A.F.N, .int .i64 A.G, .int .i64 A.V, .int .i64 A.L] 25) := ⟨_, rfl⟩
  have t0 : W1.cell? ⟨w.heap.size, 0, none⟩ = some (.int .i64 A.F.T) := by rw [hW1]; exact cell_new w _ _ _ 0 rfl
  have t1 : W1.cell? ⟨w.heap.size, 1, none⟩ = some (.int .i64 A.F.K) := by rw [hW1]; exact cell_new w _ _ _ 1 rfl
  have t2 : W1.cell? ⟨w.heap.size, 2, none⟩ = some (.int .i64 A.F.N) := by rw [hW1]; exact cell_new w _ _ _ 2 rfl
  have t3 : W1.cell? ⟨w.heap.size, 3, none⟩ = some (.int .i64 A.G) := by rw [hW1]; exact cell_new w _ _ _ 3 rfl
  have t4 : W1.cell? ⟨w.heap.size, 4, none⟩ = some (.int .i64 A.V) := by rw [hW1]; exact cell_new w _ _ _ 4 rfl
  have t5 : W1.cell? ⟨w.heap.size, 5, none⟩ = some (.int .i64 A.L) := by rw [hW1]; exact cell_new w _ _ _ 5 rfl
  have k1 : Kept w W1 := by rw [hW1]; exact (Kept.refl w).alloc _ _
  rw [← hW1]
  have K1 := Lib.hid k1
  clear hW1 k1
  go_region_held3 (fun w' => w'.cell? ⟨w.heap.size, 0, none⟩ = some (.int .i64 A.F.T) ∧ w'.cell? ⟨w.heap.size, 1, none⟩ = some (.int .i64 A.F.K) ∧ w'.cell? ⟨w.heap.size, 2, none⟩ = some (.int .i64 A.F.N) ∧ w'.cell? ⟨w.heap.size, 3, none⟩ = some (.int .i64 A.G) ∧ w'.cell? ⟨w.heap.size, 4, none⟩ = some (.int .i64 A.V) ∧ w'.cell? ⟨w.heap.size, 5, none⟩ = some (.int .i64 A.L)) (first | go_keep | (exact ⟨k2.some t0, k2.some t1, k2.some t2, k2.some t3, k2.some t4, k2.some t5⟩) | (exact ⟨d0, d1, d2, d3, d4, d5⟩)) (first
    | (go_at_call 11; refine (FP _).out.mono ?_; rintro e w2 ⟨rfl, k2⟩; have KT : Kept W1 w2 := Kept.trans (b := _) (by first | exact Kept.refl _ | exact (Kept.refl _).drew | exact (Kept.refl _).drewN _) k2)
    | (go_at_call 12; refine (FR _).out.mono ?_; rintro e w3 ⟨rfl, k3⟩; have KU : Kept W1 w3 := Kept.trans (b := _) (by first | exact KT | exact KT.drew | exact KT.drewN _) k3; have d0 := KU.some t0; have d1 := KU.some t1; have d2 := KU.some t2; have d3 := KU.some t3; have d4 := KU.some t4; have d5 := KU.some t5))
  have K3 := Lib.hid (K1.out.trans KU)
  clear t0 t1 t2 t3 t4 t5 k2 k3 KT KU K1
  rename_i hcells
  clear hcells
  go_wp2_with fail
  refine (FR _).out.mono ?_
  rintro e w4 ⟨rfl, k4⟩
  have t2 := k4.some d2
  have K4 := Lib.hid (K3.out.trans k4)
  clear d0 d1 d2 d3 d4 d5 k4
  go_wp2_with fail
  refine (aawake_any _).mono ?_
  rintro e w5 ⟨rfl, k5⟩
  go_wp2
  go_ret
  exact ⟨rfl, K4.out.trans k5⟩

set_option maxHeartbeats 4000000 in
theorem aearly_acts (A : Arn) (sz : Int) (a2 a3 : Option Addr) (m2 m3 c2 c3 : Nat) (w : World) (hG : -9223372036854775808 ≤ A.G ∧ A.G ≤ 9223372036854775807) (hV : -9223372036854775808 ≤ A.V ∧ A.V ≤ 9223372036854775807) (hF : fitsA A sz = 0) (g0 : A.F.N ≤ 12) (g1 : sz ≤ 64) (g2 : (m2 : Int) ≤ 64) (g3 : (120 : Int) < m3) :
    Calls Tryz.prog 3 #[.agg #[.int .i64 A.F.T, .int .i64 A.F.K, .int .i64 A.F.N, .int .i64 A.G, .int .i64 A.V, .int .i64 A.L], .int .i64 sz, .slice a2 m2 c2, .slice a3 m3 c3] w fun e w' => e = .returned (.bool true) ∧ Kept w w' := by
  have FP : ∀ W, Hid (Calls Tryz.prog 11 #[.agg #[.int .i64 A.F.T, .int .i64 A.F.K, .int .i64 A.F.N, .int .i64 A.G, .int .i64 A.V, .int .i64 A.L], .int .i64 sz] W fun e w' => e = .returned (.int .i64 0) ∧ Kept W w') := fun W => Lib.hid (by have h := pfitsA_any A sz W; rw [hF] at h; exact h)
  have FR : ∀ W, Hid (Calls Tryz.prog 12 #[.agg #[.int .i64 A.F.T, .int .i64 A.F.K, .int .i64 A.F.N, .int .i64 A.G, .int .i64 A.V, .int .i64 A.L], .int .i64 sz] W fun e w' => e = .returned (.int .i64 0) ∧ Kept W w') := fun W => Lib.hid (by have h := rfitsA_any A sz W hG hV; rw [hF] at h; exact h)
  clear hF hG hV
  go_enter Tryz.func3, Tryz.ntmps3
  go_upto_region 1 with fail
  obtain ⟨W1, hW1⟩ : ∃ W1, W1 = w.alloc (.cells #[.int .i64 A.F.T, .int .i64 A.F.K, .int .i64 A.F.N, .int .i64 A.G, .int .i64 A.V, .int .i64 A.L] 25) := ⟨_, rfl⟩
  have t0 : W1.cell? ⟨w.heap.size, 0, none⟩ = some (.int .i64 A.F.T) := by rw [hW1]; exact cell_new w _ _ _ 0 rfl
  have t1 : W1.cell? ⟨w.heap.size, 1, none⟩ = some (.int .i64 A.F.K) := by rw [hW1]; exact cell_new w _ _ _ 1 rfl
  have t2 : W1.cell? ⟨w.heap.size, 2, none⟩ = some (.int .i64 A.F.N) := by rw [hW1]; exact cell_new w _ _ _ 2 rfl
  have t3 : W1.cell? ⟨w.heap.size, 3, none⟩ = some (.int .i64 A.G) := by rw [hW1]; exact cell_new w _ _ _ 3 rfl
  have t4 : W1.cell? ⟨w.heap.size, 4, none⟩ = some (.int .i64 A.V) := by rw [hW1]; exact cell_new w _ _ _ 4 rfl
  have t5 : W1.cell? ⟨w.heap.size, 5, none⟩ = some (.int .i64 A.L) := by rw [hW1]; exact cell_new w _ _ _ 5 rfl
  have k1 : Kept w W1 := by rw [hW1]; exact (Kept.refl w).alloc _ _
  rw [← hW1]
  have K1 := Lib.hid k1
  clear hW1 k1
  go_region_held3 (fun w' => w'.cell? ⟨w.heap.size, 0, none⟩ = some (.int .i64 A.F.T) ∧ w'.cell? ⟨w.heap.size, 1, none⟩ = some (.int .i64 A.F.K) ∧ w'.cell? ⟨w.heap.size, 2, none⟩ = some (.int .i64 A.F.N) ∧ w'.cell? ⟨w.heap.size, 3, none⟩ = some (.int .i64 A.G) ∧ w'.cell? ⟨w.heap.size, 4, none⟩ = some (.int .i64 A.V) ∧ w'.cell? ⟨w.heap.size, 5, none⟩ = some (.int .i64 A.L)) (first | go_keep | (exact ⟨k2.some t0, k2.some t1, k2.some t2, k2.some t3, k2.some t4, k2.some t5⟩) | (exact ⟨d0, d1, d2, d3, d4, d5⟩)) (first
    | (go_at_call 11; refine (FP _).out.mono ?_; rintro e w2 ⟨rfl, k2⟩; have KT : Kept W1 w2 := Kept.trans (b := _) (by first | exact Kept.refl _ | exact (Kept.refl _).drew | exact (Kept.refl _).drewN _) k2)
    | (go_at_call 12; refine (FR _).out.mono ?_; rintro e w3 ⟨rfl, k3⟩; have KU : Kept W1 w3 := Kept.trans (b := _) (by first | exact KT | exact KT.drew | exact KT.drewN _) k3; have d0 := KU.some t0; have d1 := KU.some t1; have d2 := KU.some t2; have d3 := KU.some t3; have d4 := KU.some t4; have d5 := KU.some t5))
  have K3 := Lib.hid (K1.out.trans KU)
  clear t0 t1 t2 t3 t4 t5 k2 k3 KT KU K1
  rename_i hcells
  clear hcells
  go_wp2_with fail
  refine (FR _).out.mono ?_
  rintro e w4 ⟨rfl, k4⟩
  have t2 := k4.some d2
  have K4 := Lib.hid (K3.out.trans k4)
  clear d0 d1 d2 d3 d4 d5 k4
  go_wp2_with fail
  refine (aawake_any _).mono ?_
  rintro e w5 ⟨rfl, k5⟩
  go_wp2
  go_ret
  exact ⟨rfl, K4.out.trans k5⟩

theorem asteps_any (T K N G V L sz : Int) (a2 a3 : Option Addr) (m2 m3 c2 c3 : Nat) (w : World) (hG : -9223372036854775808 ≤ G ∧ G ≤ 9223372036854775807) (hV : -9223372036854775808 ≤ V ∧ V ≤ 9223372036854775807)
    (h2 : ∃ l : List Int, l.length = m2 ∧ Lay w (.slice a2 m2 c2) m2 (words l) ∧ ∀ x ∈ l, 0 ≤ x ∧ x < 18446744073709551616) (h3 : ∃ l : List (Int × Int × Int), l.length = m3 ∧ Lay w (.slice a3 m3 c3) m3 (l.flatMap actc)) :
    Calls Tryz.prog 3 #[.agg #[.int .i64 T, .int .i64 K, .int .i64 N, .int .i64 G, .int .i64 V, .int .i64 L], .int .i64 sz, .slice a2 m2 c2, .slice a3 m3 c3] w fun e w' => e = .returned (.bool true) ∧ Kept w w' := by
  obtain ⟨li, rfl, h2, hr⟩ := h2
  obtain ⟨la, rfl, h3⟩ := h3
  by_cases hF : fitsA ⟨⟨T, K, N⟩, G, V, L⟩ sz = 0
  · by_cases g0 : N ≤ 12
    · by_cases g1 : sz ≤ 64
      · by_cases g2 : li.length ≤ 64
        · by_cases g3 : la.length ≤ 120
          · obtain ⟨_, hn, _⟩ := fitsA_ok hF
            obtain ⟨n, rfl⟩ := Int.eq_ofNat_of_zero_le (show 0 ≤ sz by omega)
            exact asteps_main ⟨⟨T, K, N⟩, G, V, L⟩ n li la a2 a3 c2 c3 w h2 hr h3 hF hG hV (by omega) g0 g2 g3
          · exact aearly_acts ⟨⟨T, K, N⟩, G, V, L⟩ sz a2 a3 _ _ c2 c3 w hG hV hF g0 g1 (by omega) (by omega)
        · exact aearly_words ⟨⟨T, K, N⟩, G, V, L⟩ sz a2 a3 _ _ c2 c3 w hG hV hF g0 g1 (by omega)
      · exact aearly_wide ⟨⟨T, K, N⟩, G, V, L⟩ sz a2 a3 _ _ c2 c3 w hG hV hF g0 (by omega)
    · exact aearly_size ⟨⟨T, K, N⟩, G, V, L⟩ sz a2 a3 _ _ c2 c3 w hG hV hF (show (12 : Int) < N by omega)
  · exact aearly_fits ⟨⟨T, K, N⟩, G, V, L⟩ sz a2 a3 _ _ c2 c3 w hG hV _ rfl (by simpa using hF)
end Go.Proofs.YtbonnfofoepjcaaGreat.Sk

namespace Go.Proofs.YtbonnfofoepjcaaGreat.Sk
open Go.RowKit
theorem asteps_law {cs : Array Value} {sz : Int} {a2 a3 : Option Addr} {m2 m3 c2 c3 : Nat} {W : World} (h : ∃ A : Arn, cs = (arcell A).toArray ∧ ArWf A)
    (h2 : ∃ l : List Int, l.length = m2 ∧ Lay W (.slice a2 m2 c2) m2 (words l) ∧ ∀ x ∈ l, 0 ≤ x ∧ x < 18446744073709551616) (h3 : ∃ l : List (Int × Int × Int), l.length = m3 ∧ Lay W (.slice a3 m3 c3) m3 (l.flatMap actc)) :
    Calls Tryz.prog 3 #[.agg cs, .int .i64 sz, .slice a2 m2 c2, .slice a3 m3 c3] W fun e w' => e = .returned (.bool true) ∧ Kept W w' := by
  obtain ⟨A, rfl, hA⟩ := h
  exact asteps_any A.F.T A.F.K A.F.N A.G A.V A.L sz a2 a3 m2 m3 c2 c3 W hA.1 hA.2 h2 h3
end Go.Proofs.YtbonnfofoepjcaaGreat.Sk
