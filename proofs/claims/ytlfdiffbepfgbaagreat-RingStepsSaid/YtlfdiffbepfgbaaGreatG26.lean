/- RingSteps: where the statement's guard lets go, and all of it. Written by gen14y.py. -/
import Derived.Test.YtlfdiffbepfgbaaGreatG25
set_option linter.unusedVariables false
set_option linter.unusedSimpArgs false

namespace Go.Proofs.YtlfdiffbepfgbaaGreat.Ri
set_option maxRecDepth 100000
open Go.RowKit
open Wo (St acc wordAt PMem RefIs)
open Sk (Wd)

set_option maxHeartbeats 4000000 in
theorem early_fits (R : Rng) (sz : Int) (a2 a3 : Option Addr) (m2 m3 c2 c3 : Nat) (w : World) (f : Int) (hF : fitsR R sz = f) (hf : (f != 0) = true) :
    Calls Tryz.prog 9 #[ringV R, .int .i64 sz, .slice a2 m2 c2, .slice a3 m3 c3] w fun e w' => e = .returned (.bool true) ∧ Kept w w' := by
  have FP : ∀ W, Hid (Calls Tryz.prog 44 #[ringV R, .int .i64 sz] W fun e w' => e = .returned (.int .i64 f) ∧ Kept W w') := fun W => Lib.hid (by have h := pfits_any R sz W; rw [hF] at h; exact h)
  have FR : ∀ W, Hid (Calls Tryz.prog 45 #[ringV R, .int .i64 sz] W fun e w' => e = .returned (.int .i64 f) ∧ Kept W w') := fun W => Lib.hid (by have h := rfits_any R sz W; rw [hF] at h; exact h)
  clear hF
  go_enter Tryz.func9, Tryz.ntmps9
  go_upto_region 1 with fail
  obtain ⟨W1, hW1⟩ : ∃ W1, W1 = w.alloc (.cells #[.int .i64 R.H, .int .i64 R.T, .int .i64 R.K, .int .i64 R.N] 114) := ⟨_, rfl⟩
  have t0 : W1.cell? ⟨w.heap.size, 0, none⟩ = some (.int .i64 R.H) := by rw [hW1]; exact cell_new w _ _ _ 0 rfl
  have t1 : W1.cell? ⟨w.heap.size, 1, none⟩ = some (.int .i64 R.T) := by rw [hW1]; exact cell_new w _ _ _ 1 rfl
  have t2 : W1.cell? ⟨w.heap.size, 2, none⟩ = some (.int .i64 R.K) := by rw [hW1]; exact cell_new w _ _ _ 2 rfl
  have t3 : W1.cell? ⟨w.heap.size, 3, none⟩ = some (.int .i64 R.N) := by rw [hW1]; exact cell_new w _ _ _ 3 rfl
  have k1 : Kept w W1 := by rw [hW1]; exact (Kept.refl w).alloc _ _
  rw [← hW1]
  have K1 := Lib.hid k1
  clear hW1 k1
  go_region_held3 (fun w' => w'.cell? ⟨w.heap.size, 0, none⟩ = some (.int .i64 R.H) ∧ w'.cell? ⟨w.heap.size, 1, none⟩ = some (.int .i64 R.T) ∧ w'.cell? ⟨w.heap.size, 2, none⟩ = some (.int .i64 R.K) ∧ w'.cell? ⟨w.heap.size, 3, none⟩ = some (.int .i64 R.N)) (first | go_keep | (exact ⟨k2.some t0, k2.some t1, k2.some t2, k2.some t3⟩) | (exact ⟨d0, d1, d2, d3⟩)) (first
    | (go_at_call 44; refine (FP _).out.mono ?_; rintro e w2 ⟨rfl, k2⟩; have KT : Kept W1 w2 := Kept.trans (b := _) (by first | exact Kept.refl _ | exact (Kept.refl _).drew | exact (Kept.refl _).drewN _) k2)
    | (go_at_call 45; refine (FR _).out.mono ?_; rintro e w3 ⟨rfl, k3⟩; have KU : Kept W1 w3 := Kept.trans (b := _) (by first | exact KT | exact KT.drew | exact KT.drewN _) k3; have d0 := KU.some t0; have d1 := KU.some t1; have d2 := KU.some t2; have d3 := KU.some t3))
  have K3 := Lib.hid (K1.out.trans KU)
  clear t0 t1 t2 t3 k2 k3 KT KU K1
  rename_i hcells
  clear hcells
  go_wp2_with fail
  refine (FR _).out.mono ?_
  rintro e w4 ⟨rfl, k4⟩
  have t3 := k4.some d3
  have K4 := Lib.hid (K3.out.trans k4)
  clear d0 d1 d2 d3 k4
  go_wp2_with fail
  refine (awake_any _).mono ?_
  rintro e w5 ⟨rfl, k5⟩
  go_wp2
  go_ret
  exact ⟨rfl, K4.out.trans k5⟩

set_option maxHeartbeats 4000000 in
theorem early_slots (R : Rng) (sz : Int) (a2 a3 : Option Addr) (m2 m3 c2 c3 : Nat) (w : World) (hF : fitsR R sz = 0) (g0 : 20 < R.N) :
    Calls Tryz.prog 9 #[ringV R, .int .i64 sz, .slice a2 m2 c2, .slice a3 m3 c3] w fun e w' => e = .returned (.bool true) ∧ Kept w w' := by
  have FP : ∀ W, Hid (Calls Tryz.prog 44 #[ringV R, .int .i64 sz] W fun e w' => e = .returned (.int .i64 0) ∧ Kept W w') := fun W => Lib.hid (by have h := pfits_any R sz W; rw [hF] at h; exact h)
  have FR : ∀ W, Hid (Calls Tryz.prog 45 #[ringV R, .int .i64 sz] W fun e w' => e = .returned (.int .i64 0) ∧ Kept W w') := fun W => Lib.hid (by have h := rfits_any R sz W; rw [hF] at h; exact h)
  clear hF
  go_enter Tryz.func9, Tryz.ntmps9
  go_upto_region 1 with fail
  obtain ⟨W1, hW1⟩ : ∃ W1, W1 = w.alloc (.cells #[.int .i64 R.H, .int .i64 R.T, .int .i64 R.K, .int .i64 R.N] 114) := ⟨_, rfl⟩
  have t0 : W1.cell? ⟨w.heap.size, 0, none⟩ = some (.int .i64 R.H) := by rw [hW1]; exact cell_new w _ _ _ 0 rfl
  have t1 : W1.cell? ⟨w.heap.size, 1, none⟩ = some (.int .i64 R.T) := by rw [hW1]; exact cell_new w _ _ _ 1 rfl
  have t2 : W1.cell? ⟨w.heap.size, 2, none⟩ = some (.int .i64 R.K) := by rw [hW1]; exact cell_new w _ _ _ 2 rfl
  have t3 : W1.cell? ⟨w.heap.size, 3, none⟩ = some (.int .i64 R.N) := by rw [hW1]; exact cell_new w _ _ _ 3 rfl
  have k1 : Kept w W1 := by rw [hW1]; exact (Kept.refl w).alloc _ _
  rw [← hW1]
  have K1 := Lib.hid k1
  clear hW1 k1
  go_region_held3 (fun w' => w'.cell? ⟨w.heap.size, 0, none⟩ = some (.int .i64 R.H) ∧ w'.cell? ⟨w.heap.size, 1, none⟩ = some (.int .i64 R.T) ∧ w'.cell? ⟨w.heap.size, 2, none⟩ = some (.int .i64 R.K) ∧ w'.cell? ⟨w.heap.size, 3, none⟩ = some (.int .i64 R.N)) (first | go_keep | (exact ⟨k2.some t0, k2.some t1, k2.some t2, k2.some t3⟩) | (exact ⟨d0, d1, d2, d3⟩)) (first
    | (go_at_call 44; refine (FP _).out.mono ?_; rintro e w2 ⟨rfl, k2⟩; have KT : Kept W1 w2 := Kept.trans (b := _) (by first | exact Kept.refl _ | exact (Kept.refl _).drew | exact (Kept.refl _).drewN _) k2)
    | (go_at_call 45; refine (FR _).out.mono ?_; rintro e w3 ⟨rfl, k3⟩; have KU : Kept W1 w3 := Kept.trans (b := _) (by first | exact KT | exact KT.drew | exact KT.drewN _) k3; have d0 := KU.some t0; have d1 := KU.some t1; have d2 := KU.some t2; have d3 := KU.some t3))
  have K3 := Lib.hid (K1.out.trans KU)
  clear t0 t1 t2 t3 k2 k3 KT KU K1
  rename_i hcells
  clear hcells
  go_wp2_with fail
  refine (FR _).out.mono ?_
  rintro e w4 ⟨rfl, k4⟩
  have t3 := k4.some d3
  have K4 := Lib.hid (K3.out.trans k4)
  clear d0 d1 d2 d3 k4
  go_wp2_with fail
  refine (awake_any _).mono ?_
  rintro e w5 ⟨rfl, k5⟩
  go_wp2
  go_ret
  exact ⟨rfl, K4.out.trans k5⟩

set_option maxHeartbeats 4000000 in
theorem early_wide (R : Rng) (sz : Int) (a2 a3 : Option Addr) (m2 m3 c2 c3 : Nat) (w : World) (hF : fitsR R sz = 0) (g0 : R.N ≤ 20) (g1 : 60 < sz) :
    Calls Tryz.prog 9 #[ringV R, .int .i64 sz, .slice a2 m2 c2, .slice a3 m3 c3] w fun e w' => e = .returned (.bool true) ∧ Kept w w' := by
  have FP : ∀ W, Hid (Calls Tryz.prog 44 #[ringV R, .int .i64 sz] W fun e w' => e = .returned (.int .i64 0) ∧ Kept W w') := fun W => Lib.hid (by have h := pfits_any R sz W; rw [hF] at h; exact h)
  have FR : ∀ W, Hid (Calls Tryz.prog 45 #[ringV R, .int .i64 sz] W fun e w' => e = .returned (.int .i64 0) ∧ Kept W w') := fun W => Lib.hid (by have h := rfits_any R sz W; rw [hF] at h; exact h)
  clear hF
  go_enter Tryz.func9, Tryz.ntmps9
  go_upto_region 1 with fail
  obtain ⟨W1, hW1⟩ : ∃ W1, W1 = w.alloc (.cells #[.int .i64 R.H, .int .i64 R.T, .int .i64 R.K, .int .i64 R.N] 114) := ⟨_, rfl⟩
  have t0 : W1.cell? ⟨w.heap.size, 0, none⟩ = some (.int .i64 R.H) := by rw [hW1]; exact cell_new w _ _ _ 0 rfl
  have t1 : W1.cell? ⟨w.heap.size, 1, none⟩ = some (.int .i64 R.T) := by rw [hW1]; exact cell_new w _ _ _ 1 rfl
  have t2 : W1.cell? ⟨w.heap.size, 2, none⟩ = some (.int .i64 R.K) := by rw [hW1]; exact cell_new w _ _ _ 2 rfl
  have t3 : W1.cell? ⟨w.heap.size, 3, none⟩ = some (.int .i64 R.N) := by rw [hW1]; exact cell_new w _ _ _ 3 rfl
  have k1 : Kept w W1 := by rw [hW1]; exact (Kept.refl w).alloc _ _
  rw [← hW1]
  have K1 := Lib.hid k1
  clear hW1 k1
  go_region_held3 (fun w' => w'.cell? ⟨w.heap.size, 0, none⟩ = some (.int .i64 R.H) ∧ w'.cell? ⟨w.heap.size, 1, none⟩ = some (.int .i64 R.T) ∧ w'.cell? ⟨w.heap.size, 2, none⟩ = some (.int .i64 R.K) ∧ w'.cell? ⟨w.heap.size, 3, none⟩ = some (.int .i64 R.N)) (first | go_keep | (exact ⟨k2.some t0, k2.some t1, k2.some t2, k2.some t3⟩) | (exact ⟨d0, d1, d2, d3⟩)) (first
    | (go_at_call 44; refine (FP _).out.mono ?_; rintro e w2 ⟨rfl, k2⟩; have KT : Kept W1 w2 := Kept.trans (b := _) (by first | exact Kept.refl _ | exact (Kept.refl _).drew | exact (Kept.refl _).drewN _) k2)
    | (go_at_call 45; refine (FR _).out.mono ?_; rintro e w3 ⟨rfl, k3⟩; have KU : Kept W1 w3 := Kept.trans (b := _) (by first | exact KT | exact KT.drew | exact KT.drewN _) k3; have d0 := KU.some t0; have d1 := KU.some t1; have d2 := KU.some t2; have d3 := KU.some t3))
  have K3 := Lib.hid (K1.out.trans KU)
  clear t0 t1 t2 t3 k2 k3 KT KU K1
  rename_i hcells
  clear hcells
  go_wp2_with fail
  refine (FR _).out.mono ?_
  rintro e w4 ⟨rfl, k4⟩
  have t3 := k4.some d3
  have K4 := Lib.hid (K3.out.trans k4)
  clear d0 d1 d2 d3 k4
  go_wp2_with fail
  refine (awake_any _).mono ?_
  rintro e w5 ⟨rfl, k5⟩
  go_wp2
  go_ret
  exact ⟨rfl, K4.out.trans k5⟩

set_option maxHeartbeats 4000000 in
theorem early_words (R : Rng) (sz : Int) (a2 a3 : Option Addr) (m2 m3 c2 c3 : Nat) (w : World) (hF : fitsR R sz = 0) (g0 : R.N ≤ 20) (g1 : sz ≤ 60) (g2 : (60 : Int) < m2) :
    Calls Tryz.prog 9 #[ringV R, .int .i64 sz, .slice a2 m2 c2, .slice a3 m3 c3] w fun e w' => e = .returned (.bool true) ∧ Kept w w' := by
  have FP : ∀ W, Hid (Calls Tryz.prog 44 #[ringV R, .int .i64 sz] W fun e w' => e = .returned (.int .i64 0) ∧ Kept W w') := fun W => Lib.hid (by have h := pfits_any R sz W; rw [hF] at h; exact h)
  have FR : ∀ W, Hid (Calls Tryz.prog 45 #[ringV R, .int .i64 sz] W fun e w' => e = .returned (.int .i64 0) ∧ Kept W w') := fun W => Lib.hid (by have h := rfits_any R sz W; rw [hF] at h; exact h)
  clear hF
  go_enter Tryz.func9, Tryz.ntmps9
  go_upto_region 1 with fail
  obtain ⟨W1, hW1⟩ : ∃ W1, W1 = w.alloc (.cells #[.int .i64 R.H, .int .i64 R.T, .int .i64 R.K, .int .i64 R.N] 114) := ⟨_, rfl⟩
  have t0 : W1.cell? ⟨w.heap.size, 0, none⟩ = some (.int .i64 R.H) := by rw [hW1]; exact cell_new w _ _ _ 0 rfl
  have t1 : W1.cell? ⟨w.heap.size, 1, none⟩ = some (.int .i64 R.T) := by rw [hW1]; exact cell_new w _ _ _ 1 rfl
  have t2 : W1.cell? ⟨w.heap.size, 2, none⟩ = some (.int .i64 R.K) := by rw [hW1]; exact cell_new w _ _ _ 2 rfl
  have t3 : W1.cell? ⟨w.heap.size, 3, none⟩ = some (.int .i64 R.N) := by rw [hW1]; exact cell_new w _ _ _ 3 rfl
  have k1 : Kept w W1 := by rw [hW1]; exact (Kept.refl w).alloc _ _
  rw [← hW1]
  have K1 := Lib.hid k1
  clear hW1 k1
  go_region_held3 (fun w' => w'.cell? ⟨w.heap.size, 0, none⟩ = some (.int .i64 R.H) ∧ w'.cell? ⟨w.heap.size, 1, none⟩ = some (.int .i64 R.T) ∧ w'.cell? ⟨w.heap.size, 2, none⟩ = some (.int .i64 R.K) ∧ w'.cell? ⟨w.heap.size, 3, none⟩ = some (.int .i64 R.N)) (first | go_keep | (exact ⟨k2.some t0, k2.some t1, k2.some t2, k2.some t3⟩) | (exact ⟨d0, d1, d2, d3⟩)) (first
    | (go_at_call 44; refine (FP _).out.mono ?_; rintro e w2 ⟨rfl, k2⟩; have KT : Kept W1 w2 := Kept.trans (b := _) (by first | exact Kept.refl _ | exact (Kept.refl _).drew | exact (Kept.refl _).drewN _) k2)
    | (go_at_call 45; refine (FR _).out.mono ?_; rintro e w3 ⟨rfl, k3⟩; have KU : Kept W1 w3 := Kept.trans (b := _) (by first | exact KT | exact KT.drew | exact KT.drewN _) k3; have d0 := KU.some t0; have d1 := KU.some t1; have d2 := KU.some t2; have d3 := KU.some t3))
  have K3 := Lib.hid (K1.out.trans KU)
  clear t0 t1 t2 t3 k2 k3 KT KU K1
  rename_i hcells
  clear hcells
  go_wp2_with fail
  refine (FR _).out.mono ?_
  rintro e w4 ⟨rfl, k4⟩
  have t3 := k4.some d3
  have K4 := Lib.hid (K3.out.trans k4)
  clear d0 d1 d2 d3 k4
  go_wp2_with fail
  refine (awake_any _).mono ?_
  rintro e w5 ⟨rfl, k5⟩
  go_wp2
  go_ret
  exact ⟨rfl, K4.out.trans k5⟩

set_option maxHeartbeats 4000000 in
theorem early_acts (R : Rng) (sz : Int) (a2 a3 : Option Addr) (m2 m3 c2 c3 : Nat) (w : World) (hF : fitsR R sz = 0) (g0 : R.N ≤ 20) (g1 : sz ≤ 60) (g2 : (m2 : Int) ≤ 60) (g3 : (120 : Int) < m3) :
    Calls Tryz.prog 9 #[ringV R, .int .i64 sz, .slice a2 m2 c2, .slice a3 m3 c3] w fun e w' => e = .returned (.bool true) ∧ Kept w w' := by
  have FP : ∀ W, Hid (Calls Tryz.prog 44 #[ringV R, .int .i64 sz] W fun e w' => e = .returned (.int .i64 0) ∧ Kept W w') := fun W => Lib.hid (by have h := pfits_any R sz W; rw [hF] at h; exact h)
  have FR : ∀ W, Hid (Calls Tryz.prog 45 #[ringV R, .int .i64 sz] W fun e w' => e = .returned (.int .i64 0) ∧ Kept W w') := fun W => Lib.hid (by have h := rfits_any R sz W; rw [hF] at h; exact h)
  clear hF
  go_enter Tryz.func9, Tryz.ntmps9
  go_upto_region 1 with fail
  obtain ⟨W1, hW1⟩ : ∃ W1, W1 = w.alloc (.cells #[.int .i64 R.H, .int .i64 R.T, .int .i64 R.K, .int .i64 R.N] 114) := ⟨_, rfl⟩
  have t0 : W1.cell? ⟨w.heap.size, 0, none⟩ = some (.int .i64 R.H) := by rw [hW1]; exact cell_new w _ _ _ 0 rfl
  have t1 : W1.cell? ⟨w.heap.size, 1, none⟩ = some (.int .i64 R.T) := by rw [hW1]; exact cell_new w _ _ _ 1 rfl
  have t2 : W1.cell? ⟨w.heap.size, 2, none⟩ = some (.int .i64 R.K) := by rw [hW1]; exact cell_new w _ _ _ 2 rfl
  have t3 : W1.cell? ⟨w.heap.size, 3, none⟩ = some (.int .i64 R.N) := by rw [hW1]; exact cell_new w _ _ _ 3 rfl
  have k1 : Kept w W1 := by rw [hW1]; exact (Kept.refl w).alloc _ _
  rw [← hW1]
  have K1 := Lib.hid k1
  clear hW1 k1
  go_region_held3 (fun w' => w'.cell? ⟨w.heap.size, 0, none⟩ = some (.int .i64 R.H) ∧ w'.cell? ⟨w.heap.size, 1, none⟩ = some (.int .i64 R.T) ∧ w'.cell? ⟨w.heap.size, 2, none⟩ = some (.int .i64 R.K) ∧ w'.cell? ⟨w.heap.size, 3, none⟩ = some (.int .i64 R.N)) (first | go_keep | (exact ⟨k2.some t0, k2.some t1, k2.some t2, k2.some t3⟩) | (exact ⟨d0, d1, d2, d3⟩)) (first
    | (go_at_call 44; refine (FP _).out.mono ?_; rintro e w2 ⟨rfl, k2⟩; have KT : Kept W1 w2 := Kept.trans (b := _) (by first | exact Kept.refl _ | exact (Kept.refl _).drew | exact (Kept.refl _).drewN _) k2)
    | (go_at_call 45; refine (FR _).out.mono ?_; rintro e w3 ⟨rfl, k3⟩; have KU : Kept W1 w3 := Kept.trans (b := _) (by first | exact KT | exact KT.drew | exact KT.drewN _) k3; have d0 := KU.some t0; have d1 := KU.some t1; have d2 := KU.some t2; have d3 := KU.some t3))
  have K3 := Lib.hid (K1.out.trans KU)
  clear t0 t1 t2 t3 k2 k3 KT KU K1
  rename_i hcells
  clear hcells
  go_wp2_with fail
  refine (FR _).out.mono ?_
  rintro e w4 ⟨rfl, k4⟩
  have t3 := k4.some d3
  have K4 := Lib.hid (K3.out.trans k4)
  clear d0 d1 d2 d3 k4
  go_wp2_with fail
  refine (awake_any _).mono ?_
  rintro e w5 ⟨rfl, k5⟩
  go_wp2
  go_ret
  exact ⟨rfl, K4.out.trans k5⟩

theorem steps_any (H T K N sz : Int) (a2 a3 : Option Addr) (m2 m3 c2 c3 : Nat) (w : World)
    (h2 : ∃ l : List Int, l.length = m2 ∧ Lay w (.slice a2 m2 c2) m2 (words l) ∧ ∀ x ∈ l, 0 ≤ x ∧ x < 18446744073709551616)
    (h3 : ∃ l : List (Int × Int × Int × Int), l.length = m3 ∧ Lay w (.slice a3 m3 c3) m3 (l.flatMap actc) ∧ ∀ e ∈ l, 0 ≤ e.2.2.2 ∧ e.2.2.2 < 18446744073709551616) :
    Calls Tryz.prog 9 #[.agg #[.int .i64 H, .int .i64 T, .int .i64 K, .int .i64 N], .int .i64 sz, .slice a2 m2 c2, .slice a3 m3 c3] w fun e w' => e = .returned (.bool true) ∧ Kept w w' := by
  obtain ⟨li, rfl, h2, hr⟩ := h2
  obtain ⟨la, rfl, h3, hab⟩ := h3
  by_cases hF : fitsR ⟨H, T, K, N⟩ sz = 0
  · by_cases g0 : N ≤ 20
    · by_cases g1 : sz ≤ 60
      · by_cases g2 : li.length ≤ 60
        · by_cases g3 : la.length ≤ 120
          · obtain ⟨_, hn, _⟩ := fitsR_ok hF
            obtain ⟨n, rfl⟩ := Int.eq_ofNat_of_zero_le (show 0 ≤ sz by omega)
            exact steps_main ⟨H, T, K, N⟩ n li la a2 a3 c2 c3 w h2 hr h3 hab hF g0 (by omega) g2 g3
          · exact early_acts ⟨H, T, K, N⟩ sz a2 a3 _ _ c2 c3 w hF g0 g1 (by omega) (by omega)
        · exact early_words ⟨H, T, K, N⟩ sz a2 a3 _ _ c2 c3 w hF g0 g1 (by omega)
      · exact early_wide ⟨H, T, K, N⟩ sz a2 a3 _ _ c2 c3 w hF g0 (by omega)
    · exact early_slots ⟨H, T, K, N⟩ sz a2 a3 _ _ c2 c3 w hF (show (20 : Int) < N by omega)
  · exact early_fits ⟨H, T, K, N⟩ sz a2 a3 _ _ c2 c3 w _ rfl (by simpa using hF)
end Go.Proofs.YtlfdiffbepfgbaaGreat.Ri
