/- Fits: the program's and the document's. Written by gen14f.py. -/
import Derived.Test.YtlfdiffbepfgbaaGreatG08
set_option linter.unusedVariables false
set_option linter.unusedSimpArgs false

namespace Go.Proofs.YtlfdiffbepfgbaaGreat.Ri
set_option maxRecDepth 20000
open Go.RowKit
open Wo (St acc wordAt)

def apartB (R : Rng) (a n : Int) : Bool := decide (0 ≤ a) && (decide (a < n) && (decide (a < R.K) || decide (R.K + R.N ≤ a)))
theorem apartB_iff (R : Rng) (a n : Int) : apartB R a n = true ↔ 0 ≤ a ∧ a < n ∧ (a < R.K ∨ R.K + R.N ≤ a) := by unfold apartB; simp
def fitsR (R : Rng) (n : Int) : Int :=
  if n < 1 ∨ 4096 < n then 3
  else if R.N < 1 ∨ 4096 < R.N ∨ R.K < 0 ∨ n - R.N < R.K then 2
  else if apartB R R.H n = true ∧ apartB R R.T n = true ∧ R.H ≠ R.T then 0 else 2
structure RAp (R : Rng) (n : Nat) : Prop where
  ok : R.Ok n
  hH : R.H < R.K ∨ R.K + R.N ≤ R.H
  hT : R.T < R.K ∨ R.K + R.N ≤ R.T
  ne : R.H ≠ R.T
theorem fitsR_ok {R : Rng} {n : Int} (h : fitsR R n = 0) : RAp R n.toNat ∧ 1 ≤ n ∧ n ≤ 4096 := by
  unfold fitsR at h
  split at h
  · omega
  · split at h
    · omega
    · split at h
      · rename_i h1 h2 h3
        obtain ⟨a, b, c⟩ := h3
        rw [apartB_iff] at a b
        exact ⟨⟨⟨by omega, by omega, by omega, by omega, by omega, by omega, by omega, by omega, by omega⟩, a.2.2, b.2.2, c⟩, by omega, by omega⟩
      · omega

set_option maxHeartbeats 400000 in
theorem apart_a (R : Rng) (a n : Int) (w : World) (h : a < 0) : Calls Tryz.prog 105 #[ringV R, .int .i64 a, .int .i64 n] w fun e w' => e = .returned (.bool false) ∧ Kept w w' := by
  go_enter Tryz.func105, Tryz.ntmps105
  go_wp2
  go_ret
  exact ⟨rfl, by (go_light; repeat (first | (with_reducible exact Kept.refl _) | (with_reducible assumption) | (with_reducible refine Kept.alloc ?_ _ _) | (with_reducible refine Kept.drew ?_) | (with_reducible refine Kept.drewN ?_ _) | ((with_reducible refine Kept.setCell ?_ ?_ _); rotate_left; focus (first | (simp; done) | (simp; omega))) | refine Kept.trans ?_ (by assumption)))⟩
set_option maxHeartbeats 400000 in
theorem apart_b (R : Rng) (a n : Int) (w : World) (h : 0 ≤ a) (h2 : n ≤ a) : Calls Tryz.prog 105 #[ringV R, .int .i64 a, .int .i64 n] w fun e w' => e = .returned (.bool false) ∧ Kept w w' := by
  have h3 : decide (a < n) = false := by simp; omega
  go_enter Tryz.func105, Tryz.ntmps105
  go_wp2
  go_ret
  exact ⟨rfl, by (go_light; repeat (first | (with_reducible exact Kept.refl _) | (with_reducible assumption) | (with_reducible refine Kept.alloc ?_ _ _) | (with_reducible refine Kept.drew ?_) | (with_reducible refine Kept.drewN ?_ _) | ((with_reducible refine Kept.setCell ?_ ?_ _); rotate_left; focus (first | (simp; done) | (simp; omega))) | refine Kept.trans ?_ (by assumption)))⟩
set_option maxHeartbeats 400000 in
theorem apart_c (R : Rng) (a n : Int) (w : World) (h : 0 ≤ a) (h2 : a < n) (h3 : a < R.K) : Calls Tryz.prog 105 #[ringV R, .int .i64 a, .int .i64 n] w fun e w' => e = .returned (.bool true) ∧ Kept w w' := by
  go_enter Tryz.func105, Tryz.ntmps105
  go_wp2
  go_ret
  exact ⟨rfl, by (go_light; repeat (first | (with_reducible exact Kept.refl _) | (with_reducible assumption) | (with_reducible refine Kept.alloc ?_ _ _) | (with_reducible refine Kept.drew ?_) | (with_reducible refine Kept.drewN ?_ _) | ((with_reducible refine Kept.setCell ?_ ?_ _); rotate_left; focus (first | (simp; done) | (simp; omega))) | refine Kept.trans ?_ (by assumption)))⟩
set_option maxHeartbeats 400000 in
theorem apart_d (R : Rng) (a n : Int) (w : World) (h : 0 ≤ a) (h2 : a < n) (h3 : R.K ≤ a) (b0 : 0 ≤ R.K) (b1 : R.K ≤ 10000) (b2 : 0 ≤ R.N) (b3 : R.N ≤ 10000) (h4 : R.K + R.N ≤ a) : Calls Tryz.prog 105 #[ringV R, .int .i64 a, .int .i64 n] w fun e w' => e = .returned (.bool true) ∧ Kept w w' := by
  have h5 : decide (a < R.K) = false := by simp; omega
  go_enter Tryz.func105, Tryz.ntmps105
  go_wp2
  go_ret
  exact ⟨rfl, by (go_light; repeat (first | (with_reducible exact Kept.refl _) | (with_reducible assumption) | (with_reducible refine Kept.alloc ?_ _ _) | (with_reducible refine Kept.drew ?_) | (with_reducible refine Kept.drewN ?_ _) | ((with_reducible refine Kept.setCell ?_ ?_ _); rotate_left; focus (first | (simp; done) | (simp; omega))) | refine Kept.trans ?_ (by assumption)))⟩
set_option maxHeartbeats 400000 in
theorem apart_e (R : Rng) (a n : Int) (w : World) (h : 0 ≤ a) (h2 : a < n) (h3 : R.K ≤ a) (b0 : 0 ≤ R.K) (b1 : R.K ≤ 10000) (b2 : 0 ≤ R.N) (b3 : R.N ≤ 10000) (h4 : a < R.K + R.N) : Calls Tryz.prog 105 #[ringV R, .int .i64 a, .int .i64 n] w fun e w' => e = .returned (.bool false) ∧ Kept w w' := by
  have h5 : decide (a < R.K) = false := by simp; omega
  have h6 : decide (R.K + R.N ≤ a) = false := by simp; omega
  go_enter Tryz.func105, Tryz.ntmps105
  go_wp2
  go_ret
  exact ⟨rfl, by (go_light; repeat (first | (with_reducible exact Kept.refl _) | (with_reducible assumption) | (with_reducible refine Kept.alloc ?_ _ _) | (with_reducible refine Kept.drew ?_) | (with_reducible refine Kept.drewN ?_ _) | ((with_reducible refine Kept.setCell ?_ ?_ _); rotate_left; focus (first | (simp; done) | (simp; omega))) | refine Kept.trans ?_ (by assumption)))⟩
theorem apart_any (R : Rng) (a n : Int) (w : World) (b0 : 0 ≤ R.K) (b1 : R.K ≤ 10000) (b2 : 0 ≤ R.N) (b3 : R.N ≤ 10000) :
    Calls Tryz.prog 105 #[ringV R, .int .i64 a, .int .i64 n] w fun e w' => e = .returned (.bool (apartB R a n)) ∧ Kept w w' := by
  by_cases h : a < 0
  · have e : apartB R a n = false := by unfold apartB; simp; omega
    rw [e]; exact apart_a R a n w h
  · by_cases h2 : n ≤ a
    · have e : apartB R a n = false := by unfold apartB; simp; omega
      rw [e]; exact apart_b R a n w (by omega) h2
    · by_cases h3 : a < R.K
      · have e : apartB R a n = true := by unfold apartB; simp; omega
        rw [e]; exact apart_c R a n w (by omega) (by omega) h3
      · by_cases h4 : R.K + R.N ≤ a
        · have e : apartB R a n = true := by unfold apartB; simp; omega
          rw [e]; exact apart_d R a n w (by omega) (by omega) (by omega) b0 b1 b2 b3 h4
        · have e : apartB R a n = false := by unfold apartB; simp; omega
          rw [e]; exact apart_e R a n w (by omega) (by omega) (by omega) b0 b1 b2 b3 (by omega)
set_option maxHeartbeats 1000000 in
theorem pfits_n1 (R : Rng) (n : Int) (w : World) (c0 : n < 1) : Calls Tryz.prog 44 #[ringV R, .int .i64 n] w fun e w' => e = .returned (.int .i64 3) ∧ Kept w w' := by
  go_enter Tryz.func44, Tryz.ntmps44
  go_wp2
  go_ret
  exact ⟨rfl, by (go_light; repeat (first | (with_reducible exact Kept.refl _) | (with_reducible assumption) | (with_reducible refine Kept.alloc ?_ _ _) | (with_reducible refine Kept.drew ?_) | (with_reducible refine Kept.drewN ?_ _) | ((with_reducible refine Kept.setCell ?_ ?_ _); rotate_left; focus (first | (simp; done) | (simp; omega))) | refine Kept.trans ?_ (by assumption)))⟩
set_option maxHeartbeats 1000000 in
theorem pfits_n2 (R : Rng) (n : Int) (w : World) (c0 : 1 ≤ n) (c1 : 4096 < n) : Calls Tryz.prog 44 #[ringV R, .int .i64 n] w fun e w' => e = .returned (.int .i64 3) ∧ Kept w w' := by
  go_enter Tryz.func44, Tryz.ntmps44
  go_wp2
  go_ret
  exact ⟨rfl, by (go_light; repeat (first | (with_reducible exact Kept.refl _) | (with_reducible assumption) | (with_reducible refine Kept.alloc ?_ _ _) | (with_reducible refine Kept.drew ?_) | (with_reducible refine Kept.drewN ?_ _) | ((with_reducible refine Kept.setCell ?_ ?_ _); rotate_left; focus (first | (simp; done) | (simp; omega))) | refine Kept.trans ?_ (by assumption)))⟩
set_option maxHeartbeats 1000000 in
theorem pfits_N (R : Rng) (n : Int) (w : World) (c0 : 1 ≤ n) (c1 : n ≤ 4096) (c2 : R.N < 1 ∨ 4096 < R.N) : Calls Tryz.prog 44 #[ringV R, .int .i64 n] w fun e w' => e = .returned (.int .i64 2) ∧ Kept w w' := by
  have SZ : ∀ W, Hid (Calls Tryz.prog 104 #[ringV R] W fun e w' => e = .returned (.bool false) ∧ Kept W w') := fun W => Lib.hid (by have := sized_any R W; rwa [show decide (1 ≤ R.N ∧ R.N ≤ 4096) = false from by simp; omega] at this)
  clear c2
  go_enter Tryz.func44, Tryz.ntmps44
  go_wp2_with fail
  refine (SZ _).out.mono ?_
  rintro e w1 ⟨rfl, k1⟩
  have a0 : w1.cell? ⟨w.heap.size, 0, none⟩ = some (.int .i64 R.H) := k1.some (by simp)
  have a1 : w1.cell? ⟨w.heap.size, 1, none⟩ = some (.int .i64 R.T) := k1.some (by simp)
  have a2 : w1.cell? ⟨w.heap.size, 2, none⟩ = some (.int .i64 R.K) := k1.some (by simp)
  have a3 : w1.cell? ⟨w.heap.size, 3, none⟩ = some (.int .i64 R.N) := k1.some (by simp)
  go_wp2
  go_ret
  exact ⟨rfl, by (go_light; repeat (first | (with_reducible exact Kept.refl _) | (with_reducible assumption) | (with_reducible refine Kept.alloc ?_ _ _) | (with_reducible refine Kept.drew ?_) | (with_reducible refine Kept.drewN ?_ _) | ((with_reducible refine Kept.setCell ?_ ?_ _); rotate_left; focus (first | (simp; done) | (simp; omega))) | refine Kept.trans ?_ (by assumption)))⟩
set_option maxHeartbeats 1000000 in
theorem pfits_K1 (R : Rng) (n : Int) (w : World) (c0 : 1 ≤ n) (c1 : n ≤ 4096) (c2 : 1 ≤ R.N) (c3 : R.N ≤ 4096) (c4 : R.K < 0) : Calls Tryz.prog 44 #[ringV R, .int .i64 n] w fun e w' => e = .returned (.int .i64 2) ∧ Kept w w' := by
  have SZ : ∀ W, Hid (Calls Tryz.prog 104 #[ringV R] W fun e w' => e = .returned (.bool true) ∧ Kept W w') := fun W => Lib.hid (by have := sized_any R W; rwa [show decide (1 ≤ R.N ∧ R.N ≤ 4096) = true from by simp; omega] at this)
  go_enter Tryz.func44, Tryz.ntmps44
  go_wp2_with fail
  refine (SZ _).out.mono ?_
  rintro e w1 ⟨rfl, k1⟩
  have a0 : w1.cell? ⟨w.heap.size, 0, none⟩ = some (.int .i64 R.H) := k1.some (by simp)
  have a1 : w1.cell? ⟨w.heap.size, 1, none⟩ = some (.int .i64 R.T) := k1.some (by simp)
  have a2 : w1.cell? ⟨w.heap.size, 2, none⟩ = some (.int .i64 R.K) := k1.some (by simp)
  have a3 : w1.cell? ⟨w.heap.size, 3, none⟩ = some (.int .i64 R.N) := k1.some (by simp)
  go_wp2
  go_ret
  exact ⟨rfl, by (go_light; repeat (first | (with_reducible exact Kept.refl _) | (with_reducible assumption) | (with_reducible refine Kept.alloc ?_ _ _) | (with_reducible refine Kept.drew ?_) | (with_reducible refine Kept.drewN ?_ _) | ((with_reducible refine Kept.setCell ?_ ?_ _); rotate_left; focus (first | (simp; done) | (simp; omega))) | refine Kept.trans ?_ (by assumption)))⟩
set_option maxHeartbeats 1000000 in
theorem pfits_K2 (R : Rng) (n : Int) (w : World) (c0 : 1 ≤ n) (c1 : n ≤ 4096) (c2 : 1 ≤ R.N) (c3 : R.N ≤ 4096) (c4 : 0 ≤ R.K) (c5 : n - R.N < R.K) : Calls Tryz.prog 44 #[ringV R, .int .i64 n] w fun e w' => e = .returned (.int .i64 2) ∧ Kept w w' := by
  have SZ : ∀ W, Hid (Calls Tryz.prog 104 #[ringV R] W fun e w' => e = .returned (.bool true) ∧ Kept W w') := fun W => Lib.hid (by have := sized_any R W; rwa [show decide (1 ≤ R.N ∧ R.N ≤ 4096) = true from by simp; omega] at this)
  go_enter Tryz.func44, Tryz.ntmps44
  go_wp2_with fail
  refine (SZ _).out.mono ?_
  rintro e w1 ⟨rfl, k1⟩
  have a0 : w1.cell? ⟨w.heap.size, 0, none⟩ = some (.int .i64 R.H) := k1.some (by simp)
  have a1 : w1.cell? ⟨w.heap.size, 1, none⟩ = some (.int .i64 R.T) := k1.some (by simp)
  have a2 : w1.cell? ⟨w.heap.size, 2, none⟩ = some (.int .i64 R.K) := k1.some (by simp)
  have a3 : w1.cell? ⟨w.heap.size, 3, none⟩ = some (.int .i64 R.N) := k1.some (by simp)
  go_wp2
  go_ret
  exact ⟨rfl, by (go_light; repeat (first | (with_reducible exact Kept.refl _) | (with_reducible assumption) | (with_reducible refine Kept.alloc ?_ _ _) | (with_reducible refine Kept.drew ?_) | (with_reducible refine Kept.drewN ?_ _) | ((with_reducible refine Kept.setCell ?_ ?_ _); rotate_left; focus (first | (simp; done) | (simp; omega))) | refine Kept.trans ?_ (by assumption)))⟩
set_option maxHeartbeats 1000000 in
theorem pfits_H (R : Rng) (n : Int) (w : World) (c0 : 1 ≤ n) (c1 : n ≤ 4096) (c2 : 1 ≤ R.N) (c3 : R.N ≤ 4096) (c4 : 0 ≤ R.K) (c5 : R.K ≤ n - R.N) (c6 : apartB R R.H n = false) : Calls Tryz.prog 44 #[ringV R, .int .i64 n] w fun e w' => e = .returned (.int .i64 2) ∧ Kept w w' := by
  have SZ : ∀ W, Hid (Calls Tryz.prog 104 #[ringV R] W fun e w' => e = .returned (.bool true) ∧ Kept W w') := fun W => Lib.hid (by have := sized_any R W; rwa [show decide (1 ≤ R.N ∧ R.N ≤ 4096) = true from by simp; omega] at this)
  have A1 : ∀ W, Hid (Calls Tryz.prog 105 #[ringV R, .int .i64 R.H, .int .i64 n] W fun e w' => e = .returned (.bool false) ∧ Kept W w') := fun W => Lib.hid (by have := apart_any R R.H n W c4 (by omega) (by omega) (by omega); rwa [c6] at this)
  clear c6
  go_enter Tryz.func44, Tryz.ntmps44
  go_wp2_with fail
  refine (SZ _).out.mono ?_
  rintro e w1 ⟨rfl, k1⟩
  have a0 : w1.cell? ⟨w.heap.size, 0, none⟩ = some (.int .i64 R.H) := k1.some (by simp)
  have a1 : w1.cell? ⟨w.heap.size, 1, none⟩ = some (.int .i64 R.T) := k1.some (by simp)
  have a2 : w1.cell? ⟨w.heap.size, 2, none⟩ = some (.int .i64 R.K) := k1.some (by simp)
  have a3 : w1.cell? ⟨w.heap.size, 3, none⟩ = some (.int .i64 R.N) := k1.some (by simp)
  go_wp2_with fail
  refine (A1 _).out.mono ?_
  rintro e w2 ⟨rfl, k2⟩
  have a0 := k2.some a0
  have a1 := k2.some a1
  have a2 := k2.some a2
  have a3 := k2.some a3
  go_wp2
  go_ret
  exact ⟨rfl, by (go_light; repeat (first | (with_reducible exact Kept.refl _) | (with_reducible assumption) | (with_reducible refine Kept.alloc ?_ _ _) | (with_reducible refine Kept.drew ?_) | (with_reducible refine Kept.drewN ?_ _) | ((with_reducible refine Kept.setCell ?_ ?_ _); rotate_left; focus (first | (simp; done) | (simp; omega))) | refine Kept.trans ?_ (by assumption)))⟩
set_option maxHeartbeats 1000000 in
theorem pfits_T (R : Rng) (n : Int) (w : World) (c0 : 1 ≤ n) (c1 : n ≤ 4096) (c2 : 1 ≤ R.N) (c3 : R.N ≤ 4096) (c4 : 0 ≤ R.K) (c5 : R.K ≤ n - R.N) (c6 : apartB R R.H n = true) (c7 : apartB R R.T n = false) : Calls Tryz.prog 44 #[ringV R, .int .i64 n] w fun e w' => e = .returned (.int .i64 2) ∧ Kept w w' := by
  have SZ : ∀ W, Hid (Calls Tryz.prog 104 #[ringV R] W fun e w' => e = .returned (.bool true) ∧ Kept W w') := fun W => Lib.hid (by have := sized_any R W; rwa [show decide (1 ≤ R.N ∧ R.N ≤ 4096) = true from by simp; omega] at this)
  have A1 : ∀ W, Hid (Calls Tryz.prog 105 #[ringV R, .int .i64 R.H, .int .i64 n] W fun e w' => e = .returned (.bool true) ∧ Kept W w') := fun W => Lib.hid (by have := apart_any R R.H n W c4 (by omega) (by omega) (by omega); rwa [c6] at this)
  have A2 : ∀ W, Hid (Calls Tryz.prog 105 #[ringV R, .int .i64 R.T, .int .i64 n] W fun e w' => e = .returned (.bool false) ∧ Kept W w') := fun W => Lib.hid (by have := apart_any R R.T n W c4 (by omega) (by omega) (by omega); rwa [c7] at this)
  clear c6 c7
  go_enter Tryz.func44, Tryz.ntmps44
  go_wp2_with fail
  refine (SZ _).out.mono ?_
  rintro e w1 ⟨rfl, k1⟩
  have a0 : w1.cell? ⟨w.heap.size, 0, none⟩ = some (.int .i64 R.H) := k1.some (by simp)
  have a1 : w1.cell? ⟨w.heap.size, 1, none⟩ = some (.int .i64 R.T) := k1.some (by simp)
  have a2 : w1.cell? ⟨w.heap.size, 2, none⟩ = some (.int .i64 R.K) := k1.some (by simp)
  have a3 : w1.cell? ⟨w.heap.size, 3, none⟩ = some (.int .i64 R.N) := k1.some (by simp)
  go_wp2_with fail
  refine (A1 _).out.mono ?_
  rintro e w2 ⟨rfl, k2⟩
  have a0 := k2.some a0
  have a1 := k2.some a1
  have a2 := k2.some a2
  have a3 := k2.some a3
  go_wp2_with fail
  refine (A2 _).out.mono ?_
  rintro e w3 ⟨rfl, k3⟩
  have a0 := k3.some a0
  have a1 := k3.some a1
  have a2 := k3.some a2
  have a3 := k3.some a3
  go_wp2
  go_ret
  exact ⟨rfl, by (go_light; repeat (first | (with_reducible exact Kept.refl _) | (with_reducible assumption) | (with_reducible refine Kept.alloc ?_ _ _) | (with_reducible refine Kept.drew ?_) | (with_reducible refine Kept.drewN ?_ _) | ((with_reducible refine Kept.setCell ?_ ?_ _); rotate_left; focus (first | (simp; done) | (simp; omega))) | refine Kept.trans ?_ (by assumption)))⟩
set_option maxHeartbeats 1000000 in
theorem pfits_E (R : Rng) (n : Int) (w : World) (c0 : 1 ≤ n) (c1 : n ≤ 4096) (c2 : 1 ≤ R.N) (c3 : R.N ≤ 4096) (c4 : 0 ≤ R.K) (c5 : R.K ≤ n - R.N) (c6 : apartB R R.H n = true) (c7 : apartB R R.T n = true) (c8 : R.H = R.T) : Calls Tryz.prog 44 #[ringV R, .int .i64 n] w fun e w' => e = .returned (.int .i64 2) ∧ Kept w w' := by
  have SZ : ∀ W, Hid (Calls Tryz.prog 104 #[ringV R] W fun e w' => e = .returned (.bool true) ∧ Kept W w') := fun W => Lib.hid (by have := sized_any R W; rwa [show decide (1 ≤ R.N ∧ R.N ≤ 4096) = true from by simp; omega] at this)
  have A1 : ∀ W, Hid (Calls Tryz.prog 105 #[ringV R, .int .i64 R.H, .int .i64 n] W fun e w' => e = .returned (.bool true) ∧ Kept W w') := fun W => Lib.hid (by have := apart_any R R.H n W c4 (by omega) (by omega) (by omega); rwa [c6] at this)
  have A2 : ∀ W, Hid (Calls Tryz.prog 105 #[ringV R, .int .i64 R.T, .int .i64 n] W fun e w' => e = .returned (.bool true) ∧ Kept W w') := fun W => Lib.hid (by have := apart_any R R.T n W c4 (by omega) (by omega) (by omega); rwa [c7] at this)
  have c9 : (R.H == R.T) = true := by simpa using c8
  clear c6 c7 c8
  go_enter Tryz.func44, Tryz.ntmps44
  go_wp2_with fail
  refine (SZ _).out.mono ?_
  rintro e w1 ⟨rfl, k1⟩
  have a0 : w1.cell? ⟨w.heap.size, 0, none⟩ = some (.int .i64 R.H) := k1.some (by simp)
  have a1 : w1.cell? ⟨w.heap.size, 1, none⟩ = some (.int .i64 R.T) := k1.some (by simp)
  have a2 : w1.cell? ⟨w.heap.size, 2, none⟩ = some (.int .i64 R.K) := k1.some (by simp)
  have a3 : w1.cell? ⟨w.heap.size, 3, none⟩ = some (.int .i64 R.N) := k1.some (by simp)
  go_wp2_with fail
  refine (A1 _).out.mono ?_
  rintro e w2 ⟨rfl, k2⟩
  have a0 := k2.some a0
  have a1 := k2.some a1
  have a2 := k2.some a2
  have a3 := k2.some a3
  go_wp2_with fail
  refine (A2 _).out.mono ?_
  rintro e w3 ⟨rfl, k3⟩
  have a0 := k3.some a0
  have a1 := k3.some a1
  have a2 := k3.some a2
  have a3 := k3.some a3
  go_wp2
  go_ret
  exact ⟨rfl, by (go_light; repeat (first | (with_reducible exact Kept.refl _) | (with_reducible assumption) | (with_reducible refine Kept.alloc ?_ _ _) | (with_reducible refine Kept.drew ?_) | (with_reducible refine Kept.drewN ?_ _) | ((with_reducible refine Kept.setCell ?_ ?_ _); rotate_left; focus (first | (simp; done) | (simp; omega))) | refine Kept.trans ?_ (by assumption)))⟩
set_option maxHeartbeats 1000000 in
theorem pfits_0 (R : Rng) (n : Int) (w : World) (c0 : 1 ≤ n) (c1 : n ≤ 4096) (c2 : 1 ≤ R.N) (c3 : R.N ≤ 4096) (c4 : 0 ≤ R.K) (c5 : R.K ≤ n - R.N) (c6 : apartB R R.H n = true) (c7 : apartB R R.T n = true) (c8 : ¬ R.H = R.T) : Calls Tryz.prog 44 #[ringV R, .int .i64 n] w fun e w' => e = .returned (.int .i64 0) ∧ Kept w w' := by
  have SZ : ∀ W, Hid (Calls Tryz.prog 104 #[ringV R] W fun e w' => e = .returned (.bool true) ∧ Kept W w') := fun W => Lib.hid (by have := sized_any R W; rwa [show decide (1 ≤ R.N ∧ R.N ≤ 4096) = true from by simp; omega] at this)
  have A1 : ∀ W, Hid (Calls Tryz.prog 105 #[ringV R, .int .i64 R.H, .int .i64 n] W fun e w' => e = .returned (.bool true) ∧ Kept W w') := fun W => Lib.hid (by have := apart_any R R.H n W c4 (by omega) (by omega) (by omega); rwa [c6] at this)
  have A2 : ∀ W, Hid (Calls Tryz.prog 105 #[ringV R, .int .i64 R.T, .int .i64 n] W fun e w' => e = .returned (.bool true) ∧ Kept W w') := fun W => Lib.hid (by have := apart_any R R.T n W c4 (by omega) (by omega) (by omega); rwa [c7] at this)
  have c9 : (R.H == R.T) = false := by simpa using c8
  clear c6 c7
  go_enter Tryz.func44, Tryz.ntmps44
  go_wp2_with fail
  refine (SZ _).out.mono ?_
  rintro e w1 ⟨rfl, k1⟩
  have a0 : w1.cell? ⟨w.heap.size, 0, none⟩ = some (.int .i64 R.H) := k1.some (by simp)
  have a1 : w1.cell? ⟨w.heap.size, 1, none⟩ = some (.int .i64 R.T) := k1.some (by simp)
  have a2 : w1.cell? ⟨w.heap.size, 2, none⟩ = some (.int .i64 R.K) := k1.some (by simp)
  have a3 : w1.cell? ⟨w.heap.size, 3, none⟩ = some (.int .i64 R.N) := k1.some (by simp)
  go_wp2_with fail
  refine (A1 _).out.mono ?_
  rintro e w2 ⟨rfl, k2⟩
  have a0 := k2.some a0
  have a1 := k2.some a1
  have a2 := k2.some a2
  have a3 := k2.some a3
  go_wp2_with fail
  refine (A2 _).out.mono ?_
  rintro e w3 ⟨rfl, k3⟩
  have a0 := k3.some a0
  have a1 := k3.some a1
  have a2 := k3.some a2
  have a3 := k3.some a3
  go_wp2
  go_ret
  exact ⟨rfl, by (go_light; repeat (first | (with_reducible exact Kept.refl _) | (with_reducible assumption) | (with_reducible refine Kept.alloc ?_ _ _) | (with_reducible refine Kept.drew ?_) | (with_reducible refine Kept.drewN ?_ _) | ((with_reducible refine Kept.setCell ?_ ?_ _); rotate_left; focus (first | (simp; done) | (simp; omega))) | refine Kept.trans ?_ (by assumption)))⟩
theorem pfits_any (R : Rng) (n : Int) (w : World) : Calls Tryz.prog 44 #[ringV R, .int .i64 n] w fun e w' => e = .returned (.int .i64 (fitsR R n)) ∧ Kept w w' := by
  unfold fitsR
  by_cases h1 : n < 1
  · rw [if_pos (.inl h1)]; exact pfits_n1 R n w h1
  · by_cases h2 : 4096 < n
    · rw [if_pos (.inr h2)]; exact pfits_n2 R n w (by omega) h2
    · rw [if_neg (by omega)]
      by_cases h3 : R.N < 1 ∨ 4096 < R.N
      · rw [if_pos (by omega)]; exact pfits_N R n w (by omega) (by omega) h3
      · by_cases h4 : R.K < 0
        · rw [if_pos (by omega)]; exact pfits_K1 R n w (by omega) (by omega) (by omega) (by omega) h4
        · by_cases h5 : n - R.N < R.K
          · rw [if_pos (by omega)]; exact pfits_K2 R n w (by omega) (by omega) (by omega) (by omega) (by omega) h5
          · rw [if_neg (by omega)]
            cases h6 : apartB R R.H n with
            | false => rw [if_neg (by simp)]; exact pfits_H R n w (by omega) (by omega) (by omega) (by omega) (by omega) (by omega) h6
            | true =>
              cases h7 : apartB R R.T n with
              | false => rw [if_neg (by simp)]; exact pfits_T R n w (by omega) (by omega) (by omega) (by omega) (by omega) (by omega) h6 h7
              | true =>
                by_cases h8 : R.H = R.T
                · rw [if_neg (by simp [h8])]; exact pfits_E R n w (by omega) (by omega) (by omega) (by omega) (by omega) (by omega) h6 h7 h8
                · rw [if_pos ⟨rfl, rfl, h8⟩]; exact pfits_0 R n w (by omega) (by omega) (by omega) (by omega) (by omega) (by omega) h6 h7 h8
set_option maxHeartbeats 400000 in
theorem rsize_any (n : Int) (w : World) : Calls Tryz.prog 106 #[.int .i64 n] w fun e w' => e = .returned (.bool (decide (1 ≤ n ∧ n ≤ 4096))) ∧ w = w' := by
  by_cases h1 : 1 ≤ n
  · by_cases h2 : n ≤ 4096
    · have E : decide (1 ≤ n ∧ n ≤ 4096) = true := by simp [h1, h2]
      rw [E]
      go_enter Tryz.func106, Tryz.ntmps106
      go_wp2
      go_ret
      exact ⟨rfl, rfl⟩
    · have E : decide (1 ≤ n ∧ n ≤ 4096) = false := by simp [h2]
      have g2 : (4096 : Int) < n := by omega
      rw [E]
      go_enter Tryz.func106, Tryz.ntmps106
      go_wp2
      go_ret
      exact ⟨rfl, rfl⟩
  · have E : decide (1 ≤ n ∧ n ≤ 4096) = false := by simp [h1]
    have g1 : n < 1 := by omega
    rw [E]
    go_enter Tryz.func106, Tryz.ntmps106
    go_wp2
    go_ret
    exact ⟨rfl, rfl⟩
set_option maxHeartbeats 1000000 in
theorem rfits_n1 (R : Rng) (n : Int) (w : World) (c0 : n < 1) : Calls Tryz.prog 45 #[ringV R, .int .i64 n] w fun e w' => e = .returned (.int .i64 3) ∧ Kept w w' := by
  go_enter Tryz.func45, Tryz.ntmps45
  go_wp2
  go_ret
  exact ⟨rfl, by (go_light; repeat (first | (with_reducible exact Kept.refl _) | (with_reducible assumption) | (with_reducible refine Kept.alloc ?_ _ _) | (with_reducible refine Kept.drew ?_) | (with_reducible refine Kept.drewN ?_ _) | ((with_reducible refine Kept.setCell ?_ ?_ _); rotate_left; focus (first | (simp; done) | (simp; omega))) | refine Kept.trans ?_ (by assumption)))⟩
set_option maxHeartbeats 1000000 in
theorem rfits_n2 (R : Rng) (n : Int) (w : World) (c0 : 1 ≤ n) (c1 : 4096 < n) : Calls Tryz.prog 45 #[ringV R, .int .i64 n] w fun e w' => e = .returned (.int .i64 3) ∧ Kept w w' := by
  go_enter Tryz.func45, Tryz.ntmps45
  go_wp2
  go_ret
  exact ⟨rfl, by (go_light; repeat (first | (with_reducible exact Kept.refl _) | (with_reducible assumption) | (with_reducible refine Kept.alloc ?_ _ _) | (with_reducible refine Kept.drew ?_) | (with_reducible refine Kept.drewN ?_ _) | ((with_reducible refine Kept.setCell ?_ ?_ _); rotate_left; focus (first | (simp; done) | (simp; omega))) | refine Kept.trans ?_ (by assumption)))⟩
set_option maxHeartbeats 1000000 in
theorem rfits_N (R : Rng) (n : Int) (w : World) (c0 : 1 ≤ n) (c1 : n ≤ 4096) (c2 : R.N < 1 ∨ 4096 < R.N) : Calls Tryz.prog 45 #[ringV R, .int .i64 n] w fun e w' => e = .returned (.int .i64 2) ∧ Kept w w' := by
  have SZ : ∀ W, Hid (Calls Tryz.prog 106 #[.int .i64 R.N] W fun e w' => e = .returned (.bool false) ∧ W = w') := fun W => Lib.hid (by have := rsize_any R.N W; rwa [show decide (1 ≤ R.N ∧ R.N ≤ 4096) = false from by simp; omega] at this)
  clear c2
  go_enter Tryz.func45, Tryz.ntmps45
  go_wp2_with fail
  refine (SZ _).out.mono ?_
  rintro e w1 ⟨rfl, rfl⟩
  go_wp2
  go_ret
  exact ⟨rfl, by (go_light; repeat (first | (with_reducible exact Kept.refl _) | (with_reducible assumption) | (with_reducible refine Kept.alloc ?_ _ _) | (with_reducible refine Kept.drew ?_) | (with_reducible refine Kept.drewN ?_ _) | ((with_reducible refine Kept.setCell ?_ ?_ _); rotate_left; focus (first | (simp; done) | (simp; omega))) | refine Kept.trans ?_ (by assumption)))⟩
set_option maxHeartbeats 1000000 in
theorem rfits_H1 (R : Rng) (n : Int) (w : World) (c0 : 1 ≤ n) (c1 : n ≤ 4096) (c2 : 1 ≤ R.N) (c3 : R.N ≤ 4096) (c4 : R.H < 0) : Calls Tryz.prog 45 #[ringV R, .int .i64 n] w fun e w' => e = .returned (.int .i64 2) ∧ Kept w w' := by
  have SZ : ∀ W, Hid (Calls Tryz.prog 106 #[.int .i64 R.N] W fun e w' => e = .returned (.bool true) ∧ W = w') := fun W => Lib.hid (by have := rsize_any R.N W; rwa [show decide (1 ≤ R.N ∧ R.N ≤ 4096) = true from by simp; omega] at this)
  go_enter Tryz.func45, Tryz.ntmps45
  go_wp2_with fail
  refine (SZ _).out.mono ?_
  rintro e w1 ⟨rfl, rfl⟩
  go_wp2
  go_ret
  exact ⟨rfl, by (go_light; repeat (first | (with_reducible exact Kept.refl _) | (with_reducible assumption) | (with_reducible refine Kept.alloc ?_ _ _) | (with_reducible refine Kept.drew ?_) | (with_reducible refine Kept.drewN ?_ _) | ((with_reducible refine Kept.setCell ?_ ?_ _); rotate_left; focus (first | (simp; done) | (simp; omega))) | refine Kept.trans ?_ (by assumption)))⟩
set_option maxHeartbeats 1000000 in
theorem rfits_H2 (R : Rng) (n : Int) (w : World) (c0 : 1 ≤ n) (c1 : n ≤ 4096) (c2 : 1 ≤ R.N) (c3 : R.N ≤ 4096) (c4 : 0 ≤ R.H) (c5 : n ≤ R.H) : Calls Tryz.prog 45 #[ringV R, .int .i64 n] w fun e w' => e = .returned (.int .i64 2) ∧ Kept w w' := by
  have SZ : ∀ W, Hid (Calls Tryz.prog 106 #[.int .i64 R.N] W fun e w' => e = .returned (.bool true) ∧ W = w') := fun W => Lib.hid (by have := rsize_any R.N W; rwa [show decide (1 ≤ R.N ∧ R.N ≤ 4096) = true from by simp; omega] at this)
  go_enter Tryz.func45, Tryz.ntmps45
  go_wp2_with fail
  refine (SZ _).out.mono ?_
  rintro e w1 ⟨rfl, rfl⟩
  go_wp2
  go_ret
  exact ⟨rfl, by (go_light; repeat (first | (with_reducible exact Kept.refl _) | (with_reducible assumption) | (with_reducible refine Kept.alloc ?_ _ _) | (with_reducible refine Kept.drew ?_) | (with_reducible refine Kept.drewN ?_ _) | ((with_reducible refine Kept.setCell ?_ ?_ _); rotate_left; focus (first | (simp; done) | (simp; omega))) | refine Kept.trans ?_ (by assumption)))⟩
set_option maxHeartbeats 1000000 in
theorem rfits_T1 (R : Rng) (n : Int) (w : World) (c0 : 1 ≤ n) (c1 : n ≤ 4096) (c2 : 1 ≤ R.N) (c3 : R.N ≤ 4096) (c4 : 0 ≤ R.H) (c5 : R.H < n) (c6 : R.T < 0) : Calls Tryz.prog 45 #[ringV R, .int .i64 n] w fun e w' => e = .returned (.int .i64 2) ∧ Kept w w' := by
  have SZ : ∀ W, Hid (Calls Tryz.prog 106 #[.int .i64 R.N] W fun e w' => e = .returned (.bool true) ∧ W = w') := fun W => Lib.hid (by have := rsize_any R.N W; rwa [show decide (1 ≤ R.N ∧ R.N ≤ 4096) = true from by simp; omega] at this)
  go_enter Tryz.func45, Tryz.ntmps45
  go_wp2_with fail
  refine (SZ _).out.mono ?_
  rintro e w1 ⟨rfl, rfl⟩
  go_wp2
  go_ret
  exact ⟨rfl, by (go_light; repeat (first | (with_reducible exact Kept.refl _) | (with_reducible assumption) | (with_reducible refine Kept.alloc ?_ _ _) | (with_reducible refine Kept.drew ?_) | (with_reducible refine Kept.drewN ?_ _) | ((with_reducible refine Kept.setCell ?_ ?_ _); rotate_left; focus (first | (simp; done) | (simp; omega))) | refine Kept.trans ?_ (by assumption)))⟩
set_option maxHeartbeats 1000000 in
theorem rfits_T2 (R : Rng) (n : Int) (w : World) (c0 : 1 ≤ n) (c1 : n ≤ 4096) (c2 : 1 ≤ R.N) (c3 : R.N ≤ 4096) (c4 : 0 ≤ R.H) (c5 : R.H < n) (c6 : 0 ≤ R.T) (c7 : n ≤ R.T) : Calls Tryz.prog 45 #[ringV R, .int .i64 n] w fun e w' => e = .returned (.int .i64 2) ∧ Kept w w' := by
  have SZ : ∀ W, Hid (Calls Tryz.prog 106 #[.int .i64 R.N] W fun e w' => e = .returned (.bool true) ∧ W = w') := fun W => Lib.hid (by have := rsize_any R.N W; rwa [show decide (1 ≤ R.N ∧ R.N ≤ 4096) = true from by simp; omega] at this)
  go_enter Tryz.func45, Tryz.ntmps45
  go_wp2_with fail
  refine (SZ _).out.mono ?_
  rintro e w1 ⟨rfl, rfl⟩
  go_wp2
  go_ret
  exact ⟨rfl, by (go_light; repeat (first | (with_reducible exact Kept.refl _) | (with_reducible assumption) | (with_reducible refine Kept.alloc ?_ _ _) | (with_reducible refine Kept.drew ?_) | (with_reducible refine Kept.drewN ?_ _) | ((with_reducible refine Kept.setCell ?_ ?_ _); rotate_left; focus (first | (simp; done) | (simp; omega))) | refine Kept.trans ?_ (by assumption)))⟩
set_option maxHeartbeats 1000000 in
theorem rfits_K1 (R : Rng) (n : Int) (w : World) (c0 : 1 ≤ n) (c1 : n ≤ 4096) (c2 : 1 ≤ R.N) (c3 : R.N ≤ 4096) (c4 : 0 ≤ R.H) (c5 : R.H < n) (c6 : 0 ≤ R.T) (c7 : R.T < n) (c8 : R.K < 0) : Calls Tryz.prog 45 #[ringV R, .int .i64 n] w fun e w' => e = .returned (.int .i64 2) ∧ Kept w w' := by
  have SZ : ∀ W, Hid (Calls Tryz.prog 106 #[.int .i64 R.N] W fun e w' => e = .returned (.bool true) ∧ W = w') := fun W => Lib.hid (by have := rsize_any R.N W; rwa [show decide (1 ≤ R.N ∧ R.N ≤ 4096) = true from by simp; omega] at this)
  go_enter Tryz.func45, Tryz.ntmps45
  go_wp2_with fail
  refine (SZ _).out.mono ?_
  rintro e w1 ⟨rfl, rfl⟩
  go_wp2
  go_ret
  exact ⟨rfl, by (go_light; repeat (first | (with_reducible exact Kept.refl _) | (with_reducible assumption) | (with_reducible refine Kept.alloc ?_ _ _) | (with_reducible refine Kept.drew ?_) | (with_reducible refine Kept.drewN ?_ _) | ((with_reducible refine Kept.setCell ?_ ?_ _); rotate_left; focus (first | (simp; done) | (simp; omega))) | refine Kept.trans ?_ (by assumption)))⟩
set_option maxHeartbeats 1000000 in
theorem rfits_K2 (R : Rng) (n : Int) (w : World) (c0 : 1 ≤ n) (c1 : n ≤ 4096) (c2 : 1 ≤ R.N) (c3 : R.N ≤ 4096) (c4 : 0 ≤ R.H) (c5 : R.H < n) (c6 : 0 ≤ R.T) (c7 : R.T < n) (c8 : 0 ≤ R.K) (c9 : n - R.N < R.K) : Calls Tryz.prog 45 #[ringV R, .int .i64 n] w fun e w' => e = .returned (.int .i64 2) ∧ Kept w w' := by
  have SZ : ∀ W, Hid (Calls Tryz.prog 106 #[.int .i64 R.N] W fun e w' => e = .returned (.bool true) ∧ W = w') := fun W => Lib.hid (by have := rsize_any R.N W; rwa [show decide (1 ≤ R.N ∧ R.N ≤ 4096) = true from by simp; omega] at this)
  go_enter Tryz.func45, Tryz.ntmps45
  go_wp2_with fail
  refine (SZ _).out.mono ?_
  rintro e w1 ⟨rfl, rfl⟩
  go_wp2
  go_ret
  exact ⟨rfl, by (go_light; repeat (first | (with_reducible exact Kept.refl _) | (with_reducible assumption) | (with_reducible refine Kept.alloc ?_ _ _) | (with_reducible refine Kept.drew ?_) | (with_reducible refine Kept.drewN ?_ _) | ((with_reducible refine Kept.setCell ?_ ?_ _); rotate_left; focus (first | (simp; done) | (simp; omega))) | refine Kept.trans ?_ (by assumption)))⟩
set_option maxHeartbeats 1000000 in
theorem rfits_E (R : Rng) (n : Int) (w : World) (c0 : 1 ≤ n) (c1 : n ≤ 4096) (c2 : 1 ≤ R.N) (c3 : R.N ≤ 4096) (c4 : 0 ≤ R.H) (c5 : R.H < n) (c6 : 0 ≤ R.T) (c7 : R.T < n) (c8 : 0 ≤ R.K) (c9 : R.K ≤ n - R.N) (c10 : R.H = R.T) : Calls Tryz.prog 45 #[ringV R, .int .i64 n] w fun e w' => e = .returned (.int .i64 2) ∧ Kept w w' := by
  have SZ : ∀ W, Hid (Calls Tryz.prog 106 #[.int .i64 R.N] W fun e w' => e = .returned (.bool true) ∧ W = w') := fun W => Lib.hid (by have := rsize_any R.N W; rwa [show decide (1 ≤ R.N ∧ R.N ≤ 4096) = true from by simp; omega] at this)
  have e9 : (R.H == R.T) = true := by simpa using c10
  clear c10
  go_enter Tryz.func45, Tryz.ntmps45
  go_wp2_with fail
  refine (SZ _).out.mono ?_
  rintro e w1 ⟨rfl, rfl⟩
  go_wp2
  go_ret
  exact ⟨rfl, by (go_light; repeat (first | (with_reducible exact Kept.refl _) | (with_reducible assumption) | (with_reducible refine Kept.alloc ?_ _ _) | (with_reducible refine Kept.drew ?_) | (with_reducible refine Kept.drewN ?_ _) | ((with_reducible refine Kept.setCell ?_ ?_ _); rotate_left; focus (first | (simp; done) | (simp; omega))) | refine Kept.trans ?_ (by assumption)))⟩
set_option maxHeartbeats 1000000 in
theorem rfits_HS (R : Rng) (n : Int) (w : World) (c0 : 1 ≤ n) (c1 : n ≤ 4096) (c2 : 1 ≤ R.N) (c3 : R.N ≤ 4096) (c4 : 0 ≤ R.H) (c5 : R.H < n) (c6 : 0 ≤ R.T) (c7 : R.T < n) (c8 : 0 ≤ R.K) (c9 : R.K ≤ n - R.N) (c10 : ¬ R.H = R.T) (c11 : R.K ≤ R.H) (c12 : R.H < R.K + R.N) : Calls Tryz.prog 45 #[ringV R, .int .i64 n] w fun e w' => e = .returned (.int .i64 2) ∧ Kept w w' := by
  have SZ : ∀ W, Hid (Calls Tryz.prog 106 #[.int .i64 R.N] W fun e w' => e = .returned (.bool true) ∧ W = w') := fun W => Lib.hid (by have := rsize_any R.N W; rwa [show decide (1 ≤ R.N ∧ R.N ≤ 4096) = true from by simp; omega] at this)
  have e9 : (R.H == R.T) = false := by simpa using c10
  go_enter Tryz.func45, Tryz.ntmps45
  go_wp2_with fail
  refine (SZ _).out.mono ?_
  rintro e w1 ⟨rfl, rfl⟩
  go_wp2
  go_ret
  exact ⟨rfl, by (go_light; repeat (first | (with_reducible exact Kept.refl _) | (with_reducible assumption) | (with_reducible refine Kept.alloc ?_ _ _) | (with_reducible refine Kept.drew ?_) | (with_reducible refine Kept.drewN ?_ _) | ((with_reducible refine Kept.setCell ?_ ?_ _); rotate_left; focus (first | (simp; done) | (simp; omega))) | refine Kept.trans ?_ (by assumption)))⟩
set_option maxHeartbeats 1000000 in
theorem rfits_TSa (R : Rng) (n : Int) (w : World) (c0 : 1 ≤ n) (c1 : n ≤ 4096) (c2 : 1 ≤ R.N) (c3 : R.N ≤ 4096) (c4 : 0 ≤ R.H) (c5 : R.H < n) (c6 : 0 ≤ R.T) (c7 : R.T < n) (c8 : 0 ≤ R.K) (c9 : R.K ≤ n - R.N) (c10 : ¬ R.H = R.T) (c11 : R.H < R.K) (c12 : R.K ≤ R.T) (c13 : R.T < R.K + R.N) : Calls Tryz.prog 45 #[ringV R, .int .i64 n] w fun e w' => e = .returned (.int .i64 2) ∧ Kept w w' := by
  have SZ : ∀ W, Hid (Calls Tryz.prog 106 #[.int .i64 R.N] W fun e w' => e = .returned (.bool true) ∧ W = w') := fun W => Lib.hid (by have := rsize_any R.N W; rwa [show decide (1 ≤ R.N ∧ R.N ≤ 4096) = true from by simp; omega] at this)
  have e9 : (R.H == R.T) = false := by simpa using c10
  have f1 : decide (R.K ≤ R.H) = false := by simp; omega
  go_enter Tryz.func45, Tryz.ntmps45
  go_wp2_with fail
  refine (SZ _).out.mono ?_
  rintro e w1 ⟨rfl, rfl⟩
  go_wp2
  go_ret
  exact ⟨rfl, by (go_light; repeat (first | (with_reducible exact Kept.refl _) | (with_reducible assumption) | (with_reducible refine Kept.alloc ?_ _ _) | (with_reducible refine Kept.drew ?_) | (with_reducible refine Kept.drewN ?_ _) | ((with_reducible refine Kept.setCell ?_ ?_ _); rotate_left; focus (first | (simp; done) | (simp; omega))) | refine Kept.trans ?_ (by assumption)))⟩
set_option maxHeartbeats 1000000 in
theorem rfits_0aa (R : Rng) (n : Int) (w : World) (c0 : 1 ≤ n) (c1 : n ≤ 4096) (c2 : 1 ≤ R.N) (c3 : R.N ≤ 4096) (c4 : 0 ≤ R.H) (c5 : R.H < n) (c6 : 0 ≤ R.T) (c7 : R.T < n) (c8 : 0 ≤ R.K) (c9 : R.K ≤ n - R.N) (c10 : ¬ R.H = R.T) (c11 : R.H < R.K) (c12 : R.T < R.K) : Calls Tryz.prog 45 #[ringV R, .int .i64 n] w fun e w' => e = .returned (.int .i64 0) ∧ Kept w w' := by
  have SZ : ∀ W, Hid (Calls Tryz.prog 106 #[.int .i64 R.N] W fun e w' => e = .returned (.bool true) ∧ W = w') := fun W => Lib.hid (by have := rsize_any R.N W; rwa [show decide (1 ≤ R.N ∧ R.N ≤ 4096) = true from by simp; omega] at this)
  have e9 : (R.H == R.T) = false := by simpa using c10
  have f1 : decide (R.K ≤ R.H) = false := by simp; omega
  have g1 : decide (R.K ≤ R.T) = false := by simp; omega
  go_enter Tryz.func45, Tryz.ntmps45
  go_wp2_with fail
  refine (SZ _).out.mono ?_
  rintro e w1 ⟨rfl, rfl⟩
  go_wp2
  go_ret
  exact ⟨rfl, by (go_light; repeat (first | (with_reducible exact Kept.refl _) | (with_reducible assumption) | (with_reducible refine Kept.alloc ?_ _ _) | (with_reducible refine Kept.drew ?_) | (with_reducible refine Kept.drewN ?_ _) | ((with_reducible refine Kept.setCell ?_ ?_ _); rotate_left; focus (first | (simp; done) | (simp; omega))) | refine Kept.trans ?_ (by assumption)))⟩
set_option maxHeartbeats 1000000 in
theorem rfits_0ab (R : Rng) (n : Int) (w : World) (c0 : 1 ≤ n) (c1 : n ≤ 4096) (c2 : 1 ≤ R.N) (c3 : R.N ≤ 4096) (c4 : 0 ≤ R.H) (c5 : R.H < n) (c6 : 0 ≤ R.T) (c7 : R.T < n) (c8 : 0 ≤ R.K) (c9 : R.K ≤ n - R.N) (c10 : ¬ R.H = R.T) (c11 : R.H < R.K) (c12 : R.K + R.N ≤ R.T) : Calls Tryz.prog 45 #[ringV R, .int .i64 n] w fun e w' => e = .returned (.int .i64 0) ∧ Kept w w' := by
  have SZ : ∀ W, Hid (Calls Tryz.prog 106 #[.int .i64 R.N] W fun e w' => e = .returned (.bool true) ∧ W = w') := fun W => Lib.hid (by have := rsize_any R.N W; rwa [show decide (1 ≤ R.N ∧ R.N ≤ 4096) = true from by simp; omega] at this)
  have e9 : (R.H == R.T) = false := by simpa using c10
  have f1 : decide (R.K ≤ R.H) = false := by simp; omega
  have g2 : R.K ≤ R.T := by omega
  have g1 : decide (R.T < R.K + R.N) = false := by simp; omega
  go_enter Tryz.func45, Tryz.ntmps45
  go_wp2_with fail
  refine (SZ _).out.mono ?_
  rintro e w1 ⟨rfl, rfl⟩
  go_wp2
  go_ret
  exact ⟨rfl, by (go_light; repeat (first | (with_reducible exact Kept.refl _) | (with_reducible assumption) | (with_reducible refine Kept.alloc ?_ _ _) | (with_reducible refine Kept.drew ?_) | (with_reducible refine Kept.drewN ?_ _) | ((with_reducible refine Kept.setCell ?_ ?_ _); rotate_left; focus (first | (simp; done) | (simp; omega))) | refine Kept.trans ?_ (by assumption)))⟩
set_option maxHeartbeats 1000000 in
theorem rfits_TSb (R : Rng) (n : Int) (w : World) (c0 : 1 ≤ n) (c1 : n ≤ 4096) (c2 : 1 ≤ R.N) (c3 : R.N ≤ 4096) (c4 : 0 ≤ R.H) (c5 : R.H < n) (c6 : 0 ≤ R.T) (c7 : R.T < n) (c8 : 0 ≤ R.K) (c9 : R.K ≤ n - R.N) (c10 : ¬ R.H = R.T) (c11 : R.K + R.N ≤ R.H) (c12 : R.K ≤ R.T) (c13 : R.T < R.K + R.N) : Calls Tryz.prog 45 #[ringV R, .int .i64 n] w fun e w' => e = .returned (.int .i64 2) ∧ Kept w w' := by
  have SZ : ∀ W, Hid (Calls Tryz.prog 106 #[.int .i64 R.N] W fun e w' => e = .returned (.bool true) ∧ W = w') := fun W => Lib.hid (by have := rsize_any R.N W; rwa [show decide (1 ≤ R.N ∧ R.N ≤ 4096) = true from by simp; omega] at this)
  have e9 : (R.H == R.T) = false := by simpa using c10
  have f2 : R.K ≤ R.H := by omega
  have f1 : decide (R.H < R.K + R.N) = false := by simp; omega
  go_enter Tryz.func45, Tryz.ntmps45
  go_wp2_with fail
  refine (SZ _).out.mono ?_
  rintro e w1 ⟨rfl, rfl⟩
  go_wp2
  go_ret
  exact ⟨rfl, by (go_light; repeat (first | (with_reducible exact Kept.refl _) | (with_reducible assumption) | (with_reducible refine Kept.alloc ?_ _ _) | (with_reducible refine Kept.drew ?_) | (with_reducible refine Kept.drewN ?_ _) | ((with_reducible refine Kept.setCell ?_ ?_ _); rotate_left; focus (first | (simp; done) | (simp; omega))) | refine Kept.trans ?_ (by assumption)))⟩
set_option maxHeartbeats 1000000 in
theorem rfits_0ba (R : Rng) (n : Int) (w : World) (c0 : 1 ≤ n) (c1 : n ≤ 4096) (c2 : 1 ≤ R.N) (c3 : R.N ≤ 4096) (c4 : 0 ≤ R.H) (c5 : R.H < n) (c6 : 0 ≤ R.T) (c7 : R.T < n) (c8 : 0 ≤ R.K) (c9 : R.K ≤ n - R.N) (c10 : ¬ R.H = R.T) (c11 : R.K + R.N ≤ R.H) (c12 : R.T < R.K) : Calls Tryz.prog 45 #[ringV R, .int .i64 n] w fun e w' => e = .returned (.int .i64 0) ∧ Kept w w' := by
  have SZ : ∀ W, Hid (Calls Tryz.prog 106 #[.int .i64 R.N] W fun e w' => e = .returned (.bool true) ∧ W = w') := fun W => Lib.hid (by have := rsize_any R.N W; rwa [show decide (1 ≤ R.N ∧ R.N ≤ 4096) = true from by simp; omega] at this)
  have e9 : (R.H == R.T) = false := by simpa using c10
  have f2 : R.K ≤ R.H := by omega
  have f1 : decide (R.H < R.K + R.N) = false := by simp; omega
  have g1 : decide (R.K ≤ R.T) = false := by simp; omega
  go_enter Tryz.func45, Tryz.ntmps45
  go_wp2_with fail
  refine (SZ _).out.mono ?_
  rintro e w1 ⟨rfl, rfl⟩
  go_wp2
  go_ret
  exact ⟨rfl, by (go_light; repeat (first | (with_reducible exact Kept.refl _) | (with_reducible assumption) | (with_reducible refine Kept.alloc ?_ _ _) | (with_reducible refine Kept.drew ?_) | (with_reducible refine Kept.drewN ?_ _) | ((with_reducible refine Kept.setCell ?_ ?_ _); rotate_left; focus (first | (simp; done) | (simp; omega))) | refine Kept.trans ?_ (by assumption)))⟩
set_option maxHeartbeats 1000000 in
theorem rfits_0bb (R : Rng) (n : Int) (w : World) (c0 : 1 ≤ n) (c1 : n ≤ 4096) (c2 : 1 ≤ R.N) (c3 : R.N ≤ 4096) (c4 : 0 ≤ R.H) (c5 : R.H < n) (c6 : 0 ≤ R.T) (c7 : R.T < n) (c8 : 0 ≤ R.K) (c9 : R.K ≤ n - R.N) (c10 : ¬ R.H = R.T) (c11 : R.K + R.N ≤ R.H) (c12 : R.K + R.N ≤ R.T) : Calls Tryz.prog 45 #[ringV R, .int .i64 n] w fun e w' => e = .returned (.int .i64 0) ∧ Kept w w' := by
  have SZ : ∀ W, Hid (Calls Tryz.prog 106 #[.int .i64 R.N] W fun e w' => e = .returned (.bool true) ∧ W = w') := fun W => Lib.hid (by have := rsize_any R.N W; rwa [show decide (1 ≤ R.N ∧ R.N ≤ 4096) = true from by simp; omega] at this)
  have e9 : (R.H == R.T) = false := by simpa using c10
  have f2 : R.K ≤ R.H := by omega
  have f1 : decide (R.H < R.K + R.N) = false := by simp; omega
  have g2 : R.K ≤ R.T := by omega
  have g1 : decide (R.T < R.K + R.N) = false := by simp; omega
  go_enter Tryz.func45, Tryz.ntmps45
  go_wp2_with fail
  refine (SZ _).out.mono ?_
  rintro e w1 ⟨rfl, rfl⟩
  go_wp2
  go_ret
  exact ⟨rfl, by (go_light; repeat (first | (with_reducible exact Kept.refl _) | (with_reducible assumption) | (with_reducible refine Kept.alloc ?_ _ _) | (with_reducible refine Kept.drew ?_) | (with_reducible refine Kept.drewN ?_ _) | ((with_reducible refine Kept.setCell ?_ ?_ _); rotate_left; focus (first | (simp; done) | (simp; omega))) | refine Kept.trans ?_ (by assumption)))⟩
theorem rfits_any (R : Rng) (n : Int) (w : World) : Calls Tryz.prog 45 #[ringV R, .int .i64 n] w fun e w' => e = .returned (.int .i64 (fitsR R n)) ∧ Kept w w' := by
  unfold fitsR
  by_cases h1 : n < 1
  · rw [if_pos (.inl h1)]; exact rfits_n1 R n w h1
  by_cases h2 : 4096 < n
  · rw [if_pos (.inr h2)]; exact rfits_n2 R n w (by omega) h2
  rw [if_neg (by omega)]
  by_cases h3 : R.N < 1 ∨ 4096 < R.N
  · rw [if_pos (by omega)]; exact rfits_N R n w (by omega) (by omega) h3
  have E2 : ∀ p q : Prop, [Decidable p] → [Decidable q] → ¬ q → (if p then (2 : Int) else if q then 0 else 2) = 2 := fun p q _ _ hq => by
    by_cases p
    · rw [if_pos ‹p›]
    · rw [if_neg ‹¬ p›, if_neg hq]
  have NA : ∀ a, ¬ (0 ≤ a ∧ a < n ∧ (a < R.K ∨ R.K + R.N ≤ a)) → ¬ apartB R a n = true := fun a h k => h ((apartB_iff R a n).1 k)
  by_cases h4 : R.H < 0
  · rw [E2 _ _ (fun k => NA R.H (by omega) k.1)]; exact rfits_H1 R n w (by omega) (by omega) (by omega) (by omega) h4
  by_cases h5 : n ≤ R.H
  · rw [E2 _ _ (fun k => NA R.H (by omega) k.1)]; exact rfits_H2 R n w (by omega) (by omega) (by omega) (by omega) (by omega) h5
  by_cases h6 : R.T < 0
  · rw [E2 _ _ (fun k => NA R.T (by omega) k.2.1)]; exact rfits_T1 R n w (by omega) (by omega) (by omega) (by omega) (by omega) (by omega) h6
  by_cases h7 : n ≤ R.T
  · rw [E2 _ _ (fun k => NA R.T (by omega) k.2.1)]; exact rfits_T2 R n w (by omega) (by omega) (by omega) (by omega) (by omega) (by omega) (by omega) h7
  by_cases h8 : R.K < 0
  · rw [if_pos (by omega)]; exact rfits_K1 R n w (by omega) (by omega) (by omega) (by omega) (by omega) (by omega) (by omega) (by omega) h8
  by_cases h9 : n - R.N < R.K
  · rw [if_pos (by omega)]; exact rfits_K2 R n w (by omega) (by omega) (by omega) (by omega) (by omega) (by omega) (by omega) (by omega) (by omega) h9
  rw [if_neg (by omega)]
  by_cases h10 : R.H = R.T
  · rw [if_neg (fun k => k.2.2 h10)]; exact rfits_E R n w (by omega) (by omega) (by omega) (by omega) (by omega) (by omega) (by omega) (by omega) (by omega) (by omega) h10
  by_cases h11 : R.K ≤ R.H ∧ R.H < R.K + R.N
  · rw [if_neg (fun k => NA R.H (by omega) k.1)]; exact rfits_HS R n w (by omega) (by omega) (by omega) (by omega) (by omega) (by omega) (by omega) (by omega) (by omega) (by omega) h10 h11.1 h11.2
  by_cases h12 : R.K ≤ R.T ∧ R.T < R.K + R.N
  · rw [if_neg (fun k => NA R.T (by omega) k.2.1)]
    by_cases h13 : R.H < R.K
    · exact rfits_TSa R n w (by omega) (by omega) (by omega) (by omega) (by omega) (by omega) (by omega) (by omega) (by omega) (by omega) h10 h13 h12.1 h12.2
    · exact rfits_TSb R n w (by omega) (by omega) (by omega) (by omega) (by omega) (by omega) (by omega) (by omega) (by omega) (by omega) h10 (by omega) h12.1 h12.2
  rw [if_pos ⟨(apartB_iff R _ n).2 (by omega), (apartB_iff R _ n).2 (by omega), h10⟩]
  by_cases h13 : R.H < R.K
  · by_cases h14 : R.T < R.K
    · exact rfits_0aa R n w (by omega) (by omega) (by omega) (by omega) (by omega) (by omega) (by omega) (by omega) (by omega) (by omega) h10 h13 h14
    · exact rfits_0ab R n w (by omega) (by omega) (by omega) (by omega) (by omega) (by omega) (by omega) (by omega) (by omega) (by omega) h10 h13 (by omega)
  · by_cases h14 : R.T < R.K
    · exact rfits_0ba R n w (by omega) (by omega) (by omega) (by omega) (by omega) (by omega) (by omega) (by omega) (by omega) (by omega) h10 (by omega) h14
    · exact rfits_0bb R n w (by omega) (by omega) (by omega) (by omega) (by omega) (by omega) (by omega) (by omega) (by omega) (by omega) h10 (by omega) (by omega)
end Go.Proofs.YtlfdiffbepfgbaaGreat.Ri
