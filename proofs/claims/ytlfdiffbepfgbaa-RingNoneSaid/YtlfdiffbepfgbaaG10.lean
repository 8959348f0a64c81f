/- Fits: the program's and the document's. Written by gen14f.py. -/
import Derived.Test.YtlfdiffbepfgbaaG06
import Derived.Test.YtlfdiffbepfgbaaG03
import Derived.Deep.RegionLaw
set_option linter.unusedVariables false
set_option linter.unusedSimpArgs false

namespace Go.Proofs.Ytlfdiffbepfgbaa.Ri
set_option maxRecDepth 20000
open Go.RowKit
open Wo (St acc wordAt)

def apartB (R : Rng) (a n : Int) : Bool := decide (0 ≤ a) && (decide (a < n) && (decide (a < R.K) || decide (R.K + R.N ≤ a)))
theorem apartB_iff (R : Rng) (a n : Int) : apartB R a n = true ↔ 0 ≤ a ∧ a < n ∧ (a < R.K ∨ R.K + R.N ≤ a) := by unfold apartB; simp
def fitsR (R : Rng) (n : Int) : Int :=
  if n < 1 ∨ 4096 < n then 3
  else if R.N < 1 ∨ 4096 < R.N ∨ R.K < 0 ∨ n - R.N < R.K then 2
  else if apartB R R.H n = true ∧ apartB R R.T n = true ∧ R.H ≠ R.T then 0 else 2
structure RAp (R : Rng) (n : Nat) : Prop where
  ok : R.Ok n
  hH : R.H < R.K ∨ R.K + R.N ≤ R.H
  hT : R.T < R.K ∨ R.K + R.N ≤ R.T
  ne : R.H ≠ R.T
theorem fitsR_ok {R : Rng} {n : Int} (h : fitsR R n = 0) : RAp R n.toNat ∧ 1 ≤ n ∧ n ≤ 4096 := by
  unfold fitsR at h
  split at h
  · omega
  · split at h
    · omega
    · split at h
      · rename_i h1 h2 h3
        obtain ⟨a, b, c⟩ := h3
        rw [apartB_iff] at a b
        exact ⟨⟨⟨by omega, by omega, by omega, by omega, by omega, by omega, by omega, by omega, by omega⟩, a.2.2, b.2.2, c⟩, by omega, by omega⟩
      · omega

set_option maxHeartbeats 400000 in
theorem apart_a (R : Rng) (a n : Int) (w : World) (h : a < 0) : Calls Try.prog 51 #[ringV R, .int .i64 a, .int .i64 n] w fun e w' => e = .returned (.bool false) ∧ Kept w w' := by
  go_enter Try.func51, Try.ntmps51
  go_wp2
  go_ret
  exact ⟨rfl, by (go_light; repeat (first | (with_reducible exact Kept.refl _) | (with_reducible assumption) | (with_reducible refine Kept.alloc ?_ _ _) | (with_reducible refine Kept.drew ?_) | (with_reducible refine Kept.drewN ?_ _) | ((with_reducible refine Kept.setCell ?_ ?_ _); rotate_left; focus (first | (simp; done) | (simp; omega))) | refine Kept.trans ?_ (by assumption)))⟩
set_option maxHeartbeats 400000 in
theorem apart_b (R : Rng) (a n : Int) (w : World) (h : 0 ≤ a) (h2 : n ≤ a) : Calls Try.prog 51 #[ringV R, .int .i64 a, .int .i64 n] w fun e w' => e = .returned (.bool false) ∧ Kept w w' := by
  have h3 : decide (a < n) = false := by simp; omega
  go_enter Try.func51, Try.ntmps51
  go_wp2
  go_ret
  exact ⟨rfl, by (go_light; repeat (first | (with_reducible exact Kept.refl _) | (with_reducible assumption) | (with_reducible refine Kept.alloc ?_ _ _) | (with_reducible refine Kept.drew ?_) | (with_reducible refine Kept.drewN ?_ _) | ((with_reducible refine Kept.setCell ?_ ?_ _); rotate_left; focus (first | (simp; done) | (simp; omega))) | refine Kept.trans ?_ (by assumption)))⟩
set_option maxHeartbeats 400000 in
theorem apart_c (R : Rng) (a n : Int) (w : World) (h : 0 ≤ a) (h2 : a < n) (h3 : a < R.K) : Calls Try.prog 51 #[ringV R, .int .i64 a, .int .i64 n] w fun e w' => e = .returned (.bool true) ∧ Kept w w' := by
  go_enter Try.func51, Try.ntmps51
  go_wp2
  go_ret
  exact ⟨rfl, by (go_light; repeat (first | (with_reducible exact Kept.refl _) | (with_reducible assumption) | (with_reducible refine Kept.alloc ?_ _ _) | (with_reducible refine Kept.drew ?_) | (with_reducible refine Kept.drewN ?_ _) | ((with_reducible refine Kept.setCell ?_ ?_ _); rotate_left; focus (first | (simp; done) | (simp; omega))) | refine Kept.trans ?_ (by assumption)))⟩
set_option maxHeartbeats 400000 in
theorem apart_d (R : Rng) (a n : Int) (w : World) (h : 0 ≤ a) (h2 : a < n) (h3 : R.K ≤ a) (b0 : 0 ≤ R.K) (b1 : R.K ≤ 10000) (b2 : 0 ≤ R.N) (b3 : R.N ≤ 10000) (h4 : R.K + R.N ≤ a) : Calls Try.prog 51 #[ringV R, .int .i64 a, .int .i64 n] w fun e w' => e = .returned (.bool true) ∧ Kept w w' := by
  have h5 : decide (a < R.K) = false := by simp; omega
  go_enter Try.func51, Try.ntmps51
  go_wp2
  go_ret
  exact ⟨rfl, by (go_light; repeat (first | (with_reducible exact Kept.refl _) | (with_reducible assumption) | (with_reducible refine Kept.alloc ?_ _ _) | (with_reducible refine Kept.drew ?_) | (with_reducible refine Kept.drewN ?_ _) | ((with_reducible refine Kept.setCell ?_ ?_ _); rotate_left; focus (first | (simp; done) | (simp; omega))) | refine Kept.trans ?_ (by assumption)))⟩
set_option maxHeartbeats 400000 in
theorem apart_e (R : Rng) (a n : Int) (w : World) (h : 0 ≤ a) (h2 : a < n) (h3 : R.K ≤ a) (b0 : 0 ≤ R.K) (b1 : R.K ≤ 10000) (b2 : 0 ≤ R.N) (b3 : R.N ≤ 10000) (h4 : a < R.K + R.N) : Calls Try.prog 51 #[ringV R, .int .i64 a, .int .i64 n] w fun e w' => e = .returned (.bool false) ∧ Kept w w' := by
  have h5 : decide (a < R.K) = false := by simp; omega
  have h6 : decide (R.K + R.N ≤ a) = false := by simp; omega
  go_enter Try.func51, Try.ntmps51
  go_wp2
  go_ret
  exact ⟨rfl, by (go_light; repeat (first | (with_reducible exact Kept.refl _) | (with_reducible assumption) | (with_reducible refine Kept.alloc ?_ _ _) | (with_reducible refine Kept.drew ?_) | (with_reducible refine Kept.drewN ?_ _) | ((with_reducible refine Kept.setCell ?_ ?_ _); rotate_left; focus (first | (simp; done) | (simp; omega))) | refine Kept.trans ?_ (by assumption)))⟩
theorem apart_any (R : Rng) (a n : Int) (w : World) (b0 : 0 ≤ R.K) (b1 : R.K ≤ 10000) (b2 : 0 ≤ R.N) (b3 : R.N ≤ 10000) :
    Calls Try.prog 51 #[ringV R, .int .i64 a, .int .i64 n] w fun e w' => e = .returned (.bool (apartB R a n)) ∧ Kept w w' := by
  by_cases h : a < 0
  · have e : apartB R a n = false := by unfold apartB; simp; omega
    rw [e]; exact apart_a R a n w h
  · by_cases h2 : n ≤ a
    · have e : apartB R a n = false := by unfold apartB; simp; omega
      rw [e]; exact apart_b R a n w (by omega) h2
    · by_cases h3 : a < R.K
      · have e : apartB R a n = true := by unfold apartB; simp; omega
        rw [e]; exact apart_c R a n w (by omega) (by omega) h3
      · by_cases h4 : R.K + R.N ≤ a
        · have e : apartB R a n = true := by unfold apartB; simp; omega
          rw [e]; exact apart_d R a n w (by omega) (by omega) (by omega) b0 b1 b2 b3 h4
        · have e : apartB R a n = false := by unfold apartB; simp; omega
          rw [e]; exact apart_e R a n w (by omega) (by omega) (by omega) b0 b1 b2 b3 (by omega)
set_option maxHeartbeats 1000000 in
theorem pfits_n1 (R : Rng) (n : Int) (w : World) (c0 : n < 1) : Calls Try.prog 29 #[ringV R, .int .i64 n] w fun e w' => e = .returned (.int .i64 3) ∧ Kept w w' := by
  go_enter Try.func29, Try.ntmps29
  go_wp2
  go_ret
  exact ⟨rfl, by (go_light; repeat (first | (with_reducible exact Kept.refl _) | (with_reducible assumption) | (with_reducible refine Kept.alloc ?_ _ _) | (with_reducible refine Kept.drew ?_) | (with_reducible refine Kept.drewN ?_ _) | ((with_reducible refine Kept.setCell ?_ ?_ _); rotate_left; focus (first | (simp; done) | (simp; omega))) | refine Kept.trans ?_ (by assumption)))⟩
set_option maxHeartbeats 1000000 in
theorem pfits_n2 (R : Rng) (n : Int) (w : World) (c0 : 1 ≤ n) (c1 : 4096 < n) : Calls Try.prog 29 #[ringV R, .int .i64 n] w fun e w' => e = .returned (.int .i64 3) ∧ Kept w w' := by
  go_enter Try.func29, Try.ntmps29
  go_wp2
  go_ret
  exact ⟨rfl, by (go_light; repeat (first | (with_reducible exact Kept.refl _) | (with_reducible assumption) | (with_reducible refine Kept.alloc ?_ _ _) | (with_reducible refine Kept.drew ?_) | (with_reducible refine Kept.drewN ?_ _) | ((with_reducible refine Kept.setCell ?_ ?_ _); rotate_left; focus (first | (simp; done) | (simp; omega))) | refine Kept.trans ?_ (by assumption)))⟩
set_option maxHeartbeats 1000000 in
theorem pfits_N (R : Rng) (n : Int) (w : World) (c0 : 1 ≤ n) (c1 : n ≤ 4096) (c2 : R.N < 1 ∨ 4096 < R.N) : Calls Try.prog 29 #[ringV R, .int .i64 n] w fun e w' => e = .returned (.int .i64 2) ∧ Kept w w' := by
  have SZ : ∀ W, Hid (Calls Try.prog 39 #[ringV R] W fun e w' => e = .returned (.bool false) ∧ Kept W w') := fun W => Lib.hid (by have := sized_any R W; rwa [show decide (1 ≤ R.N ∧ R.N ≤ 4096) = false from by simp; omega] at this)
  clear c2
  go_enter Try.func29, Try.ntmps29
  go_wp2_with fail
  refine (SZ _).out.mono ?_
  rintro e w1 ⟨rfl, k1⟩
  have a0 : w1.cell? ⟨w.heap.size, 0, none⟩ = some (.int .i64 R.H) := k1.some (by simp)
  have a1 : w1.cell? ⟨w.heap.size, 1, none⟩ = some (.int .i64 R.T) := k1.some (by simp)
  have a2 : w1.cell? ⟨w.heap.size, 2, none⟩ = some (.int .i64 R.K) := k1.some (by simp)
  have a3 : w1.cell? ⟨w.heap.size, 3, none⟩ = some (.int .i64 R.N) := k1.some (by simp)
  go_wp2
  go_ret
  exact ⟨rfl, by (go_light; repeat (first | (with_reducible exact Kept.refl _) | (with_reducible assumption) | (with_reducible refine Kept.alloc ?_ _ _) | (with_reducible refine Kept.drew ?_) | (with_reducible refine Kept.drewN ?_ _) | ((with_reducible refine Kept.setCell ?_ ?_ _); rotate_left; focus (first | (simp; done) | (simp; omega))) | refine Kept.trans ?_ (by assumption)))⟩
set_option maxHeartbeats 1000000 in
theorem pfits_K1 (R : Rng) (n : Int) (w : World) (c0 : 1 ≤ n) (c1 : n ≤ 4096) (c2 : 1 ≤ R.N) (c3 : R.N ≤ 4096) (c4 : R.K < 0) : Calls Try.prog 29 #[ringV R, .int .i64 n] w fun e w' => e = .returned (.int .i64 2) ∧ Kept w w' := by
  have SZ : ∀ W, Hid (Calls Try.prog 39 #[ringV R] W fun e w' => e = .returned (.bool true) ∧ Kept W w') := fun W => Lib.hid (by have := sized_any R W; rwa [show decide (1 ≤ R.N ∧ R.N ≤ 4096) = true from by simp; omega] at this)
  go_enter Try.func29, Try.ntmps29
  go_wp2_with fail
  refine (SZ _).out.mono ?_
  rintro e w1 ⟨rfl, k1⟩
  have a0 : w1.cell? ⟨w.heap.size, 0, none⟩ = some (.int .i64 R.H) := k1.some (by simp)
  have a1 : w1.cell? ⟨w.heap.size, 1, none⟩ = some (.int .i64 R.T) := k1.some (by simp)
  have a2 : w1.cell? ⟨w.heap.size, 2, none⟩ = some (.int .i64 R.K) := k1.some (by simp)
  have a3 : w1.cell? ⟨w.heap.size, 3, none⟩ = some (.int .i64 R.N) := k1.some (by simp)
  go_wp2
  go_ret
  exact ⟨rfl, by (go_light; repeat (first | (with_reducible exact Kept.refl _) | (with_reducible assumption) | (with_reducible refine Kept.alloc ?_ _ _) | (with_reducible refine Kept.drew ?_) | (with_reducible refine Kept.drewN ?_ _) | ((with_reducible refine Kept.setCell ?_ ?_ _); rotate_left; focus (first | (simp; done) | (simp; omega))) | refine Kept.trans ?_ (by assumption)))⟩
set_option maxHeartbeats 1000000 in
theorem pfits_K2 (R : Rng) (n : Int) (w : World) (c0 : 1 ≤ n) (c1 : n ≤ 4096) (c2 : 1 ≤ R.N) (c3 : R.N ≤ 4096) (c4 : 0 ≤ R.K) (c5 : n - R.N < R.K) : Calls Try.prog 29 #[ringV R, .int .i64 n] w fun e w' => e = .returned (.int .i64 2) ∧ Kept w w' := by
  have SZ : ∀ W, Hid (Calls Try.prog 39 #[ringV R] W fun e w' => e = .returned (.bool true) ∧ Kept W w') := fun W => Lib.hid (by have := sized_any R W; rwa [show decide (1 ≤ R.N ∧ R.N ≤ 4096) = true from by simp; omega] at this)
  go_enter Try.func29, Try.ntmps29
  go_wp2_with fail
  refine (SZ _).out.mono ?_
  rintro e w1 ⟨rfl, k1⟩
  have a0 : w1.cell? ⟨w.heap.size, 0, none⟩ = some (.int .i64 R.H) := k1.some (by simp)
  have a1 : w1.cell? ⟨w.heap.size, 1, none⟩ = some (.int .i64 R.T) := k1.some (by simp)
  have a2 : w1.cell? ⟨w.heap.size, 2, none⟩ = some (.int .i64 R.K) := k1.some (by simp)
  have a3 : w1.cell? ⟨w.heap.size, 3, none⟩ = some (.int .i64 R.N) := k1.some (by simp)
  go_wp2
  go_ret
  exact ⟨rfl, by (go_light; repeat (first | (with_reducible exact Kept.refl _) | (with_reducible assumption) | (with_reducible refine Kept.alloc ?_ _ _) | (with_reducible refine Kept.drew ?_) | (with_reducible refine Kept.drewN ?_ _) | ((with_reducible refine Kept.setCell ?_ ?_ _); rotate_left; focus (first | (simp; done) | (simp; omega))) | refine Kept.trans ?_ (by assumption)))⟩
set_option maxHeartbeats 1000000 in
theorem pfits_H (R : Rng) (n : Int) (w : World) (c0 : 1 ≤ n) (c1 : n ≤ 4096) (c2 : 1 ≤ R.N) (c3 : R.N ≤ 4096) (c4 : 0 ≤ R.K) (c5 : R.K ≤ n - R.N) (c6 : apartB R R.H n = false) : Calls Try.prog 29 #[ringV R, .int .i64 n] w fun e w' => e = .returned (.int .i64 2) ∧ Kept w w' := by
  have SZ : ∀ W, Hid (Calls Try.prog 39 #[ringV R] W fun e w' => e = .returned (.bool true) ∧ Kept W w') := fun W => Lib.hid (by have := sized_any R W; rwa [show decide (1 ≤ R.N ∧ R.N ≤ 4096) = true from by simp; omega] at this)
  have A1 : ∀ W, Hid (Calls Try.prog 51 #[ringV R, .int .i64 R.H, .int .i64 n] W fun e w' => e = .returned (.bool false) ∧ Kept W w') := fun W => Lib.hid (by have := apart_any R R.H n W c4 (by omega) (by omega) (by omega); rwa [c6] at this)
  clear c6
  go_enter Try.func29, Try.ntmps29
  go_wp2_with fail
  refine (SZ _).out.mono ?_
  rintro e w1 ⟨rfl, k1⟩
  have a0 : w1.cell? ⟨w.heap.size, 0, none⟩ = some (.int .i64 R.H) := k1.some (by simp)
  have a1 : w1.cell? ⟨w.heap.size, 1, none⟩ = some (.int .i64 R.T) := k1.some (by simp)
  have a2 : w1.cell? ⟨w.heap.size, 2, none⟩ = some (.int .i64 R.K) := k1.some (by simp)
  have a3 : w1.cell? ⟨w.heap.size, 3, none⟩ = some (.int .i64 R.N) := k1.some (by simp)
  go_wp2_with fail
  refine (A1 _).out.mono ?_
  rintro e w2 ⟨rfl, k2⟩
  have a0 := k2.some a0
  have a1 := k2.some a1
  have a2 := k2.some a2
  have a3 := k2.some a3
  go_wp2
  go_ret
  exact ⟨rfl, by (go_light; repeat (first | (with_reducible exact Kept.refl _) | (with_reducible assumption) | (with_reducible refine Kept.alloc ?_ _ _) | (with_reducible refine Kept.drew ?_) | (with_reducible refine Kept.drewN ?_ _) | ((with_reducible refine Kept.setCell ?_ ?_ _); rotate_left; focus (first | (simp; done) | (simp; omega))) | refine Kept.trans ?_ (by assumption)))⟩
set_option maxHeartbeats 1000000 in
theorem pfits_T (R : Rng) (n : Int) (w : World) (c0 : 1 ≤ n) (c1 : n ≤ 4096) (c2 : 1 ≤ R.N) (c3 : R.N ≤ 4096) (c4 : 0 ≤ R.K) (c5 : R.K ≤ n - R.N) (c6 : apartB R R.H n = true) (c7 : apartB R R.T n = false) : Calls Try.prog 29 #[ringV R, .int .i64 n] w fun e w' => e = .returned (.int .i64 2) ∧ Kept w w' := by
  have SZ : ∀ W, Hid (Calls Try.prog 39 #[ringV R] W fun e w' => e = .returned (.bool true) ∧ Kept W w') := fun W => Lib.hid (by have := sized_any R W; rwa [show decide (1 ≤ R.N ∧ R.N ≤ 4096) = true from by simp; omega] at this)
  have A1 : ∀ W, Hid (Calls Try.prog 51 #[ringV R, .int .i64 R.H, .int .i64 n] W fun e w' => e = .returned (.bool true) ∧ Kept W w') := fun W => Lib.hid (by have := apart_any R R.H n W c4 (by omega) (by omega) (by omega); rwa [c6] at this)
  have A2 : ∀ W, Hid (Calls Try.prog 51 #[ringV R, .int .i64 R.T, .int .i64 n] W fun e w' => e = .returned (.bool false) ∧ Kept W w') := fun W => Lib.hid (by have := apart_any R R.T n W c4 (by omega) (by omega) (by omega); rwa [c7] at this)
  clear c6 c7
  go_enter Try.func29, Try.ntmps29
  go_wp2_with fail
  refine (SZ _).out.mono ?_
  rintro e w1 ⟨rfl, k1⟩
  have a0 : w1.cell? ⟨w.heap.size, 0, none⟩ = some (.int .i64 R.H) := k1.some (by simp)
  have a1 : w1.cell? ⟨w.heap.size, 1, none⟩ = some (.int .i64 R.T) := k1.some (by simp)
  have a2 : w1.cell? ⟨w.heap.size, 2, none⟩ = some (.int .i64 R.K) := k1.some (by simp)
  have a3 : w1.cell? ⟨w.heap.size, 3, none⟩ = some (.int .i64 R.N) := k1.some (by simp)
  go_wp2_with fail
  refine (A1 _).out.mono ?_
  rintro e w2 ⟨rfl, k2⟩
  have a0 := k2.some a0
  have a1 := k2.some a1
  have a2 := k2.some a2
  have a3 := k2.some a3
  go_wp2_with fail
  refine (A2 _).out.mono ?_
  rintro e w3 ⟨rfl, k3⟩
  have a0 := k3.some a0
  have a1 := k3.some a1
  have a2 := k3.some a2
  have a3 := k3.some a3
  go_wp2
  go_ret
  exact ⟨rfl, by (go_light; repeat (first | (with_reducible exact Kept.refl _) | (with_reducible assumption) | (with_reducible refine Kept.alloc ?_ _ _) | (with_reducible refine Kept.drew ?_) | (with_reducible refine Kept.drewN ?_ _) | ((with_reducible refine Kept.setCell ?_ ?_ _); rotate_left; focus (first | (simp; done) | (simp; omega))) | refine Kept.trans ?_ (by assumption)))⟩
set_option maxHeartbeats 1000000 in
theorem pfits_E (R : Rng) (n : Int) (w : World) (c0 : 1 ≤ n) (c1 : n ≤ 4096) (c2 : 1 ≤ R.N) (c3 : R.N ≤ 4096) (c4 : 0 ≤ R.K) (c5 : R.K ≤ n - R.N) (c6 : apartB R R.H n = true) (c7 : apartB R R.T n = true) (c8 : R.H = R.T) : Calls Try.prog 29 #[ringV R, .int .i64 n] w fun e w' => e = .returned (.int .i64 2) ∧ Kept w w' := by
  have SZ : ∀ W, Hid (Calls Try.prog 39 #[ringV R] W fun e w' => e = .returned (.bool true) ∧ Kept W w') := fun W => Lib.hid (by have := sized_any R W; rwa [show decide (1 ≤ R.N ∧ R.N ≤ 4096) = true from by simp; omega] at this)
  have A1 : ∀ W, Hid (Calls Try.prog 51 #[ringV R, .int .i64 R.H, .int .i64 n] W fun e w' => e = .returned (.bool true) ∧ Kept W w') := fun W => Lib.hid (by have := apart_any R R.H n W c4 (by omega) (by omega) (by omega); rwa [c6] at this)
  have A2 : ∀ W, Hid (Calls Try.prog 51 #[ringV R, .int .i64 R.T, .int .i64 n] W fun e w' => e = .returned (.bool true) ∧ Kept W w') := fun W => Lib.hid (by have := apart_any R R.T n W c4 (by omega) (by omega) (by omega); rwa [c7] at this)
  have c9 : (R.H == R.T) = true := by simpa using c8
  clear c6 c7 c8
  go_enter Try.func29, Try.ntmps29
  go_wp2_with fail
  refine (SZ _).out.mono ?_
  rintro e w1 ⟨rfl, k1⟩
  have a0 : w1.cell? ⟨w.heap.size, 0, none⟩ = some (.int .i64 R.H) := k1.some (by simp)
  have a1 : w1.cell? ⟨w.heap.size, 1, none⟩ = some (.int .i64 R.T) := k1.some (by simp)
  have a2 : w1.cell? ⟨w.heap.size, 2, none⟩ = some (.int .i64 R.K) := k1.some (by simp)
  have a3 : w1.cell? ⟨w.heap.size, 3, none⟩ = some (.int .i64 R.N) := k1.some (by simp)
  go_wp2_with fail
  refine (A1 _).out.mono ?_
  rintro e w2 ⟨rfl, k2⟩
  have a0 := k2.some a0
  have a1 := k2.some a1
  have a2 := k2.some a2
  have a3 := k2.some a3
  go_wp2_with fail
  refine (A2 _).out.mono ?_
  rintro e w3 ⟨rfl, k3⟩
  have a0 := k3.some a0
  have a1 := k3.some a1
  have a2 := k3.some a2
  have a3 := k3.some a3
  go_wp2
  go_ret
  exact ⟨rfl, by (go_light; repeat (first | (with_reducible exact Kept.refl _) | (with_reducible assumption) | (with_reducible refine Kept.alloc ?_ _ _) | (with_reducible refine Kept.drew ?_) | (with_reducible refine Kept.drewN ?_ _) | ((with_reducible refine Kept.setCell ?_ ?_ _); rotate_left; focus (first | (simp; done) | (simp; omega))) | refine Kept.trans ?_ (by assumption)))⟩
set_option maxHeartbeats 1000000 in
theorem pfits_0 (R : Rng) (n : Int) (w : World) (c0 : 1 ≤ n) (c1 : n ≤ 4096) (c2 : 1 ≤ R.N) (c3 : R.N ≤ 4096) (c4 : 0 ≤ R.K) (c5 : R.K ≤ n - R.N) (c6 : apartB R R.H n = true) (c7 : apartB R R.T n = true) (c8 : ¬ R.H = R.T) : Calls Try.prog 29 #[ringV R, .int .i64 n] w fun e w' => e = .returned (.int .i64 0) ∧ Kept w w' := by
  have SZ : ∀ W, Hid (Calls Try.prog 39 #[ringV R] W fun e w' => e = .returned (.bool true) ∧ Kept W w') := fun W => Lib.hid (by have := sized_any R W; rwa [show decide (1 ≤ R.N ∧ R.N ≤ 4096) = true from by simp; omega] at this)
  have A1 : ∀ W, Hid (Calls Try.prog 51 #[ringV R, .int .i64 R.H, .int .i64 n] W fun e w' => e = .returned (.bool true) ∧ Kept W w') := fun W => Lib.hid (by have := apart_any R R.H n W c4 (by omega) (by omega) (by omega); rwa [c6] at this)
  have A2 : ∀ W, Hid (Calls Try.prog 51 #[ringV R, .int .i64 R.T, .int .i64 n] W fun e w' => e = .returned (.bool true) ∧ Kept W w') := fun W => Lib.hid (by have := apart_any R R.T n W c4 (by omega) (by omega) (by omega); rwa [c7] at this)
  have c9 : (R.H == R.T) = false := by simpa using c8
  clear c6 c7
  go_enter Try.func29, Try.ntmps29
  go_wp2_with fail
  refine (SZ _).out.mono ?_
  rintro e w1 ⟨rfl, k1⟩
  have a0 : w1.cell? ⟨w.heap.size, 0, none⟩ = some (.int .i64 R.H) := k1.some (by simp)
  have a1 : w1.cell? ⟨w.heap.size, 1, none⟩ = some (.int .i64 R.T) := k1.some (by simp)
  have a2 : w1.cell? ⟨w.heap.size, 2, none⟩ = some (.int .i64 R.K) := k1.some (by simp)
  have a3 : w1.cell? ⟨w.heap.size, 3, none⟩ = some (.int .i64 R.N) := k1.some (by simp)
  go_wp2_with fail
  refine (A1 _).out.mono ?_
  rintro e w2 ⟨rfl, k2⟩
  have a0 := k2.some a0
  have a1 := k2.some a1
  have a2 := k2.some a2
  have a3 := k2.some a3
  go_wp2_with fail
  refine (A2 _).out.mono ?_
  rintro e w3 ⟨rfl, k3⟩
  have a0 := k3.some a0
  have a1 := k3.some a1
  have a2 := k3.some a2
  have a3 := k3.some a3
  go_wp2
  go_ret
  exact ⟨rfl, by (go_light; repeat (first | (with_reducible exact Kept.refl _) | (with_reducible assumption) | (with_reducible refine Kept.alloc ?_ _ _) | (with_reducible refine Kept.drew ?_) | (with_reducible refine Kept.drewN ?_ _) | ((with_reducible refine Kept.setCell ?_ ?_ _); rotate_left; focus (first | (simp; done) | (simp; omega))) | refine Kept.trans ?_ (by assumption)))⟩
theorem pfits_any (R : Rng) (n : Int) (w : World) : Calls Try.prog 29 #[ringV R, .int .i64 n] w fun e w' => e = .returned (.int .i64 (fitsR R n)) ∧ Kept w w' := by
  unfold fitsR
  by_cases h1 : n < 1
  · rw [if_pos (.inl h1)]; exact pfits_n1 R n w h1
  · by_cases h2 : 4096 < n
    · rw [if_pos (.inr h2)]; exact pfits_n2 R n w (by omega) h2
    · rw [if_neg (by omega)]
      by_cases h3 : R.N < 1 ∨ 4096 < R.N
      · rw [if_pos (by omega)]; exact pfits_N R n w (by omega) (by omega) h3
      · by_cases h4 : R.K < 0
        · rw [if_pos (by omega)]; exact pfits_K1 R n w (by omega) (by omega) (by omega) (by omega) h4
        · by_cases h5 : n - R.N < R.K
          · rw [if_pos (by omega)]; exact pfits_K2 R n w (by omega) (by omega) (by omega) (by omega) (by omega) h5
          · rw [if_neg (by omega)]
            cases h6 : apartB R R.H n with
            | false => rw [if_neg (by simp)]; exact pfits_H R n w (by omega) (by omega) (by omega) (by omega) (by omega) (by omega) h6
            | true =>
              cases h7 : apartB R R.T n with
              | false => rw [if_neg (by simp)]; exact pfits_T R n w (by omega) (by omega) (by omega) (by omega) (by omega) (by omega) h6 h7
              | true =>
                by_cases h8 : R.H = R.T
                · rw [if_neg (by simp [h8])]; exact pfits_E R n w (by omega) (by omega) (by omega) (by omega) (by omega) (by omega) h6 h7 h8
                · rw [if_pos ⟨rfl, rfl, h8⟩]; exact pfits_0 R n w (by omega) (by omega) (by omega) (by omega) (by omega) (by omega) h6 h7 h8
end Go.Proofs.Ytlfdiffbepfgbaa.Ri

namespace Go.Proofs.Ytlfdiffbepfgbaa.Ri
set_option maxRecDepth 20000
open Go.RowKit
open Wo (St acc wordAt PMem RefIs)
open Sk (Wd p_store pmem_lt pmem_kept pmem_frame)

def fillTo (n : Nat) (R : Rng) (s : St) : Nat → St
  | 0 => acc n (acc n s 2 R.H true 0) 2 R.T true 0
  | k + 1 => acc n (fillTo n R s k) 2 (R.K + k) true 0
def fillSt (n : Nat) (R : Rng) (s : St) : St := fillTo n R s R.N.toNat
theorem fillTo_cnt (n : Nat) (R : Rng) (s : St) : ∀ k : Nat, (fillTo n R s k).cnt = s.cnt + 2 + k
  | 0 => by show (acc n (acc n s 2 R.H true 0) 2 R.T true 0).cnt = _; rw [Sk.acc_cnt, Sk.acc_cnt]; omega
  | k + 1 => by show (acc n (fillTo n R s k) 2 (R.K + k) true 0).cnt = _; rw [Sk.acc_cnt, fillTo_cnt n R s k]; omega
theorem fillTo_wd {n : Nat} {R : Rng} {s : St} (h : Wd n s) : ∀ k : Nat, Wd n (fillTo n R s k)
  | 0 => (h.acc _ _ _ _ (by omega) (by omega)).acc _ _ _ _ (by omega) (by omega)
  | k + 1 => (fillTo_wd h k).acc _ _ _ _ (by omega) (by omega)
theorem acc_zero {n : Nat} {s : St} {a : Int} (j : Nat) (h : s.ws j = 0) : (acc n s 2 a true 0).ws j = 0 := by
  unfold acc
  split
  · simp only [if_true]; split <;> first | rfl | exact h
  · exact h
theorem fillTo_zero {n : Nat} {R : Rng} {s : St} (j : Nat) (h : s.ws j = 0) : ∀ k : Nat, (fillTo n R s k).ws j = 0
  | 0 => acc_zero j (acc_zero j h)
  | k + 1 => acc_zero j (fillTo_zero j h k)

set_option maxHeartbeats 2000000 in
theorem p_fill (M B n : Nat) (R : Rng) (s : St) (w : World) (hm : PMem w M B n s) (h0 : 0 ≤ s.cnt) (h1 : s.cnt ≤ 900000) (hR : R.Ok n) :
    Calls Try.prog 18 #[ringV R, .pointer (some ⟨M, 0, none⟩)] w fun e w' => e = .returned (.tuple #[]) ∧ PMem w' M B n (fillSt n R s) ∧ But (fun k => k = B) w w' := by
  have N1 := hR.N1
  have N2 := hR.N2
  have K1 := hR.K1
  have K2 := hR.K2
  have n2 := hR.n2
  have hB := pmem_lt hm
  have SZ : ∀ W, Hid (Calls Try.prog 39 #[ringV R] W fun e w' => e = .returned (.bool true) ∧ Kept W w') := fun W => Lib.hid (by have := sized_any R W; rwa [show decide (1 ≤ R.N ∧ R.N ≤ 4096) = true from by simp; omega] at this)
  have C2 : ∀ k : Nat, k ≤ 4096 → 0 ≤ (fillTo n R s k).cnt ∧ (fillTo n R s k).cnt ≤ 1000000 := fun k hk => by rw [fillTo_cnt]; omega
  have HC2 := Lib.hid C2
  have CA : Hid (0 ≤ (acc n s 2 R.H true 0).cnt ∧ (acc n s 2 R.H true 0).cnt ≤ 1000000) := Lib.hid (by rw [Sk.acc_cnt]; omega)
  have hne : w.heap.size ≠ B := by omega
  have HM := Lib.hid hm
  clear hm hR C2
  go_enter Try.func18, Try.ntmps18
  go_wp2_with fail
  refine (SZ _).out.mono ?_
  rintro e w1 ⟨rfl, k1⟩
  have a0 : w1.cell? ⟨w.heap.size, 0, none⟩ = some (.int .i64 R.H) := k1.some (by simp)
  have a1 : w1.cell? ⟨w.heap.size, 1, none⟩ = some (.int .i64 R.T) := k1.some (by simp)
  have a2 : w1.cell? ⟨w.heap.size, 2, none⟩ = some (.int .i64 R.K) := k1.some (by simp)
  have a3 : w1.cell? ⟨w.heap.size, 3, none⟩ = some (.int .i64 R.N) := k1.some (by simp)
  have KT : Hid (Kept w w1) := Lib.hid (((Kept.refl w).alloc _ _).trans k1)
  clear k1
  go_wp2_with fail
  refine (p_store M B n s R.H 0 _ (pmem_kept HM.out KT.out) h0 (by omega)).mono ?_
  rintro e w2 ⟨rfl, m2, b2⟩
  have a0 := b2.some a0 hne
  have a1 := b2.some a1 hne
  have a2 := b2.some a2 hne
  have a3 := b2.some a3 hne
  have M2 := Lib.hid m2
  have B2 := Lib.hid ((KT.out.but (fun k => k = B)).trans b2 (fun _ _ h => h))
  clear m2 b2 KT
  go_wp2_with fail
  refine (p_store M B n _ R.T 0 _ M2.out CA.out.1 CA.out.2).mono ?_
  rintro e w3 ⟨rfl, m3, b3⟩
  have a0 := b3.some a0 hne
  have a1 := b3.some a1 hne
  have a2 := b3.some a2 hne
  have a3 := b3.some a3 hne
  have M3 : Hid (PMem w3 M B n (fillTo n R s 0)) := Lib.hid m3
  have B3 := Lib.hid (B2.out.trans b3 (fun _ _ h => h))
  obtain ⟨m, hmm⟩ : ∃ m : Nat, (m : Int) = R.N := ⟨R.N.toNat, by omega⟩
  have HMM := Lib.hid hmm
  clear m3 b3 B2 M2 hmm
  go_wp2_with fail
  go_loopw [18, 4] (fun i _ wr => ∃ k : Nat, k ≤ m ∧ i = .int .i64 k ∧ PMem wr M B n (fillTo n R s k) ∧ But (fun k => k = B) w3 wr) (fun i _ _ => m - (intOf i).toNat)
  case atStart => exact ⟨0, Nat.zero_le _, rfl, M3.out, But.refl _ _⟩
  case round =>
    obtain ⟨k, hk, rfl, mr, br⟩ := hrel
    have e0 := br.some a0 hne
    have e1 := br.some a1 hne
    have e2 := br.some a2 hne
    have e3 := br.some a3 hne
    have hmm := HMM.out
    have MR := Lib.hid mr
    have BR := Lib.hid br
    have hc := Lib.hid (HC2.out k (by omega))
    clear mr br a0 a1 a2 a3
    by_cases hlt : k < m
    · have hl : (k : Int) < R.N := by omega
      have ST : ∀ W, Hid (PMem W M B n (fillTo n R s k) → Calls Try.prog 40 #[.pointer (some ⟨M, 0, none⟩), .int .i64 (R.K + (k : Int)), .int .u64 0] W fun e w' => e = .returned (.tuple #[]) ∧ PMem w' M B n (fillTo n R s (k + 1)) ∧ But (fun k => k = B) W w') := fun W => Lib.hid (fun m => p_store M B n _ (R.K + (k : Int)) 0 W m hc.out.1 hc.out.2)
      clear hmm
      go_wp2_with fail
      refine ((ST _).out MR.out).mono ?_
      rintro e w7 ⟨rfl, m7, b7⟩
      have M7 := Lib.hid m7
      have B7 := Lib.hid (BR.out.trans b7 (fun _ _ h => h))
      clear m7 b7
      go_wp2
      go_roundw
      case rel => exact ⟨k + 1, by omega, by go_num, M7.out, B7.out⟩
      case measure => simp [intOf]; omega
    · have hl : R.N ≤ (k : Int) := by omega
      have hkm : k = R.N.toNat := by omega
      have HKM := Lib.hid hkm
      clear hmm hkm
      go_wp2
      go_end0
      refine ⟨rfl, ?_, B3.out.trans BR.out (fun _ _ h => h)⟩
      have := MR.out
      rw [HKM.out] at this
      exact this
end Go.Proofs.Ytlfdiffbepfgbaa.Ri
