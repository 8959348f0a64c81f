/- How the program's operations are made. Written by gen14n.py. -/
import Derived.Test.YtlfdiffbepfgbaaGreatG13
import Derived.Deep.RegionLaw
set_option linter.unusedVariables false
set_option linter.unusedSimpArgs false

namespace Go.Proofs.YtlfdiffbepfgbaaGreat.Ri
set_option maxRecDepth 20000
open Go.RowKit
open Wo (St acc wordAt PMem RefIs)
open Sk (Wd)

theorem OpAt.new (w : World) (P : Nat) (hP : P = w.heap.size) (R : Rng) (t v : Int) (nx : Value) (er : Int) (ty : TypeId) : OpAt (w.alloc (.cells #[.bool true, nx, .int .i64 R.H, .int .i64 R.T, .int .i64 R.K, .int .i64 R.N, .int .u64 t, .int .u64 0, .int .i64 v, .int .i64 er] ty)) P R t 0 v nx er :=
  ⟨cell_new _ _ _ _ 0 hP, cell_new _ _ _ _ 1 hP, cell_new _ _ _ _ 2 hP, cell_new _ _ _ _ 3 hP, cell_new _ _ _ _ 4 hP, cell_new _ _ _ _ 5 hP, cell_new _ _ _ _ 6 hP, cell_new _ _ _ _ 7 hP, cell_new _ _ _ _ 8 hP, cell_new _ _ _ _ 9 hP, fun i => by subst hP; simp⟩
theorem put10_go {P : Program} {F : Func} {Q : Ending → World → Prop} {A : Act} {w : World} {o : Nat} {x0 x1 x2 x3 x4 x5 x6 x7 x8 x9 : Value} (h : ∀ i, i < 10 → ∃ v, w.cell? ⟨o, i, none⟩ = some v)
    (k : ∀ W9, W9.cell? ⟨o, 0, none⟩ = some x0 ∧ W9.cell? ⟨o, 1, none⟩ = some x1 ∧ W9.cell? ⟨o, 2, none⟩ = some x2 ∧ W9.cell? ⟨o, 3, none⟩ = some x3 ∧ W9.cell? ⟨o, 4, none⟩ = some x4 ∧ W9.cell? ⟨o, 5, none⟩ = some x5 ∧ W9.cell? ⟨o, 6, none⟩ = some x6 ∧ W9.cell? ⟨o, 7, none⟩ = some x7 ∧ W9.cell? ⟨o, 8, none⟩ = some x8 ∧ W9.cell? ⟨o, 9, none⟩ = some x9 → But (fun k => k = o) w W9 → bodyPost P F Q Exit.ret A W9) :
    bodyPost P F Q Exit.ret A ((((((((((w.setCell ⟨o, 0, none⟩ x0).setCell ⟨o, 1, none⟩ x1).setCell ⟨o, 2, none⟩ x2).setCell ⟨o, 3, none⟩ x3).setCell ⟨o, 4, none⟩ x4).setCell ⟨o, 5, none⟩ x5).setCell ⟨o, 6, none⟩ x6).setCell ⟨o, 7, none⟩ x7).setCell ⟨o, 8, none⟩ x8).setCell ⟨o, 9, none⟩ x9) := by
  obtain ⟨v0, h0⟩ := h 0 (by decide)
  obtain ⟨v1, h1⟩ := h 1 (by decide)
  obtain ⟨v2, h2⟩ := h 2 (by decide)
  obtain ⟨v3, h3⟩ := h 3 (by decide)
  obtain ⟨v4, h4⟩ := h 4 (by decide)
  obtain ⟨v5, h5⟩ := h 5 (by decide)
  obtain ⟨v6, h6⟩ := h 6 (by decide)
  obtain ⟨v7, h7⟩ := h 7 (by decide)
  obtain ⟨v8, h8⟩ := h 8 (by decide)
  obtain ⟨v9, h9⟩ := h 9 (by decide)
  refine k _ ⟨?_, ?_, ?_, ?_, ?_, ?_, ?_, ?_, ?_, ?_⟩ (((((((((((But.refl _ _).here _ _).here _ _).here _ _).here _ _).here _ _).here _ _).here _ _).here _ _).here _ _).here _ _)
  · simp [cell_set, h0]
  · simp [cell_set, h1]
  · simp [cell_set, h2]
  · simp [cell_set, h3]
  · simp [cell_set, h4]
  · simp [cell_set, h5]
  · simp [cell_set, h6]
  · simp [cell_set, h7]
  · simp [cell_set, h8]
  · simp [cell_set, h9]
set_option maxHeartbeats 2000000 in
theorem begun_yes (R : Rng) (t v : Int) (fn : Fn) (w : World) (n1 : 1 ≤ R.N) (n2 : R.N ≤ 4096) (v0 : 0 ≤ v) (v1 : v ≤ 65535) : Calls Tryz.prog 214 #[.agg #[.bool false, .nilFunc, .int .i64 R.H, .int .i64 R.T, .int .i64 R.K, .int .i64 R.N, .int .u64 t, .int .u64 0, .int .i64 v, .int .i64 0], .func fn #[] #[]] w fun e w' => e = .returned (.agg #[.bool true, (.func fn #[] #[]), .int .i64 R.H, .int .i64 R.T, .int .i64 R.K, .int .i64 R.N, .int .u64 t, .int .u64 0, .int .i64 v, .int .i64 14]) ∧ Kept w w' := by
  have SZ : ∀ W, Hid (Calls Tryz.prog 104 #[ringV R] W fun e w' => e = .returned (.bool true) ∧ Kept W w') := fun W => Lib.hid (by have := sized_any R W; rwa [show decide (1 ≤ R.N ∧ R.N ≤ 4096) = true from by simp; omega] at this)
  go_enter Tryz.func214, Tryz.ntmps214
  go_wp2_with fail
  refine (SZ _).out.mono ?_
  rintro e w1 ⟨rfl, k1⟩
  have a0 : w1.cell? ⟨w.heap.size, 0, none⟩ = some (.bool true) := k1.some (((Kept.refl _).alloc _ _).some (cell_new _ _ _ _ 0 rfl))
  have a1 : w1.cell? ⟨w.heap.size, 1, none⟩ = some (.func fn #[] #[]) := k1.some (((Kept.refl _).alloc _ _).some (cell_new _ _ _ _ 1 rfl))
  have a2 : w1.cell? ⟨w.heap.size, 2, none⟩ = some (.int .i64 R.H) := k1.some (((Kept.refl _).alloc _ _).some (cell_new _ _ _ _ 2 rfl))
  have a3 : w1.cell? ⟨w.heap.size, 3, none⟩ = some (.int .i64 R.T) := k1.some (((Kept.refl _).alloc _ _).some (cell_new _ _ _ _ 3 rfl))
  have a4 : w1.cell? ⟨w.heap.size, 4, none⟩ = some (.int .i64 R.K) := k1.some (((Kept.refl _).alloc _ _).some (cell_new _ _ _ _ 4 rfl))
  have a5 : w1.cell? ⟨w.heap.size, 5, none⟩ = some (.int .i64 R.N) := k1.some (((Kept.refl _).alloc _ _).some (cell_new _ _ _ _ 5 rfl))
  have a6 : w1.cell? ⟨w.heap.size, 6, none⟩ = some (.int .u64 t) := k1.some (((Kept.refl _).alloc _ _).some (cell_new _ _ _ _ 6 rfl))
  have a7 : w1.cell? ⟨w.heap.size, 7, none⟩ = some (.int .u64 0) := k1.some (((Kept.refl _).alloc _ _).some (cell_new _ _ _ _ 7 rfl))
  have a8 : w1.cell? ⟨w.heap.size, 8, none⟩ = some (.int .i64 v) := k1.some (((Kept.refl _).alloc _ _).some (cell_new _ _ _ _ 8 rfl))
  have a9 : w1.cell? ⟨w.heap.size, 9, none⟩ = some (.int .i64 14) := k1.some (((Kept.refl _).alloc _ _).some (cell_new _ _ _ _ 9 rfl))
  have af : ∀ i, w1.frozen? ⟨w.heap.size, i, none⟩ = false := fun i => k1.soft (by simp; omega) ((((Kept.refl _).alloc _ _).soft (by simp) (by simp)))
  have r0 : w1.cell? ⟨w.heap.size + 1, 0, none⟩ = some (.bool false) := k1.some (cell_new _ _ _ _ 0 (by simp))
  have r1 : w1.cell? ⟨w.heap.size + 1, 1, none⟩ = some (.nilFunc) := k1.some (cell_new _ _ _ _ 1 (by simp))
  have r2 : w1.cell? ⟨w.heap.size + 1, 2, none⟩ = some (.int .i64 0) := k1.some (cell_new _ _ _ _ 2 (by simp))
  have r3 : w1.cell? ⟨w.heap.size + 1, 3, none⟩ = some (.int .i64 0) := k1.some (cell_new _ _ _ _ 3 (by simp))
  have r4 : w1.cell? ⟨w.heap.size + 1, 4, none⟩ = some (.int .i64 0) := k1.some (cell_new _ _ _ _ 4 (by simp))
  have r5 : w1.cell? ⟨w.heap.size + 1, 5, none⟩ = some (.int .i64 0) := k1.some (cell_new _ _ _ _ 5 (by simp))
  have r6 : w1.cell? ⟨w.heap.size + 1, 6, none⟩ = some (.int .u64 0) := k1.some (cell_new _ _ _ _ 6 (by simp))
  have r7 : w1.cell? ⟨w.heap.size + 1, 7, none⟩ = some (.int .u64 0) := k1.some (cell_new _ _ _ _ 7 (by simp))
  have r8 : w1.cell? ⟨w.heap.size + 1, 8, none⟩ = some (.int .i64 0) := k1.some (cell_new _ _ _ _ 8 (by simp))
  have r9 : w1.cell? ⟨w.heap.size + 1, 9, none⟩ = some (.int .i64 0) := k1.some (cell_new _ _ _ _ 9 (by simp))
  have rf : ∀ i, w1.frozen? ⟨w.heap.size + 1, i, none⟩ = false := fun i => k1.soft (by simp) (by simp)
  have lz : w.heap.size + 1 < w1.heap.size := lt_of_cell r0
  have K1 : Hid (Kept w w1) := Lib.hid (Kept.trans (b := _) (by (go_light; repeat (first | (with_reducible exact Kept.refl _) | (with_reducible assumption) | (with_reducible refine Kept.alloc ?_ _ _) | (with_reducible refine Kept.drew ?_) | (with_reducible refine Kept.drewN ?_ _) | ((with_reducible refine Kept.setCell ?_ ?_ _); rotate_left; focus (first | (simp; done) | (simp; omega))) | refine Kept.trans ?_ (by assumption)))) k1)
  clear k1
  go_wp2
  refine put10_go (fun i hi => ?_) ?_
  · obtain rfl | rfl | rfl | rfl | rfl | rfl | rfl | rfl | rfl | rfl : i = 0 ∨ i = 1 ∨ i = 2 ∨ i = 3 ∨ i = 4 ∨ i = 5 ∨ i = 6 ∨ i = 7 ∨ i = 8 ∨ i = 9 := by omega
    all_goals exact ⟨_, by assumption⟩
  rintro W9 ⟨e0, e1, e2, e3, e4, e5, e6, e7, e8, e9⟩ b9
  refine bodyPost_ret (v := .agg #[.bool true, (.func fn #[] #[]), .int .i64 R.H, .int .i64 R.T, .int .i64 R.K, .int .i64 R.N, .int .u64 t, .int .u64 0, .int .i64 v, .int .i64 14]) (by simp [results, Tryz.results214, go_sem, e0, e1, e2, e3, e4, e5, e6, e7, e8, e9]) rfl ⟨rfl, ?_⟩
  exact ((K1.out.but (fun k => k = w.heap.size + 1)).trans b9 (fun _ _ h => h)).kept (fun k hk e => by omega)
set_option maxHeartbeats 2000000 in
theorem begun_lo (R : Rng) (t v : Int) (fn : Fn) (w : World) (n1 : 1 ≤ R.N) (n2 : R.N ≤ 4096) (v0 : v < 0) : Calls Tryz.prog 214 #[.agg #[.bool false, .nilFunc, .int .i64 R.H, .int .i64 R.T, .int .i64 R.K, .int .i64 R.N, .int .u64 t, .int .u64 0, .int .i64 v, .int .i64 0], .func fn #[] #[]] w fun e w' => e = .returned (.agg #[.bool true, .nilFunc, .int .i64 R.H, .int .i64 R.T, .int .i64 R.K, .int .i64 R.N, .int .u64 t, .int .u64 0, .int .i64 v, .int .i64 3]) ∧ Kept w w' := by
  have SZ : ∀ W, Hid (Calls Tryz.prog 104 #[ringV R] W fun e w' => e = .returned (.bool true) ∧ Kept W w') := fun W => Lib.hid (by have := sized_any R W; rwa [show decide (1 ≤ R.N ∧ R.N ≤ 4096) = true from by simp; omega] at this)
  go_enter Tryz.func214, Tryz.ntmps214
  go_wp2_with fail
  refine (SZ _).out.mono ?_
  rintro e w1 ⟨rfl, k1⟩
  have a0 : w1.cell? ⟨w.heap.size, 0, none⟩ = some (.bool true) := k1.some (((Kept.refl _).alloc _ _).some (cell_new _ _ _ _ 0 rfl))
  have a1 : w1.cell? ⟨w.heap.size, 1, none⟩ = some (.func fn #[] #[]) := k1.some (((Kept.refl _).alloc _ _).some (cell_new _ _ _ _ 1 rfl))
  have a2 : w1.cell? ⟨w.heap.size, 2, none⟩ = some (.int .i64 R.H) := k1.some (((Kept.refl _).alloc _ _).some (cell_new _ _ _ _ 2 rfl))
  have a3 : w1.cell? ⟨w.heap.size, 3, none⟩ = some (.int .i64 R.T) := k1.some (((Kept.refl _).alloc _ _).some (cell_new _ _ _ _ 3 rfl))
  have a4 : w1.cell? ⟨w.heap.size, 4, none⟩ = some (.int .i64 R.K) := k1.some (((Kept.refl _).alloc _ _).some (cell_new _ _ _ _ 4 rfl))
  have a5 : w1.cell? ⟨w.heap.size, 5, none⟩ = some (.int .i64 R.N) := k1.some (((Kept.refl _).alloc _ _).some (cell_new _ _ _ _ 5 rfl))
  have a6 : w1.cell? ⟨w.heap.size, 6, none⟩ = some (.int .u64 t) := k1.some (((Kept.refl _).alloc _ _).some (cell_new _ _ _ _ 6 rfl))
  have a7 : w1.cell? ⟨w.heap.size, 7, none⟩ = some (.int .u64 0) := k1.some (((Kept.refl _).alloc _ _).some (cell_new _ _ _ _ 7 rfl))
  have a8 : w1.cell? ⟨w.heap.size, 8, none⟩ = some (.int .i64 v) := k1.some (((Kept.refl _).alloc _ _).some (cell_new _ _ _ _ 8 rfl))
  have a9 : w1.cell? ⟨w.heap.size, 9, none⟩ = some (.int .i64 14) := k1.some (((Kept.refl _).alloc _ _).some (cell_new _ _ _ _ 9 rfl))
  have af : ∀ i, w1.frozen? ⟨w.heap.size, i, none⟩ = false := fun i => k1.soft (by simp; omega) ((((Kept.refl _).alloc _ _).soft (by simp) (by simp)))
  have r0 : w1.cell? ⟨w.heap.size + 1, 0, none⟩ = some (.bool false) := k1.some (cell_new _ _ _ _ 0 (by simp))
  have r1 : w1.cell? ⟨w.heap.size + 1, 1, none⟩ = some (.nilFunc) := k1.some (cell_new _ _ _ _ 1 (by simp))
  have r2 : w1.cell? ⟨w.heap.size + 1, 2, none⟩ = some (.int .i64 0) := k1.some (cell_new _ _ _ _ 2 (by simp))
  have r3 : w1.cell? ⟨w.heap.size + 1, 3, none⟩ = some (.int .i64 0) := k1.some (cell_new _ _ _ _ 3 (by simp))
  have r4 : w1.cell? ⟨w.heap.size + 1, 4, none⟩ = some (.int .i64 0) := k1.some (cell_new _ _ _ _ 4 (by simp))
  have r5 : w1.cell? ⟨w.heap.size + 1, 5, none⟩ = some (.int .i64 0) := k1.some (cell_new _ _ _ _ 5 (by simp))
  have r6 : w1.cell? ⟨w.heap.size + 1, 6, none⟩ = some (.int .u64 0) := k1.some (cell_new _ _ _ _ 6 (by simp))
  have r7 : w1.cell? ⟨w.heap.size + 1, 7, none⟩ = some (.int .u64 0) := k1.some (cell_new _ _ _ _ 7 (by simp))
  have r8 : w1.cell? ⟨w.heap.size + 1, 8, none⟩ = some (.int .i64 0) := k1.some (cell_new _ _ _ _ 8 (by simp))
  have r9 : w1.cell? ⟨w.heap.size + 1, 9, none⟩ = some (.int .i64 0) := k1.some (cell_new _ _ _ _ 9 (by simp))
  have rf : ∀ i, w1.frozen? ⟨w.heap.size + 1, i, none⟩ = false := fun i => k1.soft (by simp) (by simp)
  have lz : w.heap.size + 1 < w1.heap.size := lt_of_cell r0
  have K1 : Hid (Kept w w1) := Lib.hid (Kept.trans (b := _) (by (go_light; repeat (first | (with_reducible exact Kept.refl _) | (with_reducible assumption) | (with_reducible refine Kept.alloc ?_ _ _) | (with_reducible refine Kept.drew ?_) | (with_reducible refine Kept.drewN ?_ _) | ((with_reducible refine Kept.setCell ?_ ?_ _); rotate_left; focus (first | (simp; done) | (simp; omega))) | refine Kept.trans ?_ (by assumption)))) k1)
  clear k1
  go_wp2_with fail
  refine (end_any w.heap.size R t 0 v (.func fn #[] #[]) 14 3 _ ⟨a0, a1, a2, a3, a4, a5, a6, a7, a8, a9, af⟩).mono ?_
  rintro e w2 ⟨rfl, o2, b2⟩
  obtain ⟨d0, d1, d2, d3, d4, d5, d6, d7, d8, d9, df⟩ := o2
  have r0 := b2.some r0 (by omega)
  have r1 := b2.some r1 (by omega)
  have r2 := b2.some r2 (by omega)
  have r3 := b2.some r3 (by omega)
  have r4 := b2.some r4 (by omega)
  have r5 := b2.some r5 (by omega)
  have r6 := b2.some r6 (by omega)
  have r7 := b2.some r7 (by omega)
  have r8 := b2.some r8 (by omega)
  have r9 := b2.some r9 (by omega)
  have rf : ∀ i, w2.frozen? ⟨w.heap.size + 1, i, none⟩ = false := fun i => b2.soft lz (rf i)
  have lz : w.heap.size + 1 < w2.heap.size := lt_of_cell r0
  have K2 : Hid (Kept w w2) := Lib.hid (((K1.out.but (fun k => k = w.heap.size)).trans b2 (fun _ _ h => h)).kept (fun k hk e => by omega))
  clear b2 a0 a1 a2 a3 a4 a5 a6 a7 a8 a9 af
  go_wp2
  refine put10_go (fun i hi => ?_) ?_
  · obtain rfl | rfl | rfl | rfl | rfl | rfl | rfl | rfl | rfl | rfl : i = 0 ∨ i = 1 ∨ i = 2 ∨ i = 3 ∨ i = 4 ∨ i = 5 ∨ i = 6 ∨ i = 7 ∨ i = 8 ∨ i = 9 := by omega
    all_goals exact ⟨_, by assumption⟩
  rintro W9 ⟨e0, e1, e2, e3, e4, e5, e6, e7, e8, e9⟩ b9
  refine bodyPost_ret (v := .agg #[.bool true, .nilFunc, .int .i64 R.H, .int .i64 R.T, .int .i64 R.K, .int .i64 R.N, .int .u64 t, .int .u64 0, .int .i64 v, .int .i64 3]) (by simp [results, Tryz.results214, go_sem, e0, e1, e2, e3, e4, e5, e6, e7, e8, e9]) rfl ⟨rfl, ?_⟩
  exact ((K2.out.but (fun k => k = w.heap.size + 1)).trans b9 (fun _ _ h => h)).kept (fun k hk e => by omega)
set_option maxHeartbeats 2000000 in
theorem begun_hi (R : Rng) (t v : Int) (fn : Fn) (w : World) (n1 : 1 ≤ R.N) (n2 : R.N ≤ 4096) (v0 : 0 ≤ v) (v1 : 65535 < v) : Calls Tryz.prog 214 #[.agg #[.bool false, .nilFunc, .int .i64 R.H, .int .i64 R.T, .int .i64 R.K, .int .i64 R.N, .int .u64 t, .int .u64 0, .int .i64 v, .int .i64 0], .func fn #[] #[]] w fun e w' => e = .returned (.agg #[.bool true, .nilFunc, .int .i64 R.H, .int .i64 R.T, .int .i64 R.K, .int .i64 R.N, .int .u64 t, .int .u64 0, .int .i64 v, .int .i64 3]) ∧ Kept w w' := by
  have SZ : ∀ W, Hid (Calls Tryz.prog 104 #[ringV R] W fun e w' => e = .returned (.bool true) ∧ Kept W w') := fun W => Lib.hid (by have := sized_any R W; rwa [show decide (1 ≤ R.N ∧ R.N ≤ 4096) = true from by simp; omega] at this)
  go_enter Tryz.func214, Tryz.ntmps214
  go_wp2_with fail
  refine (SZ _).out.mono ?_
  rintro e w1 ⟨rfl, k1⟩
  have a0 : w1.cell? ⟨w.heap.size, 0, none⟩ = some (.bool true) := k1.some (((Kept.refl _).alloc _ _).some (cell_new _ _ _ _ 0 rfl))
  have a1 : w1.cell? ⟨w.heap.size, 1, none⟩ = some (.func fn #[] #[]) := k1.some (((Kept.refl _).alloc _ _).some (cell_new _ _ _ _ 1 rfl))
  have a2 : w1.cell? ⟨w.heap.size, 2, none⟩ = some (.int .i64 R.H) := k1.some (((Kept.refl _).alloc _ _).some (cell_new _ _ _ _ 2 rfl))
  have a3 : w1.cell? ⟨w.heap.size, 3, none⟩ = some (.int .i64 R.T) := k1.some (((Kept.refl _).alloc _ _).some (cell_new _ _ _ _ 3 rfl))
  have a4 : w1.cell? ⟨w.heap.size, 4, none⟩ = some (.int .i64 R.K) := k1.some (((Kept.refl _).alloc _ _).some (cell_new _ _ _ _ 4 rfl))
  have a5 : w1.cell? ⟨w.heap.size, 5, none⟩ = some (.int .i64 R.N) := k1.some (((Kept.refl _).alloc _ _).some (cell_new _ _ _ _ 5 rfl))
  have a6 : w1.cell? ⟨w.heap.size, 6, none⟩ = some (.int .u64 t) := k1.some (((Kept.refl _).alloc _ _).some (cell_new _ _ _ _ 6 rfl))
  have a7 : w1.cell? ⟨w.heap.size, 7, none⟩ = some (.int .u64 0) := k1.some (((Kept.refl _).alloc _ _).some (cell_new _ _ _ _ 7 rfl))
  have a8 : w1.cell? ⟨w.heap.size, 8, none⟩ = some (.int .i64 v) := k1.some (((Kept.refl _).alloc _ _).some (cell_new _ _ _ _ 8 rfl))
  have a9 : w1.cell? ⟨w.heap.size, 9, none⟩ = some (.int .i64 14) := k1.some (((Kept.refl _).alloc _ _).some (cell_new _ _ _ _ 9 rfl))
  have af : ∀ i, w1.frozen? ⟨w.heap.size, i, none⟩ = false := fun i => k1.soft (by simp; omega) ((((Kept.refl _).alloc _ _).soft (by simp) (by simp)))
  have r0 : w1.cell? ⟨w.heap.size + 1, 0, none⟩ = some (.bool false) := k1.some (cell_new _ _ _ _ 0 (by simp))
  have r1 : w1.cell? ⟨w.heap.size + 1, 1, none⟩ = some (.nilFunc) := k1.some (cell_new _ _ _ _ 1 (by simp))
  have r2 : w1.cell? ⟨w.heap.size + 1, 2, none⟩ = some (.int .i64 0) := k1.some (cell_new _ _ _ _ 2 (by simp))
  have r3 : w1.cell? ⟨w.heap.size + 1, 3, none⟩ = some (.int .i64 0) := k1.some (cell_new _ _ _ _ 3 (by simp))
  have r4 : w1.cell? ⟨w.heap.size + 1, 4, none⟩ = some (.int .i64 0) := k1.some (cell_new _ _ _ _ 4 (by simp))
  have r5 : w1.cell? ⟨w.heap.size + 1, 5, none⟩ = some (.int .i64 0) := k1.some (cell_new _ _ _ _ 5 (by simp))
  have r6 : w1.cell? ⟨w.heap.size + 1, 6, none⟩ = some (.int .u64 0) := k1.some (cell_new _ _ _ _ 6 (by simp))
  have r7 : w1.cell? ⟨w.heap.size + 1, 7, none⟩ = some (.int .u64 0) := k1.some (cell_new _ _ _ _ 7 (by simp))
  have r8 : w1.cell? ⟨w.heap.size + 1, 8, none⟩ = some (.int .i64 0) := k1.some (cell_new _ _ _ _ 8 (by simp))
  have r9 : w1.cell? ⟨w.heap.size + 1, 9, none⟩ = some (.int .i64 0) := k1.some (cell_new _ _ _ _ 9 (by simp))
  have rf : ∀ i, w1.frozen? ⟨w.heap.size + 1, i, none⟩ = false := fun i => k1.soft (by simp) (by simp)
  have lz : w.heap.size + 1 < w1.heap.size := lt_of_cell r0
  have K1 : Hid (Kept w w1) := Lib.hid (Kept.trans (b := _) (by (go_light; repeat (first | (with_reducible exact Kept.refl _) | (with_reducible assumption) | (with_reducible refine Kept.alloc ?_ _ _) | (with_reducible refine Kept.drew ?_) | (with_reducible refine Kept.drewN ?_ _) | ((with_reducible refine Kept.setCell ?_ ?_ _); rotate_left; focus (first | (simp; done) | (simp; omega))) | refine Kept.trans ?_ (by assumption)))) k1)
  clear k1
  go_wp2_with fail
  refine (end_any w.heap.size R t 0 v (.func fn #[] #[]) 14 3 _ ⟨a0, a1, a2, a3, a4, a5, a6, a7, a8, a9, af⟩).mono ?_
  rintro e w2 ⟨rfl, o2, b2⟩
  obtain ⟨d0, d1, d2, d3, d4, d5, d6, d7, d8, d9, df⟩ := o2
  have r0 := b2.some r0 (by omega)
  have r1 := b2.some r1 (by omega)
  have r2 := b2.some r2 (by omega)
  have r3 := b2.some r3 (by omega)
  have r4 := b2.some r4 (by omega)
  have r5 := b2.some r5 (by omega)
  have r6 := b2.some r6 (by omega)
  have r7 := b2.some r7 (by omega)
  have r8 := b2.some r8 (by omega)
  have r9 := b2.some r9 (by omega)
  have rf : ∀ i, w2.frozen? ⟨w.heap.size + 1, i, none⟩ = false := fun i => b2.soft lz (rf i)
  have lz : w.heap.size + 1 < w2.heap.size := lt_of_cell r0
  have K2 : Hid (Kept w w2) := Lib.hid (((K1.out.but (fun k => k = w.heap.size)).trans b2 (fun _ _ h => h)).kept (fun k hk e => by omega))
  clear b2 a0 a1 a2 a3 a4 a5 a6 a7 a8 a9 af
  go_wp2
  refine put10_go (fun i hi => ?_) ?_
  · obtain rfl | rfl | rfl | rfl | rfl | rfl | rfl | rfl | rfl | rfl : i = 0 ∨ i = 1 ∨ i = 2 ∨ i = 3 ∨ i = 4 ∨ i = 5 ∨ i = 6 ∨ i = 7 ∨ i = 8 ∨ i = 9 := by omega
    all_goals exact ⟨_, by assumption⟩
  rintro W9 ⟨e0, e1, e2, e3, e4, e5, e6, e7, e8, e9⟩ b9
  refine bodyPost_ret (v := .agg #[.bool true, .nilFunc, .int .i64 R.H, .int .i64 R.T, .int .i64 R.K, .int .i64 R.N, .int .u64 t, .int .u64 0, .int .i64 v, .int .i64 3]) (by simp [results, Tryz.results214, go_sem, e0, e1, e2, e3, e4, e5, e6, e7, e8, e9]) rfl ⟨rfl, ?_⟩
  exact ((K2.out.but (fun k => k = w.heap.size + 1)).trans b9 (fun _ _ h => h)).kept (fun k hk e => by omega)
set_option maxHeartbeats 2000000 in
theorem begun_arg (R : Rng) (t v : Int) (fn : Fn) (w : World) (nn : R.N < 1 ∨ 4096 < R.N) : Calls Tryz.prog 214 #[.agg #[.bool false, .nilFunc, .int .i64 R.H, .int .i64 R.T, .int .i64 R.K, .int .i64 R.N, .int .u64 t, .int .u64 0, .int .i64 v, .int .i64 0], .func fn #[] #[]] w fun e w' => e = .returned (.agg #[.bool true, .nilFunc, .int .i64 R.H, .int .i64 R.T, .int .i64 R.K, .int .i64 R.N, .int .u64 t, .int .u64 0, .int .i64 v, .int .i64 2]) ∧ Kept w w' := by
  have SZ : ∀ W, Hid (Calls Tryz.prog 104 #[ringV R] W fun e w' => e = .returned (.bool false) ∧ Kept W w') := fun W => Lib.hid (by have := sized_any R W; rwa [show decide (1 ≤ R.N ∧ R.N ≤ 4096) = false from by simp; omega] at this)
  clear nn
  go_enter Tryz.func214, Tryz.ntmps214
  go_wp2_with fail
  refine (SZ _).out.mono ?_
  rintro e w1 ⟨rfl, k1⟩
  have a0 : w1.cell? ⟨w.heap.size, 0, none⟩ = some (.bool true) := k1.some (((Kept.refl _).alloc _ _).some (cell_new _ _ _ _ 0 rfl))
  have a1 : w1.cell? ⟨w.heap.size, 1, none⟩ = some (.func fn #[] #[]) := k1.some (((Kept.refl _).alloc _ _).some (cell_new _ _ _ _ 1 rfl))
  have a2 : w1.cell? ⟨w.heap.size, 2, none⟩ = some (.int .i64 R.H) := k1.some (((Kept.refl _).alloc _ _).some (cell_new _ _ _ _ 2 rfl))
  have a3 : w1.cell? ⟨w.heap.size, 3, none⟩ = some (.int .i64 R.T) := k1.some (((Kept.refl _).alloc _ _).some (cell_new _ _ _ _ 3 rfl))
  have a4 : w1.cell? ⟨w.heap.size, 4, none⟩ = some (.int .i64 R.K) := k1.some (((Kept.refl _).alloc _ _).some (cell_new _ _ _ _ 4 rfl))
  have a5 : w1.cell? ⟨w.heap.size, 5, none⟩ = some (.int .i64 R.N) := k1.some (((Kept.refl _).alloc _ _).some (cell_new _ _ _ _ 5 rfl))
  have a6 : w1.cell? ⟨w.heap.size, 6, none⟩ = some (.int .u64 t) := k1.some (((Kept.refl _).alloc _ _).some (cell_new _ _ _ _ 6 rfl))
  have a7 : w1.cell? ⟨w.heap.size, 7, none⟩ = some (.int .u64 0) := k1.some (((Kept.refl _).alloc _ _).some (cell_new _ _ _ _ 7 rfl))
  have a8 : w1.cell? ⟨w.heap.size, 8, none⟩ = some (.int .i64 v) := k1.some (((Kept.refl _).alloc _ _).some (cell_new _ _ _ _ 8 rfl))
  have a9 : w1.cell? ⟨w.heap.size, 9, none⟩ = some (.int .i64 14) := k1.some (((Kept.refl _).alloc _ _).some (cell_new _ _ _ _ 9 rfl))
  have af : ∀ i, w1.frozen? ⟨w.heap.size, i, none⟩ = false := fun i => k1.soft (by simp; omega) ((((Kept.refl _).alloc _ _).soft (by simp) (by simp)))
  have r0 : w1.cell? ⟨w.heap.size + 1, 0, none⟩ = some (.bool false) := k1.some (cell_new _ _ _ _ 0 (by simp))
  have r1 : w1.cell? ⟨w.heap.size + 1, 1, none⟩ = some (.nilFunc) := k1.some (cell_new _ _ _ _ 1 (by simp))
  have r2 : w1.cell? ⟨w.heap.size + 1, 2, none⟩ = some (.int .i64 0) := k1.some (cell_new _ _ _ _ 2 (by simp))
  have r3 : w1.cell? ⟨w.heap.size + 1, 3, none⟩ = some (.int .i64 0) := k1.some (cell_new _ _ _ _ 3 (by simp))
  have r4 : w1.cell? ⟨w.heap.size + 1, 4, none⟩ = some (.int .i64 0) := k1.some (cell_new _ _ _ _ 4 (by simp))
  have r5 : w1.cell? ⟨w.heap.size + 1, 5, none⟩ = some (.int .i64 0) := k1.some (cell_new _ _ _ _ 5 (by simp))
  have r6 : w1.cell? ⟨w.heap.size + 1, 6, none⟩ = some (.int .u64 0) := k1.some (cell_new _ _ _ _ 6 (by simp))
  have r7 : w1.cell? ⟨w.heap.size + 1, 7, none⟩ = some (.int .u64 0) := k1.some (cell_new _ _ _ _ 7 (by simp))
  have r8 : w1.cell? ⟨w.heap.size + 1, 8, none⟩ = some (.int .i64 0) := k1.some (cell_new _ _ _ _ 8 (by simp))
  have r9 : w1.cell? ⟨w.heap.size + 1, 9, none⟩ = some (.int .i64 0) := k1.some (cell_new _ _ _ _ 9 (by simp))
  have rf : ∀ i, w1.frozen? ⟨w.heap.size + 1, i, none⟩ = false := fun i => k1.soft (by simp) (by simp)
  have lz : w.heap.size + 1 < w1.heap.size := lt_of_cell r0
  have K1 : Hid (Kept w w1) := Lib.hid (Kept.trans (b := _) (by (go_light; repeat (first | (with_reducible exact Kept.refl _) | (with_reducible assumption) | (with_reducible refine Kept.alloc ?_ _ _) | (with_reducible refine Kept.drew ?_) | (with_reducible refine Kept.drewN ?_ _) | ((with_reducible refine Kept.setCell ?_ ?_ _); rotate_left; focus (first | (simp; done) | (simp; omega))) | refine Kept.trans ?_ (by assumption)))) k1)
  clear k1
  go_wp2_with fail
  refine (end_any w.heap.size R t 0 v (.func fn #[] #[]) 14 2 _ ⟨a0, a1, a2, a3, a4, a5, a6, a7, a8, a9, af⟩).mono ?_
  rintro e w2 ⟨rfl, o2, b2⟩
  obtain ⟨d0, d1, d2, d3, d4, d5, d6, d7, d8, d9, df⟩ := o2
  have r0 := b2.some r0 (by omega)
  have r1 := b2.some r1 (by omega)
  have r2 := b2.some r2 (by omega)
  have r3 := b2.some r3 (by omega)
  have r4 := b2.some r4 (by omega)
  have r5 := b2.some r5 (by omega)
  have r6 := b2.some r6 (by omega)
  have r7 := b2.some r7 (by omega)
  have r8 := b2.some r8 (by omega)
  have r9 := b2.some r9 (by omega)
  have rf : ∀ i, w2.frozen? ⟨w.heap.size + 1, i, none⟩ = false := fun i => b2.soft lz (rf i)
  have lz : w.heap.size + 1 < w2.heap.size := lt_of_cell r0
  have K2 : Hid (Kept w w2) := Lib.hid (((K1.out.but (fun k => k = w.heap.size)).trans b2 (fun _ _ h => h)).kept (fun k hk e => by omega))
  clear b2 a0 a1 a2 a3 a4 a5 a6 a7 a8 a9 af
  go_wp2
  refine put10_go (fun i hi => ?_) ?_
  · obtain rfl | rfl | rfl | rfl | rfl | rfl | rfl | rfl | rfl | rfl : i = 0 ∨ i = 1 ∨ i = 2 ∨ i = 3 ∨ i = 4 ∨ i = 5 ∨ i = 6 ∨ i = 7 ∨ i = 8 ∨ i = 9 := by omega
    all_goals exact ⟨_, by assumption⟩
  rintro W9 ⟨e0, e1, e2, e3, e4, e5, e6, e7, e8, e9⟩ b9
  refine bodyPost_ret (v := .agg #[.bool true, .nilFunc, .int .i64 R.H, .int .i64 R.T, .int .i64 R.K, .int .i64 R.N, .int .u64 t, .int .u64 0, .int .i64 v, .int .i64 2]) (by simp [results, Tryz.results214, go_sem, e0, e1, e2, e3, e4, e5, e6, e7, e8, e9]) rfl ⟨rfl, ?_⟩
  exact ((K2.out.but (fun k => k = w.heap.size + 1)).trans b9 (fun _ _ h => h)).kept (fun k hk e => by omega)
set_option maxHeartbeats 2000000 in
theorem newPush_yes (R : Rng) (v : Int) (n1 : 1 ≤ R.N) (n2 : R.N ≤ 4096) (v0 : 0 ≤ v) (v1 : v ≤ 65535) (w : World) : Calls Tryz.prog 111 #[.agg #[.int .i64 R.H, .int .i64 R.T, .int .i64 R.K, .int .i64 R.N], .int .i64 v] w (Made (fun w' P => RAt w' P R (pushNew v)) w) := by
  have BG : ∀ W, Hid (Calls Tryz.prog 214 #[.agg #[.bool false, .nilFunc, .int .i64 R.H, .int .i64 R.T, .int .i64 R.K, .int .i64 R.N, .int .u64 0, .int .u64 0, .int .i64 v, .int .i64 0], (.func (.func 215) #[] #[])] W fun e w' => e = .returned (.agg #[.bool true, (.func (.func 215) #[] #[]), .int .i64 R.H, .int .i64 R.T, .int .i64 R.K, .int .i64 R.N, .int .u64 0, .int .u64 0, .int .i64 v, .int .i64 14]) ∧ Kept W w') := fun W => Lib.hid (begun_yes R 0 v _ W n1 n2 v0 v1)
  go_enter Tryz.func111, Tryz.ntmps111
  go_wp2_with fail
  refine (BG _).out.mono ?_
  rintro e u ⟨rfl, k2⟩
  have KT : Kept w u := Kept.trans (b := _) (by first | exact Kept.refl _ | exact (Kept.refl _).drew | exact (Kept.refl _).drewN _ | ((go_light; repeat (first | (with_reducible exact Kept.refl _) | (with_reducible assumption) | (with_reducible refine Kept.alloc ?_ _ _) | (with_reducible refine Kept.drew ?_) | (with_reducible refine Kept.drewN ?_ _) | ((with_reducible refine Kept.setCell ?_ ?_ _); rotate_left; focus (first | (simp; done) | (simp; omega))) | refine Kept.trans ?_ (by assumption))); done)) k2
  have hz := KT.size
  have AT : OpAt (u.alloc (.cells #[.bool true, (.func (.func 215) #[] #[]), .int .i64 R.H, .int .i64 R.T, .int .i64 R.K, .int .i64 R.N, .int .u64 0, .int .u64 0, .int .i64 v, .int .i64 14] 324)) u.heap.size R 0 0 v (.func (.func 215) #[] #[]) 14 := OpAt.new _ _ rfl _ _ _ _ _ _
  have KK : Kept w (u.alloc (.cells #[.bool true, (.func (.func 215) #[] #[]), .int .i64 R.H, .int .i64 R.T, .int .i64 R.K, .int .i64 R.N, .int .u64 0, .int .u64 0, .int .i64 v, .int .i64 14] 324)) := KT.alloc _ _
  have AT := Lib.hid AT
  have KK := Lib.hid KK
  clear k2 KT
  go_wp2
  go_ret
  exact ⟨u.heap.size, rfl, hz, by simp, AT.out, KK.out⟩
set_option maxHeartbeats 2000000 in
theorem newPush_lo (R : Rng) (v : Int) (n1 : 1 ≤ R.N) (n2 : R.N ≤ 4096) (v0 : v < 0) (w : World) : Calls Tryz.prog 111 #[.agg #[.int .i64 R.H, .int .i64 R.T, .int .i64 R.K, .int .i64 R.N], .int .i64 v] w (Made (fun w' P => RAt w' P R (pushBad v)) w) := by
  have BG : ∀ W, Hid (Calls Tryz.prog 214 #[.agg #[.bool false, .nilFunc, .int .i64 R.H, .int .i64 R.T, .int .i64 R.K, .int .i64 R.N, .int .u64 0, .int .u64 0, .int .i64 v, .int .i64 0], (.func (.func 215) #[] #[])] W fun e w' => e = .returned (.agg #[.bool true, .nilFunc, .int .i64 R.H, .int .i64 R.T, .int .i64 R.K, .int .i64 R.N, .int .u64 0, .int .u64 0, .int .i64 v, .int .i64 3]) ∧ Kept W w') := fun W => Lib.hid (begun_lo R 0 v _ W n1 n2 v0)
  go_enter Tryz.func111, Tryz.ntmps111
  go_wp2_with fail
  refine (BG _).out.mono ?_
  rintro e u ⟨rfl, k2⟩
  have KT : Kept w u := Kept.trans (b := _) (by first | exact Kept.refl _ | exact (Kept.refl _).drew | exact (Kept.refl _).drewN _ | ((go_light; repeat (first | (with_reducible exact Kept.refl _) | (with_reducible assumption) | (with_reducible refine Kept.alloc ?_ _ _) | (with_reducible refine Kept.drew ?_) | (with_reducible refine Kept.drewN ?_ _) | ((with_reducible refine Kept.setCell ?_ ?_ _); rotate_left; focus (first | (simp; done) | (simp; omega))) | refine Kept.trans ?_ (by assumption))); done)) k2
  have hz := KT.size
  have AT : OpAt (u.alloc (.cells #[.bool true, .nilFunc, .int .i64 R.H, .int .i64 R.T, .int .i64 R.K, .int .i64 R.N, .int .u64 0, .int .u64 0, .int .i64 v, .int .i64 3] 324)) u.heap.size R 0 0 v .nilFunc 3 := OpAt.new _ _ rfl _ _ _ _ _ _
  have KK : Kept w (u.alloc (.cells #[.bool true, .nilFunc, .int .i64 R.H, .int .i64 R.T, .int .i64 R.K, .int .i64 R.N, .int .u64 0, .int .u64 0, .int .i64 v, .int .i64 3] 324)) := KT.alloc _ _
  have AT := Lib.hid AT
  have KK := Lib.hid KK
  clear k2 KT
  go_wp2
  go_ret
  exact ⟨u.heap.size, rfl, hz, by simp, AT.out, KK.out⟩
set_option maxHeartbeats 2000000 in
theorem newPush_hi (R : Rng) (v : Int) (n1 : 1 ≤ R.N) (n2 : R.N ≤ 4096) (v0 : 0 ≤ v) (v1 : 65535 < v) (w : World) : Calls Tryz.prog 111 #[.agg #[.int .i64 R.H, .int .i64 R.T, .int .i64 R.K, .int .i64 R.N], .int .i64 v] w (Made (fun w' P => RAt w' P R (pushBad v)) w) := by
  have BG : ∀ W, Hid (Calls Tryz.prog 214 #[.agg #[.bool false, .nilFunc, .int .i64 R.H, .int .i64 R.T, .int .i64 R.K, .int .i64 R.N, .int .u64 0, .int .u64 0, .int .i64 v, .int .i64 0], (.func (.func 215) #[] #[])] W fun e w' => e = .returned (.agg #[.bool true, .nilFunc, .int .i64 R.H, .int .i64 R.T, .int .i64 R.K, .int .i64 R.N, .int .u64 0, .int .u64 0, .int .i64 v, .int .i64 3]) ∧ Kept W w') := fun W => Lib.hid (begun_hi R 0 v _ W n1 n2 v0 v1)
  go_enter Tryz.func111, Tryz.ntmps111
  go_wp2_with fail
  refine (BG _).out.mono ?_
  rintro e u ⟨rfl, k2⟩
  have KT : Kept w u := Kept.trans (b := _) (by first | exact Kept.refl _ | exact (Kept.refl _).drew | exact (Kept.refl _).drewN _ | ((go_light; repeat (first | (with_reducible exact Kept.refl _) | (with_reducible assumption) | (with_reducible refine Kept.alloc ?_ _ _) | (with_reducible refine Kept.drew ?_) | (with_reducible refine Kept.drewN ?_ _) | ((with_reducible refine Kept.setCell ?_ ?_ _); rotate_left; focus (first | (simp; done) | (simp; omega))) | refine Kept.trans ?_ (by assumption))); done)) k2
  have hz := KT.size
  have AT : OpAt (u.alloc (.cells #[.bool true, .nilFunc, .int .i64 R.H, .int .i64 R.T, .int .i64 R.K, .int .i64 R.N, .int .u64 0, .int .u64 0, .int .i64 v, .int .i64 3] 324)) u.heap.size R 0 0 v .nilFunc 3 := OpAt.new _ _ rfl _ _ _ _ _ _
  have KK : Kept w (u.alloc (.cells #[.bool true, .nilFunc, .int .i64 R.H, .int .i64 R.T, .int .i64 R.K, .int .i64 R.N, .int .u64 0, .int .u64 0, .int .i64 v, .int .i64 3] 324)) := KT.alloc _ _
  have AT := Lib.hid AT
  have KK := Lib.hid KK
  clear k2 KT
  go_wp2
  go_ret
  exact ⟨u.heap.size, rfl, hz, by simp, AT.out, KK.out⟩
set_option maxHeartbeats 2000000 in
theorem newPush_arg (R : Rng) (v : Int) (nn : R.N < 1 ∨ 4096 < R.N) (w : World) : Calls Tryz.prog 111 #[.agg #[.int .i64 R.H, .int .i64 R.T, .int .i64 R.K, .int .i64 R.N], .int .i64 v] w (Made (fun w' P => RAt w' P R ⟨0, 0, 0, v, 2⟩) w) := by
  have BG : ∀ W, Hid (Calls Tryz.prog 214 #[.agg #[.bool false, .nilFunc, .int .i64 R.H, .int .i64 R.T, .int .i64 R.K, .int .i64 R.N, .int .u64 0, .int .u64 0, .int .i64 v, .int .i64 0], (.func (.func 215) #[] #[])] W fun e w' => e = .returned (.agg #[.bool true, .nilFunc, .int .i64 R.H, .int .i64 R.T, .int .i64 R.K, .int .i64 R.N, .int .u64 0, .int .u64 0, .int .i64 v, .int .i64 2]) ∧ Kept W w') := fun W => Lib.hid (begun_arg R 0 v _ W nn)
  go_enter Tryz.func111, Tryz.ntmps111
  go_wp2_with fail
  refine (BG _).out.mono ?_
  rintro e u ⟨rfl, k2⟩
  have KT : Kept w u := Kept.trans (b := _) (by first | exact Kept.refl _ | exact (Kept.refl _).drew | exact (Kept.refl _).drewN _ | ((go_light; repeat (first | (with_reducible exact Kept.refl _) | (with_reducible assumption) | (with_reducible refine Kept.alloc ?_ _ _) | (with_reducible refine Kept.drew ?_) | (with_reducible refine Kept.drewN ?_ _) | ((with_reducible refine Kept.setCell ?_ ?_ _); rotate_left; focus (first | (simp; done) | (simp; omega))) | refine Kept.trans ?_ (by assumption))); done)) k2
  have hz := KT.size
  have AT : OpAt (u.alloc (.cells #[.bool true, .nilFunc, .int .i64 R.H, .int .i64 R.T, .int .i64 R.K, .int .i64 R.N, .int .u64 0, .int .u64 0, .int .i64 v, .int .i64 2] 324)) u.heap.size R 0 0 v .nilFunc 2 := OpAt.new _ _ rfl _ _ _ _ _ _
  have KK : Kept w (u.alloc (.cells #[.bool true, .nilFunc, .int .i64 R.H, .int .i64 R.T, .int .i64 R.K, .int .i64 R.N, .int .u64 0, .int .u64 0, .int .i64 v, .int .i64 2] 324)) := KT.alloc _ _
  have AT := Lib.hid AT
  have KK := Lib.hid KK
  clear k2 KT
  go_wp2
  go_ret
  exact ⟨u.heap.size, rfl, hz, by simp, AT.out, KK.out⟩
set_option maxHeartbeats 2000000 in
theorem newFront_yes (R : Rng) (n1 : 1 ≤ R.N) (n2 : R.N ≤ 4096) (w : World) : Calls Tryz.prog 113 #[.agg #[.int .i64 R.H, .int .i64 R.T, .int .i64 R.K, .int .i64 R.N]] w (Made (fun w' P => RAt w' P R frontNew) w) := by
  have BG : ∀ W, Hid (Calls Tryz.prog 214 #[.agg #[.bool false, .nilFunc, .int .i64 R.H, .int .i64 R.T, .int .i64 R.K, .int .i64 R.N, .int .u64 0, .int .u64 0, .int .i64 0, .int .i64 0], (.func (.func 216) #[] #[])] W fun e w' => e = .returned (.agg #[.bool true, (.func (.func 216) #[] #[]), .int .i64 R.H, .int .i64 R.T, .int .i64 R.K, .int .i64 R.N, .int .u64 0, .int .u64 0, .int .i64 0, .int .i64 14]) ∧ Kept W w') := fun W => Lib.hid (begun_yes R 0 0 _ W n1 n2 (by decide) (by decide))
  go_enter Tryz.func113, Tryz.ntmps113
  go_wp2_with fail
  refine (BG _).out.mono ?_
  rintro e u ⟨rfl, k2⟩
  have KT : Kept w u := Kept.trans (b := _) (by first | exact Kept.refl _ | exact (Kept.refl _).drew | exact (Kept.refl _).drewN _ | ((go_light; repeat (first | (with_reducible exact Kept.refl _) | (with_reducible assumption) | (with_reducible refine Kept.alloc ?_ _ _) | (with_reducible refine Kept.drew ?_) | (with_reducible refine Kept.drewN ?_ _) | ((with_reducible refine Kept.setCell ?_ ?_ _); rotate_left; focus (first | (simp; done) | (simp; omega))) | refine Kept.trans ?_ (by assumption))); done)) k2
  have hz := KT.size
  have AT : OpAt (u.alloc (.cells #[.bool true, (.func (.func 216) #[] #[]), .int .i64 R.H, .int .i64 R.T, .int .i64 R.K, .int .i64 R.N, .int .u64 0, .int .u64 0, .int .i64 0, .int .i64 14] 327)) u.heap.size R 0 0 0 (.func (.func 216) #[] #[]) 14 := OpAt.new _ _ rfl _ _ _ _ _ _
  have KK : Kept w (u.alloc (.cells #[.bool true, (.func (.func 216) #[] #[]), .int .i64 R.H, .int .i64 R.T, .int .i64 R.K, .int .i64 R.N, .int .u64 0, .int .u64 0, .int .i64 0, .int .i64 14] 327)) := KT.alloc _ _
  have AT := Lib.hid AT
  have KK := Lib.hid KK
  clear k2 KT
  go_wp2
  go_ret
  exact ⟨u.heap.size, rfl, hz, by simp, AT.out, KK.out⟩
set_option maxHeartbeats 2000000 in
theorem newFront_arg (R : Rng) (nn : R.N < 1 ∨ 4096 < R.N) (w : World) : Calls Tryz.prog 113 #[.agg #[.int .i64 R.H, .int .i64 R.T, .int .i64 R.K, .int .i64 R.N]] w (Made (fun w' P => RAt w' P R ⟨0, 0, 0, 0, 2⟩) w) := by
  have BG : ∀ W, Hid (Calls Tryz.prog 214 #[.agg #[.bool false, .nilFunc, .int .i64 R.H, .int .i64 R.T, .int .i64 R.K, .int .i64 R.N, .int .u64 0, .int .u64 0, .int .i64 0, .int .i64 0], (.func (.func 216) #[] #[])] W fun e w' => e = .returned (.agg #[.bool true, .nilFunc, .int .i64 R.H, .int .i64 R.T, .int .i64 R.K, .int .i64 R.N, .int .u64 0, .int .u64 0, .int .i64 0, .int .i64 2]) ∧ Kept W w') := fun W => Lib.hid (begun_arg R 0 0 _ W nn)
  go_enter Tryz.func113, Tryz.ntmps113
  go_wp2_with fail
  refine (BG _).out.mono ?_
  rintro e u ⟨rfl, k2⟩
  have KT : Kept w u := Kept.trans (b := _) (by first | exact Kept.refl _ | exact (Kept.refl _).drew | exact (Kept.refl _).drewN _ | ((go_light; repeat (first | (with_reducible exact Kept.refl _) | (with_reducible assumption) | (with_reducible refine Kept.alloc ?_ _ _) | (with_reducible refine Kept.drew ?_) | (with_reducible refine Kept.drewN ?_ _) | ((with_reducible refine Kept.setCell ?_ ?_ _); rotate_left; focus (first | (simp; done) | (simp; omega))) | refine Kept.trans ?_ (by assumption))); done)) k2
  have hz := KT.size
  have AT : OpAt (u.alloc (.cells #[.bool true, .nilFunc, .int .i64 R.H, .int .i64 R.T, .int .i64 R.K, .int .i64 R.N, .int .u64 0, .int .u64 0, .int .i64 0, .int .i64 2] 327)) u.heap.size R 0 0 0 .nilFunc 2 := OpAt.new _ _ rfl _ _ _ _ _ _
  have KK : Kept w (u.alloc (.cells #[.bool true, .nilFunc, .int .i64 R.H, .int .i64 R.T, .int .i64 R.K, .int .i64 R.N, .int .u64 0, .int .u64 0, .int .i64 0, .int .i64 2] 327)) := KT.alloc _ _
  have AT := Lib.hid AT
  have KK := Lib.hid KK
  clear k2 KT
  go_wp2
  go_ret
  exact ⟨u.heap.size, rfl, hz, by simp, AT.out, KK.out⟩
set_option maxHeartbeats 2000000 in
theorem newDrop_yes (R : Rng) (h : Int) (n1 : 1 ≤ R.N) (n2 : R.N ≤ 4096) (w : World) : Calls Tryz.prog 115 #[.agg #[.int .i64 R.H, .int .i64 R.T, .int .i64 R.K, .int .i64 R.N], .int .u64 h] w (Made (fun w' P => RAt w' P R (dropNew h)) w) := by
  have BG : ∀ W, Hid (Calls Tryz.prog 214 #[.agg #[.bool false, .nilFunc, .int .i64 R.H, .int .i64 R.T, .int .i64 R.K, .int .i64 R.N, .int .u64 h, .int .u64 0, .int .i64 0, .int .i64 0], (.func (.func 217) #[] #[])] W fun e w' => e = .returned (.agg #[.bool true, (.func (.func 217) #[] #[]), .int .i64 R.H, .int .i64 R.T, .int .i64 R.K, .int .i64 R.N, .int .u64 h, .int .u64 0, .int .i64 0, .int .i64 14]) ∧ Kept W w') := fun W => Lib.hid (begun_yes R h 0 _ W n1 n2 (by decide) (by decide))
  go_enter Tryz.func115, Tryz.ntmps115
  go_wp2_with fail
  refine (BG _).out.mono ?_
  rintro e u ⟨rfl, k2⟩
  have KT : Kept w u := Kept.trans (b := _) (by first | exact Kept.refl _ | exact (Kept.refl _).drew | exact (Kept.refl _).drewN _ | ((go_light; repeat (first | (with_reducible exact Kept.refl _) | (with_reducible assumption) | (with_reducible refine Kept.alloc ?_ _ _) | (with_reducible refine Kept.drew ?_) | (with_reducible refine Kept.drewN ?_ _) | ((with_reducible refine Kept.setCell ?_ ?_ _); rotate_left; focus (first | (simp; done) | (simp; omega))) | refine Kept.trans ?_ (by assumption))); done)) k2
  have hz := KT.size
  have AT : OpAt (u.alloc (.cells #[.bool true, (.func (.func 217) #[] #[]), .int .i64 R.H, .int .i64 R.T, .int .i64 R.K, .int .i64 R.N, .int .u64 h, .int .u64 0, .int .i64 0, .int .i64 14] 330)) u.heap.size R h 0 0 (.func (.func 217) #[] #[]) 14 := OpAt.new _ _ rfl _ _ _ _ _ _
  have KK : Kept w (u.alloc (.cells #[.bool true, (.func (.func 217) #[] #[]), .int .i64 R.H, .int .i64 R.T, .int .i64 R.K, .int .i64 R.N, .int .u64 h, .int .u64 0, .int .i64 0, .int .i64 14] 330)) := KT.alloc _ _
  have AT := Lib.hid AT
  have KK := Lib.hid KK
  clear k2 KT
  go_wp2
  go_ret
  exact ⟨u.heap.size, rfl, hz, by simp, AT.out, KK.out⟩
set_option maxHeartbeats 2000000 in
theorem newDrop_arg (R : Rng) (h : Int) (nn : R.N < 1 ∨ 4096 < R.N) (w : World) : Calls Tryz.prog 115 #[.agg #[.int .i64 R.H, .int .i64 R.T, .int .i64 R.K, .int .i64 R.N], .int .u64 h] w (Made (fun w' P => RAt w' P R ⟨0, h, 0, 0, 2⟩) w) := by
  have BG : ∀ W, Hid (Calls Tryz.prog 214 #[.agg #[.bool false, .nilFunc, .int .i64 R.H, .int .i64 R.T, .int .i64 R.K, .int .i64 R.N, .int .u64 h, .int .u64 0, .int .i64 0, .int .i64 0], (.func (.func 217) #[] #[])] W fun e w' => e = .returned (.agg #[.bool true, .nilFunc, .int .i64 R.H, .int .i64 R.T, .int .i64 R.K, .int .i64 R.N, .int .u64 h, .int .u64 0, .int .i64 0, .int .i64 2]) ∧ Kept W w') := fun W => Lib.hid (begun_arg R h 0 _ W nn)
  go_enter Tryz.func115, Tryz.ntmps115
  go_wp2_with fail
  refine (BG _).out.mono ?_
  rintro e u ⟨rfl, k2⟩
  have KT : Kept w u := Kept.trans (b := _) (by first | exact Kept.refl _ | exact (Kept.refl _).drew | exact (Kept.refl _).drewN _ | ((go_light; repeat (first | (with_reducible exact Kept.refl _) | (with_reducible assumption) | (with_reducible refine Kept.alloc ?_ _ _) | (with_reducible refine Kept.drew ?_) | (with_reducible refine Kept.drewN ?_ _) | ((with_reducible refine Kept.setCell ?_ ?_ _); rotate_left; focus (first | (simp; done) | (simp; omega))) | refine Kept.trans ?_ (by assumption))); done)) k2
  have hz := KT.size
  have AT : OpAt (u.alloc (.cells #[.bool true, .nilFunc, .int .i64 R.H, .int .i64 R.T, .int .i64 R.K, .int .i64 R.N, .int .u64 h, .int .u64 0, .int .i64 0, .int .i64 2] 330)) u.heap.size R h 0 0 .nilFunc 2 := OpAt.new _ _ rfl _ _ _ _ _ _
  have KK : Kept w (u.alloc (.cells #[.bool true, .nilFunc, .int .i64 R.H, .int .i64 R.T, .int .i64 R.K, .int .i64 R.N, .int .u64 h, .int .u64 0, .int .i64 0, .int .i64 2] 330)) := KT.alloc _ _
  have AT := Lib.hid AT
  have KK := Lib.hid KK
  clear k2 KT
  go_wp2
  go_ret
  exact ⟨u.heap.size, rfl, hz, by simp, AT.out, KK.out⟩
theorem newPush_any (R : Rng) (v : Int) (n1 : 1 ≤ R.N) (n2 : R.N ≤ 4096) (w : World) : Calls Tryz.prog 111 #[ringV R, .int .i64 v] w (Made (fun w' P => RAt w' P R (if 0 ≤ v ∧ v ≤ 65535 then pushNew v else pushBad v)) w) := by
  by_cases h : 0 ≤ v ∧ v ≤ 65535
  · rw [if_pos h]; exact newPush_yes R v n1 n2 h.1 h.2 w
  · rw [if_neg h]
    by_cases h0 : v < 0
    · exact newPush_lo R v n1 n2 h0 w
    · exact newPush_hi R v n1 n2 (by omega) (by omega) w
end Go.Proofs.YtlfdiffbepfgbaaGreat.Ri
