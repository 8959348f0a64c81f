/- The program's small functions on towers: which may be, which cell a part is, whose a cell is. Written by gen15.py. -/
import Derived.Test.YtejiogggocnldaaGreatG07
import Derived.Test.YtejiogggocnldaaGreatG03
import Derived.Lib.Hide
import Derived.Deep.Light
import Derived.Deep.RegionHeld3
set_option linter.unusedVariables false
set_option linter.unusedSimpArgs false

namespace Go.Proofs.YtejiogggocnldaaGreat.Tw
set_option maxRecDepth 20000
open Go.RowKit
open Wo (St acc wordAt PMem RefIs)
open Sk (Stk Arn idx Wd)

abbrev towV (t : Twr) : Value := .agg #[.int .i64 t.D, .int .i64 t.H, .int .i64 t.G, .int .i64 t.A.F.T, .int .i64 t.A.F.K, .int .i64 t.A.F.N, .int .i64 t.A.G, .int .i64 t.A.V, .int .i64 t.A.L, .int .i64 t.E.T, .int .i64 t.E.K, .int .i64 t.E.N, .int .i64 t.P]
structure TB (w : World) (b : Nat) (t : Twr) : Prop where
  c0 : w.cell? ⟨b, 0, none⟩ = some (.int .i64 t.D)
  c1 : w.cell? ⟨b, 1, none⟩ = some (.int .i64 t.H)
  c2 : w.cell? ⟨b, 2, none⟩ = some (.int .i64 t.G)
  c3 : w.cell? ⟨b, 3, none⟩ = some (.int .i64 t.A.F.T)
  c4 : w.cell? ⟨b, 4, none⟩ = some (.int .i64 t.A.F.K)
  c5 : w.cell? ⟨b, 5, none⟩ = some (.int .i64 t.A.F.N)
  c6 : w.cell? ⟨b, 6, none⟩ = some (.int .i64 t.A.G)
  c7 : w.cell? ⟨b, 7, none⟩ = some (.int .i64 t.A.V)
  c8 : w.cell? ⟨b, 8, none⟩ = some (.int .i64 t.A.L)
  c9 : w.cell? ⟨b, 9, none⟩ = some (.int .i64 t.E.T)
  c10 : w.cell? ⟨b, 10, none⟩ = some (.int .i64 t.E.K)
  c11 : w.cell? ⟨b, 11, none⟩ = some (.int .i64 t.E.N)
  c12 : w.cell? ⟨b, 12, none⟩ = some (.int .i64 t.P)
theorem TB.but {w w' : World} {b : Nat} {t : Twr} (h : TB w b t) {S : Nat → Prop} (k : But S w w') (hS : ¬ S b) : TB w' b t :=
  ⟨k.some h.c0 hS, k.some h.c1 hS, k.some h.c2 hS, k.some h.c3 hS, k.some h.c4 hS, k.some h.c5 hS, k.some h.c6 hS, k.some h.c7 hS, k.some h.c8 hS, k.some h.c9 hS, k.some h.c10 hS, k.some h.c11 hS, k.some h.c12 hS⟩
theorem TB.kept {w w' : World} {b : Nat} {t : Twr} (h : TB w b t) (k : Kept w w') : TB w' b t := h.but (k.but (fun _ => False)) id
theorem TB.new (w : World) (b : Nat) (ty : TypeId) (hb : b = w.heap.size) (t : Twr) : TB (w.alloc (.cells #[.int .i64 t.D, .int .i64 t.H, .int .i64 t.G, .int .i64 t.A.F.T, .int .i64 t.A.F.K, .int .i64 t.A.F.N, .int .i64 t.A.G, .int .i64 t.A.V, .int .i64 t.A.L, .int .i64 t.E.T, .int .i64 t.E.K, .int .i64 t.E.N, .int .i64 t.P] ty)) b t :=
  ⟨cell_new _ _ _ _ 0 hb, cell_new _ _ _ _ 1 hb, cell_new _ _ _ _ 2 hb, cell_new _ _ _ _ 3 hb, cell_new _ _ _ _ 4 hb, cell_new _ _ _ _ 5 hb, cell_new _ _ _ _ 6 hb, cell_new _ _ _ _ 7 hb, cell_new _ _ _ _ 8 hb, cell_new _ _ _ _ 9 hb, cell_new _ _ _ _ 10 hb, cell_new _ _ _ _ 11 hb, cell_new _ _ _ _ 12 hb⟩

set_option maxHeartbeats 400000 in
theorem size_any (t : Twr) (w : World) : Calls Tryz.prog 149 #[towV t] w fun e w' => e = .returned (.int .i64 t.A.F.N) ∧ Kept w w' := by
  go_enter Tryz.func149, Tryz.ntmps149
  go_wp2
  go_ret
  exact ⟨rfl, by (go_light; repeat (first | (with_reducible exact Kept.refl _) | (with_reducible assumption) | (with_reducible refine Kept.alloc ?_ _ _) | (with_reducible refine Kept.drew ?_) | (with_reducible refine Kept.drewN ?_ _) | ((with_reducible refine Kept.setCell ?_ ?_ _); rotate_left; focus (first | (simp; done) | (simp; omega))) | refine Kept.trans ?_ (by assumption)))⟩
set_option maxHeartbeats 400000 in
theorem isPlace_lo (x : Int) (h : x < 0) (w : World) : Calls Tryz.prog 150 #[.int .i64 x] w fun e w' => e = .returned (.bool false) ∧ Kept w w' := by
  go_enter Tryz.func150, Tryz.ntmps150
  go_wp2
  go_ret
  exact ⟨rfl, by (go_light; repeat (first | (with_reducible exact Kept.refl _) | (with_reducible assumption) | (with_reducible refine Kept.alloc ?_ _ _) | (with_reducible refine Kept.drew ?_) | (with_reducible refine Kept.drewN ?_ _) | ((with_reducible refine Kept.setCell ?_ ?_ _); rotate_left; focus (first | (simp; done) | (simp; omega))) | refine Kept.trans ?_ (by assumption)))⟩
set_option maxHeartbeats 400000 in
theorem isPlace_hi (x : Int) (h : 0 ≤ x) (h2 : 4096 ≤ x) (w : World) : Calls Tryz.prog 150 #[.int .i64 x] w fun e w' => e = .returned (.bool false) ∧ Kept w w' := by
  have h3 : decide (x < 4096) = false := by simp; omega
  go_enter Tryz.func150, Tryz.ntmps150
  go_wp2
  go_ret
  exact ⟨rfl, by (go_light; repeat (first | (with_reducible exact Kept.refl _) | (with_reducible assumption) | (with_reducible refine Kept.alloc ?_ _ _) | (with_reducible refine Kept.drew ?_) | (with_reducible refine Kept.drewN ?_ _) | ((with_reducible refine Kept.setCell ?_ ?_ _); rotate_left; focus (first | (simp; done) | (simp; omega))) | refine Kept.trans ?_ (by assumption)))⟩
set_option maxHeartbeats 400000 in
theorem isPlace_yes (x : Int) (h : 0 ≤ x) (h2 : x < 4096) (w : World) : Calls Tryz.prog 150 #[.int .i64 x] w fun e w' => e = .returned (.bool true) ∧ Kept w w' := by
  go_enter Tryz.func150, Tryz.ntmps150
  go_wp2
  go_ret
  exact ⟨rfl, by (go_light; repeat (first | (with_reducible exact Kept.refl _) | (with_reducible assumption) | (with_reducible refine Kept.alloc ?_ _ _) | (with_reducible refine Kept.drew ?_) | (with_reducible refine Kept.drewN ?_ _) | ((with_reducible refine Kept.setCell ?_ ?_ _); rotate_left; focus (first | (simp; done) | (simp; omega))) | refine Kept.trans ?_ (by assumption)))⟩
theorem isPlace_no (x : Int) (h : x < 0 ∨ 4096 ≤ x) (w : World) : Calls Tryz.prog 150 #[.int .i64 x] w fun e w' => e = .returned (.bool false) ∧ Kept w w' := by
  by_cases h0 : x < 0
  · exact isPlace_lo x h0 w
  · exact isPlace_hi x (by omega) (by omega) w
set_option maxHeartbeats 400000 in
theorem isNode_lo (t : Twr) (i : Int) (h : i < 0) (w : World) : Calls Tryz.prog 109 #[towV t, .int .i64 i] w fun e w' => e = .returned (.bool false) ∧ Kept w w' := by
  go_enter Tryz.func109, Tryz.ntmps109
  go_wp2
  go_ret
  exact ⟨rfl, by (go_light; repeat (first | (with_reducible exact Kept.refl _) | (with_reducible assumption) | (with_reducible refine Kept.alloc ?_ _ _) | (with_reducible refine Kept.drew ?_) | (with_reducible refine Kept.drewN ?_ _) | ((with_reducible refine Kept.setCell ?_ ?_ _); rotate_left; focus (first | (simp; done) | (simp; omega))) | refine Kept.trans ?_ (by assumption)))⟩
set_option maxHeartbeats 400000 in
theorem isNode_hi (t : Twr) (i : Int) (h : 0 ≤ i) (h2 : t.A.F.N ≤ i) (w : World) : Calls Tryz.prog 109 #[towV t, .int .i64 i] w fun e w' => e = .returned (.bool false) ∧ Kept w w' := by
  have h3 : decide (i < t.A.F.N) = false := by simp; omega
  go_enter Tryz.func109, Tryz.ntmps109
  go_wp2_with fail
  refine (size_any t _).mono ?_
  rintro e w1 ⟨rfl, k1⟩
  go_wp2
  go_ret
  exact ⟨rfl, by (go_light; repeat (first | (with_reducible exact Kept.refl _) | (with_reducible assumption) | (with_reducible refine Kept.alloc ?_ _ _) | (with_reducible refine Kept.drew ?_) | (with_reducible refine Kept.drewN ?_ _) | ((with_reducible refine Kept.setCell ?_ ?_ _); rotate_left; focus (first | (simp; done) | (simp; omega))) | refine Kept.trans ?_ (by assumption)))⟩
set_option maxHeartbeats 400000 in
theorem isNode_yes (t : Twr) (i : Int) (h : 0 ≤ i) (h2 : i < t.A.F.N) (w : World) : Calls Tryz.prog 109 #[towV t, .int .i64 i] w fun e w' => e = .returned (.bool true) ∧ Kept w w' := by
  go_enter Tryz.func109, Tryz.ntmps109
  go_wp2_with fail
  refine (size_any t _).mono ?_
  rintro e w1 ⟨rfl, k1⟩
  go_wp2
  go_ret
  exact ⟨rfl, by (go_light; repeat (first | (with_reducible exact Kept.refl _) | (with_reducible assumption) | (with_reducible refine Kept.alloc ?_ _ _) | (with_reducible refine Kept.drew ?_) | (with_reducible refine Kept.drewN ?_ _) | ((with_reducible refine Kept.setCell ?_ ?_ _); rotate_left; focus (first | (simp; done) | (simp; omega))) | refine Kept.trans ?_ (by assumption)))⟩
theorem isNode_no (t : Twr) (i : Int) (h : i < 0 ∨ t.A.F.N ≤ i) (w : World) : Calls Tryz.prog 109 #[towV t, .int .i64 i] w fun e w' => e = .returned (.bool false) ∧ Kept w w' := by
  by_cases h0 : i < 0
  · exact isNode_lo t i h0 w
  · exact isNode_hi t i (by omega) (by omega) w
set_option maxHeartbeats 400000 in
theorem isLevel_lo (t : Twr) (l : Int) (h : l < 0) (w : World) : Calls Tryz.prog 98 #[towV t, .int .i64 l] w fun e w' => e = .returned (.bool false) ∧ Kept w w' := by
  go_enter Tryz.func98, Tryz.ntmps98
  go_wp2
  go_ret
  exact ⟨rfl, by (go_light; repeat (first | (with_reducible exact Kept.refl _) | (with_reducible assumption) | (with_reducible refine Kept.alloc ?_ _ _) | (with_reducible refine Kept.drew ?_) | (with_reducible refine Kept.drewN ?_ _) | ((with_reducible refine Kept.setCell ?_ ?_ _); rotate_left; focus (first | (simp; done) | (simp; omega))) | refine Kept.trans ?_ (by assumption)))⟩
set_option maxHeartbeats 400000 in
theorem isLevel_hi (t : Twr) (l : Int) (h : 0 ≤ l) (h2 : t.G ≤ l) (w : World) : Calls Tryz.prog 98 #[towV t, .int .i64 l] w fun e w' => e = .returned (.bool false) ∧ Kept w w' := by
  have h3 : decide (l < t.G) = false := by simp; omega
  go_enter Tryz.func98, Tryz.ntmps98
  go_wp2
  go_ret
  exact ⟨rfl, by (go_light; repeat (first | (with_reducible exact Kept.refl _) | (with_reducible assumption) | (with_reducible refine Kept.alloc ?_ _ _) | (with_reducible refine Kept.drew ?_) | (with_reducible refine Kept.drewN ?_ _) | ((with_reducible refine Kept.setCell ?_ ?_ _); rotate_left; focus (first | (simp; done) | (simp; omega))) | refine Kept.trans ?_ (by assumption)))⟩
set_option maxHeartbeats 400000 in
theorem isLevel_yes (t : Twr) (l : Int) (h : 0 ≤ l) (h2 : l < t.G) (w : World) : Calls Tryz.prog 98 #[towV t, .int .i64 l] w fun e w' => e = .returned (.bool true) ∧ Kept w w' := by
  go_enter Tryz.func98, Tryz.ntmps98
  go_wp2
  go_ret
  exact ⟨rfl, by (go_light; repeat (first | (with_reducible exact Kept.refl _) | (with_reducible assumption) | (with_reducible refine Kept.alloc ?_ _ _) | (with_reducible refine Kept.drew ?_) | (with_reducible refine Kept.drewN ?_ _) | ((with_reducible refine Kept.setCell ?_ ?_ _); rotate_left; focus (first | (simp; done) | (simp; omega))) | refine Kept.trans ?_ (by assumption)))⟩
theorem isLevel_no (t : Twr) (l : Int) (h : l < 0 ∨ t.G ≤ l) (w : World) : Calls Tryz.prog 98 #[towV t, .int .i64 l] w fun e w' => e = .returned (.bool false) ∧ Kept w w' := by
  by_cases h0 : l < 0
  · exact isLevel_lo t l h0 w
  · exact isLevel_hi t l (by omega) (by omega) w
set_option maxHeartbeats 1000000 in
theorem sound_g1 (t : Twr) (h : t.G < 1) (w : World) : Calls Tryz.prog 66 #[towV t] w fun e w' => e = .returned (.bool false) ∧ Kept w w' := by
  go_enter Tryz.func66, Tryz.ntmps66
  go_wp2
  go_ret
  exact ⟨rfl, by (go_light; repeat (first | (with_reducible exact Kept.refl _) | (with_reducible assumption) | (with_reducible refine Kept.alloc ?_ _ _) | (with_reducible refine Kept.drew ?_) | (with_reducible refine Kept.drewN ?_ _) | ((with_reducible refine Kept.setCell ?_ ?_ _); rotate_left; focus (first | (simp; done) | (simp; omega))) | refine Kept.trans ?_ (by assumption)))⟩
set_option maxHeartbeats 1000000 in
theorem sound_g2 (t : Twr) (h : 1 ≤ t.G) (h2 : 4 < t.G) (w : World) : Calls Tryz.prog 66 #[towV t] w fun e w' => e = .returned (.bool false) ∧ Kept w w' := by
  have d1 : decide (t.G ≤ 4) = false := by simp; omega
  go_enter Tryz.func66, Tryz.ntmps66
  go_wp2
  go_ret
  exact ⟨rfl, by (go_light; repeat (first | (with_reducible exact Kept.refl _) | (with_reducible assumption) | (with_reducible refine Kept.alloc ?_ _ _) | (with_reducible refine Kept.drew ?_) | (with_reducible refine Kept.drewN ?_ _) | ((with_reducible refine Kept.setCell ?_ ?_ _); rotate_left; focus (first | (simp; done) | (simp; omega))) | refine Kept.trans ?_ (by assumption)))⟩
set_option maxHeartbeats 1000000 in
theorem sound_n1 (t : Twr) (h : 1 ≤ t.G) (h2 : t.G ≤ 4) (h3 : t.A.F.N < 1) (w : World) : Calls Tryz.prog 66 #[towV t] w fun e w' => e = .returned (.bool false) ∧ Kept w w' := by
  have d1 : decide (1 ≤ t.A.F.N) = false := by simp; omega
  go_enter Tryz.func66, Tryz.ntmps66
  go_wp2_with fail
  refine (size_any t _).mono ?_
  rintro e w1 ⟨rfl, k1⟩
  obtain ⟨a0, a1, a2, a3, a4, a5, a6, a7, a8, a9, a10, a11, a12⟩ := TB.kept (TB.new w _ _ rfl t) k1
  go_wp2
  go_ret
  exact ⟨rfl, by (go_light; repeat (first | (with_reducible exact Kept.refl _) | (with_reducible assumption) | (with_reducible refine Kept.alloc ?_ _ _) | (with_reducible refine Kept.drew ?_) | (with_reducible refine Kept.drewN ?_ _) | ((with_reducible refine Kept.setCell ?_ ?_ _); rotate_left; focus (first | (simp; done) | (simp; omega))) | refine Kept.trans ?_ (by assumption)))⟩
set_option maxHeartbeats 1000000 in
theorem sound_n2 (t : Twr) (h : 1 ≤ t.G) (h2 : t.G ≤ 4) (h3 : 1 ≤ t.A.F.N) (h4 : 128 < t.A.F.N) (w : World) : Calls Tryz.prog 66 #[towV t] w fun e w' => e = .returned (.bool false) ∧ Kept w w' := by
  have d1 : decide (t.A.F.N ≤ 128) = false := by simp; omega
  go_enter Tryz.func66, Tryz.ntmps66
  go_wp2_with fail
  refine (size_any t _).mono ?_
  rintro e w1 ⟨rfl, k1⟩
  obtain ⟨a0, a1, a2, a3, a4, a5, a6, a7, a8, a9, a10, a11, a12⟩ := TB.kept (TB.new w _ _ rfl t) k1
  go_wp2_with fail
  refine (size_any t _).mono ?_
  rintro e w2 ⟨rfl, k2⟩
  obtain ⟨a0, a1, a2, a3, a4, a5, a6, a7, a8, a9, a10, a11, a12⟩ := TB.kept ⟨a0, a1, a2, a3, a4, a5, a6, a7, a8, a9, a10, a11, a12⟩ k2
  go_wp2
  go_ret
  exact ⟨rfl, by (go_light; repeat (first | (with_reducible exact Kept.refl _) | (with_reducible assumption) | (with_reducible refine Kept.alloc ?_ _ _) | (with_reducible refine Kept.drew ?_) | (with_reducible refine Kept.drewN ?_ _) | ((with_reducible refine Kept.setCell ?_ ?_ _); rotate_left; focus (first | (simp; done) | (simp; omega))) | refine Kept.trans ?_ (by assumption)))⟩
set_option maxHeartbeats 1000000 in
theorem sound_d (t : Twr) (h : 1 ≤ t.G) (h2 : t.G ≤ 4) (h3 : 1 ≤ t.A.F.N) (h4 : t.A.F.N ≤ 128) (h5 : t.D < 0 ∨ 4096 ≤ t.D) (w : World) : Calls Tryz.prog 66 #[towV t] w fun e w' => e = .returned (.bool false) ∧ Kept w w' := by
  have NP := fun W => Lib.hid (isPlace_no t.D h5 W)
  clear h5
  go_enter Tryz.func66, Tryz.ntmps66
  go_wp2_with fail
  refine (size_any t _).mono ?_
  rintro e w1 ⟨rfl, k1⟩
  obtain ⟨a0, a1, a2, a3, a4, a5, a6, a7, a8, a9, a10, a11, a12⟩ := TB.kept (TB.new w _ _ rfl t) k1
  go_wp2_with fail
  refine (size_any t _).mono ?_
  rintro e w2 ⟨rfl, k2⟩
  obtain ⟨a0, a1, a2, a3, a4, a5, a6, a7, a8, a9, a10, a11, a12⟩ := TB.kept ⟨a0, a1, a2, a3, a4, a5, a6, a7, a8, a9, a10, a11, a12⟩ k2
  go_wp2_with fail
  refine ((NP _).out).mono ?_
  rintro e w3 ⟨rfl, k3⟩
  obtain ⟨a0, a1, a2, a3, a4, a5, a6, a7, a8, a9, a10, a11, a12⟩ := TB.kept ⟨a0, a1, a2, a3, a4, a5, a6, a7, a8, a9, a10, a11, a12⟩ k3
  go_wp2
  go_ret
  exact ⟨rfl, by (go_light; repeat (first | (with_reducible exact Kept.refl _) | (with_reducible assumption) | (with_reducible refine Kept.alloc ?_ _ _) | (with_reducible refine Kept.drew ?_) | (with_reducible refine Kept.drewN ?_ _) | ((with_reducible refine Kept.setCell ?_ ?_ _); rotate_left; focus (first | (simp; done) | (simp; omega))) | refine Kept.trans ?_ (by assumption)))⟩
set_option maxHeartbeats 1000000 in
theorem sound_h (t : Twr) (h : 1 ≤ t.G) (h2 : t.G ≤ 4) (h3 : 1 ≤ t.A.F.N) (h4 : t.A.F.N ≤ 128) (h5 : 0 ≤ t.D ∧ t.D < 4096) (h6 : t.H < 0 ∨ 4096 ≤ t.H) (w : World) : Calls Tryz.prog 66 #[towV t] w fun e w' => e = .returned (.bool false) ∧ Kept w w' := by
  have YP := fun W => Lib.hid (isPlace_yes t.D h5.1 h5.2 W)
  have NP := fun W => Lib.hid (isPlace_no t.H h6 W)
  clear h5 h6
  go_enter Tryz.func66, Tryz.ntmps66
  go_wp2_with fail
  refine (size_any t _).mono ?_
  rintro e w1 ⟨rfl, k1⟩
  obtain ⟨a0, a1, a2, a3, a4, a5, a6, a7, a8, a9, a10, a11, a12⟩ := TB.kept (TB.new w _ _ rfl t) k1
  go_wp2_with fail
  refine (size_any t _).mono ?_
  rintro e w2 ⟨rfl, k2⟩
  obtain ⟨a0, a1, a2, a3, a4, a5, a6, a7, a8, a9, a10, a11, a12⟩ := TB.kept ⟨a0, a1, a2, a3, a4, a5, a6, a7, a8, a9, a10, a11, a12⟩ k2
  go_wp2_with fail
  refine ((YP _).out).mono ?_
  rintro e w3 ⟨rfl, k3⟩
  obtain ⟨a0, a1, a2, a3, a4, a5, a6, a7, a8, a9, a10, a11, a12⟩ := TB.kept ⟨a0, a1, a2, a3, a4, a5, a6, a7, a8, a9, a10, a11, a12⟩ k3
  go_wp2_with fail
  refine ((NP _).out).mono ?_
  rintro e w4 ⟨rfl, k4⟩
  obtain ⟨a0, a1, a2, a3, a4, a5, a6, a7, a8, a9, a10, a11, a12⟩ := TB.kept ⟨a0, a1, a2, a3, a4, a5, a6, a7, a8, a9, a10, a11, a12⟩ k4
  go_wp2
  go_ret
  exact ⟨rfl, by (go_light; repeat (first | (with_reducible exact Kept.refl _) | (with_reducible assumption) | (with_reducible refine Kept.alloc ?_ _ _) | (with_reducible refine Kept.drew ?_) | (with_reducible refine Kept.drewN ?_ _) | ((with_reducible refine Kept.setCell ?_ ?_ _); rotate_left; focus (first | (simp; done) | (simp; omega))) | refine Kept.trans ?_ (by assumption)))⟩
set_option maxHeartbeats 1000000 in
theorem sound_yes (t : Twr) (h : 1 ≤ t.G) (h2 : t.G ≤ 4) (h3 : 1 ≤ t.A.F.N) (h4 : t.A.F.N ≤ 128) (h5 : 0 ≤ t.D ∧ t.D < 4096) (h6 : 0 ≤ t.H ∧ t.H < 4096) (w : World) : Calls Tryz.prog 66 #[towV t] w fun e w' => e = .returned (.bool true) ∧ Kept w w' := by
  have YP := fun W => Lib.hid (isPlace_yes t.D h5.1 h5.2 W)
  have YQ := fun W => Lib.hid (isPlace_yes t.H h6.1 h6.2 W)
  clear h5 h6
  go_enter Tryz.func66, Tryz.ntmps66
  go_wp2_with fail
  refine (size_any t _).mono ?_
  rintro e w1 ⟨rfl, k1⟩
  obtain ⟨a0, a1, a2, a3, a4, a5, a6, a7, a8, a9, a10, a11, a12⟩ := TB.kept (TB.new w _ _ rfl t) k1
  go_wp2_with fail
  refine (size_any t _).mono ?_
  rintro e w2 ⟨rfl, k2⟩
  obtain ⟨a0, a1, a2, a3, a4, a5, a6, a7, a8, a9, a10, a11, a12⟩ := TB.kept ⟨a0, a1, a2, a3, a4, a5, a6, a7, a8, a9, a10, a11, a12⟩ k2
  go_wp2_with fail
  refine ((YP _).out).mono ?_
  rintro e w3 ⟨rfl, k3⟩
  obtain ⟨a0, a1, a2, a3, a4, a5, a6, a7, a8, a9, a10, a11, a12⟩ := TB.kept ⟨a0, a1, a2, a3, a4, a5, a6, a7, a8, a9, a10, a11, a12⟩ k3
  go_wp2_with fail
  refine ((YQ _).out).mono ?_
  rintro e w4 ⟨rfl, k4⟩
  obtain ⟨a0, a1, a2, a3, a4, a5, a6, a7, a8, a9, a10, a11, a12⟩ := TB.kept ⟨a0, a1, a2, a3, a4, a5, a6, a7, a8, a9, a10, a11, a12⟩ k4
  go_wp2
  go_ret
  exact ⟨rfl, by (go_light; repeat (first | (with_reducible exact Kept.refl _) | (with_reducible assumption) | (with_reducible refine Kept.alloc ?_ _ _) | (with_reducible refine Kept.drew ?_) | (with_reducible refine Kept.drewN ?_ _) | ((with_reducible refine Kept.setCell ?_ ?_ _); rotate_left; focus (first | (simp; done) | (simp; omega))) | refine Kept.trans ?_ (by assumption)))⟩
theorem sound_in (t : Twr) (h : t.Sound) (w : World) : Calls Tryz.prog 66 #[towV t] w fun e w' => e = .returned (.bool true) ∧ Kept w w' :=
  sound_yes t h.G1 h.G2 h.N1 h.N2 ⟨h.D1, h.D2⟩ ⟨h.H1, h.H2⟩ w
theorem sound_no (t : Twr) (h : ¬ t.Sound) (w : World) : Calls Tryz.prog 66 #[towV t] w fun e w' => e = .returned (.bool false) ∧ Kept w w' := by
  rw [sound_iff] at h
  by_cases h1 : t.G < 1
  · exact sound_g1 t h1 w
  by_cases h2 : 4 < t.G
  · exact sound_g2 t (by omega) h2 w
  by_cases h3 : t.A.F.N < 1
  · exact sound_n1 t (by omega) (by omega) h3 w
  by_cases h4 : 128 < t.A.F.N
  · exact sound_n2 t (by omega) (by omega) (by omega) h4 w
  by_cases h5 : t.D < 0 ∨ 4096 ≤ t.D
  · exact sound_d t (by omega) (by omega) (by omega) (by omega) h5 w
  · exact sound_h t (by omega) (by omega) (by omega) (by omega) (by omega) (by omega) w
theorem sound_any (t : Twr) (w : World) : Calls Tryz.prog 66 #[towV t] w fun e w' => e = .returned (.bool (decide t.Sound)) ∧ Kept w w' := by
  by_cases h : t.Sound
  · rw [decide_eq_true h]; exact sound_in t h w
  · rw [decide_eq_false h]; exact sound_no t h w
set_option maxHeartbeats 400000 in
theorem wide_n (a b c : Int) (w : World) : Calls Tryz.prog 151 #[.int .i64 a, .int .i64 b, .int .i64 c] w fun e w' => e = .returned (.agg #[.int .i64 b, .int .i64 c, .int .i64 a]) ∧ Kept w w' := by
  go_enter Tryz.func151, Tryz.ntmps151
  go_wp2
  refine bodyPost_ret (v := .agg #[.int .i64 b, .int .i64 c, .int .i64 a]) (by simp [results, Tryz.results151, go_sem]) rfl ⟨rfl, ?_⟩
  (go_light; repeat (first | (with_reducible exact Kept.refl _) | (with_reducible assumption) | (with_reducible refine Kept.alloc ?_ _ _) | (with_reducible refine Kept.drew ?_) | (with_reducible refine Kept.drewN ?_ _) | ((with_reducible refine Kept.setCell ?_ ?_ _); rotate_left; focus (first | (simp; done) | (simp; omega))) | refine Kept.trans ?_ (by assumption)))
set_option maxHeartbeats 400000 in
theorem wide_h (a b c : Int) (w : World) : Calls Tryz.prog 152 #[.int .i64 a, .int .i64 b, .int .i64 c] w fun e w' => e = .returned (.agg #[.int .i64 b, .int .i64 c, .int .i64 a]) ∧ Kept w w' := by
  go_enter Tryz.func152, Tryz.ntmps152
  go_wp2
  refine bodyPost_ret (v := .agg #[.int .i64 b, .int .i64 c, .int .i64 a]) (by simp [results, Tryz.results152, go_sem]) rfl ⟨rfl, ?_⟩
  (go_light; repeat (first | (with_reducible exact Kept.refl _) | (with_reducible assumption) | (with_reducible refine Kept.alloc ?_ _ _) | (with_reducible refine Kept.drew ?_) | (with_reducible refine Kept.drewN ?_ _) | ((with_reducible refine Kept.setCell ?_ ?_ _); rotate_left; focus (first | (simp; done) | (simp; omega))) | refine Kept.trans ?_ (by assumption)))
structure Z3 (w : World) (b : Nat) : Prop where
  c0 : w.cell? ⟨b, 0, none⟩ = some (.int .i64 0)
  c1 : w.cell? ⟨b, 1, none⟩ = some (.int .i64 0)
  c2 : w.cell? ⟨b, 2, none⟩ = some (.int .i64 0)
  f : ∀ i, w.frozen? ⟨b, i, none⟩ = false
theorem Z3.kept {w w' : World} {b : Nat} (h : Z3 w b) (k : Kept w w') : Z3 w' b := ⟨k.some h.c0, k.some h.c1, k.some h.c2, fun i => k.soft (lt_of_cell h.c0) (h.f i)⟩
set_option maxHeartbeats 1000000 in
theorem nodeRow_any (t : Twr) (h : t.Sound) (w : World) : Calls Tryz.prog 67 #[towV t] w fun e w' => e = .returned (.agg #[.int .i64 t.D, .int .i64 t.A.F.N, .int .i64 (4 + t.G)]) ∧ Kept w w' := by
  have g1 := h.G1
  have g2 := h.G2
  have wg : IntKind.i64.wrap (4 + t.G) = 4 + t.G := by rw [IntKind.wrap_i64]; omega
  clear h
  go_enter Tryz.func67, Tryz.ntmps67
  go_wp2_with fail
  obtain ⟨W0, hW0⟩ : ∃ W0, W0 = ((w.alloc (.cells #[.int .i64 t.D, .int .i64 t.H, .int .i64 t.G, .int .i64 t.A.F.T, .int .i64 t.A.F.K, .int .i64 t.A.F.N, .int .i64 t.A.G, .int .i64 t.A.V, .int .i64 t.A.L, .int .i64 t.E.T, .int .i64 t.E.K, .int .i64 t.E.N, .int .i64 t.P] 31)).alloc (.cells #[.int .i64 0, .int .i64 0, .int .i64 0] 120)) := ⟨_, rfl⟩
  have T0 : TB W0 w.heap.size t := by rw [hW0]; exact TB.kept (TB.new w _ _ rfl t) ((Kept.refl _).alloc _ _)
  have R0 : Z3 W0 (w.heap.size + 1) := by rw [hW0]; exact ⟨cell_new _ _ _ _ 0 (by simp), cell_new _ _ _ _ 1 (by simp), cell_new _ _ _ _ 2 (by simp), fun i => by simp⟩
  have K0 : Hid (Kept w W0) := Lib.hid (by rw [hW0]; exact ((Kept.refl w).alloc _ _).alloc _ _)
  rw [← hW0]
  clear hW0
  have TH := Lib.hid T0
  have RH := Lib.hid R0
  obtain ⟨a0, a1, a2, a3, a4, a5, a6, a7, a8, a9, a10, a11, a12⟩ := T0
  obtain ⟨r0, r1, r2, rf⟩ := R0
  have KT : Kept W0 W0 := Kept.refl _
  go_region_law (first | (go_simp; go_at_call 149; refine (size_any t _).mono ?_; rintro e w1 ⟨rfl, k1⟩; have KT : Kept W0 w1 := Kept.trans (b := _) (by first | exact KT | exact KT.drew | exact KT.drewN _) k1; obtain ⟨a0, a1, a2, a3, a4, a5, a6, a7, a8, a9, a10, a11, a12⟩ := TB.kept TH.out KT; obtain ⟨r0, r1, r2, rf⟩ := Z3.kept RH.out KT) | (go_simp; go_at_call 151; refine (wide_n _ _ _ _).mono ?_; rintro e w2 ⟨rfl, k2⟩; have KT : Kept W0 w2 := Kept.trans (b := _) (by first | exact KT | exact KT.drew | exact KT.drewN _) k2; obtain ⟨a0, a1, a2, a3, a4, a5, a6, a7, a8, a9, a10, a11, a12⟩ := TB.kept TH.out KT; obtain ⟨r0, r1, r2, rf⟩ := Z3.kept RH.out KT))
  all_goals
    go_wp2
    refine bodyPost_ret (v := .agg #[.int .i64 t.D, .int .i64 t.A.F.N, .int .i64 (4 + t.G)]) (by simp [results, Tryz.results67, go_sem, cell_set, r0, r1, r2, wg]) rfl ⟨rfl, ?_⟩
    have K := K0.out.trans KT
    (go_light; repeat (first | (with_reducible exact Kept.refl _) | (with_reducible assumption) | (with_reducible refine Kept.alloc ?_ _ _) | (with_reducible refine Kept.drew ?_) | (with_reducible refine Kept.drewN ?_ _) | ((with_reducible refine Kept.setCell ?_ ?_ _); rotate_left; focus (first | (simp; done) | (simp; omega))) | refine Kept.trans ?_ (by assumption)))
set_option maxHeartbeats 1000000 in
theorem headRow_any (t : Twr) (w : World) : Calls Tryz.prog 69 #[towV t] w fun e w' => e = .returned (.agg #[.int .i64 t.H, .int .i64 1, .int .i64 t.G]) ∧ Kept w w' := by
  go_enter Tryz.func69, Tryz.ntmps69
  go_wp2_with fail
  refine (wide_h _ _ _ _).mono ?_
  rintro e w2 ⟨rfl, k2⟩
  obtain ⟨r0, r1, r2, rf⟩ : Z3 w2 (w.heap.size + 1) := Z3.kept (w := ((w.alloc (.cells #[.int .i64 t.D, .int .i64 t.H, .int .i64 t.G, .int .i64 t.A.F.T, .int .i64 t.A.F.K, .int .i64 t.A.F.N, .int .i64 t.A.G, .int .i64 t.A.V, .int .i64 t.A.L, .int .i64 t.E.T, .int .i64 t.E.K, .int .i64 t.E.N, .int .i64 t.P] 31)).alloc (.cells #[.int .i64 0, .int .i64 0, .int .i64 0] 124))) ⟨cell_new _ _ _ _ 0 (by simp), cell_new _ _ _ _ 1 (by simp), cell_new _ _ _ _ 2 (by simp), fun i => by simp⟩ k2
  have K2 : Hid (Kept w w2) := Lib.hid ((((Kept.refl w).alloc _ _).alloc _ _).trans k2)
  go_wp2
  refine bodyPost_ret (v := .agg #[.int .i64 t.H, .int .i64 1, .int .i64 t.G]) (by simp [results, Tryz.results69, go_sem, cell_set, r0, r1, r2]) rfl ⟨rfl, ?_⟩
  have K := K2.out
  (go_light; repeat (first | (with_reducible exact Kept.refl _) | (with_reducible assumption) | (with_reducible refine Kept.alloc ?_ _ _) | (with_reducible refine Kept.drew ?_) | (with_reducible refine Kept.drewN ?_ _) | ((with_reducible refine Kept.setCell ?_ ?_ _); rotate_left; focus (first | (simp; done) | (simp; omega))) | refine Kept.trans ?_ (by assumption)))
end Go.Proofs.YtejiogggocnldaaGreat.Tw
