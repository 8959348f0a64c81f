/- Fits of an arena: the program's. Written by gen11f.py. -/
import Derived.Test.YtejiogggocnldaaGreatG10
import Derived.Test.YtejiogggocnldaaGreatG11
import Derived.Deep.DeepCutAuto
set_option linter.unusedVariables false
set_option linter.unusedSimpArgs false

namespace Go.Proofs.YtejiogggocnldaaGreat.Sk
set_option maxRecDepth 20000
open Go.RowKit
open Wo (St acc wordAt PMem RefIs)

def Meet (a m b k : Int) : Prop := a < b + k ∧ b < a + m
instance (a m b k : Int) : Decidable (Meet a m b k) := by unfold Meet; infer_instance
def badA (A : Arn) (n : Int) : Prop :=
  A.L < 1 ∨ 4294967295 < A.L ∨ A.G < 0 ∨ n - A.F.N < A.G ∨ A.V < 0 ∨ n - 1 < A.V ∨ Meet A.G A.F.N A.F.K A.F.N ∨ Meet A.G A.F.N A.F.T 1 ∨ Meet A.G A.F.N A.V 1 ∨ Meet A.V 1 A.F.K A.F.N ∨ Meet A.V 1 A.F.T 1
instance (A : Arn) (n : Int) : Decidable (badA A n) := by unfold badA; infer_instance
def fitsA (A : Arn) (n : Int) : Int := if fitsE A.F n ≠ 0 then fitsE A.F n else if badA A n then 2 else 0
theorem fitsA_ok {A : Arn} {n : Int} (h : fitsA A n = 0) : A.Ok n.toNat ∧ 1 ≤ n ∧ n ≤ 4096 ∧ ¬ badA A n := by
  unfold fitsA at h
  by_cases h0 : fitsE A.F n = 0
  · rw [if_neg (by omega)] at h
    by_cases hb : badA A n
    · rw [if_pos hb] at h; omega
    · obtain ⟨hS, n1, n2⟩ := fitsE_ok h0
      refine ⟨⟨hS, ?_, ?_, ?_, ?_, ?_, ?_⟩, n1, n2, hb⟩ <;> (unfold badA at hb; omega)
  · rw [if_pos h0] at h
    exact absurd h h0

def Sp2 (w wx : World) (a m b k : Int) (g h : Value) : Prop :=
  ∃ x y, g = .pointer (some ⟨x, 0, none⟩) ∧ h = .pointer (some ⟨y, 0, none⟩) ∧ wx.cell? ⟨x, 0, none⟩ = some (.int .i64 a) ∧ wx.cell? ⟨x, 1, none⟩ = some (.int .i64 m) ∧ wx.cell? ⟨y, 0, none⟩ = some (.int .i64 b) ∧ wx.cell? ⟨y, 1, none⟩ = some (.int .i64 k) ∧ Kept w wx
set_option maxHeartbeats 400000 in
theorem within_yes (f m n : Int) (w : World) (m0 : 0 ≤ m) (m1 : m ≤ 4096) (n0 : 1 ≤ n) (n1 : n ≤ 4096) (h0 : 0 ≤ f) (h1 : f ≤ n - m) : Calls Tryz.prog 189 #[.agg #[.int .i64 f, .int .i64 m], .int .i64 n] w fun e w' => e = .returned (.bool true) ∧ Kept w w' := by
  go_enter Tryz.func189, Tryz.ntmps189
  go_wp2
  go_ret
  exact ⟨rfl, by (go_light; repeat (first | (with_reducible exact Kept.refl _) | (with_reducible assumption) | (with_reducible refine Kept.alloc ?_ _ _) | (with_reducible refine Kept.drew ?_) | (with_reducible refine Kept.drewN ?_ _) | ((with_reducible refine Kept.setCell ?_ ?_ _); rotate_left; focus (first | (simp; done) | (simp; omega))) | refine Kept.trans ?_ (by assumption)))⟩
set_option maxHeartbeats 400000 in
theorem within_lo (f m n : Int) (w : World) (h0 : f < 0) : Calls Tryz.prog 189 #[.agg #[.int .i64 f, .int .i64 m], .int .i64 n] w fun e w' => e = .returned (.bool false) ∧ Kept w w' := by
  go_enter Tryz.func189, Tryz.ntmps189
  go_wp2
  go_ret
  exact ⟨rfl, by (go_light; repeat (first | (with_reducible exact Kept.refl _) | (with_reducible assumption) | (with_reducible refine Kept.alloc ?_ _ _) | (with_reducible refine Kept.drew ?_) | (with_reducible refine Kept.drewN ?_ _) | ((with_reducible refine Kept.setCell ?_ ?_ _); rotate_left; focus (first | (simp; done) | (simp; omega))) | refine Kept.trans ?_ (by assumption)))⟩
set_option maxHeartbeats 400000 in
theorem within_hi (f m n : Int) (w : World) (m0 : 0 ≤ m) (m1 : m ≤ 4096) (n0 : 1 ≤ n) (n1 : n ≤ 4096) (h0 : 0 ≤ f) (h1 : n - m < f) : Calls Tryz.prog 189 #[.agg #[.int .i64 f, .int .i64 m], .int .i64 n] w fun e w' => e = .returned (.bool false) ∧ Kept w w' := by
  have h2 : decide (f ≤ n - m) = false := by simp; omega
  go_enter Tryz.func189, Tryz.ntmps189
  go_wp2
  go_ret
  exact ⟨rfl, by (go_light; repeat (first | (with_reducible exact Kept.refl _) | (with_reducible assumption) | (with_reducible refine Kept.alloc ?_ _ _) | (with_reducible refine Kept.drew ?_) | (with_reducible refine Kept.drewN ?_ _) | ((with_reducible refine Kept.setCell ?_ ?_ _); rotate_left; focus (first | (simp; done) | (simp; omega))) | refine Kept.trans ?_ (by assumption)))⟩
theorem within_no (f m n : Int) (w : World) (m0 : 0 ≤ m) (m1 : m ≤ 4096) (n0 : 1 ≤ n) (n1 : n ≤ 4096) (h : f < 0 ∨ n - m < f) : Calls Tryz.prog 189 #[.agg #[.int .i64 f, .int .i64 m], .int .i64 n] w fun e w' => e = .returned (.bool false) ∧ Kept w w' := by
  by_cases h0 : f < 0
  · exact within_lo f m n w h0
  · exact within_hi f m n w m0 m1 n0 n1 (by omega) (by omega)
set_option maxHeartbeats 400000 in
theorem meets_yes (a m b k : Int) (w : World) (a0 : 0 ≤ a) (a1 : a ≤ 4096) (b0 : 0 ≤ b) (b1 : b ≤ 4096) (m0 : 0 ≤ m) (m1 : m ≤ 4096) (k0 : 0 ≤ k) (k1 : k ≤ 4096) (h0 : a < b + k) (h1 : b < a + m) : Calls Tryz.prog 190 #[.agg #[.int .i64 a, .int .i64 m], .agg #[.int .i64 b, .int .i64 k]] w fun e w' => e = .returned (.bool true) ∧ Kept w w' := by
  go_enter Tryz.func190, Tryz.ntmps190
  go_wp2
  go_ret
  exact ⟨rfl, by (go_light; repeat (first | (with_reducible exact Kept.refl _) | (with_reducible assumption) | (with_reducible refine Kept.alloc ?_ _ _) | (with_reducible refine Kept.drew ?_) | (with_reducible refine Kept.drewN ?_ _) | ((with_reducible refine Kept.setCell ?_ ?_ _); rotate_left; focus (first | (simp; done) | (simp; omega))) | refine Kept.trans ?_ (by assumption)))⟩
set_option maxHeartbeats 400000 in
theorem meets_lo (a m b k : Int) (w : World) (b0 : 0 ≤ b) (b1 : b ≤ 4096) (k0 : 0 ≤ k) (k1 : k ≤ 4096) (h0 : b + k ≤ a) : Calls Tryz.prog 190 #[.agg #[.int .i64 a, .int .i64 m], .agg #[.int .i64 b, .int .i64 k]] w fun e w' => e = .returned (.bool false) ∧ Kept w w' := by
  have h2 : decide (a < b + k) = false := by simp; omega
  go_enter Tryz.func190, Tryz.ntmps190
  go_wp2
  go_ret
  exact ⟨rfl, by (go_light; repeat (first | (with_reducible exact Kept.refl _) | (with_reducible assumption) | (with_reducible refine Kept.alloc ?_ _ _) | (with_reducible refine Kept.drew ?_) | (with_reducible refine Kept.drewN ?_ _) | ((with_reducible refine Kept.setCell ?_ ?_ _); rotate_left; focus (first | (simp; done) | (simp; omega))) | refine Kept.trans ?_ (by assumption)))⟩
set_option maxHeartbeats 400000 in
theorem meets_hi (a m b k : Int) (w : World) (a0 : 0 ≤ a) (a1 : a ≤ 4096) (b0 : 0 ≤ b) (b1 : b ≤ 4096) (m0 : 0 ≤ m) (m1 : m ≤ 4096) (k0 : 0 ≤ k) (k1 : k ≤ 4096) (h0 : a < b + k) (h1 : a + m ≤ b) : Calls Tryz.prog 190 #[.agg #[.int .i64 a, .int .i64 m], .agg #[.int .i64 b, .int .i64 k]] w fun e w' => e = .returned (.bool false) ∧ Kept w w' := by
  have h2 : decide (b < a + m) = false := by simp; omega
  go_enter Tryz.func190, Tryz.ntmps190
  go_wp2
  go_ret
  exact ⟨rfl, by (go_light; repeat (first | (with_reducible exact Kept.refl _) | (with_reducible assumption) | (with_reducible refine Kept.alloc ?_ _ _) | (with_reducible refine Kept.drew ?_) | (with_reducible refine Kept.drewN ?_ _) | ((with_reducible refine Kept.setCell ?_ ?_ _); rotate_left; focus (first | (simp; done) | (simp; omega))) | refine Kept.trans ?_ (by assumption)))⟩
theorem meets_no (a m b k : Int) (w : World) (a0 : 0 ≤ a) (a1 : a ≤ 4096) (b0 : 0 ≤ b) (b1 : b ≤ 4096) (m0 : 0 ≤ m) (m1 : m ≤ 4096) (k0 : 0 ≤ k) (k1 : k ≤ 4096) (h : ¬ Meet a m b k) : Calls Tryz.prog 190 #[.agg #[.int .i64 a, .int .i64 m], .agg #[.int .i64 b, .int .i64 k]] w fun e w' => e = .returned (.bool false) ∧ Kept w w' := by
  unfold Meet at h
  by_cases h0 : b + k ≤ a
  · exact meets_lo a m b k w b0 b1 k0 k1 h0
  · exact meets_hi a m b k w a0 a1 b0 b1 m0 m1 k0 k1 (by omega) (by omega)

theorem fitsA_err (A : Arn) (n : Int) (w : World) (h : fitsE A.F n ≠ 0) : Calls Tryz.prog 144 #[.agg #[.int .i64 A.F.T, .int .i64 A.F.K, .int .i64 A.F.N, .int .i64 A.G, .int .i64 A.V, .int .i64 A.L], .int .i64 n] w fun e w' => e = .returned (.int .i64 (fitsE A.F n)) ∧ Kept w w' := by
  have HF : ∀ W, Hid (Calls Tryz.prog 188 #[.agg #[.int .i64 A.F.T, .int .i64 A.F.K, .int .i64 A.F.N], .int .i64 n] W fun e w' => e = .returned (.int .i64 (fitsE A.F n)) ∧ Kept W w') := fun W => Lib.hid (pfits_any A.F n W)
  have hb : (fitsE A.F n != 0) = true := by simpa using h
  clear h
  generalize fitsE A.F n = x at *
  go_enter Tryz.func144, Tryz.ntmps144
  go_wp2_with fail
  refine (HF _).out.mono ?_
  rintro e w1 ⟨rfl, k1⟩
  go_wp2
  go_ret
  exact ⟨rfl, Kept.trans (b := _) (by (go_light; repeat (first | (with_reducible exact Kept.refl _) | (with_reducible assumption) | (with_reducible refine Kept.alloc ?_ _ _) | (with_reducible refine Kept.drew ?_) | (with_reducible refine Kept.drewN ?_ _) | ((with_reducible refine Kept.setCell ?_ ?_ _); rotate_left; focus (first | (simp; done) | (simp; omega))) | refine Kept.trans ?_ (by assumption)))) k1⟩
set_option maxHeartbeats 1000000 in
theorem f_L1 (A : Arn) (n : Int) (w : World) (hS : A.F.Ok n.toNat) (n0 : 1 ≤ n) (n1 : n ≤ 4096) (h : fitsE A.F n = 0) (hL : A.L < 1) : Calls Tryz.prog 144 #[.agg #[.int .i64 A.F.T, .int .i64 A.F.K, .int .i64 A.F.N, .int .i64 A.G, .int .i64 A.V, .int .i64 A.L], .int .i64 n] w fun e w' => e = .returned (.int .i64 2) ∧ Kept w w' := by
  have N1 := hS.N1
  have N2 := hS.N2
  have T1 := hS.T1
  have T2 := hS.T2
  have K1 := hS.K1
  have K2 := hS.K2
  have HF : ∀ W, Hid (Calls Tryz.prog 188 #[.agg #[.int .i64 A.F.T, .int .i64 A.F.K, .int .i64 A.F.N], .int .i64 n] W fun e w' => e = .returned (.int .i64 0) ∧ Kept W w') := fun W => Lib.hid (by rw [← h]; exact pfits_any A.F n W)
  clear hS h
  go_enter Tryz.func144, Tryz.ntmps144
  go_wp2_with fail
  refine (HF _).out.mono ?_
  rintro e w1 ⟨rfl, k1⟩
  have c1_0 := k1.some (cell_new w #[.int .i64 A.F.T, .int .i64 A.F.K, .int .i64 A.F.N, .int .i64 A.G, .int .i64 A.V, .int .i64 A.L] 25 w.heap.size 0 rfl)
  have c1_1 := k1.some (cell_new w #[.int .i64 A.F.T, .int .i64 A.F.K, .int .i64 A.F.N, .int .i64 A.G, .int .i64 A.V, .int .i64 A.L] 25 w.heap.size 1 rfl)
  have c1_2 := k1.some (cell_new w #[.int .i64 A.F.T, .int .i64 A.F.K, .int .i64 A.F.N, .int .i64 A.G, .int .i64 A.V, .int .i64 A.L] 25 w.heap.size 2 rfl)
  have c1_3 := k1.some (cell_new w #[.int .i64 A.F.T, .int .i64 A.F.K, .int .i64 A.F.N, .int .i64 A.G, .int .i64 A.V, .int .i64 A.L] 25 w.heap.size 3 rfl)
  have c1_4 := k1.some (cell_new w #[.int .i64 A.F.T, .int .i64 A.F.K, .int .i64 A.F.N, .int .i64 A.G, .int .i64 A.V, .int .i64 A.L] 25 w.heap.size 4 rfl)
  have c1_5 := k1.some (cell_new w #[.int .i64 A.F.T, .int .i64 A.F.K, .int .i64 A.F.N, .int .i64 A.G, .int .i64 A.V, .int .i64 A.L] 25 w.heap.size 5 rfl)
  have K1' : Kept w w1 := Kept.trans (b := _) (by (go_light; repeat (first | (with_reducible exact Kept.refl _) | (with_reducible assumption) | (with_reducible refine Kept.alloc ?_ _ _) | (with_reducible refine Kept.drew ?_) | (with_reducible refine Kept.drewN ?_ _) | ((with_reducible refine Kept.setCell ?_ ?_ _); rotate_left; focus (first | (simp; done) | (simp; omega))) | refine Kept.trans ?_ (by assumption)))) k1
  go_wp2
  go_ret
  exact ⟨rfl, by (go_light; repeat (first | (with_reducible exact Kept.refl _) | (with_reducible assumption) | (with_reducible refine Kept.alloc ?_ _ _) | (with_reducible refine Kept.drew ?_) | (with_reducible refine Kept.drewN ?_ _) | ((with_reducible refine Kept.setCell ?_ ?_ _); rotate_left; focus (first | (simp; done) | (simp; omega))) | refine Kept.trans ?_ (by assumption)))⟩
set_option maxHeartbeats 1000000 in
theorem f_L2 (A : Arn) (n : Int) (w : World) (hS : A.F.Ok n.toNat) (n0 : 1 ≤ n) (n1 : n ≤ 4096) (h : fitsE A.F n = 0) (hL : 4294967295 < A.L) : Calls Tryz.prog 144 #[.agg #[.int .i64 A.F.T, .int .i64 A.F.K, .int .i64 A.F.N, .int .i64 A.G, .int .i64 A.V, .int .i64 A.L], .int .i64 n] w fun e w' => e = .returned (.int .i64 2) ∧ Kept w w' := by
  have N1 := hS.N1
  have N2 := hS.N2
  have T1 := hS.T1
  have T2 := hS.T2
  have K1 := hS.K1
  have K2 := hS.K2
  have HF : ∀ W, Hid (Calls Tryz.prog 188 #[.agg #[.int .i64 A.F.T, .int .i64 A.F.K, .int .i64 A.F.N], .int .i64 n] W fun e w' => e = .returned (.int .i64 0) ∧ Kept W w') := fun W => Lib.hid (by rw [← h]; exact pfits_any A.F n W)
  clear hS h
  have hL0 : 1 ≤ A.L := by omega
  go_enter Tryz.func144, Tryz.ntmps144
  go_wp2_with fail
  refine (HF _).out.mono ?_
  rintro e w1 ⟨rfl, k1⟩
  have c1_0 := k1.some (cell_new w #[.int .i64 A.F.T, .int .i64 A.F.K, .int .i64 A.F.N, .int .i64 A.G, .int .i64 A.V, .int .i64 A.L] 25 w.heap.size 0 rfl)
  have c1_1 := k1.some (cell_new w #[.int .i64 A.F.T, .int .i64 A.F.K, .int .i64 A.F.N, .int .i64 A.G, .int .i64 A.V, .int .i64 A.L] 25 w.heap.size 1 rfl)
  have c1_2 := k1.some (cell_new w #[.int .i64 A.F.T, .int .i64 A.F.K, .int .i64 A.F.N, .int .i64 A.G, .int .i64 A.V, .int .i64 A.L] 25 w.heap.size 2 rfl)
  have c1_3 := k1.some (cell_new w #[.int .i64 A.F.T, .int .i64 A.F.K, .int .i64 A.F.N, .int .i64 A.G, .int .i64 A.V, .int .i64 A.L] 25 w.heap.size 3 rfl)
  have c1_4 := k1.some (cell_new w #[.int .i64 A.F.T, .int .i64 A.F.K, .int .i64 A.F.N, .int .i64 A.G, .int .i64 A.V, .int .i64 A.L] 25 w.heap.size 4 rfl)
  have c1_5 := k1.some (cell_new w #[.int .i64 A.F.T, .int .i64 A.F.K, .int .i64 A.F.N, .int .i64 A.G, .int .i64 A.V, .int .i64 A.L] 25 w.heap.size 5 rfl)
  have K1' : Kept w w1 := Kept.trans (b := _) (by (go_light; repeat (first | (with_reducible exact Kept.refl _) | (with_reducible assumption) | (with_reducible refine Kept.alloc ?_ _ _) | (with_reducible refine Kept.drew ?_) | (with_reducible refine Kept.drewN ?_ _) | ((with_reducible refine Kept.setCell ?_ ?_ _); rotate_left; focus (first | (simp; done) | (simp; omega))) | refine Kept.trans ?_ (by assumption)))) k1
  go_wp2
  go_ret
  exact ⟨rfl, by (go_light; repeat (first | (with_reducible exact Kept.refl _) | (with_reducible assumption) | (with_reducible refine Kept.alloc ?_ _ _) | (with_reducible refine Kept.drew ?_) | (with_reducible refine Kept.drewN ?_ _) | ((with_reducible refine Kept.setCell ?_ ?_ _); rotate_left; focus (first | (simp; done) | (simp; omega))) | refine Kept.trans ?_ (by assumption)))⟩
set_option maxHeartbeats 1000000 in
theorem f_gw (A : Arn) (n : Int) (w : World) (hS : A.F.Ok n.toNat) (n0 : 1 ≤ n) (n1 : n ≤ 4096) (h : fitsE A.F n = 0) (L1 : 1 ≤ A.L) (L2 : A.L ≤ 4294967295) (gw : A.G < 0 ∨ n - A.F.N < A.G) : Calls Tryz.prog 144 #[.agg #[.int .i64 A.F.T, .int .i64 A.F.K, .int .i64 A.F.N, .int .i64 A.G, .int .i64 A.V, .int .i64 A.L], .int .i64 n] w fun e w' => e = .returned (.int .i64 2) ∧ Kept w w' := by
  have N1 := hS.N1
  have N2 := hS.N2
  have T1 := hS.T1
  have T2 := hS.T2
  have K1 := hS.K1
  have K2 := hS.K2
  have HF : ∀ W, Hid (Calls Tryz.prog 188 #[.agg #[.int .i64 A.F.T, .int .i64 A.F.K, .int .i64 A.F.N], .int .i64 n] W fun e w' => e = .returned (.int .i64 0) ∧ Kept W w') := fun W => Lib.hid (by rw [← h]; exact pfits_any A.F n W)
  have Hgw : ∀ W, Hid (Calls Tryz.prog 189 #[.agg #[.int .i64 A.G, .int .i64 (A.F.N)], .int .i64 n] W fun e w' => e = .returned (.bool false) ∧ Kept W w') := fun W => Lib.hid (within_no A.G A.F.N n W (by omega) (by omega) n0 n1 gw)
  clear hS h gw
  go_enter Tryz.func144, Tryz.ntmps144
  go_wp2_with fail
  refine (HF _).out.mono ?_
  rintro e w1 ⟨rfl, k1⟩
  have c1_0 := k1.some (cell_new w #[.int .i64 A.F.T, .int .i64 A.F.K, .int .i64 A.F.N, .int .i64 A.G, .int .i64 A.V, .int .i64 A.L] 25 w.heap.size 0 rfl)
  have c1_1 := k1.some (cell_new w #[.int .i64 A.F.T, .int .i64 A.F.K, .int .i64 A.F.N, .int .i64 A.G, .int .i64 A.V, .int .i64 A.L] 25 w.heap.size 1 rfl)
  have c1_2 := k1.some (cell_new w #[.int .i64 A.F.T, .int .i64 A.F.K, .int .i64 A.F.N, .int .i64 A.G, .int .i64 A.V, .int .i64 A.L] 25 w.heap.size 2 rfl)
  have c1_3 := k1.some (cell_new w #[.int .i64 A.F.T, .int .i64 A.F.K, .int .i64 A.F.N, .int .i64 A.G, .int .i64 A.V, .int .i64 A.L] 25 w.heap.size 3 rfl)
  have c1_4 := k1.some (cell_new w #[.int .i64 A.F.T, .int .i64 A.F.K, .int .i64 A.F.N, .int .i64 A.G, .int .i64 A.V, .int .i64 A.L] 25 w.heap.size 4 rfl)
  have c1_5 := k1.some (cell_new w #[.int .i64 A.F.T, .int .i64 A.F.K, .int .i64 A.F.N, .int .i64 A.G, .int .i64 A.V, .int .i64 A.L] 25 w.heap.size 5 rfl)
  have K1' := Lib.hid (Kept.trans (b := _) (show Kept w _ by (go_light; repeat (first | (with_reducible exact Kept.refl _) | (with_reducible assumption) | (with_reducible refine Kept.alloc ?_ _ _) | (with_reducible refine Kept.drew ?_) | (with_reducible refine Kept.drewN ?_ _) | ((with_reducible refine Kept.setCell ?_ ?_ _); rotate_left; focus (first | (simp; done) | (simp; omega))) | refine Kept.trans ?_ (by assumption)))) k1)
  clear k1
  go_wp2_with fail
  go_cut [6, 7] (fun g h wx => Sp2 w1 wx A.F.K A.F.N A.F.T 1 g h)
  case first =>
    go_region_held3 (fun w' => w'.cell? ⟨w.heap.size, 0, none⟩ = some (.int .i64 A.F.T) ∧ w'.cell? ⟨w.heap.size, 1, none⟩ = some (.int .i64 A.F.K) ∧ w'.cell? ⟨w.heap.size, 2, none⟩ = some (.int .i64 A.F.N) ∧ w'.cell? ⟨w.heap.size, 3, none⟩ = some (.int .i64 A.G) ∧ w'.cell? ⟨w.heap.size, 4, none⟩ = some (.int .i64 A.V) ∧ w'.cell? ⟨w.heap.size, 5, none⟩ = some (.int .i64 A.L)) (first | (with_reducible exact ⟨c1_0, c1_1, c1_2, c1_3, c1_4, c1_5⟩) | go_keep) (fail)
    all_goals
      go_wp2_with fail
      go_meet
      case rel => exact ⟨_, _, rfl, rfl, by simp, by simp, by simp, by simp, by (go_light; repeat (first | (with_reducible exact Kept.refl _) | (with_reducible assumption) | (with_reducible refine Kept.alloc ?_ _ _) | (with_reducible refine Kept.drew ?_) | (with_reducible refine Kept.drewN ?_ _) | ((with_reducible refine Kept.setCell ?_ ?_ _); rotate_left; focus (first | (simp; done) | (simp; omega))) | refine Kept.trans ?_ (by assumption)))⟩
  case rest =>
    obtain ⟨x1, y1, rfl, rfl, p1, p2, p3, p4, kp⟩ := hcut
    have lx1 := lt_of_cell p1
    have ly1 := lt_of_cell p3
    have d_0 := kp.some c1_0
    have d_1 := kp.some c1_1
    have d_2 := kp.some c1_2
    have d_3 := kp.some c1_3
    have d_4 := kp.some c1_4
    have d_5 := kp.some c1_5
    have KP := Lib.hid kp
    clear kp c1_0 c1_1 c1_2 c1_3 c1_4 c1_5
    generalize wc = w2 at *
    go_wp2_with fail
    go_cut [8, 9] (fun g h wx => Sp2 w2 wx A.G A.F.N A.V 1 g h)
    case first =>
      go_region_held3 (fun w' => w'.cell? ⟨w.heap.size, 0, none⟩ = some (.int .i64 A.F.T) ∧ w'.cell? ⟨w.heap.size, 1, none⟩ = some (.int .i64 A.F.K) ∧ w'.cell? ⟨w.heap.size, 2, none⟩ = some (.int .i64 A.F.N) ∧ w'.cell? ⟨w.heap.size, 3, none⟩ = some (.int .i64 A.G) ∧ w'.cell? ⟨w.heap.size, 4, none⟩ = some (.int .i64 A.V) ∧ w'.cell? ⟨w.heap.size, 5, none⟩ = some (.int .i64 A.L)) (first | (with_reducible exact ⟨d_0, d_1, d_2, d_3, d_4, d_5⟩) | go_keep) (fail)
      all_goals
        go_wp2_with fail
        go_meet
        case rel => exact ⟨_, _, rfl, rfl, by simp, by simp, by simp, by simp, by (go_light; repeat (first | (with_reducible exact Kept.refl _) | (with_reducible assumption) | (with_reducible refine Kept.alloc ?_ _ _) | (with_reducible refine Kept.drew ?_) | (with_reducible refine Kept.drewN ?_ _) | ((with_reducible refine Kept.setCell ?_ ?_ _); rotate_left; focus (first | (simp; done) | (simp; omega))) | refine Kept.trans ?_ (by assumption)))⟩
    case rest =>
      obtain ⟨x2, y2, rfl, rfl, q1, q2, q3, q4, kq⟩ := hcut
      have lx2 := lt_of_cell q1
      have ly2 := lt_of_cell q3
      have p1 := kq.some p1
      have p2 := kq.some p2
      have p3 := kq.some p3
      have p4 := kq.some p4
      have KQ := Lib.hid (K1'.out.trans (KP.out.trans kq))
      clear kq d_0 d_1 d_2 d_3 d_4 d_5 KP K1'
      generalize wc = w3 at *
      go_wp2_with fail
      refine (Hgw _).out.mono ?_
      rintro e w4 ⟨rfl, k4⟩
      have p1 := k4.some p1
      have p2 := k4.some p2
      have p3 := k4.some p3
      have p4 := k4.some p4
      have q1 := k4.some q1
      have q2 := k4.some q2
      have q3 := k4.some q3
      have q4 := k4.some q4
      have KQ := Lib.hid (KQ.out.trans (Kept.trans (b := _) (by first | exact Kept.refl _ | (go_light; repeat (first | (with_reducible exact Kept.refl _) | (with_reducible assumption) | (with_reducible refine Kept.alloc ?_ _ _) | (with_reducible refine Kept.drew ?_) | (with_reducible refine Kept.drewN ?_ _) | ((with_reducible refine Kept.setCell ?_ ?_ _); rotate_left; focus (first | (simp; done) | (simp; omega))) | refine Kept.trans ?_ (by assumption)))) k4))
      have lx1 := lt_of_cell p1
      have ly1 := lt_of_cell p3
      have lx2 := lt_of_cell q1
      have ly2 := lt_of_cell q3
      clear k4
      go_wp2
      go_ret
      have kk := KQ.out
      exact ⟨rfl, Kept.trans kk (by (go_light; repeat (first | (with_reducible exact Kept.refl _) | (with_reducible assumption) | (with_reducible refine Kept.alloc ?_ _ _) | (with_reducible refine Kept.drew ?_) | (with_reducible refine Kept.drewN ?_ _) | ((with_reducible refine Kept.setCell ?_ ?_ _); rotate_left; focus (first | (simp; done) | (simp; omega))) | refine Kept.trans ?_ (by assumption))))⟩
set_option maxHeartbeats 1000000 in
theorem f_ww (A : Arn) (n : Int) (w : World) (hS : A.F.Ok n.toNat) (n0 : 1 ≤ n) (n1 : n ≤ 4096) (h : fitsE A.F n = 0) (L1 : 1 ≤ A.L) (L2 : A.L ≤ 4294967295) (gw : 0 ≤ A.G ∧ A.G ≤ n - A.F.N) (ww : A.V < 0 ∨ n - 1 < A.V) : Calls Tryz.prog 144 #[.agg #[.int .i64 A.F.T, .int .i64 A.F.K, .int .i64 A.F.N, .int .i64 A.G, .int .i64 A.V, .int .i64 A.L], .int .i64 n] w fun e w' => e = .returned (.int .i64 2) ∧ Kept w w' := by
  have N1 := hS.N1
  have N2 := hS.N2
  have T1 := hS.T1
  have T2 := hS.T2
  have K1 := hS.K1
  have K2 := hS.K2
  have HF : ∀ W, Hid (Calls Tryz.prog 188 #[.agg #[.int .i64 A.F.T, .int .i64 A.F.K, .int .i64 A.F.N], .int .i64 n] W fun e w' => e = .returned (.int .i64 0) ∧ Kept W w') := fun W => Lib.hid (by rw [← h]; exact pfits_any A.F n W)
  have Hgw : ∀ W, Hid (Calls Tryz.prog 189 #[.agg #[.int .i64 A.G, .int .i64 (A.F.N)], .int .i64 n] W fun e w' => e = .returned (.bool true) ∧ Kept W w') := fun W => Lib.hid (within_yes A.G A.F.N n W (by omega) (by omega) n0 n1 gw.1 gw.2)
  have Hww : ∀ W, Hid (Calls Tryz.prog 189 #[.agg #[.int .i64 A.V, .int .i64 1], .int .i64 n] W fun e w' => e = .returned (.bool false) ∧ Kept W w') := fun W => Lib.hid (within_no A.V 1 n W (by omega) (by omega) n0 n1 ww)
  clear hS h gw ww
  go_enter Tryz.func144, Tryz.ntmps144
  go_wp2_with fail
  refine (HF _).out.mono ?_
  rintro e w1 ⟨rfl, k1⟩
  have c1_0 := k1.some (cell_new w #[.int .i64 A.F.T, .int .i64 A.F.K, .int .i64 A.F.N, .int .i64 A.G, .int .i64 A.V, .int .i64 A.L] 25 w.heap.size 0 rfl)
  have c1_1 := k1.some (cell_new w #[.int .i64 A.F.T, .int .i64 A.F.K, .int .i64 A.F.N, .int .i64 A.G, .int .i64 A.V, .int .i64 A.L] 25 w.heap.size 1 rfl)
  have c1_2 := k1.some (cell_new w #[.int .i64 A.F.T, .int .i64 A.F.K, .int .i64 A.F.N, .int .i64 A.G, .int .i64 A.V, .int .i64 A.L] 25 w.heap.size 2 rfl)
  have c1_3 := k1.some (cell_new w #[.int .i64 A.F.T, .int .i64 A.F.K, .int .i64 A.F.N, .int .i64 A.G, .int .i64 A.V, .int .i64 A.L] 25 w.heap.size 3 rfl)
  have c1_4 := k1.some (cell_new w #[.int .i64 A.F.T, .int .i64 A.F.K, .int .i64 A.F.N, .int .i64 A.G, .int .i64 A.V, .int .i64 A.L] 25 w.heap.size 4 rfl)
  have c1_5 := k1.some (cell_new w #[.int .i64 A.F.T, .int .i64 A.F.K, .int .i64 A.F.N, .int .i64 A.G, .int .i64 A.V, .int .i64 A.L] 25 w.heap.size 5 rfl)
  have K1' := Lib.hid (Kept.trans (b := _) (show Kept w _ by (go_light; repeat (first | (with_reducible exact Kept.refl _) | (with_reducible assumption) | (with_reducible refine Kept.alloc ?_ _ _) | (with_reducible refine Kept.drew ?_) | (with_reducible refine Kept.drewN ?_ _) | ((with_reducible refine Kept.setCell ?_ ?_ _); rotate_left; focus (first | (simp; done) | (simp; omega))) | refine Kept.trans ?_ (by assumption)))) k1)
  clear k1
  go_wp2_with fail
  go_cut [6, 7] (fun g h wx => Sp2 w1 wx A.F.K A.F.N A.F.T 1 g h)
  case first =>
    go_region_held3 (fun w' => w'.cell? ⟨w.heap.size, 0, none⟩ = some (.int .i64 A.F.T) ∧ w'.cell? ⟨w.heap.size, 1, none⟩ = some (.int .i64 A.F.K) ∧ w'.cell? ⟨w.heap.size, 2, none⟩ = some (.int .i64 A.F.N) ∧ w'.cell? ⟨w.heap.size, 3, none⟩ = some (.int .i64 A.G) ∧ w'.cell? ⟨w.heap.size, 4, none⟩ = some (.int .i64 A.V) ∧ w'.cell? ⟨w.heap.size, 5, none⟩ = some (.int .i64 A.L)) (first | (with_reducible exact ⟨c1_0, c1_1, c1_2, c1_3, c1_4, c1_5⟩) | go_keep) (fail)
    all_goals
      go_wp2_with fail
      go_meet
      case rel => exact ⟨_, _, rfl, rfl, by simp, by simp, by simp, by simp, by (go_light; repeat (first | (with_reducible exact Kept.refl _) | (with_reducible assumption) | (with_reducible refine Kept.alloc ?_ _ _) | (with_reducible refine Kept.drew ?_) | (with_reducible refine Kept.drewN ?_ _) | ((with_reducible refine Kept.setCell ?_ ?_ _); rotate_left; focus (first | (simp; done) | (simp; omega))) | refine Kept.trans ?_ (by assumption)))⟩
  case rest =>
    obtain ⟨x1, y1, rfl, rfl, p1, p2, p3, p4, kp⟩ := hcut
    have lx1 := lt_of_cell p1
    have ly1 := lt_of_cell p3
    have d_0 := kp.some c1_0
    have d_1 := kp.some c1_1
    have d_2 := kp.some c1_2
    have d_3 := kp.some c1_3
    have d_4 := kp.some c1_4
    have d_5 := kp.some c1_5
    have KP := Lib.hid kp
    clear kp c1_0 c1_1 c1_2 c1_3 c1_4 c1_5
    generalize wc = w2 at *
    go_wp2_with fail
    go_cut [8, 9] (fun g h wx => Sp2 w2 wx A.G A.F.N A.V 1 g h)
    case first =>
      go_region_held3 (fun w' => w'.cell? ⟨w.heap.size, 0, none⟩ = some (.int .i64 A.F.T) ∧ w'.cell? ⟨w.heap.size, 1, none⟩ = some (.int .i64 A.F.K) ∧ w'.cell? ⟨w.heap.size, 2, none⟩ = some (.int .i64 A.F.N) ∧ w'.cell? ⟨w.heap.size, 3, none⟩ = some (.int .i64 A.G) ∧ w'.cell? ⟨w.heap.size, 4, none⟩ = some (.int .i64 A.V) ∧ w'.cell? ⟨w.heap.size, 5, none⟩ = some (.int .i64 A.L)) (first | (with_reducible exact ⟨d_0, d_1, d_2, d_3, d_4, d_5⟩) | go_keep) (fail)
      all_goals
        go_wp2_with fail
        go_meet
        case rel => exact ⟨_, _, rfl, rfl, by simp, by simp, by simp, by simp, by (go_light; repeat (first | (with_reducible exact Kept.refl _) | (with_reducible assumption) | (with_reducible refine Kept.alloc ?_ _ _) | (with_reducible refine Kept.drew ?_) | (with_reducible refine Kept.drewN ?_ _) | ((with_reducible refine Kept.setCell ?_ ?_ _); rotate_left; focus (first | (simp; done) | (simp; omega))) | refine Kept.trans ?_ (by assumption)))⟩
    case rest =>
      obtain ⟨x2, y2, rfl, rfl, q1, q2, q3, q4, kq⟩ := hcut
      have lx2 := lt_of_cell q1
      have ly2 := lt_of_cell q3
      have p1 := kq.some p1
      have p2 := kq.some p2
      have p3 := kq.some p3
      have p4 := kq.some p4
      have KQ := Lib.hid (K1'.out.trans (KP.out.trans kq))
      clear kq d_0 d_1 d_2 d_3 d_4 d_5 KP K1'
      generalize wc = w3 at *
      go_wp2_with fail
      refine (Hgw _).out.mono ?_
      rintro e w4 ⟨rfl, k4⟩
      have p1 := k4.some p1
      have p2 := k4.some p2
      have p3 := k4.some p3
      have p4 := k4.some p4
      have q1 := k4.some q1
      have q2 := k4.some q2
      have q3 := k4.some q3
      have q4 := k4.some q4
      have KQ := Lib.hid (KQ.out.trans (Kept.trans (b := _) (by first | exact Kept.refl _ | (go_light; repeat (first | (with_reducible exact Kept.refl _) | (with_reducible assumption) | (with_reducible refine Kept.alloc ?_ _ _) | (with_reducible refine Kept.drew ?_) | (with_reducible refine Kept.drewN ?_ _) | ((with_reducible refine Kept.setCell ?_ ?_ _); rotate_left; focus (first | (simp; done) | (simp; omega))) | refine Kept.trans ?_ (by assumption)))) k4))
      have lx1 := lt_of_cell p1
      have ly1 := lt_of_cell p3
      have lx2 := lt_of_cell q1
      have ly2 := lt_of_cell q3
      clear k4
      go_wp2_with fail
      refine (Hww _).out.mono ?_
      rintro e w5 ⟨rfl, k5⟩
      have p1 := k5.some p1
      have p2 := k5.some p2
      have p3 := k5.some p3
      have p4 := k5.some p4
      have q1 := k5.some q1
      have q2 := k5.some q2
      have q3 := k5.some q3
      have q4 := k5.some q4
      have KQ := Lib.hid (KQ.out.trans (Kept.trans (b := _) (by first | exact Kept.refl _ | (go_light; repeat (first | (with_reducible exact Kept.refl _) | (with_reducible assumption) | (with_reducible refine Kept.alloc ?_ _ _) | (with_reducible refine Kept.drew ?_) | (with_reducible refine Kept.drewN ?_ _) | ((with_reducible refine Kept.setCell ?_ ?_ _); rotate_left; focus (first | (simp; done) | (simp; omega))) | refine Kept.trans ?_ (by assumption)))) k5))
      have lx1 := lt_of_cell p1
      have ly1 := lt_of_cell p3
      have lx2 := lt_of_cell q1
      have ly2 := lt_of_cell q3
      clear k5
      go_wp2
      go_ret
      have kk := KQ.out
      exact ⟨rfl, Kept.trans kk (by (go_light; repeat (first | (with_reducible exact Kept.refl _) | (with_reducible assumption) | (with_reducible refine Kept.alloc ?_ _ _) | (with_reducible refine Kept.drew ?_) | (with_reducible refine Kept.drewN ?_ _) | ((with_reducible refine Kept.setCell ?_ ?_ _); rotate_left; focus (first | (simp; done) | (simp; omega))) | refine Kept.trans ?_ (by assumption))))⟩
set_option maxHeartbeats 1000000 in
theorem f_gl (A : Arn) (n : Int) (w : World) (hS : A.F.Ok n.toNat) (n0 : 1 ≤ n) (n1 : n ≤ 4096) (h : fitsE A.F n = 0) (L1 : 1 ≤ A.L) (L2 : A.L ≤ 4294967295) (gw : 0 ≤ A.G ∧ A.G ≤ n - A.F.N) (ww : 0 ≤ A.V ∧ A.V ≤ n - 1) (gl : Meet A.G A.F.N A.F.K A.F.N) : Calls Tryz.prog 144 #[.agg #[.int .i64 A.F.T, .int .i64 A.F.K, .int .i64 A.F.N, .int .i64 A.G, .int .i64 A.V, .int .i64 A.L], .int .i64 n] w fun e w' => e = .returned (.int .i64 2) ∧ Kept w w' := by
  have N1 := hS.N1
  have N2 := hS.N2
  have T1 := hS.T1
  have T2 := hS.T2
  have K1 := hS.K1
  have K2 := hS.K2
  have HF : ∀ W, Hid (Calls Tryz.prog 188 #[.agg #[.int .i64 A.F.T, .int .i64 A.F.K, .int .i64 A.F.N], .int .i64 n] W fun e w' => e = .returned (.int .i64 0) ∧ Kept W w') := fun W => Lib.hid (by rw [← h]; exact pfits_any A.F n W)
  have Hgw : ∀ W, Hid (Calls Tryz.prog 189 #[.agg #[.int .i64 A.G, .int .i64 (A.F.N)], .int .i64 n] W fun e w' => e = .returned (.bool true) ∧ Kept W w') := fun W => Lib.hid (within_yes A.G A.F.N n W (by omega) (by omega) n0 n1 gw.1 gw.2)
  have Hww : ∀ W, Hid (Calls Tryz.prog 189 #[.agg #[.int .i64 A.V, .int .i64 1], .int .i64 n] W fun e w' => e = .returned (.bool true) ∧ Kept W w') := fun W => Lib.hid (within_yes A.V 1 n W (by omega) (by omega) n0 n1 ww.1 ww.2)
  have Hgl : ∀ W, Hid (Calls Tryz.prog 190 #[.agg #[.int .i64 A.G, .int .i64 A.F.N], .agg #[.int .i64 A.F.K, .int .i64 A.F.N]] W fun e w' => e = .returned (.bool true) ∧ Kept W w') := fun W => Lib.hid (meets_yes A.G A.F.N A.F.K A.F.N W (by omega) (by omega) (by omega) (by omega) (by omega) (by omega) (by omega) (by omega) gl.1 gl.2)
  clear hS h gw ww gl
  go_enter Tryz.func144, Tryz.ntmps144
  go_wp2_with fail
  refine (HF _).out.mono ?_
  rintro e w1 ⟨rfl, k1⟩
  have c1_0 := k1.some (cell_new w #[.int .i64 A.F.T, .int .i64 A.F.K, .int .i64 A.F.N, .int .i64 A.G, .int .i64 A.V, .int .i64 A.L] 25 w.heap.size 0 rfl)
  have c1_1 := k1.some (cell_new w #[.int .i64 A.F.T, .int .i64 A.F.K, .int .i64 A.F.N, .int .i64 A.G, .int .i64 A.V, .int .i64 A.L] 25 w.heap.size 1 rfl)
  have c1_2 := k1.some (cell_new w #[.int .i64 A.F.T, .int .i64 A.F.K, .int .i64 A.F.N, .int .i64 A.G, .int .i64 A.V, .int .i64 A.L] 25 w.heap.size 2 rfl)
  have c1_3 := k1.some (cell_new w #[.int .i64 A.F.T, .int .i64 A.F.K, .int .i64 A.F.N, .int .i64 A.G, .int .i64 A.V, .int .i64 A.L] 25 w.heap.size 3 rfl)
  have c1_4 := k1.some (cell_new w #[.int .i64 A.F.T, .int .i64 A.F.K, .int .i64 A.F.N, .int .i64 A.G, .int .i64 A.V, .int .i64 A.L] 25 w.heap.size 4 rfl)
  have c1_5 := k1.some (cell_new w #[.int .i64 A.F.T, .int .i64 A.F.K, .int .i64 A.F.N, .int .i64 A.G, .int .i64 A.V, .int .i64 A.L] 25 w.heap.size 5 rfl)
  have K1' := Lib.hid (Kept.trans (b := _) (show Kept w _ by (go_light; repeat (first | (with_reducible exact Kept.refl _) | (with_reducible assumption) | (with_reducible refine Kept.alloc ?_ _ _) | (with_reducible refine Kept.drew ?_) | (with_reducible refine Kept.drewN ?_ _) | ((with_reducible refine Kept.setCell ?_ ?_ _); rotate_left; focus (first | (simp; done) | (simp; omega))) | refine Kept.trans ?_ (by assumption)))) k1)
  clear k1
  go_wp2_with fail
  go_cut [6, 7] (fun g h wx => Sp2 w1 wx A.F.K A.F.N A.F.T 1 g h)
  case first =>
    go_region_held3 (fun w' => w'.cell? ⟨w.heap.size, 0, none⟩ = some (.int .i64 A.F.T) ∧ w'.cell? ⟨w.heap.size, 1, none⟩ = some (.int .i64 A.F.K) ∧ w'.cell? ⟨w.heap.size, 2, none⟩ = some (.int .i64 A.F.N) ∧ w'.cell? ⟨w.heap.size, 3, none⟩ = some (.int .i64 A.G) ∧ w'.cell? ⟨w.heap.size, 4, none⟩ = some (.int .i64 A.V) ∧ w'.cell? ⟨w.heap.size, 5, none⟩ = some (.int .i64 A.L)) (first | (with_reducible exact ⟨c1_0, c1_1, c1_2, c1_3, c1_4, c1_5⟩) | go_keep) (fail)
    all_goals
      go_wp2_with fail
      go_meet
      case rel => exact ⟨_, _, rfl, rfl, by simp, by simp, by simp, by simp, by (go_light; repeat (first | (with_reducible exact Kept.refl _) | (with_reducible assumption) | (with_reducible refine Kept.alloc ?_ _ _) | (with_reducible refine Kept.drew ?_) | (with_reducible refine Kept.drewN ?_ _) | ((with_reducible refine Kept.setCell ?_ ?_ _); rotate_left; focus (first | (simp; done) | (simp; omega))) | refine Kept.trans ?_ (by assumption)))⟩
  case rest =>
    obtain ⟨x1, y1, rfl, rfl, p1, p2, p3, p4, kp⟩ := hcut
    have lx1 := lt_of_cell p1
    have ly1 := lt_of_cell p3
    have d_0 := kp.some c1_0
    have d_1 := kp.some c1_1
    have d_2 := kp.some c1_2
    have d_3 := kp.some c1_3
    have d_4 := kp.some c1_4
    have d_5 := kp.some c1_5
    have KP := Lib.hid kp
    clear kp c1_0 c1_1 c1_2 c1_3 c1_4 c1_5
    generalize wc = w2 at *
    go_wp2_with fail
    go_cut [8, 9] (fun g h wx => Sp2 w2 wx A.G A.F.N A.V 1 g h)
    case first =>
      go_region_held3 (fun w' => w'.cell? ⟨w.heap.size, 0, none⟩ = some (.int .i64 A.F.T) ∧ w'.cell? ⟨w.heap.size, 1, none⟩ = some (.int .i64 A.F.K) ∧ w'.cell? ⟨w.heap.size, 2, none⟩ = some (.int .i64 A.F.N) ∧ w'.cell? ⟨w.heap.size, 3, none⟩ = some (.int .i64 A.G) ∧ w'.cell? ⟨w.heap.size, 4, none⟩ = some (.int .i64 A.V) ∧ w'.cell? ⟨w.heap.size, 5, none⟩ = some (.int .i64 A.L)) (first | (with_reducible exact ⟨d_0, d_1, d_2, d_3, d_4, d_5⟩) | go_keep) (fail)
      all_goals
        go_wp2_with fail
        go_meet
        case rel => exact ⟨_, _, rfl, rfl, by simp, by simp, by simp, by simp, by (go_light; repeat (first | (with_reducible exact Kept.refl _) | (with_reducible assumption) | (with_reducible refine Kept.alloc ?_ _ _) | (with_reducible refine Kept.drew ?_) | (with_reducible refine Kept.drewN ?_ _) | ((with_reducible refine Kept.setCell ?_ ?_ _); rotate_left; focus (first | (simp; done) | (simp; omega))) | refine Kept.trans ?_ (by assumption)))⟩
    case rest =>
      obtain ⟨x2, y2, rfl, rfl, q1, q2, q3, q4, kq⟩ := hcut
      have lx2 := lt_of_cell q1
      have ly2 := lt_of_cell q3
      have p1 := kq.some p1
      have p2 := kq.some p2
      have p3 := kq.some p3
      have p4 := kq.some p4
      have KQ := Lib.hid (K1'.out.trans (KP.out.trans kq))
      clear kq d_0 d_1 d_2 d_3 d_4 d_5 KP K1'
      generalize wc = w3 at *
      go_wp2_with fail
      refine (Hgw _).out.mono ?_
      rintro e w4 ⟨rfl, k4⟩
      have p1 := k4.some p1
      have p2 := k4.some p2
      have p3 := k4.some p3
      have p4 := k4.some p4
      have q1 := k4.some q1
      have q2 := k4.some q2
      have q3 := k4.some q3
      have q4 := k4.some q4
      have KQ := Lib.hid (KQ.out.trans (Kept.trans (b := _) (by first | exact Kept.refl _ | (go_light; repeat (first | (with_reducible exact Kept.refl _) | (with_reducible assumption) | (with_reducible refine Kept.alloc ?_ _ _) | (with_reducible refine Kept.drew ?_) | (with_reducible refine Kept.drewN ?_ _) | ((with_reducible refine Kept.setCell ?_ ?_ _); rotate_left; focus (first | (simp; done) | (simp; omega))) | refine Kept.trans ?_ (by assumption)))) k4))
      have lx1 := lt_of_cell p1
      have ly1 := lt_of_cell p3
      have lx2 := lt_of_cell q1
      have ly2 := lt_of_cell q3
      clear k4
      go_wp2_with fail
      refine (Hww _).out.mono ?_
      rintro e w5 ⟨rfl, k5⟩
      have p1 := k5.some p1
      have p2 := k5.some p2
      have p3 := k5.some p3
      have p4 := k5.some p4
      have q1 := k5.some q1
      have q2 := k5.some q2
      have q3 := k5.some q3
      have q4 := k5.some q4
      have KQ := Lib.hid (KQ.out.trans (Kept.trans (b := _) (by first | exact Kept.refl _ | (go_light; repeat (first | (with_reducible exact Kept.refl _) | (with_reducible assumption) | (with_reducible refine Kept.alloc ?_ _ _) | (with_reducible refine Kept.drew ?_) | (with_reducible refine Kept.drewN ?_ _) | ((with_reducible refine Kept.setCell ?_ ?_ _); rotate_left; focus (first | (simp; done) | (simp; omega))) | refine Kept.trans ?_ (by assumption)))) k5))
      have lx1 := lt_of_cell p1
      have ly1 := lt_of_cell p3
      have lx2 := lt_of_cell q1
      have ly2 := lt_of_cell q3
      clear k5
      go_wp2_with fail
      refine (Hgl _).out.mono ?_
      rintro e w6 ⟨rfl, k6⟩
      have p1 := k6.some p1
      have p2 := k6.some p2
      have p3 := k6.some p3
      have p4 := k6.some p4
      have q1 := k6.some q1
      have q2 := k6.some q2
      have q3 := k6.some q3
      have q4 := k6.some q4
      have KQ := Lib.hid (KQ.out.trans (Kept.trans (b := _) (by first | exact Kept.refl _ | (go_light; repeat (first | (with_reducible exact Kept.refl _) | (with_reducible assumption) | (with_reducible refine Kept.alloc ?_ _ _) | (with_reducible refine Kept.drew ?_) | (with_reducible refine Kept.drewN ?_ _) | ((with_reducible refine Kept.setCell ?_ ?_ _); rotate_left; focus (first | (simp; done) | (simp; omega))) | refine Kept.trans ?_ (by assumption)))) k6))
      have lx1 := lt_of_cell p1
      have ly1 := lt_of_cell p3
      have lx2 := lt_of_cell q1
      have ly2 := lt_of_cell q3
      clear k6
      go_wp2
      go_ret
      have kk := KQ.out
      exact ⟨rfl, Kept.trans kk (by (go_light; repeat (first | (with_reducible exact Kept.refl _) | (with_reducible assumption) | (with_reducible refine Kept.alloc ?_ _ _) | (with_reducible refine Kept.drew ?_) | (with_reducible refine Kept.drewN ?_ _) | ((with_reducible refine Kept.setCell ?_ ?_ _); rotate_left; focus (first | (simp; done) | (simp; omega))) | refine Kept.trans ?_ (by assumption))))⟩
set_option maxHeartbeats 1000000 in
theorem f_gt (A : Arn) (n : Int) (w : World) (hS : A.F.Ok n.toNat) (n0 : 1 ≤ n) (n1 : n ≤ 4096) (h : fitsE A.F n = 0) (L1 : 1 ≤ A.L) (L2 : A.L ≤ 4294967295) (gw : 0 ≤ A.G ∧ A.G ≤ n - A.F.N) (ww : 0 ≤ A.V ∧ A.V ≤ n - 1) (gl : ¬ Meet A.G A.F.N A.F.K A.F.N) (gt : Meet A.G A.F.N A.F.T 1) : Calls Tryz.prog 144 #[.agg #[.int .i64 A.F.T, .int .i64 A.F.K, .int .i64 A.F.N, .int .i64 A.G, .int .i64 A.V, .int .i64 A.L], .int .i64 n] w fun e w' => e = .returned (.int .i64 2) ∧ Kept w w' := by
  have N1 := hS.N1
  have N2 := hS.N2
  have T1 := hS.T1
  have T2 := hS.T2
  have K1 := hS.K1
  have K2 := hS.K2
  have HF : ∀ W, Hid (Calls Tryz.prog 188 #[.agg #[.int .i64 A.F.T, .int .i64 A.F.K, .int .i64 A.F.N], .int .i64 n] W fun e w' => e = .returned (.int .i64 0) ∧ Kept W w') := fun W => Lib.hid (by rw [← h]; exact pfits_any A.F n W)
  have Hgw : ∀ W, Hid (Calls Tryz.prog 189 #[.agg #[.int .i64 A.G, .int .i64 (A.F.N)], .int .i64 n] W fun e w' => e = .returned (.bool true) ∧ Kept W w') := fun W => Lib.hid (within_yes A.G A.F.N n W (by omega) (by omega) n0 n1 gw.1 gw.2)
  have Hww : ∀ W, Hid (Calls Tryz.prog 189 #[.agg #[.int .i64 A.V, .int .i64 1], .int .i64 n] W fun e w' => e = .returned (.bool true) ∧ Kept W w') := fun W => Lib.hid (within_yes A.V 1 n W (by omega) (by omega) n0 n1 ww.1 ww.2)
  have Hgl : ∀ W, Hid (Calls Tryz.prog 190 #[.agg #[.int .i64 A.G, .int .i64 A.F.N], .agg #[.int .i64 A.F.K, .int .i64 A.F.N]] W fun e w' => e = .returned (.bool false) ∧ Kept W w') := fun W => Lib.hid (meets_no A.G A.F.N A.F.K A.F.N W (by omega) (by omega) (by omega) (by omega) (by omega) (by omega) (by omega) (by omega) gl)
  have Hgt : ∀ W, Hid (Calls Tryz.prog 190 #[.agg #[.int .i64 A.G, .int .i64 A.F.N], .agg #[.int .i64 A.F.T, .int .i64 1]] W fun e w' => e = .returned (.bool true) ∧ Kept W w') := fun W => Lib.hid (meets_yes A.G A.F.N A.F.T 1 W (by omega) (by omega) (by omega) (by omega) (by omega) (by omega) (by omega) (by omega) gt.1 gt.2)
  clear hS h gw ww gl gt
  go_enter Tryz.func144, Tryz.ntmps144
  go_wp2_with fail
  refine (HF _).out.mono ?_
  rintro e w1 ⟨rfl, k1⟩
  have c1_0 := k1.some (cell_new w #[.int .i64 A.F.T, .int .i64 A.F.K, .int .i64 A.F.N, .int .i64 A.G, .int .i64 A.V, .int .i64 A.L] 25 w.heap.size 0 rfl)
  have c1_1 := k1.some (cell_new w #[.int .i64 A.F.T, .int .i64 A.F.K, .int .i64 A.F.N, .int .i64 A.G, .int .i64 A.V, .int .i64 A.L] 25 w.heap.size 1 rfl)
  have c1_2 := k1.some (cell_new w #[.int .i64 A.F.T, .int .i64 A.F.K, .int .i64 A.F.N, .int .i64 A.G, .int .i64 A.V, .int .i64 A.L] 25 w.heap.size 2 rfl)
  have c1_3 := k1.some (cell_new w #[.int .i64 A.F.T, .int .i64 A.F.K, .int .i64 A.F.N, .int .i64 A.G, .int .i64 A.V, .int .i64 A.L] 25 w.heap.size 3 rfl)
  have c1_4 := k1.some (cell_new w #[.int .i64 A.F.T, .int .i64 A.F.K, .int .i64 A.F.N, .int .i64 A.G, .int .i64 A.V, .int .i64 A.L] 25 w.heap.size 4 rfl)
  have c1_5 := k1.some (cell_new w #[.int .i64 A.F.T, .int .i64 A.F.K, .int .i64 A.F.N, .int .i64 A.G, .int .i64 A.V, .int .i64 A.L] 25 w.heap.size 5 rfl)
  have K1' := Lib.hid (Kept.trans (b := _) (show Kept w _ by (go_light; repeat (first | (with_reducible exact Kept.refl _) | (with_reducible assumption) | (with_reducible refine Kept.alloc ?_ _ _) | (with_reducible refine Kept.drew ?_) | (with_reducible refine Kept.drewN ?_ _) | ((with_reducible refine Kept.setCell ?_ ?_ _); rotate_left; focus (first | (simp; done) | (simp; omega))) | refine Kept.trans ?_ (by assumption)))) k1)
  clear k1
  go_wp2_with fail
  go_cut [6, 7] (fun g h wx => Sp2 w1 wx A.F.K A.F.N A.F.T 1 g h)
  case first =>
    go_region_held3 (fun w' => w'.cell? ⟨w.heap.size, 0, none⟩ = some (.int .i64 A.F.T) ∧ w'.cell? ⟨w.heap.size, 1, none⟩ = some (.int .i64 A.F.K) ∧ w'.cell? ⟨w.heap.size, 2, none⟩ = some (.int .i64 A.F.N) ∧ w'.cell? ⟨w.heap.size, 3, none⟩ = some (.int .i64 A.G) ∧ w'.cell? ⟨w.heap.size, 4, none⟩ = some (.int .i64 A.V) ∧ w'.cell? ⟨w.heap.size, 5, none⟩ = some (.int .i64 A.L)) (first | (with_reducible exact ⟨c1_0, c1_1, c1_2, c1_3, c1_4, c1_5⟩) | go_keep) (fail)
    all_goals
      go_wp2_with fail
      go_meet
      case rel => exact ⟨_, _, rfl, rfl, by simp, by simp, by simp, by simp, by (go_light; repeat (first | (with_reducible exact Kept.refl _) | (with_reducible assumption) | (with_reducible refine Kept.alloc ?_ _ _) | (with_reducible refine Kept.drew ?_) | (with_reducible refine Kept.drewN ?_ _) | ((with_reducible refine Kept.setCell ?_ ?_ _); rotate_left; focus (first | (simp; done) | (simp; omega))) | refine Kept.trans ?_ (by assumption)))⟩
  case rest =>
    obtain ⟨x1, y1, rfl, rfl, p1, p2, p3, p4, kp⟩ := hcut
    have lx1 := lt_of_cell p1
    have ly1 := lt_of_cell p3
    have d_0 := kp.some c1_0
    have d_1 := kp.some c1_1
    have d_2 := kp.some c1_2
    have d_3 := kp.some c1_3
    have d_4 := kp.some c1_4
    have d_5 := kp.some c1_5
    have KP := Lib.hid kp
    clear kp c1_0 c1_1 c1_2 c1_3 c1_4 c1_5
    generalize wc = w2 at *
    go_wp2_with fail
    go_cut [8, 9] (fun g h wx => Sp2 w2 wx A.G A.F.N A.V 1 g h)
    case first =>
      go_region_held3 (fun w' => w'.cell? ⟨w.heap.size, 0, none⟩ = some (.int .i64 A.F.T) ∧ w'.cell? ⟨w.heap.size, 1, none⟩ = some (.int .i64 A.F.K) ∧ w'.cell? ⟨w.heap.size, 2, none⟩ = some (.int .i64 A.F.N) ∧ w'.cell? ⟨w.heap.size, 3, none⟩ = some (.int .i64 A.G) ∧ w'.cell? ⟨w.heap.size, 4, none⟩ = some (.int .i64 A.V) ∧ w'.cell? ⟨w.heap.size, 5, none⟩ = some (.int .i64 A.L)) (first | (with_reducible exact ⟨d_0, d_1, d_2, d_3, d_4, d_5⟩) | go_keep) (fail)
      all_goals
        go_wp2_with fail
        go_meet
        case rel => exact ⟨_, _, rfl, rfl, by simp, by simp, by simp, by simp, by (go_light; repeat (first | (with_reducible exact Kept.refl _) | (with_reducible assumption) | (with_reducible refine Kept.alloc ?_ _ _) | (with_reducible refine Kept.drew ?_) | (with_reducible refine Kept.drewN ?_ _) | ((with_reducible refine Kept.setCell ?_ ?_ _); rotate_left; focus (first | (simp; done) | (simp; omega))) | refine Kept.trans ?_ (by assumption)))⟩
    case rest =>
      obtain ⟨x2, y2, rfl, rfl, q1, q2, q3, q4, kq⟩ := hcut
      have lx2 := lt_of_cell q1
      have ly2 := lt_of_cell q3
      have p1 := kq.some p1
      have p2 := kq.some p2
      have p3 := kq.some p3
      have p4 := kq.some p4
      have KQ := Lib.hid (K1'.out.trans (KP.out.trans kq))
      clear kq d_0 d_1 d_2 d_3 d_4 d_5 KP K1'
      generalize wc = w3 at *
      go_wp2_with fail
      refine (Hgw _).out.mono ?_
      rintro e w4 ⟨rfl, k4⟩
      have p1 := k4.some p1
      have p2 := k4.some p2
      have p3 := k4.some p3
      have p4 := k4.some p4
      have q1 := k4.some q1
      have q2 := k4.some q2
      have q3 := k4.some q3
      have q4 := k4.some q4
      have KQ := Lib.hid (KQ.out.trans (Kept.trans (b := _) (by first | exact Kept.refl _ | (go_light; repeat (first | (with_reducible exact Kept.refl _) | (with_reducible assumption) | (with_reducible refine Kept.alloc ?_ _ _) | (with_reducible refine Kept.drew ?_) | (with_reducible refine Kept.drewN ?_ _) | ((with_reducible refine Kept.setCell ?_ ?_ _); rotate_left; focus (first | (simp; done) | (simp; omega))) | refine Kept.trans ?_ (by assumption)))) k4))
      have lx1 := lt_of_cell p1
      have ly1 := lt_of_cell p3
      have lx2 := lt_of_cell q1
      have ly2 := lt_of_cell q3
      clear k4
      go_wp2_with fail
      refine (Hww _).out.mono ?_
      rintro e w5 ⟨rfl, k5⟩
      have p1 := k5.some p1
      have p2 := k5.some p2
      have p3 := k5.some p3
      have p4 := k5.some p4
      have q1 := k5.some q1
      have q2 := k5.some q2
      have q3 := k5.some q3
      have q4 := k5.some q4
      have KQ := Lib.hid (KQ.out.trans (Kept.trans (b := _) (by first | exact Kept.refl _ | (go_light; repeat (first | (with_reducible exact Kept.refl _) | (with_reducible assumption) | (with_reducible refine Kept.alloc ?_ _ _) | (with_reducible refine Kept.drew ?_) | (with_reducible refine Kept.drewN ?_ _) | ((with_reducible refine Kept.setCell ?_ ?_ _); rotate_left; focus (first | (simp; done) | (simp; omega))) | refine Kept.trans ?_ (by assumption)))) k5))
      have lx1 := lt_of_cell p1
      have ly1 := lt_of_cell p3
      have lx2 := lt_of_cell q1
      have ly2 := lt_of_cell q3
      clear k5
      go_wp2_with fail
      refine (Hgl _).out.mono ?_
      rintro e w6 ⟨rfl, k6⟩
      have p1 := k6.some p1
      have p2 := k6.some p2
      have p3 := k6.some p3
      have p4 := k6.some p4
      have q1 := k6.some q1
      have q2 := k6.some q2
      have q3 := k6.some q3
      have q4 := k6.some q4
      have KQ := Lib.hid (KQ.out.trans (Kept.trans (b := _) (by first | exact Kept.refl _ | (go_light; repeat (first | (with_reducible exact Kept.refl _) | (with_reducible assumption) | (with_reducible refine Kept.alloc ?_ _ _) | (with_reducible refine Kept.drew ?_) | (with_reducible refine Kept.drewN ?_ _) | ((with_reducible refine Kept.setCell ?_ ?_ _); rotate_left; focus (first | (simp; done) | (simp; omega))) | refine Kept.trans ?_ (by assumption)))) k6))
      have lx1 := lt_of_cell p1
      have ly1 := lt_of_cell p3
      have lx2 := lt_of_cell q1
      have ly2 := lt_of_cell q3
      clear k6
      go_wp2_with fail
      refine (Hgt _).out.mono ?_
      rintro e w7 ⟨rfl, k7⟩
      have p1 := k7.some p1
      have p2 := k7.some p2
      have p3 := k7.some p3
      have p4 := k7.some p4
      have q1 := k7.some q1
      have q2 := k7.some q2
      have q3 := k7.some q3
      have q4 := k7.some q4
      have KQ := Lib.hid (KQ.out.trans (Kept.trans (b := _) (by first | exact Kept.refl _ | (go_light; repeat (first | (with_reducible exact Kept.refl _) | (with_reducible assumption) | (with_reducible refine Kept.alloc ?_ _ _) | (with_reducible refine Kept.drew ?_) | (with_reducible refine Kept.drewN ?_ _) | ((with_reducible refine Kept.setCell ?_ ?_ _); rotate_left; focus (first | (simp; done) | (simp; omega))) | refine Kept.trans ?_ (by assumption)))) k7))
      have lx1 := lt_of_cell p1
      have ly1 := lt_of_cell p3
      have lx2 := lt_of_cell q1
      have ly2 := lt_of_cell q3
      clear k7
      go_wp2
      go_ret
      have kk := KQ.out
      exact ⟨rfl, Kept.trans kk (by (go_light; repeat (first | (with_reducible exact Kept.refl _) | (with_reducible assumption) | (with_reducible refine Kept.alloc ?_ _ _) | (with_reducible refine Kept.drew ?_) | (with_reducible refine Kept.drewN ?_ _) | ((with_reducible refine Kept.setCell ?_ ?_ _); rotate_left; focus (first | (simp; done) | (simp; omega))) | refine Kept.trans ?_ (by assumption))))⟩
set_option maxHeartbeats 1000000 in
theorem f_gv (A : Arn) (n : Int) (w : World) (hS : A.F.Ok n.toNat) (n0 : 1 ≤ n) (n1 : n ≤ 4096) (h : fitsE A.F n = 0) (L1 : 1 ≤ A.L) (L2 : A.L ≤ 4294967295) (gw : 0 ≤ A.G ∧ A.G ≤ n - A.F.N) (ww : 0 ≤ A.V ∧ A.V ≤ n - 1) (gl : ¬ Meet A.G A.F.N A.F.K A.F.N) (gt : ¬ Meet A.G A.F.N A.F.T 1) (gv : Meet A.G A.F.N A.V 1) : Calls Tryz.prog 144 #[.agg #[.int .i64 A.F.T, .int .i64 A.F.K, .int .i64 A.F.N, .int .i64 A.G, .int .i64 A.V, .int .i64 A.L], .int .i64 n] w fun e w' => e = .returned (.int .i64 2) ∧ Kept w w' := by
  have N1 := hS.N1
  have N2 := hS.N2
  have T1 := hS.T1
  have T2 := hS.T2
  have K1 := hS.K1
  have K2 := hS.K2
  have HF : ∀ W, Hid (Calls Tryz.prog 188 #[.agg #[.int .i64 A.F.T, .int .i64 A.F.K, .int .i64 A.F.N], .int .i64 n] W fun e w' => e = .returned (.int .i64 0) ∧ Kept W w') := fun W => Lib.hid (by rw [← h]; exact pfits_any A.F n W)
  have Hgw : ∀ W, Hid (Calls Tryz.prog 189 #[.agg #[.int .i64 A.G, .int .i64 (A.F.N)], .int .i64 n] W fun e w' => e = .returned (.bool true) ∧ Kept W w') := fun W => Lib.hid (within_yes A.G A.F.N n W (by omega) (by omega) n0 n1 gw.1 gw.2)
  have Hww : ∀ W, Hid (Calls Tryz.prog 189 #[.agg #[.int .i64 A.V, .int .i64 1], .int .i64 n] W fun e w' => e = .returned (.bool true) ∧ Kept W w') := fun W => Lib.hid (within_yes A.V 1 n W (by omega) (by omega) n0 n1 ww.1 ww.2)
  have Hgl : ∀ W, Hid (Calls Tryz.prog 190 #[.agg #[.int .i64 A.G, .int .i64 A.F.N], .agg #[.int .i64 A.F.K, .int .i64 A.F.N]] W fun e w' => e = .returned (.bool false) ∧ Kept W w') := fun W => Lib.hid (meets_no A.G A.F.N A.F.K A.F.N W (by omega) (by omega) (by omega) (by omega) (by omega) (by omega) (by omega) (by omega) gl)
  have Hgt : ∀ W, Hid (Calls Tryz.prog 190 #[.agg #[.int .i64 A.G, .int .i64 A.F.N], .agg #[.int .i64 A.F.T, .int .i64 1]] W fun e w' => e = .returned (.bool false) ∧ Kept W w') := fun W => Lib.hid (meets_no A.G A.F.N A.F.T 1 W (by omega) (by omega) (by omega) (by omega) (by omega) (by omega) (by omega) (by omega) gt)
  have Hgv : ∀ W, Hid (Calls Tryz.prog 190 #[.agg #[.int .i64 A.G, .int .i64 A.F.N], .agg #[.int .i64 A.V, .int .i64 1]] W fun e w' => e = .returned (.bool true) ∧ Kept W w') := fun W => Lib.hid (meets_yes A.G A.F.N A.V 1 W (by omega) (by omega) (by omega) (by omega) (by omega) (by omega) (by omega) (by omega) gv.1 gv.2)
  clear hS h gw ww gl gt gv
  go_enter Tryz.func144, Tryz.ntmps144
  go_wp2_with fail
  refine (HF _).out.mono ?_
  rintro e w1 ⟨rfl, k1⟩
  have c1_0 := k1.some (cell_new w #[.int .i64 A.F.T, .int .i64 A.F.K, .int .i64 A.F.N, .int .i64 A.G, .int .i64 A.V, .int .i64 A.L] 25 w.heap.size 0 rfl)
  have c1_1 := k1.some (cell_new w #[.int .i64 A.F.T, .int .i64 A.F.K, .int .i64 A.F.N, .int .i64 A.G, .int .i64 A.V, .int .i64 A.L] 25 w.heap.size 1 rfl)
  have c1_2 := k1.some (cell_new w #[.int .i64 A.F.T, .int .i64 A.F.K, .int .i64 A.F.N, .int .i64 A.G, .int .i64 A.V, .int .i64 A.L] 25 w.heap.size 2 rfl)
  have c1_3 := k1.some (cell_new w #[.int .i64 A.F.T, .int .i64 A.F.K, .int .i64 A.F.N, .int .i64 A.G, .int .i64 A.V, .int .i64 A.L] 25 w.heap.size 3 rfl)
  have c1_4 := k1.some (cell_new w #[.int .i64 A.F.T, .int .i64 A.F.K, .int .i64 A.F.N, .int .i64 A.G, .int .i64 A.V, .int .i64 A.L] 25 w.heap.size 4 rfl)
  have c1_5 := k1.some (cell_new w #[.int .i64 A.F.T, .int .i64 A.F.K, .int .i64 A.F.N, .int .i64 A.G, .int .i64 A.V, .int .i64 A.L] 25 w.heap.size 5 rfl)
  have K1' := Lib.hid (Kept.trans (b := _) (show Kept w _ by (go_light; repeat (first | (with_reducible exact Kept.refl _) | (with_reducible assumption) | (with_reducible refine Kept.alloc ?_ _ _) | (with_reducible refine Kept.drew ?_) | (with_reducible refine Kept.drewN ?_ _) | ((with_reducible refine Kept.setCell ?_ ?_ _); rotate_left; focus (first | (simp; done) | (simp; omega))) | refine Kept.trans ?_ (by assumption)))) k1)
  clear k1
  go_wp2_with fail
  go_cut [6, 7] (fun g h wx => Sp2 w1 wx A.F.K A.F.N A.F.T 1 g h)
  case first =>
    go_region_held3 (fun w' => w'.cell? ⟨w.heap.size, 0, none⟩ = some (.int .i64 A.F.T) ∧ w'.cell? ⟨w.heap.size, 1, none⟩ = some (.int .i64 A.F.K) ∧ w'.cell? ⟨w.heap.size, 2, none⟩ = some (.int .i64 A.F.N) ∧ w'.cell? ⟨w.heap.size, 3, none⟩ = some (.int .i64 A.G) ∧ w'.cell? ⟨w.heap.size, 4, none⟩ = some (.int .i64 A.V) ∧ w'.cell? ⟨w.heap.size, 5, none⟩ = some (.int .i64 A.L)) (first | (with_reducible exact ⟨c1_0, c1_1, c1_2, c1_3, c1_4, c1_5⟩) | go_keep) (fail)
    all_goals
      go_wp2_with fail
      go_meet
      case rel => exact ⟨_, _, rfl, rfl, by simp, by simp, by simp, by simp, by (go_light; repeat (first | (with_reducible exact Kept.refl _) | (with_reducible assumption) | (with_reducible refine Kept.alloc ?_ _ _) | (with_reducible refine Kept.drew ?_) | (with_reducible refine Kept.drewN ?_ _) | ((with_reducible refine Kept.setCell ?_ ?_ _); rotate_left; focus (first | (simp; done) | (simp; omega))) | refine Kept.trans ?_ (by assumption)))⟩
  case rest =>
    obtain ⟨x1, y1, rfl, rfl, p1, p2, p3, p4, kp⟩ := hcut
    have lx1 := lt_of_cell p1
    have ly1 := lt_of_cell p3
    have d_0 := kp.some c1_0
    have d_1 := kp.some c1_1
    have d_2 := kp.some c1_2
    have d_3 := kp.some c1_3
    have d_4 := kp.some c1_4
    have d_5 := kp.some c1_5
    have KP := Lib.hid kp
    clear kp c1_0 c1_1 c1_2 c1_3 c1_4 c1_5
    generalize wc = w2 at *
    go_wp2_with fail
    go_cut [8, 9] (fun g h wx => Sp2 w2 wx A.G A.F.N A.V 1 g h)
    case first =>
      go_region_held3 (fun w' => w'.cell? ⟨w.heap.size, 0, none⟩ = some (.int .i64 A.F.T) ∧ w'.cell? ⟨w.heap.size, 1, none⟩ = some (.int .i64 A.F.K) ∧ w'.cell? ⟨w.heap.size, 2, none⟩ = some (.int .i64 A.F.N) ∧ w'.cell? ⟨w.heap.size, 3, none⟩ = some (.int .i64 A.G) ∧ w'.cell? ⟨w.heap.size, 4, none⟩ = some (.int .i64 A.V) ∧ w'.cell? ⟨w.heap.size, 5, none⟩ = some (.int .i64 A.L)) (first | (with_reducible exact ⟨d_0, d_1, d_2, d_3, d_4, d_5⟩) | go_keep) (fail)
      all_goals
        go_wp2_with fail
        go_meet
        case rel => exact ⟨_, _, rfl, rfl, by simp, by simp, by simp, by simp, by (go_light; repeat (first | (with_reducible exact Kept.refl _) | (with_reducible assumption) | (with_reducible refine Kept.alloc ?_ _ _) | (with_reducible refine Kept.drew ?_) | (with_reducible refine Kept.drewN ?_ _) | ((with_reducible refine Kept.setCell ?_ ?_ _); rotate_left; focus (first | (simp; done) | (simp; omega))) | refine Kept.trans ?_ (by assumption)))⟩
    case rest =>
      obtain ⟨x2, y2, rfl, rfl, q1, q2, q3, q4, kq⟩ := hcut
      have lx2 := lt_of_cell q1
      have ly2 := lt_of_cell q3
      have p1 := kq.some p1
      have p2 := kq.some p2
      have p3 := kq.some p3
      have p4 := kq.some p4
      have KQ := Lib.hid (K1'.out.trans (KP.out.trans kq))
      clear kq d_0 d_1 d_2 d_3 d_4 d_5 KP K1'
      generalize wc = w3 at *
      go_wp2_with fail
      refine (Hgw _).out.mono ?_
      rintro e w4 ⟨rfl, k4⟩
      have p1 := k4.some p1
      have p2 := k4.some p2
      have p3 := k4.some p3
      have p4 := k4.some p4
      have q1 := k4.some q1
      have q2 := k4.some q2
      have q3 := k4.some q3
      have q4 := k4.some q4
      have KQ := Lib.hid (KQ.out.trans (Kept.trans (b := _) (by first | exact Kept.refl _ | (go_light; repeat (first | (with_reducible exact Kept.refl _) | (with_reducible assumption) | (with_reducible refine Kept.alloc ?_ _ _) | (with_reducible refine Kept.drew ?_) | (with_reducible refine Kept.drewN ?_ _) | ((with_reducible refine Kept.setCell ?_ ?_ _); rotate_left; focus (first | (simp; done) | (simp; omega))) | refine Kept.trans ?_ (by assumption)))) k4))
      have lx1 := lt_of_cell p1
      have ly1 := lt_of_cell p3
      have lx2 := lt_of_cell q1
      have ly2 := lt_of_cell q3
      clear k4
      go_wp2_with fail
      refine (Hww _).out.mono ?_
      rintro e w5 ⟨rfl, k5⟩
      have p1 := k5.some p1
      have p2 := k5.some p2
      have p3 := k5.some p3
      have p4 := k5.some p4
      have q1 := k5.some q1
      have q2 := k5.some q2
      have q3 := k5.some q3
      have q4 := k5.some q4
      have KQ := Lib.hid (KQ.out.trans (Kept.trans (b := _) (by first | exact Kept.refl _ | (go_light; repeat (first | (with_reducible exact Kept.refl _) | (with_reducible assumption) | (with_reducible refine Kept.alloc ?_ _ _) | (with_reducible refine Kept.drew ?_) | (with_reducible refine Kept.drewN ?_ _) | ((with_reducible refine Kept.setCell ?_ ?_ _); rotate_left; focus (first | (simp; done) | (simp; omega))) | refine Kept.trans ?_ (by assumption)))) k5))
      have lx1 := lt_of_cell p1
      have ly1 := lt_of_cell p3
      have lx2 := lt_of_cell q1
      have ly2 := lt_of_cell q3
      clear k5
      go_wp2_with fail
      refine (Hgl _).out.mono ?_
      rintro e w6 ⟨rfl, k6⟩
      have p1 := k6.some p1
      have p2 := k6.some p2
      have p3 := k6.some p3
      have p4 := k6.some p4
      have q1 := k6.some q1
      have q2 := k6.some q2
      have q3 := k6.some q3
      have q4 := k6.some q4
      have KQ := Lib.hid (KQ.out.trans (Kept.trans (b := _) (by first | exact Kept.refl _ | (go_light; repeat (first | (with_reducible exact Kept.refl _) | (with_reducible assumption) | (with_reducible refine Kept.alloc ?_ _ _) | (with_reducible refine Kept.drew ?_) | (with_reducible refine Kept.drewN ?_ _) | ((with_reducible refine Kept.setCell ?_ ?_ _); rotate_left; focus (first | (simp; done) | (simp; omega))) | refine Kept.trans ?_ (by assumption)))) k6))
      have lx1 := lt_of_cell p1
      have ly1 := lt_of_cell p3
      have lx2 := lt_of_cell q1
      have ly2 := lt_of_cell q3
      clear k6
      go_wp2_with fail
      refine (Hgt _).out.mono ?_
      rintro e w7 ⟨rfl, k7⟩
      have p1 := k7.some p1
      have p2 := k7.some p2
      have p3 := k7.some p3
      have p4 := k7.some p4
      have q1 := k7.some q1
      have q2 := k7.some q2
      have q3 := k7.some q3
      have q4 := k7.some q4
      have KQ := Lib.hid (KQ.out.trans (Kept.trans (b := _) (by first | exact Kept.refl _ | (go_light; repeat (first | (with_reducible exact Kept.refl _) | (with_reducible assumption) | (with_reducible refine Kept.alloc ?_ _ _) | (with_reducible refine Kept.drew ?_) | (with_reducible refine Kept.drewN ?_ _) | ((with_reducible refine Kept.setCell ?_ ?_ _); rotate_left; focus (first | (simp; done) | (simp; omega))) | refine Kept.trans ?_ (by assumption)))) k7))
      have lx1 := lt_of_cell p1
      have ly1 := lt_of_cell p3
      have lx2 := lt_of_cell q1
      have ly2 := lt_of_cell q3
      clear k7
      go_wp2_with fail
      refine (Hgv _).out.mono ?_
      rintro e w8 ⟨rfl, k8⟩
      have p1 := k8.some p1
      have p2 := k8.some p2
      have p3 := k8.some p3
      have p4 := k8.some p4
      have q1 := k8.some q1
      have q2 := k8.some q2
      have q3 := k8.some q3
      have q4 := k8.some q4
      have KQ := Lib.hid (KQ.out.trans (Kept.trans (b := _) (by first | exact Kept.refl _ | (go_light; repeat (first | (with_reducible exact Kept.refl _) | (with_reducible assumption) | (with_reducible refine Kept.alloc ?_ _ _) | (with_reducible refine Kept.drew ?_) | (with_reducible refine Kept.drewN ?_ _) | ((with_reducible refine Kept.setCell ?_ ?_ _); rotate_left; focus (first | (simp; done) | (simp; omega))) | refine Kept.trans ?_ (by assumption)))) k8))
      have lx1 := lt_of_cell p1
      have ly1 := lt_of_cell p3
      have lx2 := lt_of_cell q1
      have ly2 := lt_of_cell q3
      clear k8
      go_wp2
      go_ret
      have kk := KQ.out
      exact ⟨rfl, Kept.trans kk (by (go_light; repeat (first | (with_reducible exact Kept.refl _) | (with_reducible assumption) | (with_reducible refine Kept.alloc ?_ _ _) | (with_reducible refine Kept.drew ?_) | (with_reducible refine Kept.drewN ?_ _) | ((with_reducible refine Kept.setCell ?_ ?_ _); rotate_left; focus (first | (simp; done) | (simp; omega))) | refine Kept.trans ?_ (by assumption))))⟩
set_option maxHeartbeats 1000000 in
theorem f_wl (A : Arn) (n : Int) (w : World) (hS : A.F.Ok n.toNat) (n0 : 1 ≤ n) (n1 : n ≤ 4096) (h : fitsE A.F n = 0) (L1 : 1 ≤ A.L) (L2 : A.L ≤ 4294967295) (gw : 0 ≤ A.G ∧ A.G ≤ n - A.F.N) (ww : 0 ≤ A.V ∧ A.V ≤ n - 1) (gl : ¬ Meet A.G A.F.N A.F.K A.F.N) (gt : ¬ Meet A.G A.F.N A.F.T 1) (gv : ¬ Meet A.G A.F.N A.V 1) (wl : Meet A.V 1 A.F.K A.F.N) : Calls Tryz.prog 144 #[.agg #[.int .i64 A.F.T, .int .i64 A.F.K, .int .i64 A.F.N, .int .i64 A.G, .int .i64 A.V, .int .i64 A.L], .int .i64 n] w fun e w' => e = .returned (.int .i64 2) ∧ Kept w w' := by
  have N1 := hS.N1
  have N2 := hS.N2
  have T1 := hS.T1
  have T2 := hS.T2
  have K1 := hS.K1
  have K2 := hS.K2
  have HF : ∀ W, Hid (Calls Tryz.prog 188 #[.agg #[.int .i64 A.F.T, .int .i64 A.F.K, .int .i64 A.F.N], .int .i64 n] W fun e w' => e = .returned (.int .i64 0) ∧ Kept W w') := fun W => Lib.hid (by rw [← h]; exact pfits_any A.F n W)
  have Hgw : ∀ W, Hid (Calls Tryz.prog 189 #[.agg #[.int .i64 A.G, .int .i64 (A.F.N)], .int .i64 n] W fun e w' => e = .returned (.bool true) ∧ Kept W w') := fun W => Lib.hid (within_yes A.G A.F.N n W (by omega) (by omega) n0 n1 gw.1 gw.2)
  have Hww : ∀ W, Hid (Calls Tryz.prog 189 #[.agg #[.int .i64 A.V, .int .i64 1], .int .i64 n] W fun e w' => e = .returned (.bool true) ∧ Kept W w') := fun W => Lib.hid (within_yes A.V 1 n W (by omega) (by omega) n0 n1 ww.1 ww.2)
  have Hgl : ∀ W, Hid (Calls Tryz.prog 190 #[.agg #[.int .i64 A.G, .int .i64 A.F.N], .agg #[.int .i64 A.F.K, .int .i64 A.F.N]] W fun e w' => e = .returned (.bool false) ∧ Kept W w') := fun W => Lib.hid (meets_no A.G A.F.N A.F.K A.F.N W (by omega) (by omega) (by omega) (by omega) (by omega) (by omega) (by omega) (by omega) gl)
  have Hgt : ∀ W, Hid (Calls Tryz.prog 190 #[.agg #[.int .i64 A.G, .int .i64 A.F.N], .agg #[.int .i64 A.F.T, .int .i64 1]] W fun e w' => e = .returned (.bool false) ∧ Kept W w') := fun W => Lib.hid (meets_no A.G A.F.N A.F.T 1 W (by omega) (by omega) (by omega) (by omega) (by omega) (by omega) (by omega) (by omega) gt)
  have Hgv : ∀ W, Hid (Calls Tryz.prog 190 #[.agg #[.int .i64 A.G, .int .i64 A.F.N], .agg #[.int .i64 A.V, .int .i64 1]] W fun e w' => e = .returned (.bool false) ∧ Kept W w') := fun W => Lib.hid (meets_no A.G A.F.N A.V 1 W (by omega) (by omega) (by omega) (by omega) (by omega) (by omega) (by omega) (by omega) gv)
  have Hwl : ∀ W, Hid (Calls Tryz.prog 190 #[.agg #[.int .i64 A.V, .int .i64 1], .agg #[.int .i64 A.F.K, .int .i64 A.F.N]] W fun e w' => e = .returned (.bool true) ∧ Kept W w') := fun W => Lib.hid (meets_yes A.V 1 A.F.K A.F.N W (by omega) (by omega) (by omega) (by omega) (by omega) (by omega) (by omega) (by omega) wl.1 wl.2)
  clear hS h gw ww gl gt gv wl
  go_enter Tryz.func144, Tryz.ntmps144
  go_wp2_with fail
  refine (HF _).out.mono ?_
  rintro e w1 ⟨rfl, k1⟩
  have c1_0 := k1.some (cell_new w #[.int .i64 A.F.T, .int .i64 A.F.K, .int .i64 A.F.N, .int .i64 A.G, .int .i64 A.V, .int .i64 A.L] 25 w.heap.size 0 rfl)
  have c1_1 := k1.some (cell_new w #[.int .i64 A.F.T, .int .i64 A.F.K, .int .i64 A.F.N, .int .i64 A.G, .int .i64 A.V, .int .i64 A.L] 25 w.heap.size 1 rfl)
  have c1_2 := k1.some (cell_new w #[.int .i64 A.F.T, .int .i64 A.F.K, .int .i64 A.F.N, .int .i64 A.G, .int .i64 A.V, .int .i64 A.L] 25 w.heap.size 2 rfl)
  have c1_3 := k1.some (cell_new w #[.int .i64 A.F.T, .int .i64 A.F.K, .int .i64 A.F.N, .int .i64 A.G, .int .i64 A.V, .int .i64 A.L] 25 w.heap.size 3 rfl)
  have c1_4 := k1.some (cell_new w #[.int .i64 A.F.T, .int .i64 A.F.K, .int .i64 A.F.N, .int .i64 A.G, .int .i64 A.V, .int .i64 A.L] 25 w.heap.size 4 rfl)
  have c1_5 := k1.some (cell_new w #[.int .i64 A.F.T, .int .i64 A.F.K, .int .i64 A.F.N, .int .i64 A.G, .int .i64 A.V, .int .i64 A.L] 25 w.heap.size 5 rfl)
  have K1' := Lib.hid (Kept.trans (b := _) (show Kept w _ by (go_light; repeat (first | (with_reducible exact Kept.refl _) | (with_reducible assumption) | (with_reducible refine Kept.alloc ?_ _ _) | (with_reducible refine Kept.drew ?_) | (with_reducible refine Kept.drewN ?_ _) | ((with_reducible refine Kept.setCell ?_ ?_ _); rotate_left; focus (first | (simp; done) | (simp; omega))) | refine Kept.trans ?_ (by assumption)))) k1)
  clear k1
  go_wp2_with fail
  go_cut [6, 7] (fun g h wx => Sp2 w1 wx A.F.K A.F.N A.F.T 1 g h)
  case first =>
    go_region_held3 (fun w' => w'.cell? ⟨w.heap.size, 0, none⟩ = some (.int .i64 A.F.T) ∧ w'.cell? ⟨w.heap.size, 1, none⟩ = some (.int .i64 A.F.K) ∧ w'.cell? ⟨w.heap.size, 2, none⟩ = some (.int .i64 A.F.N) ∧ w'.cell? ⟨w.heap.size, 3, none⟩ = some (.int .i64 A.G) ∧ w'.cell? ⟨w.heap.size, 4, none⟩ = some (.int .i64 A.V) ∧ w'.cell? ⟨w.heap.size, 5, none⟩ = some (.int .i64 A.L)) (first | (with_reducible exact ⟨c1_0, c1_1, c1_2, c1_3, c1_4, c1_5⟩) | go_keep) (fail)
    all_goals
      go_wp2_with fail
      go_meet
      case rel => exact ⟨_, _, rfl, rfl, by simp, by simp, by simp, by simp, by (go_light; repeat (first | (with_reducible exact Kept.refl _) | (with_reducible assumption) | (with_reducible refine Kept.alloc ?_ _ _) | (with_reducible refine Kept.drew ?_) | (with_reducible refine Kept.drewN ?_ _) | ((with_reducible refine Kept.setCell ?_ ?_ _); rotate_left; focus (first | (simp; done) | (simp; omega))) | refine Kept.trans ?_ (by assumption)))⟩
  case rest =>
    obtain ⟨x1, y1, rfl, rfl, p1, p2, p3, p4, kp⟩ := hcut
    have lx1 := lt_of_cell p1
    have ly1 := lt_of_cell p3
    have d_0 := kp.some c1_0
    have d_1 := kp.some c1_1
    have d_2 := kp.some c1_2
    have d_3 := kp.some c1_3
    have d_4 := kp.some c1_4
    have d_5 := kp.some c1_5
    have KP := Lib.hid kp
    clear kp c1_0 c1_1 c1_2 c1_3 c1_4 c1_5
    generalize wc = w2 at *
    go_wp2_with fail
    go_cut [8, 9] (fun g h wx => Sp2 w2 wx A.G A.F.N A.V 1 g h)
    case first =>
      go_region_held3 (fun w' => w'.cell? ⟨w.heap.size, 0, none⟩ = some (.int .i64 A.F.T) ∧ w'.cell? ⟨w.heap.size, 1, none⟩ = some (.int .i64 A.F.K) ∧ w'.cell? ⟨w.heap.size, 2, none⟩ = some (.int .i64 A.F.N) ∧ w'.cell? ⟨w.heap.size, 3, none⟩ = some (.int .i64 A.G) ∧ w'.cell? ⟨w.heap.size, 4, none⟩ = some (.int .i64 A.V) ∧ w'.cell? ⟨w.heap.size, 5, none⟩ = some (.int .i64 A.L)) (first | (with_reducible exact ⟨d_0, d_1, d_2, d_3, d_4, d_5⟩) | go_keep) (fail)
      all_goals
        go_wp2_with fail
        go_meet
        case rel => exact ⟨_, _, rfl, rfl, by simp, by simp, by simp, by simp, by (go_light; repeat (first | (with_reducible exact Kept.refl _) | (with_reducible assumption) | (with_reducible refine Kept.alloc ?_ _ _) | (with_reducible refine Kept.drew ?_) | (with_reducible refine Kept.drewN ?_ _) | ((with_reducible refine Kept.setCell ?_ ?_ _); rotate_left; focus (first | (simp; done) | (simp; omega))) | refine Kept.trans ?_ (by assumption)))⟩
    case rest =>
      obtain ⟨x2, y2, rfl, rfl, q1, q2, q3, q4, kq⟩ := hcut
      have lx2 := lt_of_cell q1
      have ly2 := lt_of_cell q3
      have p1 := kq.some p1
      have p2 := kq.some p2
      have p3 := kq.some p3
      have p4 := kq.some p4
      have KQ := Lib.hid (K1'.out.trans (KP.out.trans kq))
      clear kq d_0 d_1 d_2 d_3 d_4 d_5 KP K1'
      generalize wc = w3 at *
      go_wp2_with fail
      refine (Hgw _).out.mono ?_
      rintro e w4 ⟨rfl, k4⟩
      have p1 := k4.some p1
      have p2 := k4.some p2
      have p3 := k4.some p3
      have p4 := k4.some p4
      have q1 := k4.some q1
      have q2 := k4.some q2
      have q3 := k4.some q3
      have q4 := k4.some q4
      have KQ := Lib.hid (KQ.out.trans (Kept.trans (b := _) (by first | exact Kept.refl _ | (go_light; repeat (first | (with_reducible exact Kept.refl _) | (with_reducible assumption) | (with_reducible refine Kept.alloc ?_ _ _) | (with_reducible refine Kept.drew ?_) | (with_reducible refine Kept.drewN ?_ _) | ((with_reducible refine Kept.setCell ?_ ?_ _); rotate_left; focus (first | (simp; done) | (simp; omega))) | refine Kept.trans ?_ (by assumption)))) k4))
      have lx1 := lt_of_cell p1
      have ly1 := lt_of_cell p3
      have lx2 := lt_of_cell q1
      have ly2 := lt_of_cell q3
      clear k4
      go_wp2_with fail
      refine (Hww _).out.mono ?_
      rintro e w5 ⟨rfl, k5⟩
      have p1 := k5.some p1
      have p2 := k5.some p2
      have p3 := k5.some p3
      have p4 := k5.some p4
      have q1 := k5.some q1
      have q2 := k5.some q2
      have q3 := k5.some q3
      have q4 := k5.some q4
      have KQ := Lib.hid (KQ.out.trans (Kept.trans (b := _) (by first | exact Kept.refl _ | (go_light; repeat (first | (with_reducible exact Kept.refl _) | (with_reducible assumption) | (with_reducible refine Kept.alloc ?_ _ _) | (with_reducible refine Kept.drew ?_) | (with_reducible refine Kept.drewN ?_ _) | ((with_reducible refine Kept.setCell ?_ ?_ _); rotate_left; focus (first | (simp; done) | (simp; omega))) | refine Kept.trans ?_ (by assumption)))) k5))
      have lx1 := lt_of_cell p1
      have ly1 := lt_of_cell p3
      have lx2 := lt_of_cell q1
      have ly2 := lt_of_cell q3
      clear k5
      go_wp2_with fail
      refine (Hgl _).out.mono ?_
      rintro e w6 ⟨rfl, k6⟩
      have p1 := k6.some p1
      have p2 := k6.some p2
      have p3 := k6.some p3
      have p4 := k6.some p4
      have q1 := k6.some q1
      have q2 := k6.some q2
      have q3 := k6.some q3
      have q4 := k6.some q4
      have KQ := Lib.hid (KQ.out.trans (Kept.trans (b := _) (by first | exact Kept.refl _ | (go_light; repeat (first | (with_reducible exact Kept.refl _) | (with_reducible assumption) | (with_reducible refine Kept.alloc ?_ _ _) | (with_reducible refine Kept.drew ?_) | (with_reducible refine Kept.drewN ?_ _) | ((with_reducible refine Kept.setCell ?_ ?_ _); rotate_left; focus (first | (simp; done) | (simp; omega))) | refine Kept.trans ?_ (by assumption)))) k6))
      have lx1 := lt_of_cell p1
      have ly1 := lt_of_cell p3
      have lx2 := lt_of_cell q1
      have ly2 := lt_of_cell q3
      clear k6
      go_wp2_with fail
      refine (Hgt _).out.mono ?_
      rintro e w7 ⟨rfl, k7⟩
      have p1 := k7.some p1
      have p2 := k7.some p2
      have p3 := k7.some p3
      have p4 := k7.some p4
      have q1 := k7.some q1
      have q2 := k7.some q2
      have q3 := k7.some q3
      have q4 := k7.some q4
      have KQ := Lib.hid (KQ.out.trans (Kept.trans (b := _) (by first | exact Kept.refl _ | (go_light; repeat (first | (with_reducible exact Kept.refl _) | (with_reducible assumption) | (with_reducible refine Kept.alloc ?_ _ _) | (with_reducible refine Kept.drew ?_) | (with_reducible refine Kept.drewN ?_ _) | ((with_reducible refine Kept.setCell ?_ ?_ _); rotate_left; focus (first | (simp; done) | (simp; omega))) | refine Kept.trans ?_ (by assumption)))) k7))
      have lx1 := lt_of_cell p1
      have ly1 := lt_of_cell p3
      have lx2 := lt_of_cell q1
      have ly2 := lt_of_cell q3
      clear k7
      go_wp2_with fail
      refine (Hgv _).out.mono ?_
      rintro e w8 ⟨rfl, k8⟩
      have p1 := k8.some p1
      have p2 := k8.some p2
      have p3 := k8.some p3
      have p4 := k8.some p4
      have q1 := k8.some q1
      have q2 := k8.some q2
      have q3 := k8.some q3
      have q4 := k8.some q4
      have KQ := Lib.hid (KQ.out.trans (Kept.trans (b := _) (by first | exact Kept.refl _ | (go_light; repeat (first | (with_reducible exact Kept.refl _) | (with_reducible assumption) | (with_reducible refine Kept.alloc ?_ _ _) | (with_reducible refine Kept.drew ?_) | (with_reducible refine Kept.drewN ?_ _) | ((with_reducible refine Kept.setCell ?_ ?_ _); rotate_left; focus (first | (simp; done) | (simp; omega))) | refine Kept.trans ?_ (by assumption)))) k8))
      have lx1 := lt_of_cell p1
      have ly1 := lt_of_cell p3
      have lx2 := lt_of_cell q1
      have ly2 := lt_of_cell q3
      clear k8
      go_wp2_with fail
      refine (Hwl _).out.mono ?_
      rintro e w9 ⟨rfl, k9⟩
      have p1 := k9.some p1
      have p2 := k9.some p2
      have p3 := k9.some p3
      have p4 := k9.some p4
      have q1 := k9.some q1
      have q2 := k9.some q2
      have q3 := k9.some q3
      have q4 := k9.some q4
      have KQ := Lib.hid (KQ.out.trans (Kept.trans (b := _) (by first | exact Kept.refl _ | (go_light; repeat (first | (with_reducible exact Kept.refl _) | (with_reducible assumption) | (with_reducible refine Kept.alloc ?_ _ _) | (with_reducible refine Kept.drew ?_) | (with_reducible refine Kept.drewN ?_ _) | ((with_reducible refine Kept.setCell ?_ ?_ _); rotate_left; focus (first | (simp; done) | (simp; omega))) | refine Kept.trans ?_ (by assumption)))) k9))
      have lx1 := lt_of_cell p1
      have ly1 := lt_of_cell p3
      have lx2 := lt_of_cell q1
      have ly2 := lt_of_cell q3
      clear k9
      go_wp2
      go_ret
      have kk := KQ.out
      exact ⟨rfl, Kept.trans kk (by (go_light; repeat (first | (with_reducible exact Kept.refl _) | (with_reducible assumption) | (with_reducible refine Kept.alloc ?_ _ _) | (with_reducible refine Kept.drew ?_) | (with_reducible refine Kept.drewN ?_ _) | ((with_reducible refine Kept.setCell ?_ ?_ _); rotate_left; focus (first | (simp; done) | (simp; omega))) | refine Kept.trans ?_ (by assumption))))⟩
set_option maxHeartbeats 1000000 in
theorem f_wt (A : Arn) (n : Int) (w : World) (hS : A.F.Ok n.toNat) (n0 : 1 ≤ n) (n1 : n ≤ 4096) (h : fitsE A.F n = 0) (L1 : 1 ≤ A.L) (L2 : A.L ≤ 4294967295) (gw : 0 ≤ A.G ∧ A.G ≤ n - A.F.N) (ww : 0 ≤ A.V ∧ A.V ≤ n - 1) (gl : ¬ Meet A.G A.F.N A.F.K A.F.N) (gt : ¬ Meet A.G A.F.N A.F.T 1) (gv : ¬ Meet A.G A.F.N A.V 1) (wl : ¬ Meet A.V 1 A.F.K A.F.N) (wt : Meet A.V 1 A.F.T 1) : Calls Tryz.prog 144 #[.agg #[.int .i64 A.F.T, .int .i64 A.F.K, .int .i64 A.F.N, .int .i64 A.G, .int .i64 A.V, .int .i64 A.L], .int .i64 n] w fun e w' => e = .returned (.int .i64 2) ∧ Kept w w' := by
  have N1 := hS.N1
  have N2 := hS.N2
  have T1 := hS.T1
  have T2 := hS.T2
  have K1 := hS.K1
  have K2 := hS.K2
  have HF : ∀ W, Hid (Calls Tryz.prog 188 #[.agg #[.int .i64 A.F.T, .int .i64 A.F.K, .int .i64 A.F.N], .int .i64 n] W fun e w' => e = .returned (.int .i64 0) ∧ Kept W w') := fun W => Lib.hid (by rw [← h]; exact pfits_any A.F n W)
  have Hgw : ∀ W, Hid (Calls Tryz.prog 189 #[.agg #[.int .i64 A.G, .int .i64 (A.F.N)], .int .i64 n] W fun e w' => e = .returned (.bool true) ∧ Kept W w') := fun W => Lib.hid (within_yes A.G A.F.N n W (by omega) (by omega) n0 n1 gw.1 gw.2)
  have Hww : ∀ W, Hid (Calls Tryz.prog 189 #[.agg #[.int .i64 A.V, .int .i64 1], .int .i64 n] W fun e w' => e = .returned (.bool true) ∧ Kept W w') := fun W => Lib.hid (within_yes A.V 1 n W (by omega) (by omega) n0 n1 ww.1 ww.2)
  have Hgl : ∀ W, Hid (Calls Tryz.prog 190 #[.agg #[.int .i64 A.G, .int .i64 A.F.N], .agg #[.int .i64 A.F.K, .int .i64 A.F.N]] W fun e w' => e = .returned (.bool false) ∧ Kept W w') := fun W => Lib.hid (meets_no A.G A.F.N A.F.K A.F.N W (by omega) (by omega) (by omega) (by omega) (by omega) (by omega) (by omega) (by omega) gl)
  have Hgt : ∀ W, Hid (Calls Tryz.prog 190 #[.agg #[.int .i64 A.G, .int .i64 A.F.N], .agg #[.int .i64 A.F.T, .int .i64 1]] W fun e w' => e = .returned (.bool false) ∧ Kept W w') := fun W => Lib.hid (meets_no A.G A.F.N A.F.T 1 W (by omega) (by omega) (by omega) (by omega) (by omega) (by omega) (by omega) (by omega) gt)
  have Hgv : ∀ W, Hid (Calls Tryz.prog 190 #[.agg #[.int .i64 A.G, .int .i64 A.F.N], .agg #[.int .i64 A.V, .int .i64 1]] W fun e w' => e = .returned (.bool false) ∧ Kept W w') := fun W => Lib.hid (meets_no A.G A.F.N A.V 1 W (by omega) (by omega) (by omega) (by omega) (by omega) (by omega) (by omega) (by omega) gv)
  have Hwl : ∀ W, Hid (Calls Tryz.prog 190 #[.agg #[.int .i64 A.V, .int .i64 1], .agg #[.int .i64 A.F.K, .int .i64 A.F.N]] W fun e w' => e = .returned (.bool false) ∧ Kept W w') := fun W => Lib.hid (meets_no A.V 1 A.F.K A.F.N W (by omega) (by omega) (by omega) (by omega) (by omega) (by omega) (by omega) (by omega) wl)
  have Hwt : ∀ W, Hid (Calls Tryz.prog 190 #[.agg #[.int .i64 A.V, .int .i64 1], .agg #[.int .i64 A.F.T, .int .i64 1]] W fun e w' => e = .returned (.bool true) ∧ Kept W w') := fun W => Lib.hid (meets_yes A.V 1 A.F.T 1 W (by omega) (by omega) (by omega) (by omega) (by omega) (by omega) (by omega) (by omega) wt.1 wt.2)
  clear hS h gw ww gl gt gv wl wt
  go_enter Tryz.func144, Tryz.ntmps144
  go_wp2_with fail
  refine (HF _).out.mono ?_
  rintro e w1 ⟨rfl, k1⟩
  have c1_0 := k1.some (cell_new w #[.int .i64 A.F.T, .int .i64 A.F.K, .int .i64 A.F.N, .int .i64 A.G, .int .i64 A.V, .int .i64 A.L] 25 w.heap.size 0 rfl)
  have c1_1 := k1.some (cell_new w #[.int .i64 A.F.T, .int .i64 A.F.K, .int .i64 A.F.N, .int .i64 A.G, .int .i64 A.V, .int .i64 A.L] 25 w.heap.size 1 rfl)
  have c1_2 := k1.some (cell_new w #[.int .i64 A.F.T, .int .i64 A.F.K, .int .i64 A.F.N, .int .i64 A.G, .int .i64 A.V, .int .i64 A.L] 25 w.heap.size 2 rfl)
  have c1_3 := k1.some (cell_new w #[.int .i64 A.F.T, .int .i64 A.F.K, .int .i64 A.F.N, .int .i64 A.G, .int .i64 A.V, .int .i64 A.L] 25 w.heap.size 3 rfl)
  have c1_4 := k1.some (cell_new w #[.int .i64 A.F.T, .int .i64 A.F.K, .int .i64 A.F.N, .int .i64 A.G, .int .i64 A.V, .int .i64 A.L] 25 w.heap.size 4 rfl)
  have c1_5 := k1.some (cell_new w #[.int .i64 A.F.T, .int .i64 A.F.K, .int .i64 A.F.N, .int .i64 A.G, .int .i64 A.V, .int .i64 A.L] 25 w.heap.size 5 rfl)
  have K1' := Lib.hid (Kept.trans (b := _) (show Kept w _ by (go_light; repeat (first | (with_reducible exact Kept.refl _) | (with_reducible assumption) | (with_reducible refine Kept.alloc ?_ _ _) | (with_reducible refine Kept.drew ?_) | (with_reducible refine Kept.drewN ?_ _) | ((with_reducible refine Kept.setCell ?_ ?_ _); rotate_left; focus (first | (simp; done) | (simp; omega))) | refine Kept.trans ?_ (by assumption)))) k1)
  clear k1
  go_wp2_with fail
  go_cut [6, 7] (fun g h wx => Sp2 w1 wx A.F.K A.F.N A.F.T 1 g h)
  case first =>
    go_region_held3 (fun w' => w'.cell? ⟨w.heap.size, 0, none⟩ = some (.int .i64 A.F.T) ∧ w'.cell? ⟨w.heap.size, 1, none⟩ = some (.int .i64 A.F.K) ∧ w'.cell? ⟨w.heap.size, 2, none⟩ = some (.int .i64 A.F.N) ∧ w'.cell? ⟨w.heap.size, 3, none⟩ = some (.int .i64 A.G) ∧ w'.cell? ⟨w.heap.size, 4, none⟩ = some (.int .i64 A.V) ∧ w'.cell? ⟨w.heap.size, 5, none⟩ = some (.int .i64 A.L)) (first | (with_reducible exact ⟨c1_0, c1_1, c1_2, c1_3, c1_4, c1_5⟩) | go_keep) (fail)
    all_goals
      go_wp2_with fail
      go_meet
      case rel => exact ⟨_, _, rfl, rfl, by simp, by simp, by simp, by simp, by (go_light; repeat (first | (with_reducible exact Kept.refl _) | (with_reducible assumption) | (with_reducible refine Kept.alloc ?_ _ _) | (with_reducible refine Kept.drew ?_) | (with_reducible refine Kept.drewN ?_ _) | ((with_reducible refine Kept.setCell ?_ ?_ _); rotate_left; focus (first | (simp; done) | (simp; omega))) | refine Kept.trans ?_ (by assumption)))⟩
  case rest =>
    obtain ⟨x1, y1, rfl, rfl, p1, p2, p3, p4, kp⟩ := hcut
    have lx1 := lt_of_cell p1
    have ly1 := lt_of_cell p3
    have d_0 := kp.some c1_0
    have d_1 := kp.some c1_1
    have d_2 := kp.some c1_2
    have d_3 := kp.some c1_3
    have d_4 := kp.some c1_4
    have d_5 := kp.some c1_5
    have KP := Lib.hid kp
    clear kp c1_0 c1_1 c1_2 c1_3 c1_4 c1_5
    generalize wc = w2 at *
    go_wp2_with fail
    go_cut [8, 9] (fun g h wx => Sp2 w2 wx A.G A.F.N A.V 1 g h)
    case first =>
      go_region_held3 (fun w' => w'.cell? ⟨w.heap.size, 0, none⟩ = some (.int .i64 A.F.T) ∧ w'.cell? ⟨w.heap.size, 1, none⟩ = some (.int .i64 A.F.K) ∧ w'.cell? ⟨w.heap.size, 2, none⟩ = some (.int .i64 A.F.N) ∧ w'.cell? ⟨w.heap.size, 3, none⟩ = some (.int .i64 A.G) ∧ w'.cell? ⟨w.heap.size, 4, none⟩ = some (.int .i64 A.V) ∧ w'.cell? ⟨w.heap.size, 5, none⟩ = some (.int .i64 A.L)) (first | (with_reducible exact ⟨d_0, d_1, d_2, d_3, d_4, d_5⟩) | go_keep) (fail)
      all_goals
        go_wp2_with fail
        go_meet
        case rel => exact ⟨_, _, rfl, rfl, by simp, by simp, by simp, by simp, by (go_light; repeat (first | (with_reducible exact Kept.refl _) | (with_reducible assumption) | (with_reducible refine Kept.alloc ?_ _ _) | (with_reducible refine Kept.drew ?_) | (with_reducible refine Kept.drewN ?_ _) | ((with_reducible refine Kept.setCell ?_ ?_ _); rotate_left; focus (first | (simp; done) | (simp; omega))) | refine Kept.trans ?_ (by assumption)))⟩
    case rest =>
      obtain ⟨x2, y2, rfl, rfl, q1, q2, q3, q4, kq⟩ := hcut
      have lx2 := lt_of_cell q1
      have ly2 := lt_of_cell q3
      have p1 := kq.some p1
      have p2 := kq.some p2
      have p3 := kq.some p3
      have p4 := kq.some p4
      have KQ := Lib.hid (K1'.out.trans (KP.out.trans kq))
      clear kq d_0 d_1 d_2 d_3 d_4 d_5 KP K1'
      generalize wc = w3 at *
      go_wp2_with fail
      refine (Hgw _).out.mono ?_
      rintro e w4 ⟨rfl, k4⟩
      have p1 := k4.some p1
      have p2 := k4.some p2
      have p3 := k4.some p3
      have p4 := k4.some p4
      have q1 := k4.some q1
      have q2 := k4.some q2
      have q3 := k4.some q3
      have q4 := k4.some q4
      have KQ := Lib.hid (KQ.out.trans (Kept.trans (b := _) (by first | exact Kept.refl _ | (go_light; repeat (first | (with_reducible exact Kept.refl _) | (with_reducible assumption) | (with_reducible refine Kept.alloc ?_ _ _) | (with_reducible refine Kept.drew ?_) | (with_reducible refine Kept.drewN ?_ _) | ((with_reducible refine Kept.setCell ?_ ?_ _); rotate_left; focus (first | (simp; done) | (simp; omega))) | refine Kept.trans ?_ (by assumption)))) k4))
      have lx1 := lt_of_cell p1
      have ly1 := lt_of_cell p3
      have lx2 := lt_of_cell q1
      have ly2 := lt_of_cell q3
      clear k4
      go_wp2_with fail
      refine (Hww _).out.mono ?_
      rintro e w5 ⟨rfl, k5⟩
      have p1 := k5.some p1
      have p2 := k5.some p2
      have p3 := k5.some p3
      have p4 := k5.some p4
      have q1 := k5.some q1
      have q2 := k5.some q2
      have q3 := k5.some q3
      have q4 := k5.some q4
      have KQ := Lib.hid (KQ.out.trans (Kept.trans (b := _) (by first | exact Kept.refl _ | (go_light; repeat (first | (with_reducible exact Kept.refl _) | (with_reducible assumption) | (with_reducible refine Kept.alloc ?_ _ _) | (with_reducible refine Kept.drew ?_) | (with_reducible refine Kept.drewN ?_ _) | ((with_reducible refine Kept.setCell ?_ ?_ _); rotate_left; focus (first | (simp; done) | (simp; omega))) | refine Kept.trans ?_ (by assumption)))) k5))
      have lx1 := lt_of_cell p1
      have ly1 := lt_of_cell p3
      have lx2 := lt_of_cell q1
      have ly2 := lt_of_cell q3
      clear k5
      go_wp2_with fail
      refine (Hgl _).out.mono ?_
      rintro e w6 ⟨rfl, k6⟩
      have p1 := k6.some p1
      have p2 := k6.some p2
      have p3 := k6.some p3
      have p4 := k6.some p4
      have q1 := k6.some q1
      have q2 := k6.some q2
      have q3 := k6.some q3
      have q4 := k6.some q4
      have KQ := Lib.hid (KQ.out.trans (Kept.trans (b := _) (by first | exact Kept.refl _ | (go_light; repeat (first | (with_reducible exact Kept.refl _) | (with_reducible assumption) | (with_reducible refine Kept.alloc ?_ _ _) | (with_reducible refine Kept.drew ?_) | (with_reducible refine Kept.drewN ?_ _) | ((with_reducible refine Kept.setCell ?_ ?_ _); rotate_left; focus (first | (simp; done) | (simp; omega))) | refine Kept.trans ?_ (by assumption)))) k6))
      have lx1 := lt_of_cell p1
      have ly1 := lt_of_cell p3
      have lx2 := lt_of_cell q1
      have ly2 := lt_of_cell q3
      clear k6
      go_wp2_with fail
      refine (Hgt _).out.mono ?_
      rintro e w7 ⟨rfl, k7⟩
      have p1 := k7.some p1
      have p2 := k7.some p2
      have p3 := k7.some p3
      have p4 := k7.some p4
      have q1 := k7.some q1
      have q2 := k7.some q2
      have q3 := k7.some q3
      have q4 := k7.some q4
      have KQ := Lib.hid (KQ.out.trans (Kept.trans (b := _) (by first | exact Kept.refl _ | (go_light; repeat (first | (with_reducible exact Kept.refl _) | (with_reducible assumption) | (with_reducible refine Kept.alloc ?_ _ _) | (with_reducible refine Kept.drew ?_) | (with_reducible refine Kept.drewN ?_ _) | ((with_reducible refine Kept.setCell ?_ ?_ _); rotate_left; focus (first | (simp; done) | (simp; omega))) | refine Kept.trans ?_ (by assumption)))) k7))
      have lx1 := lt_of_cell p1
      have ly1 := lt_of_cell p3
      have lx2 := lt_of_cell q1
      have ly2 := lt_of_cell q3
      clear k7
      go_wp2_with fail
      refine (Hgv _).out.mono ?_
      rintro e w8 ⟨rfl, k8⟩
      have p1 := k8.some p1
      have p2 := k8.some p2
      have p3 := k8.some p3
      have p4 := k8.some p4
      have q1 := k8.some q1
      have q2 := k8.some q2
      have q3 := k8.some q3
      have q4 := k8.some q4
      have KQ := Lib.hid (KQ.out.trans (Kept.trans (b := _) (by first | exact Kept.refl _ | (go_light; repeat (first | (with_reducible exact Kept.refl _) | (with_reducible assumption) | (with_reducible refine Kept.alloc ?_ _ _) | (with_reducible refine Kept.drew ?_) | (with_reducible refine Kept.drewN ?_ _) | ((with_reducible refine Kept.setCell ?_ ?_ _); rotate_left; focus (first | (simp; done) | (simp; omega))) | refine Kept.trans ?_ (by assumption)))) k8))
      have lx1 := lt_of_cell p1
      have ly1 := lt_of_cell p3
      have lx2 := lt_of_cell q1
      have ly2 := lt_of_cell q3
      clear k8
      go_wp2_with fail
      refine (Hwl _).out.mono ?_
      rintro e w9 ⟨rfl, k9⟩
      have p1 := k9.some p1
      have p2 := k9.some p2
      have p3 := k9.some p3
      have p4 := k9.some p4
      have q1 := k9.some q1
      have q2 := k9.some q2
      have q3 := k9.some q3
      have q4 := k9.some q4
      have KQ := Lib.hid (KQ.out.trans (Kept.trans (b := _) (by first | exact Kept.refl _ | (go_light; repeat (first | (with_reducible exact Kept.refl _) | (with_reducible assumption) | (with_reducible refine Kept.alloc ?_ _ _) | (with_reducible refine Kept.drew ?_) | (with_reducible refine Kept.drewN ?_ _) | ((with_reducible refine Kept.setCell ?_ ?_ _); rotate_left; focus (first | (simp; done) | (simp; omega))) | refine Kept.trans ?_ (by assumption)))) k9))
      have lx1 := lt_of_cell p1
      have ly1 := lt_of_cell p3
      have lx2 := lt_of_cell q1
      have ly2 := lt_of_cell q3
      clear k9
      go_wp2_with fail
      refine (Hwt _).out.mono ?_
      rintro e w10 ⟨rfl, k10⟩
      have p1 := k10.some p1
      have p2 := k10.some p2
      have p3 := k10.some p3
      have p4 := k10.some p4
      have q1 := k10.some q1
      have q2 := k10.some q2
      have q3 := k10.some q3
      have q4 := k10.some q4
      have KQ := Lib.hid (KQ.out.trans (Kept.trans (b := _) (by first | exact Kept.refl _ | (go_light; repeat (first | (with_reducible exact Kept.refl _) | (with_reducible assumption) | (with_reducible refine Kept.alloc ?_ _ _) | (with_reducible refine Kept.drew ?_) | (with_reducible refine Kept.drewN ?_ _) | ((with_reducible refine Kept.setCell ?_ ?_ _); rotate_left; focus (first | (simp; done) | (simp; omega))) | refine Kept.trans ?_ (by assumption)))) k10))
      have lx1 := lt_of_cell p1
      have ly1 := lt_of_cell p3
      have lx2 := lt_of_cell q1
      have ly2 := lt_of_cell q3
      clear k10
      go_wp2
      go_ret
      have kk := KQ.out
      exact ⟨rfl, Kept.trans kk (by (go_light; repeat (first | (with_reducible exact Kept.refl _) | (with_reducible assumption) | (with_reducible refine Kept.alloc ?_ _ _) | (with_reducible refine Kept.drew ?_) | (with_reducible refine Kept.drewN ?_ _) | ((with_reducible refine Kept.setCell ?_ ?_ _); rotate_left; focus (first | (simp; done) | (simp; omega))) | refine Kept.trans ?_ (by assumption))))⟩
set_option maxHeartbeats 1000000 in
theorem f_ok (A : Arn) (n : Int) (w : World) (hS : A.F.Ok n.toNat) (n0 : 1 ≤ n) (n1 : n ≤ 4096) (h : fitsE A.F n = 0) (L1 : 1 ≤ A.L) (L2 : A.L ≤ 4294967295) (gw : 0 ≤ A.G ∧ A.G ≤ n - A.F.N) (ww : 0 ≤ A.V ∧ A.V ≤ n - 1) (gl : ¬ Meet A.G A.F.N A.F.K A.F.N) (gt : ¬ Meet A.G A.F.N A.F.T 1) (gv : ¬ Meet A.G A.F.N A.V 1) (wl : ¬ Meet A.V 1 A.F.K A.F.N) (wt : ¬ Meet A.V 1 A.F.T 1) : Calls Tryz.prog 144 #[.agg #[.int .i64 A.F.T, .int .i64 A.F.K, .int .i64 A.F.N, .int .i64 A.G, .int .i64 A.V, .int .i64 A.L], .int .i64 n] w fun e w' => e = .returned (.int .i64 0) ∧ Kept w w' := by
  have N1 := hS.N1
  have N2 := hS.N2
  have T1 := hS.T1
  have T2 := hS.T2
  have K1 := hS.K1
  have K2 := hS.K2
  have HF : ∀ W, Hid (Calls Tryz.prog 188 #[.agg #[.int .i64 A.F.T, .int .i64 A.F.K, .int .i64 A.F.N], .int .i64 n] W fun e w' => e = .returned (.int .i64 0) ∧ Kept W w') := fun W => Lib.hid (by rw [← h]; exact pfits_any A.F n W)
  have Hgw : ∀ W, Hid (Calls Tryz.prog 189 #[.agg #[.int .i64 A.G, .int .i64 (A.F.N)], .int .i64 n] W fun e w' => e = .returned (.bool true) ∧ Kept W w') := fun W => Lib.hid (within_yes A.G A.F.N n W (by omega) (by omega) n0 n1 gw.1 gw.2)
  have Hww : ∀ W, Hid (Calls Tryz.prog 189 #[.agg #[.int .i64 A.V, .int .i64 1], .int .i64 n] W fun e w' => e = .returned (.bool true) ∧ Kept W w') := fun W => Lib.hid (within_yes A.V 1 n W (by omega) (by omega) n0 n1 ww.1 ww.2)
  have Hgl : ∀ W, Hid (Calls Tryz.prog 190 #[.agg #[.int .i64 A.G, .int .i64 A.F.N], .agg #[.int .i64 A.F.K, .int .i64 A.F.N]] W fun e w' => e = .returned (.bool false) ∧ Kept W w') := fun W => Lib.hid (meets_no A.G A.F.N A.F.K A.F.N W (by omega) (by omega) (by omega) (by omega) (by omega) (by omega) (by omega) (by omega) gl)
  have Hgt : ∀ W, Hid (Calls Tryz.prog 190 #[.agg #[.int .i64 A.G, .int .i64 A.F.N], .agg #[.int .i64 A.F.T, .int .i64 1]] W fun e w' => e = .returned (.bool false) ∧ Kept W w') := fun W => Lib.hid (meets_no A.G A.F.N A.F.T 1 W (by omega) (by omega) (by omega) (by omega) (by omega) (by omega) (by omega) (by omega) gt)
  have Hgv : ∀ W, Hid (Calls Tryz.prog 190 #[.agg #[.int .i64 A.G, .int .i64 A.F.N], .agg #[.int .i64 A.V, .int .i64 1]] W fun e w' => e = .returned (.bool false) ∧ Kept W w') := fun W => Lib.hid (meets_no A.G A.F.N A.V 1 W (by omega) (by omega) (by omega) (by omega) (by omega) (by omega) (by omega) (by omega) gv)
  have Hwl : ∀ W, Hid (Calls Tryz.prog 190 #[.agg #[.int .i64 A.V, .int .i64 1], .agg #[.int .i64 A.F.K, .int .i64 A.F.N]] W fun e w' => e = .returned (.bool false) ∧ Kept W w') := fun W => Lib.hid (meets_no A.V 1 A.F.K A.F.N W (by omega) (by omega) (by omega) (by omega) (by omega) (by omega) (by omega) (by omega) wl)
  have Hwt : ∀ W, Hid (Calls Tryz.prog 190 #[.agg #[.int .i64 A.V, .int .i64 1], .agg #[.int .i64 A.F.T, .int .i64 1]] W fun e w' => e = .returned (.bool false) ∧ Kept W w') := fun W => Lib.hid (meets_no A.V 1 A.F.T 1 W (by omega) (by omega) (by omega) (by omega) (by omega) (by omega) (by omega) (by omega) wt)
  clear hS h gw ww gl gt gv wl wt
  go_enter Tryz.func144, Tryz.ntmps144
  go_wp2_with fail
  refine (HF _).out.mono ?_
  rintro e w1 ⟨rfl, k1⟩
  have c1_0 := k1.some (cell_new w #[.int .i64 A.F.T, .int .i64 A.F.K, .int .i64 A.F.N, .int .i64 A.G, .int .i64 A.V, .int .i64 A.L] 25 w.heap.size 0 rfl)
  have c1_1 := k1.some (cell_new w #[.int .i64 A.F.T, .int .i64 A.F.K, .int .i64 A.F.N, .int .i64 A.G, .int .i64 A.V, .int .i64 A.L] 25 w.heap.size 1 rfl)
  have c1_2 := k1.some (cell_new w #[.int .i64 A.F.T, .int .i64 A.F.K, .int .i64 A.F.N, .int .i64 A.G, .int .i64 A.V, .int .i64 A.L] 25 w.heap.size 2 rfl)
  have c1_3 := k1.some (cell_new w #[.int .i64 A.F.T, .int .i64 A.F.K, .int .i64 A.F.N, .int .i64 A.G, .int .i64 A.V, .int .i64 A.L] 25 w.heap.size 3 rfl)
  have c1_4 := k1.some (cell_new w #[.int .i64 A.F.T, .int .i64 A.F.K, .int .i64 A.F.N, .int .i64 A.G, .int .i64 A.V, .int .i64 A.L] 25 w.heap.size 4 rfl)
  have c1_5 := k1.some (cell_new w #[.int .i64 A.F.T, .int .i64 A.F.K, .int .i64 A.F.N, .int .i64 A.G, .int .i64 A.V, .int .i64 A.L] 25 w.heap.size 5 rfl)
  have K1' := Lib.hid (Kept.trans (b := _) (show Kept w _ by (go_light; repeat (first | (with_reducible exact Kept.refl _) | (with_reducible assumption) | (with_reducible refine Kept.alloc ?_ _ _) | (with_reducible refine Kept.drew ?_) | (with_reducible refine Kept.drewN ?_ _) | ((with_reducible refine Kept.setCell ?_ ?_ _); rotate_left; focus (first | (simp; done) | (simp; omega))) | refine Kept.trans ?_ (by assumption)))) k1)
  clear k1
  go_wp2_with fail
  go_cut [6, 7] (fun g h wx => Sp2 w1 wx A.F.K A.F.N A.F.T 1 g h)
  case first =>
    go_region_held3 (fun w' => w'.cell? ⟨w.heap.size, 0, none⟩ = some (.int .i64 A.F.T) ∧ w'.cell? ⟨w.heap.size, 1, none⟩ = some (.int .i64 A.F.K) ∧ w'.cell? ⟨w.heap.size, 2, none⟩ = some (.int .i64 A.F.N) ∧ w'.cell? ⟨w.heap.size, 3, none⟩ = some (.int .i64 A.G) ∧ w'.cell? ⟨w.heap.size, 4, none⟩ = some (.int .i64 A.V) ∧ w'.cell? ⟨w.heap.size, 5, none⟩ = some (.int .i64 A.L)) (first | (with_reducible exact ⟨c1_0, c1_1, c1_2, c1_3, c1_4, c1_5⟩) | go_keep) (fail)
    all_goals
      go_wp2_with fail
      go_meet
      case rel => exact ⟨_, _, rfl, rfl, by simp, by simp, by simp, by simp, by (go_light; repeat (first | (with_reducible exact Kept.refl _) | (with_reducible assumption) | (with_reducible refine Kept.alloc ?_ _ _) | (with_reducible refine Kept.drew ?_) | (with_reducible refine Kept.drewN ?_ _) | ((with_reducible refine Kept.setCell ?_ ?_ _); rotate_left; focus (first | (simp; done) | (simp; omega))) | refine Kept.trans ?_ (by assumption)))⟩
  case rest =>
    obtain ⟨x1, y1, rfl, rfl, p1, p2, p3, p4, kp⟩ := hcut
    have lx1 := lt_of_cell p1
    have ly1 := lt_of_cell p3
    have d_0 := kp.some c1_0
    have d_1 := kp.some c1_1
    have d_2 := kp.some c1_2
    have d_3 := kp.some c1_3
    have d_4 := kp.some c1_4
    have d_5 := kp.some c1_5
    have KP := Lib.hid kp
    clear kp c1_0 c1_1 c1_2 c1_3 c1_4 c1_5
    generalize wc = w2 at *
    go_wp2_with fail
    go_cut [8, 9] (fun g h wx => Sp2 w2 wx A.G A.F.N A.V 1 g h)
    case first =>
      go_region_held3 (fun w' => w'.cell? ⟨w.heap.size, 0, none⟩ = some (.int .i64 A.F.T) ∧ w'.cell? ⟨w.heap.size, 1, none⟩ = some (.int .i64 A.F.K) ∧ w'.cell? ⟨w.heap.size, 2, none⟩ = some (.int .i64 A.F.N) ∧ w'.cell? ⟨w.heap.size, 3, none⟩ = some (.int .i64 A.G) ∧ w'.cell? ⟨w.heap.size, 4, none⟩ = some (.int .i64 A.V) ∧ w'.cell? ⟨w.heap.size, 5, none⟩ = some (.int .i64 A.L)) (first | (with_reducible exact ⟨d_0, d_1, d_2, d_3, d_4, d_5⟩) | go_keep) (fail)
      all_goals
        go_wp2_with fail
        go_meet
        case rel => exact ⟨_, _, rfl, rfl, by simp, by simp, by simp, by simp, by (go_light; repeat (first | (with_reducible exact Kept.refl _) | (with_reducible assumption) | (with_reducible refine Kept.alloc ?_ _ _) | (with_reducible refine Kept.drew ?_) | (with_reducible refine Kept.drewN ?_ _) | ((with_reducible refine Kept.setCell ?_ ?_ _); rotate_left; focus (first | (simp; done) | (simp; omega))) | refine Kept.trans ?_ (by assumption)))⟩
    case rest =>
      obtain ⟨x2, y2, rfl, rfl, q1, q2, q3, q4, kq⟩ := hcut
      have lx2 := lt_of_cell q1
      have ly2 := lt_of_cell q3
      have p1 := kq.some p1
      have p2 := kq.some p2
      have p3 := kq.some p3
      have p4 := kq.some p4
      have KQ := Lib.hid (K1'.out.trans (KP.out.trans kq))
      clear kq d_0 d_1 d_2 d_3 d_4 d_5 KP K1'
      generalize wc = w3 at *
      go_wp2_with fail
      refine (Hgw _).out.mono ?_
      rintro e w4 ⟨rfl, k4⟩
      have p1 := k4.some p1
      have p2 := k4.some p2
      have p3 := k4.some p3
      have p4 := k4.some p4
      have q1 := k4.some q1
      have q2 := k4.some q2
      have q3 := k4.some q3
      have q4 := k4.some q4
      have KQ := Lib.hid (KQ.out.trans (Kept.trans (b := _) (by first | exact Kept.refl _ | (go_light; repeat (first | (with_reducible exact Kept.refl _) | (with_reducible assumption) | (with_reducible refine Kept.alloc ?_ _ _) | (with_reducible refine Kept.drew ?_) | (with_reducible refine Kept.drewN ?_ _) | ((with_reducible refine Kept.setCell ?_ ?_ _); rotate_left; focus (first | (simp; done) | (simp; omega))) | refine Kept.trans ?_ (by assumption)))) k4))
      have lx1 := lt_of_cell p1
      have ly1 := lt_of_cell p3
      have lx2 := lt_of_cell q1
      have ly2 := lt_of_cell q3
      clear k4
      go_wp2_with fail
      refine (Hww _).out.mono ?_
      rintro e w5 ⟨rfl, k5⟩
      have p1 := k5.some p1
      have p2 := k5.some p2
      have p3 := k5.some p3
      have p4 := k5.some p4
      have q1 := k5.some q1
      have q2 := k5.some q2
      have q3 := k5.some q3
      have q4 := k5.some q4
      have KQ := Lib.hid (KQ.out.trans (Kept.trans (b := _) (by first | exact Kept.refl _ | (go_light; repeat (first | (with_reducible exact Kept.refl _) | (with_reducible assumption) | (with_reducible refine Kept.alloc ?_ _ _) | (with_reducible refine Kept.drew ?_) | (with_reducible refine Kept.drewN ?_ _) | ((with_reducible refine Kept.setCell ?_ ?_ _); rotate_left; focus (first | (simp; done) | (simp; omega))) | refine Kept.trans ?_ (by assumption)))) k5))
      have lx1 := lt_of_cell p1
      have ly1 := lt_of_cell p3
      have lx2 := lt_of_cell q1
      have ly2 := lt_of_cell q3
      clear k5
      go_wp2_with fail
      refine (Hgl _).out.mono ?_
      rintro e w6 ⟨rfl, k6⟩
      have p1 := k6.some p1
      have p2 := k6.some p2
      have p3 := k6.some p3
      have p4 := k6.some p4
      have q1 := k6.some q1
      have q2 := k6.some q2
      have q3 := k6.some q3
      have q4 := k6.some q4
      have KQ := Lib.hid (KQ.out.trans (Kept.trans (b := _) (by first | exact Kept.refl _ | (go_light; repeat (first | (with_reducible exact Kept.refl _) | (with_reducible assumption) | (with_reducible refine Kept.alloc ?_ _ _) | (with_reducible refine Kept.drew ?_) | (with_reducible refine Kept.drewN ?_ _) | ((with_reducible refine Kept.setCell ?_ ?_ _); rotate_left; focus (first | (simp; done) | (simp; omega))) | refine Kept.trans ?_ (by assumption)))) k6))
      have lx1 := lt_of_cell p1
      have ly1 := lt_of_cell p3
      have lx2 := lt_of_cell q1
      have ly2 := lt_of_cell q3
      clear k6
      go_wp2_with fail
      refine (Hgt _).out.mono ?_
      rintro e w7 ⟨rfl, k7⟩
      have p1 := k7.some p1
      have p2 := k7.some p2
      have p3 := k7.some p3
      have p4 := k7.some p4
      have q1 := k7.some q1
      have q2 := k7.some q2
      have q3 := k7.some q3
      have q4 := k7.some q4
      have KQ := Lib.hid (KQ.out.trans (Kept.trans (b := _) (by first | exact Kept.refl _ | (go_light; repeat (first | (with_reducible exact Kept.refl _) | (with_reducible assumption) | (with_reducible refine Kept.alloc ?_ _ _) | (with_reducible refine Kept.drew ?_) | (with_reducible refine Kept.drewN ?_ _) | ((with_reducible refine Kept.setCell ?_ ?_ _); rotate_left; focus (first | (simp; done) | (simp; omega))) | refine Kept.trans ?_ (by assumption)))) k7))
      have lx1 := lt_of_cell p1
      have ly1 := lt_of_cell p3
      have lx2 := lt_of_cell q1
      have ly2 := lt_of_cell q3
      clear k7
      go_wp2_with fail
      refine (Hgv _).out.mono ?_
      rintro e w8 ⟨rfl, k8⟩
      have p1 := k8.some p1
      have p2 := k8.some p2
      have p3 := k8.some p3
      have p4 := k8.some p4
      have q1 := k8.some q1
      have q2 := k8.some q2
      have q3 := k8.some q3
      have q4 := k8.some q4
      have KQ := Lib.hid (KQ.out.trans (Kept.trans (b := _) (by first | exact Kept.refl _ | (go_light; repeat (first | (with_reducible exact Kept.refl _) | (with_reducible assumption) | (with_reducible refine Kept.alloc ?_ _ _) | (with_reducible refine Kept.drew ?_) | (with_reducible refine Kept.drewN ?_ _) | ((with_reducible refine Kept.setCell ?_ ?_ _); rotate_left; focus (first | (simp; done) | (simp; omega))) | refine Kept.trans ?_ (by assumption)))) k8))
      have lx1 := lt_of_cell p1
      have ly1 := lt_of_cell p3
      have lx2 := lt_of_cell q1
      have ly2 := lt_of_cell q3
      clear k8
      go_wp2_with fail
      refine (Hwl _).out.mono ?_
      rintro e w9 ⟨rfl, k9⟩
      have p1 := k9.some p1
      have p2 := k9.some p2
      have p3 := k9.some p3
      have p4 := k9.some p4
      have q1 := k9.some q1
      have q2 := k9.some q2
      have q3 := k9.some q3
      have q4 := k9.some q4
      have KQ := Lib.hid (KQ.out.trans (Kept.trans (b := _) (by first | exact Kept.refl _ | (go_light; repeat (first | (with_reducible exact Kept.refl _) | (with_reducible assumption) | (with_reducible refine Kept.alloc ?_ _ _) | (with_reducible refine Kept.drew ?_) | (with_reducible refine Kept.drewN ?_ _) | ((with_reducible refine Kept.setCell ?_ ?_ _); rotate_left; focus (first | (simp; done) | (simp; omega))) | refine Kept.trans ?_ (by assumption)))) k9))
      have lx1 := lt_of_cell p1
      have ly1 := lt_of_cell p3
      have lx2 := lt_of_cell q1
      have ly2 := lt_of_cell q3
      clear k9
      go_wp2_with fail
      refine (Hwt _).out.mono ?_
      rintro e w10 ⟨rfl, k10⟩
      have p1 := k10.some p1
      have p2 := k10.some p2
      have p3 := k10.some p3
      have p4 := k10.some p4
      have q1 := k10.some q1
      have q2 := k10.some q2
      have q3 := k10.some q3
      have q4 := k10.some q4
      have KQ := Lib.hid (KQ.out.trans (Kept.trans (b := _) (by first | exact Kept.refl _ | (go_light; repeat (first | (with_reducible exact Kept.refl _) | (with_reducible assumption) | (with_reducible refine Kept.alloc ?_ _ _) | (with_reducible refine Kept.drew ?_) | (with_reducible refine Kept.drewN ?_ _) | ((with_reducible refine Kept.setCell ?_ ?_ _); rotate_left; focus (first | (simp; done) | (simp; omega))) | refine Kept.trans ?_ (by assumption)))) k10))
      have lx1 := lt_of_cell p1
      have ly1 := lt_of_cell p3
      have lx2 := lt_of_cell q1
      have ly2 := lt_of_cell q3
      clear k10
      go_wp2
      go_ret
      have kk := KQ.out
      exact ⟨rfl, Kept.trans kk (by (go_light; repeat (first | (with_reducible exact Kept.refl _) | (with_reducible assumption) | (with_reducible refine Kept.alloc ?_ _ _) | (with_reducible refine Kept.drew ?_) | (with_reducible refine Kept.drewN ?_ _) | ((with_reducible refine Kept.setCell ?_ ?_ _); rotate_left; focus (first | (simp; done) | (simp; omega))) | refine Kept.trans ?_ (by assumption))))⟩

theorem pfitsA_any (A : Arn) (n : Int) (w : World) : Calls Tryz.prog 144 #[.agg #[.int .i64 A.F.T, .int .i64 A.F.K, .int .i64 A.F.N, .int .i64 A.G, .int .i64 A.V, .int .i64 A.L], .int .i64 n] w fun e w' => e = .returned (.int .i64 (fitsA A n)) ∧ Kept w w' := by
  by_cases h : fitsE A.F n = 0
  · obtain ⟨hS, n0, n1⟩ := fitsE_ok h
    have e0 : ∀ {v : Int}, (badA A n → v = 2) → (¬ badA A n → v = 0) → fitsA A n = v := fun {v} h1 h2 => by
      unfold fitsA
      rw [if_neg (by omega)]
      by_cases hb : badA A n
      · rw [if_pos hb, h1 hb]
      · rw [if_neg hb, h2 hb]
    have E2 : badA A n → fitsA A n = 2 := fun hb => e0 (fun _ => rfl) (fun h => absurd hb h)
    have E0 : ¬ badA A n → fitsA A n = 0 := fun hb => e0 (fun h => absurd h hb) (fun _ => rfl)
    by_cases l1 : A.L < 1
    · rw [E2 (by unfold badA; omega)]; exact f_L1 A n w hS n0 n1 h l1
    by_cases l2 : 4294967295 < A.L
    · rw [E2 (by unfold badA; omega)]; exact f_L2 A n w hS n0 n1 h l2
    have L1 : 1 ≤ A.L := by omega
    have L2 : A.L ≤ 4294967295 := by omega
    by_cases gw : 0 ≤ A.G ∧ A.G ≤ n - A.F.N
    case neg => rw [E2 (by unfold badA; omega)]; exact f_gw A n w hS n0 n1 h L1 L2  (by omega)
    by_cases ww : 0 ≤ A.V ∧ A.V ≤ n - 1
    case neg => rw [E2 (by unfold badA; omega)]; exact f_ww A n w hS n0 n1 h L1 L2 gw (by omega)
    by_cases gl : Meet A.G A.F.N A.F.K A.F.N
    case pos => rw [E2 (by unfold badA; simp [gl])]; exact f_gl A n w hS n0 n1 h L1 L2 gw ww gl
    by_cases gt : Meet A.G A.F.N A.F.T 1
    case pos => rw [E2 (by unfold badA; simp [gt])]; exact f_gt A n w hS n0 n1 h L1 L2 gw ww gl gt
    by_cases gv : Meet A.G A.F.N A.V 1
    case pos => rw [E2 (by unfold badA; simp [gv])]; exact f_gv A n w hS n0 n1 h L1 L2 gw ww gl gt gv
    by_cases wl : Meet A.V 1 A.F.K A.F.N
    case pos => rw [E2 (by unfold badA; simp [wl])]; exact f_wl A n w hS n0 n1 h L1 L2 gw ww gl gt gv wl
    by_cases wt : Meet A.V 1 A.F.T 1
    case pos => rw [E2 (by unfold badA; simp [wt])]; exact f_wt A n w hS n0 n1 h L1 L2 gw ww gl gt gv wl wt
    rw [E0 (by unfold badA; simp only [gl, gt, gv, wl, wt, or_false]; omega)]; exact f_ok A n w hS n0 n1 h L1 L2 gw ww gl gt gv wl wt
  · have e : fitsA A n = fitsE A.F n := by unfold fitsA; rw [if_pos h]
    rw [e]; exact fitsA_err A n w h
end Go.Proofs.YtejiogggocnldaaGreat.Sk
