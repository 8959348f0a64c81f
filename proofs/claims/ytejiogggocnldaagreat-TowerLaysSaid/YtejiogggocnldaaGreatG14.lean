/- Fits and Fill: the program's and the document's. Written by gen12f.py. -/
import Derived.Test.YtejiogggocnldaaGreatG12
import Derived.Test.YtejiogggocnldaaGreatG00
import Derived.Lib.Hide
import Derived.Deep.Light
set_option linter.unusedVariables false
set_option linter.unusedSimpArgs false

namespace Go.Proofs.YtejiogggocnldaaGreat.Ep
set_option maxRecDepth 20000
open Go.RowKit
open Wo (St acc wordAt)
open Sk (Stk Wd)

def fitsE (S : Stk) (n : Int) : Int :=
  if n < 1 ∨ 4096 < n then 3
  else if S.N < 1 ∨ 64 < S.N ∨ S.T < 0 ∨ n ≤ S.T ∨ S.K < 0 ∨ n - S.N < S.K ∨ (S.K ≤ S.T ∧ S.T < S.K + S.N) then 2 else 0
theorem fitsE_ok {S : Stk} {n : Int} (h : fitsE S n = 0) : S.Ok n.toNat ∧ S.N ≤ 64 ∧ 1 ≤ n ∧ n ≤ 4096 := by
  unfold fitsE at h
  split at h
  · omega
  · split at h
    · omega
    · exact ⟨⟨by omega, by omega, by omega, by omega, by omega, by omega, by omega, by omega, by omega⟩, by omega, by omega, by omega⟩
theorem fitsE_is (S : Stk) (n : Int) : fitsE S n = 0 ∨ fitsE S n = 2 ∨ fitsE S n = 3 := by
  unfold fitsE
  split
  · simp
  · split <;> simp

set_option maxHeartbeats 400000 in
theorem sized_yes (S : Stk) (w : World) (h0 : 1 ≤ S.N) (h1 : S.N ≤ 64) : Calls Tryz.prog 191 #[.agg #[.int .i64 S.T, .int .i64 S.K, .int .i64 S.N]] w fun e w' => e = .returned (.bool true) ∧ Kept w w' := by
  go_enter Tryz.func191, Tryz.ntmps191
  go_wp2
  go_ret
  exact ⟨rfl, by (go_light; repeat (first | (with_reducible exact Kept.refl _) | (with_reducible assumption) | (with_reducible refine Kept.alloc ?_ _ _) | (with_reducible refine Kept.drew ?_) | (with_reducible refine Kept.drewN ?_ _) | ((with_reducible refine Kept.setCell ?_ ?_ _); rotate_left; focus (first | (simp; done) | (simp; omega))) | refine Kept.trans ?_ (by assumption)))⟩
set_option maxHeartbeats 400000 in
theorem sized_no (S : Stk) (w : World) (h : S.N < 1 ∨ 64 < S.N) : Calls Tryz.prog 191 #[.agg #[.int .i64 S.T, .int .i64 S.K, .int .i64 S.N]] w fun e w' => e = .returned (.bool false) ∧ Kept w w' := by
  rcases h with h | h
  · go_enter Tryz.func191, Tryz.ntmps191
    go_wp2
    go_ret
    exact ⟨rfl, by (go_light; repeat (first | (with_reducible exact Kept.refl _) | (with_reducible assumption) | (with_reducible refine Kept.alloc ?_ _ _) | (with_reducible refine Kept.drew ?_) | (with_reducible refine Kept.drewN ?_ _) | ((with_reducible refine Kept.setCell ?_ ?_ _); rotate_left; focus (first | (simp; done) | (simp; omega))) | refine Kept.trans ?_ (by assumption)))⟩
  · have h0 : 1 ≤ S.N := by omega
    have h2 : decide (S.N ≤ 64) = false := by simp; omega
    go_enter Tryz.func191, Tryz.ntmps191
    go_wp2
    go_ret
    exact ⟨rfl, by (go_light; repeat (first | (with_reducible exact Kept.refl _) | (with_reducible assumption) | (with_reducible refine Kept.alloc ?_ _ _) | (with_reducible refine Kept.drew ?_) | (with_reducible refine Kept.drewN ?_ _) | ((with_reducible refine Kept.setCell ?_ ?_ _); rotate_left; focus (first | (simp; done) | (simp; omega))) | refine Kept.trans ?_ (by assumption)))⟩
set_option maxHeartbeats 1000000 in
theorem pfits_n1 (S : Stk) (n : Int) (w : World) (c0 : n < 1) : Calls Tryz.prog 145 #[.agg #[.int .i64 S.T, .int .i64 S.K, .int .i64 S.N], .int .i64 n] w fun e w' => e = .returned (.int .i64 3) ∧ Kept w w' := by
  go_enter Tryz.func145, Tryz.ntmps145
  go_wp2
  go_ret
  exact ⟨rfl, by (go_light; repeat (first | (with_reducible exact Kept.refl _) | (with_reducible assumption) | (with_reducible refine Kept.alloc ?_ _ _) | (with_reducible refine Kept.drew ?_) | (with_reducible refine Kept.drewN ?_ _) | ((with_reducible refine Kept.setCell ?_ ?_ _); rotate_left; focus (first | (simp; done) | (simp; omega))) | refine Kept.trans ?_ (by assumption)))⟩
set_option maxHeartbeats 1000000 in
theorem pfits_n2 (S : Stk) (n : Int) (w : World) (c0 : 1 ≤ n) (c1 : 4096 < n) : Calls Tryz.prog 145 #[.agg #[.int .i64 S.T, .int .i64 S.K, .int .i64 S.N], .int .i64 n] w fun e w' => e = .returned (.int .i64 3) ∧ Kept w w' := by
  go_enter Tryz.func145, Tryz.ntmps145
  go_wp2
  go_ret
  exact ⟨rfl, by (go_light; repeat (first | (with_reducible exact Kept.refl _) | (with_reducible assumption) | (with_reducible refine Kept.alloc ?_ _ _) | (with_reducible refine Kept.drew ?_) | (with_reducible refine Kept.drewN ?_ _) | ((with_reducible refine Kept.setCell ?_ ?_ _); rotate_left; focus (first | (simp; done) | (simp; omega))) | refine Kept.trans ?_ (by assumption)))⟩
set_option maxHeartbeats 1000000 in
theorem pfits_N1 (S : Stk) (n : Int) (w : World) (c0 : 1 ≤ n) (c1 : n ≤ 4096) (c2 : S.N < 1) : Calls Tryz.prog 145 #[.agg #[.int .i64 S.T, .int .i64 S.K, .int .i64 S.N], .int .i64 n] w fun e w' => e = .returned (.int .i64 2) ∧ Kept w w' := by
  go_enter Tryz.func145, Tryz.ntmps145
  go_wp2_with fail
  refine (sized_no S _ (by omega)).mono ?_
  rintro e w1 ⟨rfl, k1⟩
  have a0 : w1.cell? ⟨w.heap.size, 0, none⟩ = some (.int .i64 S.T) := k1.some (by simp)
  have a1 : w1.cell? ⟨w.heap.size, 1, none⟩ = some (.int .i64 S.K) := k1.some (by simp)
  have a2 : w1.cell? ⟨w.heap.size, 2, none⟩ = some (.int .i64 S.N) := k1.some (by simp)
  go_wp2
  go_ret
  exact ⟨rfl, by (go_light; repeat (first | (with_reducible exact Kept.refl _) | (with_reducible assumption) | (with_reducible refine Kept.alloc ?_ _ _) | (with_reducible refine Kept.drew ?_) | (with_reducible refine Kept.drewN ?_ _) | ((with_reducible refine Kept.setCell ?_ ?_ _); rotate_left; focus (first | (simp; done) | (simp; omega))) | refine Kept.trans ?_ (by assumption)))⟩
set_option maxHeartbeats 1000000 in
theorem pfits_N2 (S : Stk) (n : Int) (w : World) (c0 : 1 ≤ n) (c1 : n ≤ 4096) (c2 : 1 ≤ S.N) (c3 : 64 < S.N) : Calls Tryz.prog 145 #[.agg #[.int .i64 S.T, .int .i64 S.K, .int .i64 S.N], .int .i64 n] w fun e w' => e = .returned (.int .i64 2) ∧ Kept w w' := by
  go_enter Tryz.func145, Tryz.ntmps145
  go_wp2_with fail
  refine (sized_no S _ (by omega)).mono ?_
  rintro e w1 ⟨rfl, k1⟩
  have a0 : w1.cell? ⟨w.heap.size, 0, none⟩ = some (.int .i64 S.T) := k1.some (by simp)
  have a1 : w1.cell? ⟨w.heap.size, 1, none⟩ = some (.int .i64 S.K) := k1.some (by simp)
  have a2 : w1.cell? ⟨w.heap.size, 2, none⟩ = some (.int .i64 S.N) := k1.some (by simp)
  go_wp2
  go_ret
  exact ⟨rfl, by (go_light; repeat (first | (with_reducible exact Kept.refl _) | (with_reducible assumption) | (with_reducible refine Kept.alloc ?_ _ _) | (with_reducible refine Kept.drew ?_) | (with_reducible refine Kept.drewN ?_ _) | ((with_reducible refine Kept.setCell ?_ ?_ _); rotate_left; focus (first | (simp; done) | (simp; omega))) | refine Kept.trans ?_ (by assumption)))⟩
set_option maxHeartbeats 1000000 in
theorem pfits_T1 (S : Stk) (n : Int) (w : World) (c0 : 1 ≤ n) (c1 : n ≤ 4096) (c2 : 1 ≤ S.N) (c3 : S.N ≤ 64) (c4 : S.T < 0) : Calls Tryz.prog 145 #[.agg #[.int .i64 S.T, .int .i64 S.K, .int .i64 S.N], .int .i64 n] w fun e w' => e = .returned (.int .i64 2) ∧ Kept w w' := by
  go_enter Tryz.func145, Tryz.ntmps145
  go_wp2_with fail
  refine (sized_yes S _ c2 c3).mono ?_
  rintro e w1 ⟨rfl, k1⟩
  have a0 : w1.cell? ⟨w.heap.size, 0, none⟩ = some (.int .i64 S.T) := k1.some (by simp)
  have a1 : w1.cell? ⟨w.heap.size, 1, none⟩ = some (.int .i64 S.K) := k1.some (by simp)
  have a2 : w1.cell? ⟨w.heap.size, 2, none⟩ = some (.int .i64 S.N) := k1.some (by simp)
  go_wp2
  go_ret
  exact ⟨rfl, by (go_light; repeat (first | (with_reducible exact Kept.refl _) | (with_reducible assumption) | (with_reducible refine Kept.alloc ?_ _ _) | (with_reducible refine Kept.drew ?_) | (with_reducible refine Kept.drewN ?_ _) | ((with_reducible refine Kept.setCell ?_ ?_ _); rotate_left; focus (first | (simp; done) | (simp; omega))) | refine Kept.trans ?_ (by assumption)))⟩
set_option maxHeartbeats 1000000 in
theorem pfits_T2 (S : Stk) (n : Int) (w : World) (c0 : 1 ≤ n) (c1 : n ≤ 4096) (c2 : 1 ≤ S.N) (c3 : S.N ≤ 64) (c4 : 0 ≤ S.T) (c5 : n ≤ S.T) : Calls Tryz.prog 145 #[.agg #[.int .i64 S.T, .int .i64 S.K, .int .i64 S.N], .int .i64 n] w fun e w' => e = .returned (.int .i64 2) ∧ Kept w w' := by
  go_enter Tryz.func145, Tryz.ntmps145
  go_wp2_with fail
  refine (sized_yes S _ c2 c3).mono ?_
  rintro e w1 ⟨rfl, k1⟩
  have a0 : w1.cell? ⟨w.heap.size, 0, none⟩ = some (.int .i64 S.T) := k1.some (by simp)
  have a1 : w1.cell? ⟨w.heap.size, 1, none⟩ = some (.int .i64 S.K) := k1.some (by simp)
  have a2 : w1.cell? ⟨w.heap.size, 2, none⟩ = some (.int .i64 S.N) := k1.some (by simp)
  go_wp2
  go_ret
  exact ⟨rfl, by (go_light; repeat (first | (with_reducible exact Kept.refl _) | (with_reducible assumption) | (with_reducible refine Kept.alloc ?_ _ _) | (with_reducible refine Kept.drew ?_) | (with_reducible refine Kept.drewN ?_ _) | ((with_reducible refine Kept.setCell ?_ ?_ _); rotate_left; focus (first | (simp; done) | (simp; omega))) | refine Kept.trans ?_ (by assumption)))⟩
set_option maxHeartbeats 1000000 in
theorem pfits_K1 (S : Stk) (n : Int) (w : World) (c0 : 1 ≤ n) (c1 : n ≤ 4096) (c2 : 1 ≤ S.N) (c3 : S.N ≤ 64) (c4 : 0 ≤ S.T) (c5 : S.T < n) (c6 : S.K < 0) : Calls Tryz.prog 145 #[.agg #[.int .i64 S.T, .int .i64 S.K, .int .i64 S.N], .int .i64 n] w fun e w' => e = .returned (.int .i64 2) ∧ Kept w w' := by
  go_enter Tryz.func145, Tryz.ntmps145
  go_wp2_with fail
  refine (sized_yes S _ c2 c3).mono ?_
  rintro e w1 ⟨rfl, k1⟩
  have a0 : w1.cell? ⟨w.heap.size, 0, none⟩ = some (.int .i64 S.T) := k1.some (by simp)
  have a1 : w1.cell? ⟨w.heap.size, 1, none⟩ = some (.int .i64 S.K) := k1.some (by simp)
  have a2 : w1.cell? ⟨w.heap.size, 2, none⟩ = some (.int .i64 S.N) := k1.some (by simp)
  go_wp2
  go_ret
  exact ⟨rfl, by (go_light; repeat (first | (with_reducible exact Kept.refl _) | (with_reducible assumption) | (with_reducible refine Kept.alloc ?_ _ _) | (with_reducible refine Kept.drew ?_) | (with_reducible refine Kept.drewN ?_ _) | ((with_reducible refine Kept.setCell ?_ ?_ _); rotate_left; focus (first | (simp; done) | (simp; omega))) | refine Kept.trans ?_ (by assumption)))⟩
set_option maxHeartbeats 1000000 in
theorem pfits_K2 (S : Stk) (n : Int) (w : World) (c0 : 1 ≤ n) (c1 : n ≤ 4096) (c2 : 1 ≤ S.N) (c3 : S.N ≤ 64) (c4 : 0 ≤ S.T) (c5 : S.T < n) (c6 : 0 ≤ S.K) (c7 : n - S.N < S.K) : Calls Tryz.prog 145 #[.agg #[.int .i64 S.T, .int .i64 S.K, .int .i64 S.N], .int .i64 n] w fun e w' => e = .returned (.int .i64 2) ∧ Kept w w' := by
  go_enter Tryz.func145, Tryz.ntmps145
  go_wp2_with fail
  refine (sized_yes S _ c2 c3).mono ?_
  rintro e w1 ⟨rfl, k1⟩
  have a0 : w1.cell? ⟨w.heap.size, 0, none⟩ = some (.int .i64 S.T) := k1.some (by simp)
  have a1 : w1.cell? ⟨w.heap.size, 1, none⟩ = some (.int .i64 S.K) := k1.some (by simp)
  have a2 : w1.cell? ⟨w.heap.size, 2, none⟩ = some (.int .i64 S.N) := k1.some (by simp)
  go_wp2
  go_ret
  exact ⟨rfl, by (go_light; repeat (first | (with_reducible exact Kept.refl _) | (with_reducible assumption) | (with_reducible refine Kept.alloc ?_ _ _) | (with_reducible refine Kept.drew ?_) | (with_reducible refine Kept.drewN ?_ _) | ((with_reducible refine Kept.setCell ?_ ?_ _); rotate_left; focus (first | (simp; done) | (simp; omega))) | refine Kept.trans ?_ (by assumption)))⟩
set_option maxHeartbeats 1000000 in
theorem pfits_ap (S : Stk) (n : Int) (w : World) (c0 : 1 ≤ n) (c1 : n ≤ 4096) (c2 : 1 ≤ S.N) (c3 : S.N ≤ 64) (c4 : 0 ≤ S.T) (c5 : S.T < n) (c6 : 0 ≤ S.K) (c7 : S.K ≤ n - S.N) (c8 : S.K ≤ S.T) (c9 : S.T < S.K + S.N) : Calls Tryz.prog 145 #[.agg #[.int .i64 S.T, .int .i64 S.K, .int .i64 S.N], .int .i64 n] w fun e w' => e = .returned (.int .i64 2) ∧ Kept w w' := by
  go_enter Tryz.func145, Tryz.ntmps145
  go_wp2_with fail
  refine (sized_yes S _ c2 c3).mono ?_
  rintro e w1 ⟨rfl, k1⟩
  have a0 : w1.cell? ⟨w.heap.size, 0, none⟩ = some (.int .i64 S.T) := k1.some (by simp)
  have a1 : w1.cell? ⟨w.heap.size, 1, none⟩ = some (.int .i64 S.K) := k1.some (by simp)
  have a2 : w1.cell? ⟨w.heap.size, 2, none⟩ = some (.int .i64 S.N) := k1.some (by simp)
  go_wp2
  go_ret
  exact ⟨rfl, by (go_light; repeat (first | (with_reducible exact Kept.refl _) | (with_reducible assumption) | (with_reducible refine Kept.alloc ?_ _ _) | (with_reducible refine Kept.drew ?_) | (with_reducible refine Kept.drewN ?_ _) | ((with_reducible refine Kept.setCell ?_ ?_ _); rotate_left; focus (first | (simp; done) | (simp; omega))) | refine Kept.trans ?_ (by assumption)))⟩
set_option maxHeartbeats 1000000 in
theorem pfits_lo (S : Stk) (n : Int) (w : World) (c0 : 1 ≤ n) (c1 : n ≤ 4096) (c2 : 1 ≤ S.N) (c3 : S.N ≤ 64) (c4 : 0 ≤ S.T) (c5 : S.T < n) (c6 : 0 ≤ S.K) (c7 : S.K ≤ n - S.N) (c8 : S.T < S.K) : Calls Tryz.prog 145 #[.agg #[.int .i64 S.T, .int .i64 S.K, .int .i64 S.N], .int .i64 n] w fun e w' => e = .returned (.int .i64 0) ∧ Kept w w' := by
  go_enter Tryz.func145, Tryz.ntmps145
  go_wp2_with fail
  refine (sized_yes S _ c2 c3).mono ?_
  rintro e w1 ⟨rfl, k1⟩
  have a0 : w1.cell? ⟨w.heap.size, 0, none⟩ = some (.int .i64 S.T) := k1.some (by simp)
  have a1 : w1.cell? ⟨w.heap.size, 1, none⟩ = some (.int .i64 S.K) := k1.some (by simp)
  have a2 : w1.cell? ⟨w.heap.size, 2, none⟩ = some (.int .i64 S.N) := k1.some (by simp)
  go_wp2
  go_ret
  exact ⟨rfl, by (go_light; repeat (first | (with_reducible exact Kept.refl _) | (with_reducible assumption) | (with_reducible refine Kept.alloc ?_ _ _) | (with_reducible refine Kept.drew ?_) | (with_reducible refine Kept.drewN ?_ _) | ((with_reducible refine Kept.setCell ?_ ?_ _); rotate_left; focus (first | (simp; done) | (simp; omega))) | refine Kept.trans ?_ (by assumption)))⟩
set_option maxHeartbeats 1000000 in
theorem pfits_hi (S : Stk) (n : Int) (w : World) (c0 : 1 ≤ n) (c1 : n ≤ 4096) (c2 : 1 ≤ S.N) (c3 : S.N ≤ 64) (c4 : 0 ≤ S.T) (c5 : S.T < n) (c6 : 0 ≤ S.K) (c7 : S.K ≤ n - S.N) (c8 : S.K ≤ S.T) (c9 : S.K + S.N ≤ S.T) : Calls Tryz.prog 145 #[.agg #[.int .i64 S.T, .int .i64 S.K, .int .i64 S.N], .int .i64 n] w fun e w' => e = .returned (.int .i64 0) ∧ Kept w w' := by
  go_enter Tryz.func145, Tryz.ntmps145
  go_wp2_with fail
  refine (sized_yes S _ c2 c3).mono ?_
  rintro e w1 ⟨rfl, k1⟩
  have a0 : w1.cell? ⟨w.heap.size, 0, none⟩ = some (.int .i64 S.T) := k1.some (by simp)
  have a1 : w1.cell? ⟨w.heap.size, 1, none⟩ = some (.int .i64 S.K) := k1.some (by simp)
  have a2 : w1.cell? ⟨w.heap.size, 2, none⟩ = some (.int .i64 S.N) := k1.some (by simp)
  go_wp2
  go_ret
  exact ⟨rfl, by (go_light; repeat (first | (with_reducible exact Kept.refl _) | (with_reducible assumption) | (with_reducible refine Kept.alloc ?_ _ _) | (with_reducible refine Kept.drew ?_) | (with_reducible refine Kept.drewN ?_ _) | ((with_reducible refine Kept.setCell ?_ ?_ _); rotate_left; focus (first | (simp; done) | (simp; omega))) | refine Kept.trans ?_ (by assumption)))⟩
theorem pfits_any (S : Stk) (n : Int) (w : World) : Calls Tryz.prog 145 #[.agg #[.int .i64 S.T, .int .i64 S.K, .int .i64 S.N], .int .i64 n] w fun e w' => e = .returned (.int .i64 (fitsE S n)) ∧ Kept w w' := by
  have E : ∀ {v : Int}, fitsE S n = v → (Calls Tryz.prog 145 #[.agg #[.int .i64 S.T, .int .i64 S.K, .int .i64 S.N], .int .i64 n] w fun e w' => e = .returned (.int .i64 v) ∧ Kept w w') → (Calls Tryz.prog 145 #[.agg #[.int .i64 S.T, .int .i64 S.K, .int .i64 S.N], .int .i64 n] w fun e w' => e = .returned (.int .i64 (fitsE S n)) ∧ Kept w w') := fun h k => h ▸ k
  by_cases x0 : n < 1
  · exact E (by unfold fitsE; rw [if_pos (by omega)]) (pfits_n1 S n w (by omega))
  by_cases x1 : 4096 < n
  · exact E (by unfold fitsE; rw [if_pos (by omega)]) (pfits_n2 S n w (by omega) (by omega))
  by_cases x2 : S.N < 1
  · exact E (by unfold fitsE; rw [if_neg (by omega), if_pos (by omega)]) (pfits_N1 S n w (by omega) (by omega) (by omega))
  by_cases x3 : 64 < S.N
  · exact E (by unfold fitsE; rw [if_neg (by omega), if_pos (by omega)]) (pfits_N2 S n w (by omega) (by omega) (by omega) (by omega))
  by_cases x4 : S.T < 0
  · exact E (by unfold fitsE; rw [if_neg (by omega), if_pos (by omega)]) (pfits_T1 S n w (by omega) (by omega) (by omega) (by omega) (by omega))
  by_cases x5 : n ≤ S.T
  · exact E (by unfold fitsE; rw [if_neg (by omega), if_pos (by omega)]) (pfits_T2 S n w (by omega) (by omega) (by omega) (by omega) (by omega) (by omega))
  by_cases x6 : S.K < 0
  · exact E (by unfold fitsE; rw [if_neg (by omega), if_pos (by omega)]) (pfits_K1 S n w (by omega) (by omega) (by omega) (by omega) (by omega) (by omega) (by omega))
  by_cases x7 : n - S.N < S.K
  · exact E (by unfold fitsE; rw [if_neg (by omega), if_pos (by omega)]) (pfits_K2 S n w (by omega) (by omega) (by omega) (by omega) (by omega) (by omega) (by omega) (by omega))
  by_cases x8 : S.K ≤ S.T
  · by_cases x9 : S.T < S.K + S.N
    · exact E (by unfold fitsE; rw [if_neg (by omega), if_pos (by omega)]) (pfits_ap S n w (by omega) (by omega) (by omega) (by omega) (by omega) (by omega) (by omega) (by omega) (by omega) (by omega))
    · exact E (by unfold fitsE; rw [if_neg (by omega), if_neg (by omega)]) (pfits_hi S n w (by omega) (by omega) (by omega) (by omega) (by omega) (by omega) (by omega) (by omega) (by omega) (by omega))
  · exact E (by unfold fitsE; rw [if_neg (by omega), if_neg (by omega)]) (pfits_lo S n w (by omega) (by omega) (by omega) (by omega) (by omega) (by omega) (by omega) (by omega) (by omega))
set_option maxHeartbeats 400000 in
theorem many_yes (n : Int) (w : World) (h0 : 1 ≤ n) (h1 : n ≤ 64) : Calls Tryz.prog 194 #[.int .i64 n] w fun e w' => e = .returned (.bool true) ∧ w = w' := by
  go_enter Tryz.func194, Tryz.ntmps194
  go_wp2
  go_ret
  exact ⟨rfl, rfl⟩
set_option maxHeartbeats 400000 in
theorem many_no (n : Int) (w : World) (h : n < 1 ∨ 64 < n) : Calls Tryz.prog 194 #[.int .i64 n] w fun e w' => e = .returned (.bool false) ∧ w = w' := by
  rcases h with h | h
  · go_enter Tryz.func194, Tryz.ntmps194
    go_wp2
    go_ret
    exact ⟨rfl, rfl⟩
  · have h0 : 1 ≤ n := by omega
    have h2 : decide (n ≤ 64) = false := by simp; omega
    go_enter Tryz.func194, Tryz.ntmps194
    go_wp2
    go_ret
    exact ⟨rfl, rfl⟩
set_option maxHeartbeats 1000000 in
theorem rfits_n1 (S : Stk) (n : Int) (w : World) (c0 : n < 1) : Calls Tryz.prog 155 #[.agg #[.int .i64 S.T, .int .i64 S.K, .int .i64 S.N], .int .i64 n] w fun e w' => e = .returned (.int .i64 3) ∧ Kept w w' := by
  go_enter Tryz.func155, Tryz.ntmps155
  go_wp2
  go_ret
  exact ⟨rfl, by (go_light; repeat (first | (with_reducible exact Kept.refl _) | (with_reducible assumption) | (with_reducible refine Kept.alloc ?_ _ _) | (with_reducible refine Kept.drew ?_) | (with_reducible refine Kept.drewN ?_ _) | ((with_reducible refine Kept.setCell ?_ ?_ _); rotate_left; focus (first | (simp; done) | (simp; omega))) | refine Kept.trans ?_ (by assumption)))⟩
set_option maxHeartbeats 1000000 in
theorem rfits_n2 (S : Stk) (n : Int) (w : World) (c0 : 1 ≤ n) (c1 : 4096 < n) : Calls Tryz.prog 155 #[.agg #[.int .i64 S.T, .int .i64 S.K, .int .i64 S.N], .int .i64 n] w fun e w' => e = .returned (.int .i64 3) ∧ Kept w w' := by
  go_enter Tryz.func155, Tryz.ntmps155
  go_wp2
  go_ret
  exact ⟨rfl, by (go_light; repeat (first | (with_reducible exact Kept.refl _) | (with_reducible assumption) | (with_reducible refine Kept.alloc ?_ _ _) | (with_reducible refine Kept.drew ?_) | (with_reducible refine Kept.drewN ?_ _) | ((with_reducible refine Kept.setCell ?_ ?_ _); rotate_left; focus (first | (simp; done) | (simp; omega))) | refine Kept.trans ?_ (by assumption)))⟩
set_option maxHeartbeats 1000000 in
theorem rfits_N1 (S : Stk) (n : Int) (w : World) (c0 : 1 ≤ n) (c1 : n ≤ 4096) (c2 : S.N < 1) : Calls Tryz.prog 155 #[.agg #[.int .i64 S.T, .int .i64 S.K, .int .i64 S.N], .int .i64 n] w fun e w' => e = .returned (.int .i64 2) ∧ Kept w w' := by
  go_enter Tryz.func155, Tryz.ntmps155
  go_wp2_with fail
  refine (many_no S.N _ (by omega)).mono ?_
  rintro e w1 ⟨rfl, rfl⟩
  go_wp2
  go_ret
  exact ⟨rfl, by (go_light; repeat (first | (with_reducible exact Kept.refl _) | (with_reducible assumption) | (with_reducible refine Kept.alloc ?_ _ _) | (with_reducible refine Kept.drew ?_) | (with_reducible refine Kept.drewN ?_ _) | ((with_reducible refine Kept.setCell ?_ ?_ _); rotate_left; focus (first | (simp; done) | (simp; omega))) | refine Kept.trans ?_ (by assumption)))⟩
set_option maxHeartbeats 1000000 in
theorem rfits_N2 (S : Stk) (n : Int) (w : World) (c0 : 1 ≤ n) (c1 : n ≤ 4096) (c2 : 1 ≤ S.N) (c3 : 64 < S.N) : Calls Tryz.prog 155 #[.agg #[.int .i64 S.T, .int .i64 S.K, .int .i64 S.N], .int .i64 n] w fun e w' => e = .returned (.int .i64 2) ∧ Kept w w' := by
  go_enter Tryz.func155, Tryz.ntmps155
  go_wp2_with fail
  refine (many_no S.N _ (by omega)).mono ?_
  rintro e w1 ⟨rfl, rfl⟩
  go_wp2
  go_ret
  exact ⟨rfl, by (go_light; repeat (first | (with_reducible exact Kept.refl _) | (with_reducible assumption) | (with_reducible refine Kept.alloc ?_ _ _) | (with_reducible refine Kept.drew ?_) | (with_reducible refine Kept.drewN ?_ _) | ((with_reducible refine Kept.setCell ?_ ?_ _); rotate_left; focus (first | (simp; done) | (simp; omega))) | refine Kept.trans ?_ (by assumption)))⟩
set_option maxHeartbeats 1000000 in
theorem rfits_T1 (S : Stk) (n : Int) (w : World) (c0 : 1 ≤ n) (c1 : n ≤ 4096) (c2 : 1 ≤ S.N) (c3 : S.N ≤ 64) (c4 : S.T < 0) : Calls Tryz.prog 155 #[.agg #[.int .i64 S.T, .int .i64 S.K, .int .i64 S.N], .int .i64 n] w fun e w' => e = .returned (.int .i64 2) ∧ Kept w w' := by
  go_enter Tryz.func155, Tryz.ntmps155
  go_wp2_with fail
  refine (many_yes S.N _ (by omega) (by omega)).mono ?_
  rintro e w1 ⟨rfl, rfl⟩
  go_wp2
  go_ret
  exact ⟨rfl, by (go_light; repeat (first | (with_reducible exact Kept.refl _) | (with_reducible assumption) | (with_reducible refine Kept.alloc ?_ _ _) | (with_reducible refine Kept.drew ?_) | (with_reducible refine Kept.drewN ?_ _) | ((with_reducible refine Kept.setCell ?_ ?_ _); rotate_left; focus (first | (simp; done) | (simp; omega))) | refine Kept.trans ?_ (by assumption)))⟩
set_option maxHeartbeats 1000000 in
theorem rfits_T2 (S : Stk) (n : Int) (w : World) (c0 : 1 ≤ n) (c1 : n ≤ 4096) (c2 : 1 ≤ S.N) (c3 : S.N ≤ 64) (c4 : 0 ≤ S.T) (c5 : n ≤ S.T) : Calls Tryz.prog 155 #[.agg #[.int .i64 S.T, .int .i64 S.K, .int .i64 S.N], .int .i64 n] w fun e w' => e = .returned (.int .i64 2) ∧ Kept w w' := by
  go_enter Tryz.func155, Tryz.ntmps155
  go_wp2_with fail
  refine (many_yes S.N _ (by omega) (by omega)).mono ?_
  rintro e w1 ⟨rfl, rfl⟩
  go_wp2
  go_ret
  exact ⟨rfl, by (go_light; repeat (first | (with_reducible exact Kept.refl _) | (with_reducible assumption) | (with_reducible refine Kept.alloc ?_ _ _) | (with_reducible refine Kept.drew ?_) | (with_reducible refine Kept.drewN ?_ _) | ((with_reducible refine Kept.setCell ?_ ?_ _); rotate_left; focus (first | (simp; done) | (simp; omega))) | refine Kept.trans ?_ (by assumption)))⟩
set_option maxHeartbeats 1000000 in
theorem rfits_K1 (S : Stk) (n : Int) (w : World) (c0 : 1 ≤ n) (c1 : n ≤ 4096) (c2 : 1 ≤ S.N) (c3 : S.N ≤ 64) (c4 : 0 ≤ S.T) (c5 : S.T < n) (c6 : S.K < 0) : Calls Tryz.prog 155 #[.agg #[.int .i64 S.T, .int .i64 S.K, .int .i64 S.N], .int .i64 n] w fun e w' => e = .returned (.int .i64 2) ∧ Kept w w' := by
  go_enter Tryz.func155, Tryz.ntmps155
  go_wp2_with fail
  refine (many_yes S.N _ (by omega) (by omega)).mono ?_
  rintro e w1 ⟨rfl, rfl⟩
  go_wp2
  go_ret
  exact ⟨rfl, by (go_light; repeat (first | (with_reducible exact Kept.refl _) | (with_reducible assumption) | (with_reducible refine Kept.alloc ?_ _ _) | (with_reducible refine Kept.drew ?_) | (with_reducible refine Kept.drewN ?_ _) | ((with_reducible refine Kept.setCell ?_ ?_ _); rotate_left; focus (first | (simp; done) | (simp; omega))) | refine Kept.trans ?_ (by assumption)))⟩
set_option maxHeartbeats 1000000 in
theorem rfits_K2 (S : Stk) (n : Int) (w : World) (c0 : 1 ≤ n) (c1 : n ≤ 4096) (c2 : 1 ≤ S.N) (c3 : S.N ≤ 64) (c4 : 0 ≤ S.T) (c5 : S.T < n) (c6 : 0 ≤ S.K) (c7 : n - S.N < S.K) : Calls Tryz.prog 155 #[.agg #[.int .i64 S.T, .int .i64 S.K, .int .i64 S.N], .int .i64 n] w fun e w' => e = .returned (.int .i64 2) ∧ Kept w w' := by
  go_enter Tryz.func155, Tryz.ntmps155
  go_wp2_with fail
  refine (many_yes S.N _ (by omega) (by omega)).mono ?_
  rintro e w1 ⟨rfl, rfl⟩
  go_wp2
  go_ret
  exact ⟨rfl, by (go_light; repeat (first | (with_reducible exact Kept.refl _) | (with_reducible assumption) | (with_reducible refine Kept.alloc ?_ _ _) | (with_reducible refine Kept.drew ?_) | (with_reducible refine Kept.drewN ?_ _) | ((with_reducible refine Kept.setCell ?_ ?_ _); rotate_left; focus (first | (simp; done) | (simp; omega))) | refine Kept.trans ?_ (by assumption)))⟩
set_option maxHeartbeats 1000000 in
theorem rfits_ap (S : Stk) (n : Int) (w : World) (c0 : 1 ≤ n) (c1 : n ≤ 4096) (c2 : 1 ≤ S.N) (c3 : S.N ≤ 64) (c4 : 0 ≤ S.T) (c5 : S.T < n) (c6 : 0 ≤ S.K) (c7 : S.K ≤ n - S.N) (c8 : S.K ≤ S.T) (c9 : S.T < S.K + S.N) : Calls Tryz.prog 155 #[.agg #[.int .i64 S.T, .int .i64 S.K, .int .i64 S.N], .int .i64 n] w fun e w' => e = .returned (.int .i64 2) ∧ Kept w w' := by
  go_enter Tryz.func155, Tryz.ntmps155
  go_wp2_with fail
  refine (many_yes S.N _ (by omega) (by omega)).mono ?_
  rintro e w1 ⟨rfl, rfl⟩
  go_wp2
  go_ret
  exact ⟨rfl, by (go_light; repeat (first | (with_reducible exact Kept.refl _) | (with_reducible assumption) | (with_reducible refine Kept.alloc ?_ _ _) | (with_reducible refine Kept.drew ?_) | (with_reducible refine Kept.drewN ?_ _) | ((with_reducible refine Kept.setCell ?_ ?_ _); rotate_left; focus (first | (simp; done) | (simp; omega))) | refine Kept.trans ?_ (by assumption)))⟩
set_option maxHeartbeats 1000000 in
theorem rfits_lo (S : Stk) (n : Int) (w : World) (c0 : 1 ≤ n) (c1 : n ≤ 4096) (c2 : 1 ≤ S.N) (c3 : S.N ≤ 64) (c4 : 0 ≤ S.T) (c5 : S.T < n) (c6 : 0 ≤ S.K) (c7 : S.K ≤ n - S.N) (c8 : S.T < S.K) : Calls Tryz.prog 155 #[.agg #[.int .i64 S.T, .int .i64 S.K, .int .i64 S.N], .int .i64 n] w fun e w' => e = .returned (.int .i64 0) ∧ Kept w w' := by
  go_enter Tryz.func155, Tryz.ntmps155
  go_wp2_with fail
  refine (many_yes S.N _ (by omega) (by omega)).mono ?_
  rintro e w1 ⟨rfl, rfl⟩
  go_wp2
  go_ret
  exact ⟨rfl, by (go_light; repeat (first | (with_reducible exact Kept.refl _) | (with_reducible assumption) | (with_reducible refine Kept.alloc ?_ _ _) | (with_reducible refine Kept.drew ?_) | (with_reducible refine Kept.drewN ?_ _) | ((with_reducible refine Kept.setCell ?_ ?_ _); rotate_left; focus (first | (simp; done) | (simp; omega))) | refine Kept.trans ?_ (by assumption)))⟩
set_option maxHeartbeats 1000000 in
theorem rfits_hi (S : Stk) (n : Int) (w : World) (c0 : 1 ≤ n) (c1 : n ≤ 4096) (c2 : 1 ≤ S.N) (c3 : S.N ≤ 64) (c4 : 0 ≤ S.T) (c5 : S.T < n) (c6 : 0 ≤ S.K) (c7 : S.K ≤ n - S.N) (c8 : S.K ≤ S.T) (c9 : S.K + S.N ≤ S.T) : Calls Tryz.prog 155 #[.agg #[.int .i64 S.T, .int .i64 S.K, .int .i64 S.N], .int .i64 n] w fun e w' => e = .returned (.int .i64 0) ∧ Kept w w' := by
  go_enter Tryz.func155, Tryz.ntmps155
  go_wp2_with fail
  refine (many_yes S.N _ (by omega) (by omega)).mono ?_
  rintro e w1 ⟨rfl, rfl⟩
  go_wp2
  go_ret
  exact ⟨rfl, by (go_light; repeat (first | (with_reducible exact Kept.refl _) | (with_reducible assumption) | (with_reducible refine Kept.alloc ?_ _ _) | (with_reducible refine Kept.drew ?_) | (with_reducible refine Kept.drewN ?_ _) | ((with_reducible refine Kept.setCell ?_ ?_ _); rotate_left; focus (first | (simp; done) | (simp; omega))) | refine Kept.trans ?_ (by assumption)))⟩
theorem rfits_any (S : Stk) (n : Int) (w : World) : Calls Tryz.prog 155 #[.agg #[.int .i64 S.T, .int .i64 S.K, .int .i64 S.N], .int .i64 n] w fun e w' => e = .returned (.int .i64 (fitsE S n)) ∧ Kept w w' := by
  have E : ∀ {v : Int}, fitsE S n = v → (Calls Tryz.prog 155 #[.agg #[.int .i64 S.T, .int .i64 S.K, .int .i64 S.N], .int .i64 n] w fun e w' => e = .returned (.int .i64 v) ∧ Kept w w') → (Calls Tryz.prog 155 #[.agg #[.int .i64 S.T, .int .i64 S.K, .int .i64 S.N], .int .i64 n] w fun e w' => e = .returned (.int .i64 (fitsE S n)) ∧ Kept w w') := fun h k => h ▸ k
  by_cases x0 : n < 1
  · exact E (by unfold fitsE; rw [if_pos (by omega)]) (rfits_n1 S n w (by omega))
  by_cases x1 : 4096 < n
  · exact E (by unfold fitsE; rw [if_pos (by omega)]) (rfits_n2 S n w (by omega) (by omega))
  by_cases x2 : S.N < 1
  · exact E (by unfold fitsE; rw [if_neg (by omega), if_pos (by omega)]) (rfits_N1 S n w (by omega) (by omega) (by omega))
  by_cases x3 : 64 < S.N
  · exact E (by unfold fitsE; rw [if_neg (by omega), if_pos (by omega)]) (rfits_N2 S n w (by omega) (by omega) (by omega) (by omega))
  by_cases x4 : S.T < 0
  · exact E (by unfold fitsE; rw [if_neg (by omega), if_pos (by omega)]) (rfits_T1 S n w (by omega) (by omega) (by omega) (by omega) (by omega))
  by_cases x5 : n ≤ S.T
  · exact E (by unfold fitsE; rw [if_neg (by omega), if_pos (by omega)]) (rfits_T2 S n w (by omega) (by omega) (by omega) (by omega) (by omega) (by omega))
  by_cases x6 : S.K < 0
  · exact E (by unfold fitsE; rw [if_neg (by omega), if_pos (by omega)]) (rfits_K1 S n w (by omega) (by omega) (by omega) (by omega) (by omega) (by omega) (by omega))
  by_cases x7 : n - S.N < S.K
  · exact E (by unfold fitsE; rw [if_neg (by omega), if_pos (by omega)]) (rfits_K2 S n w (by omega) (by omega) (by omega) (by omega) (by omega) (by omega) (by omega) (by omega))
  by_cases x8 : S.K ≤ S.T
  · by_cases x9 : S.T < S.K + S.N
    · exact E (by unfold fitsE; rw [if_neg (by omega), if_pos (by omega)]) (rfits_ap S n w (by omega) (by omega) (by omega) (by omega) (by omega) (by omega) (by omega) (by omega) (by omega) (by omega))
    · exact E (by unfold fitsE; rw [if_neg (by omega), if_neg (by omega)]) (rfits_hi S n w (by omega) (by omega) (by omega) (by omega) (by omega) (by omega) (by omega) (by omega) (by omega) (by omega))
  · exact E (by unfold fitsE; rw [if_neg (by omega), if_neg (by omega)]) (rfits_lo S n w (by omega) (by omega) (by omega) (by omega) (by omega) (by omega) (by omega) (by omega) (by omega))
end Go.Proofs.YtejiogggocnldaaGreat.Ep
