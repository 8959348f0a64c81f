/- Fits and Fill: the program's and the document's. Written by gen10f.py. -/
import Derived.Test.YtfcompikbeebaaaG05
import Derived.Lib.Hide
import Derived.Deep.Light
import Derived.Test.YtfcompikbeebaaaG03
import Derived.Deep.RegionHeld3
import Derived.Test.YtfcompikbeebaaaProg
import Derived.Test.YtfcompikbeebaaaG00
import Derived.WalkLawsBesides
import Derived.Deep.AppendSrc
import Derived.ChangeSlices
import Derived.WalkKit
import Derived.ProofKit
import Derived.Deep.QuietTactic
import Derived.BigQuiet
import Derived.OwnWalk
import Derived.LoopN
set_option linter.unusedVariables false
set_option linter.unusedSimpArgs false

namespace Go.Proofs.Ytfcompikbeebaaa.Sk
set_option maxRecDepth 20000
open Go.RowKit
open Wo (St acc wordAt PMem RefIs)

def fitsE (S : Stk) (n : Int) : Int :=
  if n < 1 ∨ 4096 < n then 3
  else if S.N < 1 ∨ 4096 < S.N ∨ S.T < 0 ∨ n ≤ S.T ∨ S.K < 0 ∨ n - S.N < S.K ∨ (S.K ≤ S.T ∧ S.T < S.K + S.N) then 2 else 0
theorem fitsE_ok {S : Stk} {n : Int} (h : fitsE S n = 0) : S.Ok n.toNat ∧ 1 ≤ n ∧ n ≤ 4096 := by
  unfold fitsE at h
  split at h
  · omega
  · split at h
    · omega
    · exact ⟨⟨by omega, by omega, by omega, by omega, by omega, by omega, by omega, by omega, by omega⟩, by omega, by omega⟩
theorem fitsE_is (S : Stk) (n : Int) : fitsE S n = 0 ∨ fitsE S n = 2 ∨ fitsE S n = 3 := by
  unfold fitsE
  split
  · simp
  · split <;> simp

set_option maxHeartbeats 400000 in
theorem sized_yes (S : Stk) (w : World) (h0 : 1 ≤ S.N) (h1 : S.N ≤ 4096) : Calls Try.prog 44 #[.agg #[.int .i64 S.T, .int .i64 S.K, .int .i64 S.N]] w fun e w' => e = .returned (.bool true) ∧ Kept w w' := by
  go_enter Try.func44, Try.ntmps44
  go_wp2
  go_ret
  exact ⟨rfl, by (go_light; repeat (first | (with_reducible exact Kept.refl _) | (with_reducible assumption) | (with_reducible refine Kept.alloc ?_ _ _) | (with_reducible refine Kept.drew ?_) | (with_reducible refine Kept.drewN ?_ _) | ((with_reducible refine Kept.setCell ?_ ?_ _); rotate_left; focus (first | (simp; done) | (simp; omega))) | refine Kept.trans ?_ (by assumption)))⟩
set_option maxHeartbeats 400000 in
theorem sized_no (S : Stk) (w : World) (h : S.N < 1 ∨ 4096 < S.N) : Calls Try.prog 44 #[.agg #[.int .i64 S.T, .int .i64 S.K, .int .i64 S.N]] w fun e w' => e = .returned (.bool false) ∧ Kept w w' := by
  rcases h with h | h
  · go_enter Try.func44, Try.ntmps44
    go_wp2
    go_ret
    exact ⟨rfl, by (go_light; repeat (first | (with_reducible exact Kept.refl _) | (with_reducible assumption) | (with_reducible refine Kept.alloc ?_ _ _) | (with_reducible refine Kept.drew ?_) | (with_reducible refine Kept.drewN ?_ _) | ((with_reducible refine Kept.setCell ?_ ?_ _); rotate_left; focus (first | (simp; done) | (simp; omega))) | refine Kept.trans ?_ (by assumption)))⟩
  · have h0 : 1 ≤ S.N := by omega
    have h2 : decide (S.N ≤ 4096) = false := by simp; omega
    go_enter Try.func44, Try.ntmps44
    go_wp2
    go_ret
    exact ⟨rfl, by (go_light; repeat (first | (with_reducible exact Kept.refl _) | (with_reducible assumption) | (with_reducible refine Kept.alloc ?_ _ _) | (with_reducible refine Kept.drew ?_) | (with_reducible refine Kept.drewN ?_ _) | ((with_reducible refine Kept.setCell ?_ ?_ _); rotate_left; focus (first | (simp; done) | (simp; omega))) | refine Kept.trans ?_ (by assumption)))⟩
set_option maxHeartbeats 1000000 in
theorem pfits_n1 (S : Stk) (n : Int) (w : World) (c0 : n < 1) : Calls Try.prog 26 #[.agg #[.int .i64 S.T, .int .i64 S.K, .int .i64 S.N], .int .i64 n] w fun e w' => e = .returned (.int .i64 3) ∧ Kept w w' := by
  go_enter Try.func26, Try.ntmps26
  go_wp2
  go_ret
  exact ⟨rfl, by (go_light; repeat (first | (with_reducible exact Kept.refl _) | (with_reducible assumption) | (with_reducible refine Kept.alloc ?_ _ _) | (with_reducible refine Kept.drew ?_) | (with_reducible refine Kept.drewN ?_ _) | ((with_reducible refine Kept.setCell ?_ ?_ _); rotate_left; focus (first | (simp; done) | (simp; omega))) | refine Kept.trans ?_ (by assumption)))⟩
set_option maxHeartbeats 1000000 in
theorem pfits_n2 (S : Stk) (n : Int) (w : World) (c0 : 1 ≤ n) (c1 : 4096 < n) : Calls Try.prog 26 #[.agg #[.int .i64 S.T, .int .i64 S.K, .int .i64 S.N], .int .i64 n] w fun e w' => e = .returned (.int .i64 3) ∧ Kept w w' := by
  go_enter Try.func26, Try.ntmps26
  go_wp2
  go_ret
  exact ⟨rfl, by (go_light; repeat (first | (with_reducible exact Kept.refl _) | (with_reducible assumption) | (with_reducible refine Kept.alloc ?_ _ _) | (with_reducible refine Kept.drew ?_) | (with_reducible refine Kept.drewN ?_ _) | ((with_reducible refine Kept.setCell ?_ ?_ _); rotate_left; focus (first | (simp; done) | (simp; omega))) | refine Kept.trans ?_ (by assumption)))⟩
set_option maxHeartbeats 1000000 in
theorem pfits_N1 (S : Stk) (n : Int) (w : World) (c0 : 1 ≤ n) (c1 : n ≤ 4096) (c2 : S.N < 1) : Calls Try.prog 26 #[.agg #[.int .i64 S.T, .int .i64 S.K, .int .i64 S.N], .int .i64 n] w fun e w' => e = .returned (.int .i64 2) ∧ Kept w w' := by
  go_enter Try.func26, Try.ntmps26
  go_wp2_with fail
  refine (sized_no S _ (by omega)).mono ?_
  rintro e w1 ⟨rfl, k1⟩
  have a0 : w1.cell? ⟨w.heap.size, 0, none⟩ = some (.int .i64 S.T) := k1.some (by simp)
  have a1 : w1.cell? ⟨w.heap.size, 1, none⟩ = some (.int .i64 S.K) := k1.some (by simp)
  have a2 : w1.cell? ⟨w.heap.size, 2, none⟩ = some (.int .i64 S.N) := k1.some (by simp)
  go_wp2
  go_ret
  exact ⟨rfl, by (go_light; repeat (first | (with_reducible exact Kept.refl _) | (with_reducible assumption) | (with_reducible refine Kept.alloc ?_ _ _) | (with_reducible refine Kept.drew ?_) | (with_reducible refine Kept.drewN ?_ _) | ((with_reducible refine Kept.setCell ?_ ?_ _); rotate_left; focus (first | (simp; done) | (simp; omega))) | refine Kept.trans ?_ (by assumption)))⟩
set_option maxHeartbeats 1000000 in
theorem pfits_N2 (S : Stk) (n : Int) (w : World) (c0 : 1 ≤ n) (c1 : n ≤ 4096) (c2 : 1 ≤ S.N) (c3 : 4096 < S.N) : Calls Try.prog 26 #[.agg #[.int .i64 S.T, .int .i64 S.K, .int .i64 S.N], .int .i64 n] w fun e w' => e = .returned (.int .i64 2) ∧ Kept w w' := by
  go_enter Try.func26, Try.ntmps26
  go_wp2_with fail
  refine (sized_no S _ (by omega)).mono ?_
  rintro e w1 ⟨rfl, k1⟩
  have a0 : w1.cell? ⟨w.heap.size, 0, none⟩ = some (.int .i64 S.T) := k1.some (by simp)
  have a1 : w1.cell? ⟨w.heap.size, 1, none⟩ = some (.int .i64 S.K) := k1.some (by simp)
  have a2 : w1.cell? ⟨w.heap.size, 2, none⟩ = some (.int .i64 S.N) := k1.some (by simp)
  go_wp2
  go_ret
  exact ⟨rfl, by (go_light; repeat (first | (with_reducible exact Kept.refl _) | (with_reducible assumption) | (with_reducible refine Kept.alloc ?_ _ _) | (with_reducible refine Kept.drew ?_) | (with_reducible refine Kept.drewN ?_ _) | ((with_reducible refine Kept.setCell ?_ ?_ _); rotate_left; focus (first | (simp; done) | (simp; omega))) | refine Kept.trans ?_ (by assumption)))⟩
set_option maxHeartbeats 1000000 in
theorem pfits_T1 (S : Stk) (n : Int) (w : World) (c0 : 1 ≤ n) (c1 : n ≤ 4096) (c2 : 1 ≤ S.N) (c3 : S.N ≤ 4096) (c4 : S.T < 0) : Calls Try.prog 26 #[.agg #[.int .i64 S.T, .int .i64 S.K, .int .i64 S.N], .int .i64 n] w fun e w' => e = .returned (.int .i64 2) ∧ Kept w w' := by
  go_enter Try.func26, Try.ntmps26
  go_wp2_with fail
  refine (sized_yes S _ c2 c3).mono ?_
  rintro e w1 ⟨rfl, k1⟩
  have a0 : w1.cell? ⟨w.heap.size, 0, none⟩ = some (.int .i64 S.T) := k1.some (by simp)
  have a1 : w1.cell? ⟨w.heap.size, 1, none⟩ = some (.int .i64 S.K) := k1.some (by simp)
  have a2 : w1.cell? ⟨w.heap.size, 2, none⟩ = some (.int .i64 S.N) := k1.some (by simp)
  go_wp2
  go_ret
  exact ⟨rfl, by (go_light; repeat (first | (with_reducible exact Kept.refl _) | (with_reducible assumption) | (with_reducible refine Kept.alloc ?_ _ _) | (with_reducible refine Kept.drew ?_) | (with_reducible refine Kept.drewN ?_ _) | ((with_reducible refine Kept.setCell ?_ ?_ _); rotate_left; focus (first | (simp; done) | (simp; omega))) | refine Kept.trans ?_ (by assumption)))⟩
set_option maxHeartbeats 1000000 in
theorem pfits_T2 (S : Stk) (n : Int) (w : World) (c0 : 1 ≤ n) (c1 : n ≤ 4096) (c2 : 1 ≤ S.N) (c3 : S.N ≤ 4096) (c4 : 0 ≤ S.T) (c5 : n ≤ S.T) : Calls Try.prog 26 #[.agg #[.int .i64 S.T, .int .i64 S.K, .int .i64 S.N], .int .i64 n] w fun e w' => e = .returned (.int .i64 2) ∧ Kept w w' := by
  go_enter Try.func26, Try.ntmps26
  go_wp2_with fail
  refine (sized_yes S _ c2 c3).mono ?_
  rintro e w1 ⟨rfl, k1⟩
  have a0 : w1.cell? ⟨w.heap.size, 0, none⟩ = some (.int .i64 S.T) := k1.some (by simp)
  have a1 : w1.cell? ⟨w.heap.size, 1, none⟩ = some (.int .i64 S.K) := k1.some (by simp)
  have a2 : w1.cell? ⟨w.heap.size, 2, none⟩ = some (.int .i64 S.N) := k1.some (by simp)
  go_wp2
  go_ret
  exact ⟨rfl, by (go_light; repeat (first | (with_reducible exact Kept.refl _) | (with_reducible assumption) | (with_reducible refine Kept.alloc ?_ _ _) | (with_reducible refine Kept.drew ?_) | (with_reducible refine Kept.drewN ?_ _) | ((with_reducible refine Kept.setCell ?_ ?_ _); rotate_left; focus (first | (simp; done) | (simp; omega))) | refine Kept.trans ?_ (by assumption)))⟩
set_option maxHeartbeats 1000000 in
theorem pfits_K1 (S : Stk) (n : Int) (w : World) (c0 : 1 ≤ n) (c1 : n ≤ 4096) (c2 : 1 ≤ S.N) (c3 : S.N ≤ 4096) (c4 : 0 ≤ S.T) (c5 : S.T < n) (c6 : S.K < 0) : Calls Try.prog 26 #[.agg #[.int .i64 S.T, .int .i64 S.K, .int .i64 S.N], .int .i64 n] w fun e w' => e = .returned (.int .i64 2) ∧ Kept w w' := by
  go_enter Try.func26, Try.ntmps26
  go_wp2_with fail
  refine (sized_yes S _ c2 c3).mono ?_
  rintro e w1 ⟨rfl, k1⟩
  have a0 : w1.cell? ⟨w.heap.size, 0, none⟩ = some (.int .i64 S.T) := k1.some (by simp)
  have a1 : w1.cell? ⟨w.heap.size, 1, none⟩ = some (.int .i64 S.K) := k1.some (by simp)
  have a2 : w1.cell? ⟨w.heap.size, 2, none⟩ = some (.int .i64 S.N) := k1.some (by simp)
  go_wp2
  go_ret
  exact ⟨rfl, by (go_light; repeat (first | (with_reducible exact Kept.refl _) | (with_reducible assumption) | (with_reducible refine Kept.alloc ?_ _ _) | (with_reducible refine Kept.drew ?_) | (with_reducible refine Kept.drewN ?_ _) | ((with_reducible refine Kept.setCell ?_ ?_ _); rotate_left; focus (first | (simp; done) | (simp; omega))) | refine Kept.trans ?_ (by assumption)))⟩
set_option maxHeartbeats 1000000 in
theorem pfits_K2 (S : Stk) (n : Int) (w : World) (c0 : 1 ≤ n) (c1 : n ≤ 4096) (c2 : 1 ≤ S.N) (c3 : S.N ≤ 4096) (c4 : 0 ≤ S.T) (c5 : S.T < n) (c6 : 0 ≤ S.K) (c7 : n - S.N < S.K) : Calls Try.prog 26 #[.agg #[.int .i64 S.T, .int .i64 S.K, .int .i64 S.N], .int .i64 n] w fun e w' => e = .returned (.int .i64 2) ∧ Kept w w' := by
  go_enter Try.func26, Try.ntmps26
  go_wp2_with fail
  refine (sized_yes S _ c2 c3).mono ?_
  rintro e w1 ⟨rfl, k1⟩
  have a0 : w1.cell? ⟨w.heap.size, 0, none⟩ = some (.int .i64 S.T) := k1.some (by simp)
  have a1 : w1.cell? ⟨w.heap.size, 1, none⟩ = some (.int .i64 S.K) := k1.some (by simp)
  have a2 : w1.cell? ⟨w.heap.size, 2, none⟩ = some (.int .i64 S.N) := k1.some (by simp)
  go_wp2
  go_ret
  exact ⟨rfl, by (go_light; repeat (first | (with_reducible exact Kept.refl _) | (with_reducible assumption) | (with_reducible refine Kept.alloc ?_ _ _) | (with_reducible refine Kept.drew ?_) | (with_reducible refine Kept.drewN ?_ _) | ((with_reducible refine Kept.setCell ?_ ?_ _); rotate_left; focus (first | (simp; done) | (simp; omega))) | refine Kept.trans ?_ (by assumption)))⟩
set_option maxHeartbeats 1000000 in
theorem pfits_ap (S : Stk) (n : Int) (w : World) (c0 : 1 ≤ n) (c1 : n ≤ 4096) (c2 : 1 ≤ S.N) (c3 : S.N ≤ 4096) (c4 : 0 ≤ S.T) (c5 : S.T < n) (c6 : 0 ≤ S.K) (c7 : S.K ≤ n - S.N) (c8 : S.K ≤ S.T) (c9 : S.T < S.K + S.N) : Calls Try.prog 26 #[.agg #[.int .i64 S.T, .int .i64 S.K, .int .i64 S.N], .int .i64 n] w fun e w' => e = .returned (.int .i64 2) ∧ Kept w w' := by
  go_enter Try.func26, Try.ntmps26
  go_wp2_with fail
  refine (sized_yes S _ c2 c3).mono ?_
  rintro e w1 ⟨rfl, k1⟩
  have a0 : w1.cell? ⟨w.heap.size, 0, none⟩ = some (.int .i64 S.T) := k1.some (by simp)
  have a1 : w1.cell? ⟨w.heap.size, 1, none⟩ = some (.int .i64 S.K) := k1.some (by simp)
  have a2 : w1.cell? ⟨w.heap.size, 2, none⟩ = some (.int .i64 S.N) := k1.some (by simp)
  go_wp2
  go_ret
  exact ⟨rfl, by (go_light; repeat (first | (with_reducible exact Kept.refl _) | (with_reducible assumption) | (with_reducible refine Kept.alloc ?_ _ _) | (with_reducible refine Kept.drew ?_) | (with_reducible refine Kept.drewN ?_ _) | ((with_reducible refine Kept.setCell ?_ ?_ _); rotate_left; focus (first | (simp; done) | (simp; omega))) | refine Kept.trans ?_ (by assumption)))⟩
set_option maxHeartbeats 1000000 in
theorem pfits_lo (S : Stk) (n : Int) (w : World) (c0 : 1 ≤ n) (c1 : n ≤ 4096) (c2 : 1 ≤ S.N) (c3 : S.N ≤ 4096) (c4 : 0 ≤ S.T) (c5 : S.T < n) (c6 : 0 ≤ S.K) (c7 : S.K ≤ n - S.N) (c8 : S.T < S.K) : Calls Try.prog 26 #[.agg #[.int .i64 S.T, .int .i64 S.K, .int .i64 S.N], .int .i64 n] w fun e w' => e = .returned (.int .i64 0) ∧ Kept w w' := by
  go_enter Try.func26, Try.ntmps26
  go_wp2_with fail
  refine (sized_yes S _ c2 c3).mono ?_
  rintro e w1 ⟨rfl, k1⟩
  have a0 : w1.cell? ⟨w.heap.size, 0, none⟩ = some (.int .i64 S.T) := k1.some (by simp)
  have a1 : w1.cell? ⟨w.heap.size, 1, none⟩ = some (.int .i64 S.K) := k1.some (by simp)
  have a2 : w1.cell? ⟨w.heap.size, 2, none⟩ = some (.int .i64 S.N) := k1.some (by simp)
  go_wp2
  go_ret
  exact ⟨rfl, by (go_light; repeat (first | (with_reducible exact Kept.refl _) | (with_reducible assumption) | (with_reducible refine Kept.alloc ?_ _ _) | (with_reducible refine Kept.drew ?_) | (with_reducible refine Kept.drewN ?_ _) | ((with_reducible refine Kept.setCell ?_ ?_ _); rotate_left; focus (first | (simp; done) | (simp; omega))) | refine Kept.trans ?_ (by assumption)))⟩
set_option maxHeartbeats 1000000 in
theorem pfits_hi (S : Stk) (n : Int) (w : World) (c0 : 1 ≤ n) (c1 : n ≤ 4096) (c2 : 1 ≤ S.N) (c3 : S.N ≤ 4096) (c4 : 0 ≤ S.T) (c5 : S.T < n) (c6 : 0 ≤ S.K) (c7 : S.K ≤ n - S.N) (c8 : S.K ≤ S.T) (c9 : S.K + S.N ≤ S.T) : Calls Try.prog 26 #[.agg #[.int .i64 S.T, .int .i64 S.K, .int .i64 S.N], .int .i64 n] w fun e w' => e = .returned (.int .i64 0) ∧ Kept w w' := by
  go_enter Try.func26, Try.ntmps26
  go_wp2_with fail
  refine (sized_yes S _ c2 c3).mono ?_
  rintro e w1 ⟨rfl, k1⟩
  have a0 : w1.cell? ⟨w.heap.size, 0, none⟩ = some (.int .i64 S.T) := k1.some (by simp)
  have a1 : w1.cell? ⟨w.heap.size, 1, none⟩ = some (.int .i64 S.K) := k1.some (by simp)
  have a2 : w1.cell? ⟨w.heap.size, 2, none⟩ = some (.int .i64 S.N) := k1.some (by simp)
  go_wp2
  go_ret
  exact ⟨rfl, by (go_light; repeat (first | (with_reducible exact Kept.refl _) | (with_reducible assumption) | (with_reducible refine Kept.alloc ?_ _ _) | (with_reducible refine Kept.drew ?_) | (with_reducible refine Kept.drewN ?_ _) | ((with_reducible refine Kept.setCell ?_ ?_ _); rotate_left; focus (first | (simp; done) | (simp; omega))) | refine Kept.trans ?_ (by assumption)))⟩
theorem pfits_any (S : Stk) (n : Int) (w : World) : Calls Try.prog 26 #[.agg #[.int .i64 S.T, .int .i64 S.K, .int .i64 S.N], .int .i64 n] w fun e w' => e = .returned (.int .i64 (fitsE S n)) ∧ Kept w w' := by
  have E : ∀ {v : Int}, fitsE S n = v → (Calls Try.prog 26 #[.agg #[.int .i64 S.T, .int .i64 S.K, .int .i64 S.N], .int .i64 n] w fun e w' => e = .returned (.int .i64 v) ∧ Kept w w') → (Calls Try.prog 26 #[.agg #[.int .i64 S.T, .int .i64 S.K, .int .i64 S.N], .int .i64 n] w fun e w' => e = .returned (.int .i64 (fitsE S n)) ∧ Kept w w') := fun h k => h ▸ k
  by_cases x0 : n < 1
  · exact E (by unfold fitsE; rw [if_pos (by omega)]) (pfits_n1 S n w (by omega))
  by_cases x1 : 4096 < n
  · exact E (by unfold fitsE; rw [if_pos (by omega)]) (pfits_n2 S n w (by omega) (by omega))
  by_cases x2 : S.N < 1
  · exact E (by unfold fitsE; rw [if_neg (by omega), if_pos (by omega)]) (pfits_N1 S n w (by omega) (by omega) (by omega))
  by_cases x3 : 4096 < S.N
  · exact E (by unfold fitsE; rw [if_neg (by omega), if_pos (by omega)]) (pfits_N2 S n w (by omega) (by omega) (by omega) (by omega))
  by_cases x4 : S.T < 0
  · exact E (by unfold fitsE; rw [if_neg (by omega), if_pos (by omega)]) (pfits_T1 S n w (by omega) (by omega) (by omega) (by omega) (by omega))
  by_cases x5 : n ≤ S.T
  · exact E (by unfold fitsE; rw [if_neg (by omega), if_pos (by omega)]) (pfits_T2 S n w (by omega) (by omega) (by omega) (by omega) (by omega) (by omega))
  by_cases x6 : S.K < 0
  · exact E (by unfold fitsE; rw [if_neg (by omega), if_pos (by omega)]) (pfits_K1 S n w (by omega) (by omega) (by omega) (by omega) (by omega) (by omega) (by omega))
  by_cases x7 : n - S.N < S.K
  · exact E (by unfold fitsE; rw [if_neg (by omega), if_pos (by omega)]) (pfits_K2 S n w (by omega) (by omega) (by omega) (by omega) (by omega) (by omega) (by omega) (by omega))
  by_cases x8 : S.K ≤ S.T
  · by_cases x9 : S.T < S.K + S.N
    · exact E (by unfold fitsE; rw [if_neg (by omega), if_pos (by omega)]) (pfits_ap S n w (by omega) (by omega) (by omega) (by omega) (by omega) (by omega) (by omega) (by omega) (by omega) (by omega))
    · exact E (by unfold fitsE; rw [if_neg (by omega), if_neg (by omega)]) (pfits_hi S n w (by omega) (by omega) (by omega) (by omega) (by omega) (by omega) (by omega) (by omega) (by omega) (by omega))
  · exact E (by unfold fitsE; rw [if_neg (by omega), if_neg (by omega)]) (pfits_lo S n w (by omega) (by omega) (by omega) (by omega) (by omega) (by omega) (by omega) (by omega) (by omega))
end Go.Proofs.Ytfcompikbeebaaa.Sk

namespace Go.Proofs.Ytfcompikbeebaaa.Sk
set_option maxRecDepth 20000
open Go.RowKit
open Wo (St acc wordAt PMem RefIs)

def fillTo (n : Nat) (S : Stk) (s : St) : Nat → St
  | 0 => acc n s 2 S.T true 1
  | k + 1 => acc n (fillTo n S s k) 2 (S.K + k) true (k + 2)
def fillSt (n : Nat) (S : Stk) (s : St) : St := acc n (fillTo n S s (S.N.toNat - 1)) 2 (S.K + (S.N - 1)) true 0
theorem fillTo_cnt (n : Nat) (S : Stk) (s : St) (k : Nat) : (fillTo n S s k).cnt = s.cnt + 1 + k := by
  induction k with
  | zero => show (acc n s 2 S.T true 1).cnt = _; rw [acc_cnt]; simp
  | succ k ih => show (acc n (fillTo n S s k) 2 (S.K + k) true (k + 2)).cnt = _; rw [acc_cnt, ih]; omega
theorem fillTo_wd {n : Nat} {S : Stk} {s : St} (h : Wd n s) : ∀ k, k ≤ 100000 → Wd n (fillTo n S s k)
  | 0, _ => h.acc _ _ _ _ (by omega) (by omega)
  | k + 1, hk => (fillTo_wd h k (by omega)).acc _ _ _ _ (by omega) (by omega)
theorem fillSt_cnt {n : Nat} {S : Stk} {s : St} (h : 1 ≤ S.N) : (fillSt n S s).cnt = s.cnt + 1 + S.N := by
  unfold fillSt; rw [acc_cnt, fillTo_cnt]; omega
theorem fillSt_wd {n : Nat} {S : Stk} {s : St} (h : Wd n s) (hN : S.N ≤ 4096) : Wd n (fillSt n S s) := (fillTo_wd h _ (by omega)).acc _ _ _ _ (by omega) (by omega)

set_option maxHeartbeats 2000000 in
theorem p_fill (M B n : Nat) (S : Stk) (s : St) (w : World) (hm : PMem w M B n s) (h0 : 0 ≤ s.cnt) (h1 : s.cnt ≤ 900000) (hS : S.Ok n) :
    Calls Try.prog 17 #[.agg #[.int .i64 S.T, .int .i64 S.K, .int .i64 S.N], .pointer (some ⟨M, 0, none⟩)] w fun e w' => e = .returned (.tuple #[]) ∧ PMem w' M B n (fillSt n S s) ∧ But (fun k => k = B) w w' := by
  have N1 := hS.N1
  have N2 := hS.N2
  have K1 := hS.K1
  have K2 := hS.K2
  have n2 := hS.n2
  have hB := (pmem_lt hm).2
  have HM := Lib.hid hm
  clear hm hS
  go_enter Try.func17, Try.ntmps17
  go_wp2_with fail
  refine (sized_yes S _ N1 N2).mono ?_
  rintro e w1 ⟨rfl, k1⟩
  have a0 : w1.cell? ⟨w.heap.size, 0, none⟩ = some (.int .i64 S.T) := k1.some (by simp)
  have a1 : w1.cell? ⟨w.heap.size, 1, none⟩ = some (.int .i64 S.K) := k1.some (by simp)
  have a2 : w1.cell? ⟨w.heap.size, 2, none⟩ = some (.int .i64 S.N) := k1.some (by simp)
  have hne : w.heap.size ≠ B := by omega
  have K : Hid (Kept w w1) := Lib.hid (by (go_light; repeat (first | (with_reducible exact Kept.refl _) | (with_reducible assumption) | (with_reducible refine Kept.alloc ?_ _ _) | (with_reducible refine Kept.drew ?_) | (with_reducible refine Kept.drewN ?_ _) | ((with_reducible refine Kept.setCell ?_ ?_ _); rotate_left; focus (first | (simp; done) | (simp; omega))) | refine Kept.trans ?_ (by assumption))))
  clear k1
  go_wp2_with fail
  go_region_held3 (fun w' => w'.cell? ⟨w.heap.size, 0, none⟩ = some (.int .i64 S.T) ∧ w'.cell? ⟨w.heap.size, 1, none⟩ = some (.int .i64 S.K) ∧ w'.cell? ⟨w.heap.size, 2, none⟩ = some (.int .i64 S.N)) (first | go_keep | (exact ⟨k2.some a0, k2.some a1, k2.some a2⟩) | (exact ⟨d0, d1, d2⟩)) (first
    | (go_at_call 46; refine (untagged_any 0 _ (by omega) (by omega)).mono ?_; rintro e w2 ⟨rfl, k2⟩; have KT : Kept w1 w2 := Kept.trans (b := _) (by first | exact Kept.refl _ | exact (Kept.refl _).drew | exact (Kept.refl _).drewN _) k2)
    | (go_at_call 45; refine (p_store M B n s S.T 1 _ (pmem_kept HM.out (K.out.trans (by first | exact KT | exact KT.drew | exact KT.drewN _))) h0 (by omega)).mono ?_; rintro e w3 ⟨rfl, m3, b3⟩; have BT : But (fun k => k = B) w1 w3 := (Kept.but (w' := _) (by first | exact KT | exact KT.drew | exact KT.drewN _) _).trans b3 (fun _ _ h => h); have d0 := BT.some a0 hne; have d1 := BT.some a1 hne; have d2 := BT.some a2 hne))
  have M3 := Lib.hid m3
  have BW := Lib.hid ((K.out.but _).trans BT (fun _ _ h => h))
  have D0 := Lib.hid d0
  have D1 := Lib.hid d1
  have D2 := Lib.hid d2
  clear a0 a1 k2 KT m3 b3 BT d0 d1
  obtain ⟨m, hmm⟩ : ∃ m : Nat, (m : Int) = S.N - 1 := ⟨(S.N - 1).toNat, by omega⟩
  have HMM := Lib.hid hmm
  clear hmm
  go_wp2_with fail
  go_loopw [18, 5] (fun i _ wr => ∃ k : Nat, k ≤ m ∧ i = .int .i64 k ∧ PMem wr M B n (fillTo n S s k) ∧ But (fun k => k = B) w3 wr) (fun i _ _ => m - (intOf i).toNat)
  case atStart => exact ⟨0, Nat.zero_le _, rfl, M3.out, But.refl _ _⟩
  case round =>
    obtain ⟨k, hk, rfl, mr, br⟩ := hrel
    have e0 := br.some D0.out hne
    have e1 := br.some D1.out hne
    have e2 := br.some D2.out hne
    have hmm := HMM.out
    have MR := Lib.hid mr
    have BR := Lib.hid br
    have c0 : 0 ≤ (fillTo n S s k).cnt := by rw [fillTo_cnt]; omega
    have c1 : (fillTo n S s k).cnt ≤ 1000000 := by rw [fillTo_cnt]; omega
    clear mr br
    by_cases hlt : k < m
    · have hl : (k : Int) < S.N - 1 := by omega
      clear hmm
      go_wp2_with fail
      refine (link_in S.T S.K S.N k _ K1 (by omega) (by omega) (by omega)).mono ?_
      rintro e w4 ⟨rfl, k4⟩
      go_wp2_with fail
      refine (untagged_any (k + 1) _ (by omega) (by omega)).mono ?_
      rintro e w5 ⟨rfl, k5⟩
      go_wp2_with fail
      refine (p_store M B n _ (S.K + k) (k + 1 + 1) _ (pmem_kept MR.out (k4.trans k5)) c0 c1).mono ?_
      rintro e w6 ⟨rfl, m6, b6⟩
      have M6 := Lib.hid m6
      have B6 := Lib.hid ((BR.out.then (k4.trans k5)).trans b6 (fun _ _ h => h))
      clear k4 k5 m6 b6
      go_wp2
      go_roundw
      case rel => exact ⟨k + 1, by omega, by go_num, by have := M6.out; rw [show ((k : Int) + 1 + 1) = k + 2 by omega] at this; exact this, B6.out⟩
      case measure => simp [intOf]; omega
    · have hl : S.N - 1 ≤ (k : Int) := by omega
      have hkm : k = S.N.toNat - 1 := by omega
      have HKM := Lib.hid hkm
      clear hmm hkm
      go_wp2_with fail
      refine (link_in S.T S.K S.N (S.N - 1) _ K1 (by omega) (by omega) (by omega)).mono ?_
      rintro e w4 ⟨rfl, k4⟩
      go_wp2_with fail
      refine (untagged_any (-1) _ (by omega) (by omega)).mono ?_
      rintro e w5 ⟨rfl, k5⟩
      go_wp2_with fail
      refine (p_store M B n _ (S.K + (S.N - 1)) 0 _ (pmem_kept MR.out (k4.trans k5)) c0 c1).mono ?_
      rintro e w6 ⟨rfl, m6, b6⟩
      have M6 := Lib.hid m6
      have B6 := Lib.hid ((BR.out.then (k4.trans k5)).trans b6 (fun _ _ h => h))
      clear k4 k5 m6 b6
      go_wp2
      go_end0
      refine ⟨rfl, ?_, BW.out.trans B6.out (fun _ _ h => h)⟩
      have := M6.out
      rw [HKM.out] at this
      exact this

end Go.Proofs.Ytfcompikbeebaaa.Sk

namespace Go.Proofs.Ytfcompikbeebaaa
open Go.RowKit Go.ChangeShapes Go.WideShapes

structure Nums (f : Nat → Int) (len : Nat) : Prop where
  lo : ∀ i, -9223372036854775808 ≤ f i
  hi : ∀ i, f i ≤ 9223372036854775807
  zero : ∀ i, len ≤ i → f i = 0

def Row (w : World) (a : Option Addr) (len cap : Nat) (f : Nat → Int) : Prop :=
  Nums f len ∧ len ≤ cap ∧ cap ≤ maxLen ∧ ((a = none ∧ len = 0 ∧ cap = 0) ∨ (∃ x, a = some x ∧ len = 0) ∨
    ∃ b off, a = some ⟨b, off, none⟩ ∧ b < w.heap.size ∧ ∀ i, i < len → w.cell? ⟨b, off + i, none⟩ = some (.int .i64 (f i)))

theorem wf_i64 (x : Int) (h : (Lit.int .i64 x).wf = true) : -9223372036854775808 ≤ x ∧ x ≤ 9223372036854775807 := by
  have e : IntKind.i64.min = -9223372036854775808 := by decide
  simpa [Lit.wf, e] using h
theorem getD_mem (zs : List Int) (i : Nat) (h : i < zs.length) : zs.getD i 0 ∈ zs := by
  have e : zs.getD i 0 = zs[i]'h := by simp [h]
  rw [e]
  exact List.getElem_mem _

theorem open_row {H : Type} {enc : TypeId × Value → H} {w : World} {base : Nat} {spare : Nat → Bool} {held : Bool} {fuel : Nat} {a : Option Addr} {len cap : Nat} {x : DataW H × List MemPlace}
    (h : DataW.trod enc Try.prog w base spare held fuel 62 [.slice a len cap] = some x) : ∃ f, Row w a len cap f := by
  rcases open_ints Try.underlying62 Try.underlying3 (by kernel_rfl) h with h0 | ⟨x, len', cap', zs, hcs, _, hl, hm, hz, _, hc, hw⟩
  · obtain ⟨rfl, rfl, rfl⟩ : a = none ∧ len = 0 ∧ cap = 0 := by simpa using h0.1
    exact ⟨fun _ => 0, ⟨by intro i; omega, by intro i; omega, fun _ _ => rfl⟩, Nat.le_refl _, Nat.zero_le _, .inl ⟨rfl, rfl, rfl⟩⟩
  · obtain ⟨rfl, rfl, rfl⟩ : a = some x ∧ len = len' ∧ cap = cap' := by simpa using hcs
    have hle : len ≤ zs.length := by rw [hz]; split <;> omega
    refine ⟨fun i => if i < len then zs.getD i 0 else 0, ⟨fun i => ?_, fun i => ?_, fun i hi => by simp; omega⟩, hl, hm, ?_⟩
    · by_cases hi : i < len
      · simp only [hi, if_true]
        exact (wf_i64 _ (hw _ (getD_mem zs i (by omega)))).1
      · simp [hi]
    · by_cases hi : i < len
      · simp only [hi, if_true]
        exact (wf_i64 _ (hw _ (getD_mem zs i (by omega)))).2
      · simp [hi]
    · by_cases h0 : len = 0
      · exact .inr (.inl ⟨x, rfl, h0⟩)
      · obtain ⟨b, off, spot⟩ := x
        have hc0 := hc 0 (by omega)
        have hs : spot = none := by simpa [Addr.add] using World.cell?_spot hc0
        subst hs
        refine .inr (.inr ⟨b, off, rfl, ?_, fun i hi => ?_⟩)
        · have := World.block_lt_of_cell? w _ hc0
          simpa [Addr.add] using this
        · have h := hc i (by omega)
          have e : (Addr.add ⟨b, off, none⟩ i) = ⟨b, off + i, none⟩ := by
            unfold Addr.add
            split <;> simp_all
          rw [e] at h
          simp only [hi, if_true]
          exact h

theorem infoInt : (Try.prog.info? 3).map (fun i => (i.zero, i.size, i.bytes)) = some (some (.int .i64 0), 1, 8) := by kernel_rfl

structure Made (W w' : World) (b len cap : Nat) (f : Nat → Int) : Prop where
  new : W.heap.size ≤ b
  old : b < w'.heap.size
  room : len ≤ cap
  most : cap ≤ maxLen
  cell : ∀ i, i < len → w'.cell? ⟨b, i, none⟩ = some (.int .i64 (f i))
  soft : ∀ i, w'.frozen? ⟨b, i, none⟩ = false

theorem copy_run (ty : TypeId) (W : World) (a : Option Addr) (len cap : Nat) (f : Nat → Int) (h : Row W a len cap f) (hs : len ≤ 1000000) :
    ∃ b C W', (Builtin.append_ #[62, 62] ty #[.slice (some ⟨W.heap.size, 0, none⟩) 0 0, .slice a len cap]).run Try.prog (W.alloc (.cells #[] 3)) = .ok (.slice (some ⟨b, 0, none⟩) len C) W' ∧
      Kept W W' ∧ Made W W' b len C f := by
  obtain ⟨i0, hi, hz0, hz1, hz2⟩ := info_parts infoInt
  obtain ⟨hn, hlc, hcm, h⟩ := h
  have k1 : Kept W (W.alloc (.cells #[] 3)) := (Kept.refl W).alloc _ _
  by_cases h0 : len = 0
  · subst h0
    have src : Src Try.prog i0.size 62 (.slice a 0 cap) 0 [] (W.alloc (.cells #[] 3)) := by
      cases a with
      | none => exact Src.ofNil _ Try.underlying62 cap
      | some x => exact Src.ofSlice _ Try.underlying62 x 0 cap [] (by simp) (fun j u hj => by simp at hj) (fun u hu => by cases hu)
    have hr := run_append_room_src (P := Try.prog) (W.alloc (.cells #[] 3)) 62 62 ty 3 i0 Try.underlying62 hi W.heap.size 0 0 0 (.slice a 0 cap) 0 [] src (Nat.le_refl _) (fun j hj => by simp at hj) (fun j hj => by simp at hj)
    refine ⟨W.heap.size, 0, _, hr, ?_, Nat.le_refl _, by simp [World.setCells], Nat.le_refl _, Nat.zero_le _, fun i hi => absurd hi (Nat.not_lt_zero i), fun i => ?_⟩
    · simpa [World.setCells] using k1
    · have e : ((W.alloc (.cells #[] 3)).setCells W.heap.size (0 + 0 * i0.size) []).frozen? ⟨W.heap.size, i, none⟩ = (W.alloc (.cells #[] 3)).frozen? ⟨W.heap.size, i, none⟩ := by simp [World.setCells]
      rw [e, frozen?_alloc_cells]
      simp [World.frozen?]
  · obtain ⟨b, off, rfl, hb, hc⟩ : ∃ b off, a = some ⟨b, off, none⟩ ∧ b < W.heap.size ∧ ∀ i, i < len → W.cell? ⟨b, off + i, none⟩ = some (.int .i64 (f i)) := by
      rcases h with ⟨_, h, _⟩ | ⟨_, _, h⟩ | h
      · omega
      · omega
      · exact h
    have src : Src Try.prog i0.size 62 (.slice (some ⟨b, off, none⟩) len cap) len ((List.range len).map fun i => Value.int .i64 (f i)) (W.alloc (.cells #[] 3)) := by
      refine Src.ofSlice _ Try.underlying62 _ len cap _ (by simp [hz1]) (fun j u hj => ?_) (fun u hu => by obtain ⟨i, _, rfl⟩ := List.mem_map.1 hu; rfl)
      have hjl : j < len := by have := (List.getElem?_eq_some_iff.1 hj).1; simpa using this
      have e : (Addr.add ⟨b, off, none⟩ j) = ⟨b, off + j, none⟩ := by unfold Addr.add; split <;> simp_all
      rw [e, World.cell?_alloc_past _ _ _ hb, hc j hjl]
      simpa [hjl] using hj
    have hold : (Builtin.firstCells i0.size 0 (.slice (some ⟨W.heap.size, 0, none⟩) 0 0)).run Try.prog (W.alloc (.cells #[] 3)).drew = .ok (([] : List Value).toArray) (W.alloc (.cells #[] 3)).drew := by
      exact run_firstCells_some _ i0.size 0 ⟨W.heap.size, 0, none⟩ 0 0 [] (by simp) (fun j u hj => by simp at hj)
    have hr := run_append_grow_src (P := Try.prog) (W.alloc (.cells #[] 3)) 62 62 ty 3 i0 (.int .i64 0) Try.underlying62 hi hz0 (some ⟨W.heap.size, 0, none⟩) 0 0 [] hold (.slice (some ⟨b, off, none⟩) len cap) len _ src (by omega) (by omega)
      (by rw [hz2]; have := growslice_fits (old := 0) (need := 0 + len) (bytes := 8) (by omega) (by omega); exact this)
    have hge := grownCap_ge (W.alloc (.cells #[] 3)) (0 + len) 0 3
    have hle := grownCap_le_maxLen (W.alloc (.cells #[] 3)) (0 + len) 0 3 (by unfold maxLen; omega)
    simp only [Nat.zero_add, List.nil_append, World.size_alloc] at hr hge hle
    refine ⟨_, _, _, hr, (k1.drew).alloc _ _, by omega, by simp [World.drew], hge, hle, fun i hi => ?_, fun i => ?_⟩
    · rw [cell_new _ _ _ (W.heap.size + 1) i (by simp), Array.getElem?_append_left (by simpa using hi)]
      simp [hi]
    · rw [frozen?_alloc_cells]
      simp [World.frozen?, World.drew]

theorem wpList_copy {ops : Array Oper} {rest : List Oper} {o : Oper} {A : Act} {Q : Exit → Act → World → Prop} (hg : o.guard = none) (s x : Operand)
    (ho : o.op = .call { callee := .builtin .append, args := #[s, x], argTypes := #[62, 62] })
    (W : World) (a : Option Addr) (len cap : Nat) (f : Nat → Int) (hr : Row W a len cap f) (hs : len ≤ 1000000) (e1 : A.eval s = .slice (some ⟨W.heap.size, 0, none⟩) 0 0) (e2 : A.eval x = .slice a len cap)
    (h : ∀ b C W', Kept W W' → Made W W' b len C f → wpList Try.prog ops Q rest (A.put o.dst (.slice (some ⟨b, 0, none⟩) len C)) W') :
    wpList Try.prog ops Q (o :: rest) A (W.alloc (.cells #[] 3)) := by
  refine wpList_plain hg fun K hK => ?_
  obtain ⟨b, C, W', hrun, hk, hm⟩ := copy_run o.type W a len cap f hr hs
  unfold Oper.wp execOp
  simp only [ho, resolve, invoke, builtin, Sem.run_bind, Sem.run_pure, Result.andThen_ok, List.map_toArray, List.map_cons, List.map_nil, e1, e2, hrun]
  exact hK _ _ (h b C W' hk hm)

def Reads (w : World) (a : Option Addr) (len : Nat) (f : Nat → Int) : Prop :=
  len = 0 ∨ ∃ b o, a = some ⟨b, o, none⟩ ∧ ∀ i, i < len → w.cell? ⟨b, o + i, none⟩ = some (.int .i64 (f i))
theorem Row.reads {w : World} {a : Option Addr} {len cap : Nat} {f : Nat → Int} (h : Row w a len cap f) : Reads w a len f := by
  rcases h.2.2.2 with h | ⟨_, _, h⟩ | ⟨b, o, h, _, hc⟩
  · exact .inl h.2.1
  · exact .inl h
  · exact .inr ⟨b, o, h, hc⟩
theorem Reads.kept {w w' : World} {a : Option Addr} {len : Nat} {f : Nat → Int} (h : Reads w a len f) (k : Kept w w') : Reads w' a len f := by
  rcases h with h | ⟨b, o, h, hc⟩
  · exact .inl h
  · exact .inr ⟨b, o, h, fun i hi => k.some (hc i hi)⟩
theorem Row.kept {w w' : World} {a : Option Addr} {len cap : Nat} {f : Nat → Int} (h : Row w a len cap f) (k : Kept w w') : Row w' a len cap f := by
  refine ⟨h.1, h.2.1, h.2.2.1, ?_⟩
  rcases h.2.2.2 with h | h | ⟨b, o, h, hb, hc⟩
  · exact .inl h
  · exact .inr (.inl h)
  · exact .inr (.inr ⟨b, o, h, Nat.lt_of_lt_of_le hb k.size, fun i hi => k.some (hc i hi)⟩)
theorem Made.reads {W w : World} {b len cap : Nat} {f : Nat → Int} (h : Made W w b len cap f) : Reads w (some ⟨b, 0, none⟩) len f :=
  .inr ⟨b, 0, rfl, fun i hi => by rw [Nat.zero_add]; exact h.cell i hi⟩
theorem Made.kept {W w w' : World} {b len cap : Nat} {f : Nat → Int} (h : Made W w b len cap f) (k : Kept w w') : Made W w' b len cap f :=
  ⟨h.new, Nat.lt_of_lt_of_le h.old k.size, h.room, h.most, fun i hi => k.some (h.cell i hi), fun i => k.soft h.old (h.soft i)⟩
theorem Made.row {W w : World} {b len cap : Nat} {f : Nat → Int} (h : Made W w b len cap f) (hn : Nums f len) : Row w (some ⟨b, 0, none⟩) len cap f :=
  ⟨hn, h.room, h.most, .inr (.inr ⟨b, 0, rfl, h.old, fun i hi => by rw [Nat.zero_add]; exact h.cell i hi⟩)⟩
end Go.Proofs.Ytfcompikbeebaaa

namespace Go.Proofs.Ytfcompikbeebaaa
open Go.RowKit

set_option maxHeartbeats 1000000 in
theorem sameInts_yes (a a' : Option Addr) (n c c' : Nat) (f : Nat → Int) (w : World) (hn : n ≤ 9223372036854775807) (h : Reads w a n f) (h' : Reads w a' n f) :
    Calls Try.prog 22 #[.slice a n c, .slice a' n c'] w fun e w' => e = .returned (.bool true) ∧ Kept w w' := by
  by_cases h0 : n = 0
  · subst h0
    clear h h' hn
    go_enter Try.func22, Try.ntmps22
    go_wp2
    go_loopw [5, 6] (fun s i wr => s = .bool true ∧ i = .int .i64 0 ∧ wr = w) (fun _ _ _ => 0)
    case atStart => exact ⟨rfl, rfl, rfl⟩
    case round =>
      obtain ⟨rfl, rfl, rfl⟩ := hrel
      go_wp2
      go_ret
      exact ⟨rfl, Kept.refl _⟩
  · obtain ⟨b, o, rfl, hc⟩ := h.resolve_left h0
    obtain ⟨b', o', rfl, hc'⟩ := h'.resolve_left h0
    have HC := Lib.hid hc
    have HC' := Lib.hid hc'
    clear hc hc' h h'
    go_enter Try.func22, Try.ntmps22
    go_wp2
    go_loopw [5, 6] (fun s i wr => ∃ k : Nat, k ≤ n ∧ s = .bool true ∧ i = .int .i64 k ∧ (∃ q, wr = w.drewN q)) (fun _ i _ => n - (intOf i).toNat)
    case atStart => exact ⟨0, Nat.zero_le _, rfl, rfl, 0, rfl⟩
    case round =>
      obtain ⟨k, hk, rfl, rfl, q, rfl⟩ := hrel
      by_cases hlt : k < n
      · have h1 := HC.out k hlt
        have h2 := HC'.out k hlt
        go_wp2
        go_quiet (fail)
        go_wp2
        go_roundw
        case rel => exact ⟨k + 1, by omega, rfl, by go_num, q + nq, rfl⟩
        case measure => simp [intOf]; omega
      · go_wp2
        go_ret
        exact ⟨rfl, (Kept.refl _).drewN _⟩

theorem tmod_up (x n : Int) (hn : 0 < n) (hn' : n ≤ 1000000) (h : x.tmod n < 0) : wrap64 (x.tmod n + n) = x % n := by
  have e := Int.tmod_eq_emod (a := x) (b := n)
  have h1 := Int.emod_nonneg x (show n ≠ 0 by omega)
  have h2 := Int.emod_lt_of_pos x hn
  unfold wrap64
  split at e <;> omega
theorem tmod_at (x n : Int) (hn : 0 < n) (h : 0 ≤ x.tmod n) : x.tmod n = x % n := by
  have e := Int.tmod_eq_emod (a := x) (b := n)
  have h1 := Int.emod_nonneg x (show n ≠ 0 by omega)
  have h2 := Int.emod_lt_of_pos x hn
  split at e <;> omega

set_option maxHeartbeats 400000 in
theorem pick_any (x n : Int) (hn : 1 ≤ n) (hn' : n ≤ 1000000) (w : World) :
    Calls Try.prog 27 #[.int .i64 x, .int .i64 n] w fun e w' => e = .returned (.int .i64 (x % n)) ∧ w = w' := by
  go_enter Try.func27, Try.ntmps27
  go_wp2
  · rename_i _ h
    go_ret
    exact ⟨by show Ending.returned (.int .i64 (wrap64 (x.tmod n + n))) = _; rw [tmod_up x n (by omega) hn' h], rfl⟩
  · rename_i _ h
    go_ret
    exact ⟨by show Ending.returned (.int .i64 (x.tmod n)) = _; rw [tmod_at x n (by omega) h], rfl⟩

theorem make_ints (n : Nat) (hn : n ≤ 1000000) : ∃ Z : Array Value, (∀ i, i < n → Z[i]? = some (.int .i64 0)) ∧
    ∀ w : World, (Instr.makeSlice 62 (.int .i64 (n : Int)) (.int .i64 (n : Int))).run Try.prog w = .ok (.slice (some ⟨w.heap.size, 0, none⟩) n n) (w.alloc (.cells Z 3)) := by
  obtain ⟨i0, hi, hz0, hz1, hz2⟩ := info_parts infoInt
  refine ⟨madeCells #[.int .i64 0] n, fun i h => ?_, fun w => ?_⟩
  · have e : (madeCells #[.int .i64 0] n)[i]? = (madeCells #[.int .i64 0] n).toList[i]? := by simp
    rw [e, toList_madeCells_one]
    simp [h]
  · have h := run_makeSlice (P := Try.prog) w 62 3 i0 (.int .i64 0) Try.underlying62 hi hz0 .i64 .i64 (n : Int) (n : Int) (by omega) (Int.le_refl _) (by rw [hz1]; omega) (by rw [hz2]; omega) (by omega)
    rw [h, hz1]
    simp [Value.cells]
end Go.Proofs.Ytfcompikbeebaaa

namespace Go.Proofs.Ytfcompikbeebaaa.Sk
set_option maxRecDepth 20000
open Go.RowKit
open Wo (St acc wordAt PMem RefIs)
end Go.Proofs.Ytfcompikbeebaaa.Sk

namespace Go.Proofs.Ytfcompikbeebaaa.Sk
set_option maxRecDepth 20000
open Go.RowKit
open Wo (St acc wordAt PMem RefIs)
end Go.Proofs.Ytfcompikbeebaaa.Sk

namespace Go.Proofs.Ytfcompikbeebaaa.Sk
set_option maxRecDepth 20000
open Go.RowKit
open Wo (St acc wordAt PMem RefIs)
end Go.Proofs.Ytfcompikbeebaaa.Sk
