/- Which cell a part is, and whose a cell is: the program's. Written by gen15b.py. -/
import Derived.Test.YtejiogggocnldaaGreatG08
set_option linter.unusedVariables false
set_option linter.unusedSimpArgs false

namespace Go.Proofs.YtejiogggocnldaaGreat.Tw
set_option maxRecDepth 20000
open Go.RowKit
open Wo (St acc wordAt PMem RefIs)
open Sk (Stk Arn idx Wd)

set_option maxHeartbeats 400000 in
theorem cell_n1 (f m g i c : Int) (h : i < 0) (w : World) : Calls Tryz.prog 97 #[.agg #[.int .i64 f, .int .i64 m, .int .i64 g], .int .i64 i, .int .i64 c] w fun e w' => e = .returned (.int .i64 (-1)) ∧ Kept w w' := by
  go_enter Tryz.func97, Tryz.ntmps97
  go_wp2
  go_ret
  exact ⟨rfl, by (go_light; repeat (first | (with_reducible exact Kept.refl _) | (with_reducible assumption) | (with_reducible refine Kept.alloc ?_ _ _) | (with_reducible refine Kept.drew ?_) | (with_reducible refine Kept.drewN ?_ _) | ((with_reducible refine Kept.setCell ?_ ?_ _); rotate_left; focus (first | (simp; done) | (simp; omega))) | refine Kept.trans ?_ (by assumption)))⟩
set_option maxHeartbeats 400000 in
theorem cell_n2 (f m g i c : Int) (h : 0 ≤ i) (h2 : m ≤ i) (w : World) : Calls Tryz.prog 97 #[.agg #[.int .i64 f, .int .i64 m, .int .i64 g], .int .i64 i, .int .i64 c] w fun e w' => e = .returned (.int .i64 (-1)) ∧ Kept w w' := by
  go_enter Tryz.func97, Tryz.ntmps97
  go_wp2
  go_ret
  exact ⟨rfl, by (go_light; repeat (first | (with_reducible exact Kept.refl _) | (with_reducible assumption) | (with_reducible refine Kept.alloc ?_ _ _) | (with_reducible refine Kept.drew ?_) | (with_reducible refine Kept.drewN ?_ _) | ((with_reducible refine Kept.setCell ?_ ?_ _); rotate_left; focus (first | (simp; done) | (simp; omega))) | refine Kept.trans ?_ (by assumption)))⟩
set_option maxHeartbeats 400000 in
theorem cell_n3 (f m g i c : Int) (h : 0 ≤ i) (h2 : i < m) (h3 : c < 0) (w : World) : Calls Tryz.prog 97 #[.agg #[.int .i64 f, .int .i64 m, .int .i64 g], .int .i64 i, .int .i64 c] w fun e w' => e = .returned (.int .i64 (-1)) ∧ Kept w w' := by
  have d : decide (m ≤ i) = false := by simp; omega
  go_enter Tryz.func97, Tryz.ntmps97
  go_wp2
  go_ret
  exact ⟨rfl, by (go_light; repeat (first | (with_reducible exact Kept.refl _) | (with_reducible assumption) | (with_reducible refine Kept.alloc ?_ _ _) | (with_reducible refine Kept.drew ?_) | (with_reducible refine Kept.drewN ?_ _) | ((with_reducible refine Kept.setCell ?_ ?_ _); rotate_left; focus (first | (simp; done) | (simp; omega))) | refine Kept.trans ?_ (by assumption)))⟩
set_option maxHeartbeats 400000 in
theorem cell_n4 (f m g i c : Int) (h : 0 ≤ i) (h2 : i < m) (h3 : 0 ≤ c) (h4 : g ≤ c) (w : World) : Calls Tryz.prog 97 #[.agg #[.int .i64 f, .int .i64 m, .int .i64 g], .int .i64 i, .int .i64 c] w fun e w' => e = .returned (.int .i64 (-1)) ∧ Kept w w' := by
  have d : decide (m ≤ i) = false := by simp; omega
  go_enter Tryz.func97, Tryz.ntmps97
  go_wp2
  go_ret
  exact ⟨rfl, by (go_light; repeat (first | (with_reducible exact Kept.refl _) | (with_reducible assumption) | (with_reducible refine Kept.alloc ?_ _ _) | (with_reducible refine Kept.drew ?_) | (with_reducible refine Kept.drewN ?_ _) | ((with_reducible refine Kept.setCell ?_ ?_ _); rotate_left; focus (first | (simp; done) | (simp; omega))) | refine Kept.trans ?_ (by assumption)))⟩
set_option maxHeartbeats 400000 in
theorem cell_n5 (f m g i c : Int) (h : 0 ≤ i) (h2 : i < m) (h3 : 0 ≤ c) (h4 : c < g) (q : Int) (hq : q = i * g) (q0 : 0 ≤ q) (q1 : q ≤ 10000) (f0 : 0 ≤ f) (f1 : f ≤ 10000) (g1 : g ≤ 100) (w : World) : Calls Tryz.prog 97 #[.agg #[.int .i64 f, .int .i64 m, .int .i64 g], .int .i64 i, .int .i64 c] w fun e w' => e = .returned (.int .i64 (f + q + c)) ∧ Kept w w' := by
  have d : decide (m ≤ i) = false := by simp; omega
  have d2 : decide (g ≤ c) = false := by simp; omega
  have e : IntKind.i64.wrap (i * g) = q := by rw [← hq, IntKind.wrap_i64]; omega
  have e2 : wrap64 (i * g) = q := by rw [← hq]; unfold wrap64; omega
  have HQ := Lib.hid hq
  clear hq
  go_enter Tryz.func97, Tryz.ntmps97
  go_wp2
  go_ret
  exact ⟨rfl, by (go_light; repeat (first | (with_reducible exact Kept.refl _) | (with_reducible assumption) | (with_reducible refine Kept.alloc ?_ _ _) | (with_reducible refine Kept.drew ?_) | (with_reducible refine Kept.drewN ?_ _) | ((with_reducible refine Kept.setCell ?_ ?_ _); rotate_left; focus (first | (simp; done) | (simp; omega))) | refine Kept.trans ?_ (by assumption)))⟩
theorem cell_n_no (f m g i c : Int) (h : i < 0 ∨ m ≤ i ∨ c < 0 ∨ g ≤ c) (w : World) : Calls Tryz.prog 97 #[.agg #[.int .i64 f, .int .i64 m, .int .i64 g], .int .i64 i, .int .i64 c] w fun e w' => e = .returned (.int .i64 (-1)) ∧ Kept w w' := by
  by_cases h0 : i < 0
  · exact cell_n1 f m g i c h0 w
  by_cases h1 : m ≤ i
  · exact cell_n2 f m g i c (by omega) h1 w
  by_cases h2 : c < 0
  · exact cell_n3 f m g i c (by omega) (by omega) h2 w
  · exact cell_n4 f m g i c (by omega) (by omega) (by omega) (by omega) w
set_option maxHeartbeats 400000 in
theorem span_n (f m g : Int) (q : Int) (hq : q = m * g) (q0 : 0 ≤ q) (q1 : q ≤ 10000) (w : World) : Calls Tryz.prog 68 #[.agg #[.int .i64 f, .int .i64 m, .int .i64 g]] w fun e w' => e = .returned (.agg #[.int .i64 f, .int .i64 q]) ∧ Kept w w' := by
  have e : IntKind.i64.wrap (m * g) = q := by rw [← hq, IntKind.wrap_i64]; omega
  have e2 : wrap64 (m * g) = q := by rw [← hq]; unfold wrap64; omega
  have HQ := Lib.hid hq
  clear hq
  go_enter Tryz.func68, Tryz.ntmps68
  go_wp2
  refine bodyPost_ret (v := .agg #[.int .i64 f, .int .i64 q]) (by simp [results, Tryz.results68, go_sem, e, e2]) rfl ⟨rfl, ?_⟩
  (go_light; repeat (first | (with_reducible exact Kept.refl _) | (with_reducible assumption) | (with_reducible refine Kept.alloc ?_ _ _) | (with_reducible refine Kept.drew ?_) | (with_reducible refine Kept.drewN ?_ _) | ((with_reducible refine Kept.setCell ?_ ?_ _); rotate_left; focus (first | (simp; done) | (simp; omega))) | refine Kept.trans ?_ (by assumption)))
set_option maxHeartbeats 400000 in
theorem cell_h1 (f m g i c : Int) (h : i < 0) (w : World) : Calls Tryz.prog 96 #[.agg #[.int .i64 f, .int .i64 m, .int .i64 g], .int .i64 i, .int .i64 c] w fun e w' => e = .returned (.int .i64 (-1)) ∧ Kept w w' := by
  go_enter Tryz.func96, Tryz.ntmps96
  go_wp2
  go_ret
  exact ⟨rfl, by (go_light; repeat (first | (with_reducible exact Kept.refl _) | (with_reducible assumption) | (with_reducible refine Kept.alloc ?_ _ _) | (with_reducible refine Kept.drew ?_) | (with_reducible refine Kept.drewN ?_ _) | ((with_reducible refine Kept.setCell ?_ ?_ _); rotate_left; focus (first | (simp; done) | (simp; omega))) | refine Kept.trans ?_ (by assumption)))⟩
set_option maxHeartbeats 400000 in
theorem cell_h2 (f m g i c : Int) (h : 0 ≤ i) (h2 : m ≤ i) (w : World) : Calls Tryz.prog 96 #[.agg #[.int .i64 f, .int .i64 m, .int .i64 g], .int .i64 i, .int .i64 c] w fun e w' => e = .returned (.int .i64 (-1)) ∧ Kept w w' := by
  go_enter Tryz.func96, Tryz.ntmps96
  go_wp2
  go_ret
  exact ⟨rfl, by (go_light; repeat (first | (with_reducible exact Kept.refl _) | (with_reducible assumption) | (with_reducible refine Kept.alloc ?_ _ _) | (with_reducible refine Kept.drew ?_) | (with_reducible refine Kept.drewN ?_ _) | ((with_reducible refine Kept.setCell ?_ ?_ _); rotate_left; focus (first | (simp; done) | (simp; omega))) | refine Kept.trans ?_ (by assumption)))⟩
set_option maxHeartbeats 400000 in
theorem cell_h3 (f m g i c : Int) (h : 0 ≤ i) (h2 : i < m) (h3 : c < 0) (w : World) : Calls Tryz.prog 96 #[.agg #[.int .i64 f, .int .i64 m, .int .i64 g], .int .i64 i, .int .i64 c] w fun e w' => e = .returned (.int .i64 (-1)) ∧ Kept w w' := by
  have d : decide (m ≤ i) = false := by simp; omega
  go_enter Tryz.func96, Tryz.ntmps96
  go_wp2
  go_ret
  exact ⟨rfl, by (go_light; repeat (first | (with_reducible exact Kept.refl _) | (with_reducible assumption) | (with_reducible refine Kept.alloc ?_ _ _) | (with_reducible refine Kept.drew ?_) | (with_reducible refine Kept.drewN ?_ _) | ((with_reducible refine Kept.setCell ?_ ?_ _); rotate_left; focus (first | (simp; done) | (simp; omega))) | refine Kept.trans ?_ (by assumption)))⟩
set_option maxHeartbeats 400000 in
theorem cell_h4 (f m g i c : Int) (h : 0 ≤ i) (h2 : i < m) (h3 : 0 ≤ c) (h4 : g ≤ c) (w : World) : Calls Tryz.prog 96 #[.agg #[.int .i64 f, .int .i64 m, .int .i64 g], .int .i64 i, .int .i64 c] w fun e w' => e = .returned (.int .i64 (-1)) ∧ Kept w w' := by
  have d : decide (m ≤ i) = false := by simp; omega
  go_enter Tryz.func96, Tryz.ntmps96
  go_wp2
  go_ret
  exact ⟨rfl, by (go_light; repeat (first | (with_reducible exact Kept.refl _) | (with_reducible assumption) | (with_reducible refine Kept.alloc ?_ _ _) | (with_reducible refine Kept.drew ?_) | (with_reducible refine Kept.drewN ?_ _) | ((with_reducible refine Kept.setCell ?_ ?_ _); rotate_left; focus (first | (simp; done) | (simp; omega))) | refine Kept.trans ?_ (by assumption)))⟩
set_option maxHeartbeats 400000 in
theorem cell_h5 (f m g i c : Int) (h : 0 ≤ i) (h2 : i < m) (h3 : 0 ≤ c) (h4 : c < g) (q : Int) (hq : q = i * g) (q0 : 0 ≤ q) (q1 : q ≤ 10000) (f0 : 0 ≤ f) (f1 : f ≤ 10000) (g1 : g ≤ 100) (w : World) : Calls Tryz.prog 96 #[.agg #[.int .i64 f, .int .i64 m, .int .i64 g], .int .i64 i, .int .i64 c] w fun e w' => e = .returned (.int .i64 (f + q + c)) ∧ Kept w w' := by
  have d : decide (m ≤ i) = false := by simp; omega
  have d2 : decide (g ≤ c) = false := by simp; omega
  have e : IntKind.i64.wrap (i * g) = q := by rw [← hq, IntKind.wrap_i64]; omega
  have e2 : wrap64 (i * g) = q := by rw [← hq]; unfold wrap64; omega
  have HQ := Lib.hid hq
  clear hq
  go_enter Tryz.func96, Tryz.ntmps96
  go_wp2
  go_ret
  exact ⟨rfl, by (go_light; repeat (first | (with_reducible exact Kept.refl _) | (with_reducible assumption) | (with_reducible refine Kept.alloc ?_ _ _) | (with_reducible refine Kept.drew ?_) | (with_reducible refine Kept.drewN ?_ _) | ((with_reducible refine Kept.setCell ?_ ?_ _); rotate_left; focus (first | (simp; done) | (simp; omega))) | refine Kept.trans ?_ (by assumption)))⟩
theorem cell_h_no (f m g i c : Int) (h : i < 0 ∨ m ≤ i ∨ c < 0 ∨ g ≤ c) (w : World) : Calls Tryz.prog 96 #[.agg #[.int .i64 f, .int .i64 m, .int .i64 g], .int .i64 i, .int .i64 c] w fun e w' => e = .returned (.int .i64 (-1)) ∧ Kept w w' := by
  by_cases h0 : i < 0
  · exact cell_h1 f m g i c h0 w
  by_cases h1 : m ≤ i
  · exact cell_h2 f m g i c (by omega) h1 w
  by_cases h2 : c < 0
  · exact cell_h3 f m g i c (by omega) (by omega) h2 w
  · exact cell_h4 f m g i c (by omega) (by omega) (by omega) (by omega) w
set_option maxHeartbeats 400000 in
theorem span_h (f m g : Int) (q : Int) (hq : q = m * g) (q0 : 0 ≤ q) (q1 : q ≤ 10000) (w : World) : Calls Tryz.prog 70 #[.agg #[.int .i64 f, .int .i64 m, .int .i64 g]] w fun e w' => e = .returned (.agg #[.int .i64 f, .int .i64 q]) ∧ Kept w w' := by
  have e : IntKind.i64.wrap (m * g) = q := by rw [← hq, IntKind.wrap_i64]; omega
  have e2 : wrap64 (m * g) = q := by rw [← hq]; unfold wrap64; omega
  have HQ := Lib.hid hq
  clear hq
  go_enter Tryz.func70, Tryz.ntmps70
  go_wp2
  refine bodyPost_ret (v := .agg #[.int .i64 f, .int .i64 q]) (by simp [results, Tryz.results70, go_sem, e, e2]) rfl ⟨rfl, ?_⟩
  (go_light; repeat (first | (with_reducible exact Kept.refl _) | (with_reducible assumption) | (with_reducible refine Kept.alloc ?_ _ _) | (with_reducible refine Kept.drew ?_) | (with_reducible refine Kept.drewN ?_ _) | ((with_reducible refine Kept.setCell ?_ ?_ _); rotate_left; focus (first | (simp; done) | (simp; omega))) | refine Kept.trans ?_ (by assumption)))
set_option maxHeartbeats 400000 in
theorem has_lo (f q a : Int) (h : a < f) (w : World) : Calls Tryz.prog 162 #[.agg #[.int .i64 f, .int .i64 q], .int .i64 a] w fun e w' => e = .returned (.bool false) ∧ Kept w w' := by
  go_enter Tryz.func162, Tryz.ntmps162
  go_wp2
  go_ret
  exact ⟨rfl, by (go_light; repeat (first | (with_reducible exact Kept.refl _) | (with_reducible assumption) | (with_reducible refine Kept.alloc ?_ _ _) | (with_reducible refine Kept.drew ?_) | (with_reducible refine Kept.drewN ?_ _) | ((with_reducible refine Kept.setCell ?_ ?_ _); rotate_left; focus (first | (simp; done) | (simp; omega))) | refine Kept.trans ?_ (by assumption)))⟩
set_option maxHeartbeats 400000 in
theorem has_hi (f q a : Int) (f0 : 0 ≤ f) (f1 : f ≤ 10000) (q0 : 0 ≤ q) (q1 : q ≤ 10000) (h : f ≤ a) (h2 : f + q ≤ a) (w : World) : Calls Tryz.prog 162 #[.agg #[.int .i64 f, .int .i64 q], .int .i64 a] w fun e w' => e = .returned (.bool false) ∧ Kept w w' := by
  have d : decide (a < f + q) = false := by simp; omega
  go_enter Tryz.func162, Tryz.ntmps162
  go_wp2
  go_ret
  exact ⟨rfl, by (go_light; repeat (first | (with_reducible exact Kept.refl _) | (with_reducible assumption) | (with_reducible refine Kept.alloc ?_ _ _) | (with_reducible refine Kept.drew ?_) | (with_reducible refine Kept.drewN ?_ _) | ((with_reducible refine Kept.setCell ?_ ?_ _); rotate_left; focus (first | (simp; done) | (simp; omega))) | refine Kept.trans ?_ (by assumption)))⟩
set_option maxHeartbeats 400000 in
theorem has_yes (f q a : Int) (f0 : 0 ≤ f) (f1 : f ≤ 10000) (q0 : 0 ≤ q) (q1 : q ≤ 10000) (h : f ≤ a) (h2 : a < f + q) (w : World) : Calls Tryz.prog 162 #[.agg #[.int .i64 f, .int .i64 q], .int .i64 a] w fun e w' => e = .returned (.bool true) ∧ Kept w w' := by
  go_enter Tryz.func162, Tryz.ntmps162
  go_wp2
  go_ret
  exact ⟨rfl, by (go_light; repeat (first | (with_reducible exact Kept.refl _) | (with_reducible assumption) | (with_reducible refine Kept.alloc ?_ _ _) | (with_reducible refine Kept.drew ?_) | (with_reducible refine Kept.drewN ?_ _) | ((with_reducible refine Kept.setCell ?_ ?_ _); rotate_left; focus (first | (simp; done) | (simp; omega))) | refine Kept.trans ?_ (by assumption)))⟩
theorem has_no (f q a : Int) (f0 : 0 ≤ f) (f1 : f ≤ 10000) (q0 : 0 ≤ q) (q1 : q ≤ 10000) (h : a < f ∨ f + q ≤ a) (w : World) : Calls Tryz.prog 162 #[.agg #[.int .i64 f, .int .i64 q], .int .i64 a] w fun e w' => e = .returned (.bool false) ∧ Kept w w' := by
  by_cases h0 : a < f
  · exact has_lo f q a h0 w
  · exact has_hi f q a f0 f1 q0 q1 (by omega) (by omega) w
set_option maxHeartbeats 1000000 in
theorem whose_n_no (f m g a q : Int) (hq : q = m * g) (f0 : 0 ≤ f) (f1 : f ≤ 10000) (q0 : 0 ≤ q) (q1 : q ≤ 10000) (h : a < f ∨ f + q ≤ a) (w : World) : Calls Tryz.prog 99 #[.agg #[.int .i64 f, .int .i64 m, .int .i64 g], .int .i64 a] w fun e w' => e = .returned (.tuple #[.int .i64 0, .int .i64 0, .bool false]) ∧ Kept w w' := by
  have SP := fun W => Lib.hid (span_n f m g q hq q0 q1 W)
  have HS := fun W => Lib.hid (has_no f q a f0 f1 q0 q1 h W)
  clear hq
  go_enter Tryz.func99, Tryz.ntmps99
  go_wp2_with fail
  refine (SP _).out.mono ?_
  rintro e w1 ⟨rfl, k1⟩
  have c0 : w1.cell? ⟨w.heap.size, 0, none⟩ = some (.int .i64 f) := k1.some (cell_new w _ _ _ 0 rfl)
  have c1 : w1.cell? ⟨w.heap.size, 1, none⟩ = some (.int .i64 m) := k1.some (cell_new w _ _ _ 1 rfl)
  have c2 : w1.cell? ⟨w.heap.size, 2, none⟩ = some (.int .i64 g) := k1.some (cell_new w _ _ _ 2 rfl)
  go_wp2_with fail
  refine (HS _).out.mono ?_
  rintro e w2 ⟨rfl, k2⟩
  have c0 : w2.cell? ⟨w.heap.size, 0, none⟩ = some (.int .i64 f) := k2.some c0
  have c1 : w2.cell? ⟨w.heap.size, 1, none⟩ = some (.int .i64 m) := k2.some c1
  have c2 : w2.cell? ⟨w.heap.size, 2, none⟩ = some (.int .i64 g) := k2.some c2
  go_wp2
  refine bodyPost_ret (v := .tuple #[.int .i64 0, .int .i64 0, .bool false]) (by simp [results, Tryz.results99, go_sem]) rfl ⟨rfl, ?_⟩
  (go_light; repeat (first | (with_reducible exact Kept.refl _) | (with_reducible assumption) | (with_reducible refine Kept.alloc ?_ _ _) | (with_reducible refine Kept.drew ?_) | (with_reducible refine Kept.drewN ?_ _) | ((with_reducible refine Kept.setCell ?_ ?_ _); rotate_left; focus (first | (simp; done) | (simp; omega))) | refine Kept.trans ?_ (by assumption)))
set_option maxHeartbeats 1000000 in
theorem whose_n_yes (f m g a q : Int) (hq : q = m * g) (f0 : 0 ≤ f) (f1 : f ≤ 10000) (q0 : 0 ≤ q) (q1 : q ≤ 10000) (g0 : 1 ≤ g) (h : f ≤ a) (h2 : a < f + q) (u v : Int) (hu : u = (a - f) / g) (hv : v = (a - f) % g) (w : World) : Calls Tryz.prog 99 #[.agg #[.int .i64 f, .int .i64 m, .int .i64 g], .int .i64 a] w fun e w' => e = .returned (.tuple #[.int .i64 u, .int .i64 v, .bool true]) ∧ Kept w w' := by
  have SP := fun W => Lib.hid (span_n f m g q hq q0 q1 W)
  have HS := fun W => Lib.hid (has_yes f q a f0 f1 q0 q1 h h2 W)
  clear hq
  have wa : IntKind.i64.wrap (a - f) = a - f := by rw [IntKind.wrap_i64]; omega
  have hu' : (a - f).tdiv g = u := by rw [hu]; exact Int.tdiv_eq_ediv_of_nonneg (by omega)
  have hv' : (a - f).tmod g = v := by rw [hv]; exact Int.tmod_eq_emod_of_nonneg (by omega)
  have u0 : 0 ≤ u ∧ u ≤ 20000 := by
    rw [hu]
    have h1 := Int.ediv_nonneg (show 0 ≤ a - f by omega) (show 0 ≤ g by omega)
    have h2 := Int.ediv_le_self g (show 0 ≤ a - f by omega)
    omega
  have hu2 : (a - f) / g = u := hu.symm
  have hv2 : (a - f) % g = v := hv.symm
  have wu : IntKind.i64.wrap u = u := by rw [IntKind.wrap_i64]; omega
  have gz : ¬ g = 0 := by omega
  clear hu hv
  go_enter Tryz.func99, Tryz.ntmps99
  go_wp2_with fail
  refine (SP _).out.mono ?_
  rintro e w1 ⟨rfl, k1⟩
  have c0 : w1.cell? ⟨w.heap.size, 0, none⟩ = some (.int .i64 f) := k1.some (cell_new w _ _ _ 0 rfl)
  have c1 : w1.cell? ⟨w.heap.size, 1, none⟩ = some (.int .i64 m) := k1.some (cell_new w _ _ _ 1 rfl)
  have c2 : w1.cell? ⟨w.heap.size, 2, none⟩ = some (.int .i64 g) := k1.some (cell_new w _ _ _ 2 rfl)
  go_wp2_with fail
  refine (HS _).out.mono ?_
  rintro e w2 ⟨rfl, k2⟩
  have c0 : w2.cell? ⟨w.heap.size, 0, none⟩ = some (.int .i64 f) := k2.some c0
  have c1 : w2.cell? ⟨w.heap.size, 1, none⟩ = some (.int .i64 m) := k2.some c1
  have c2 : w2.cell? ⟨w.heap.size, 2, none⟩ = some (.int .i64 g) := k2.some c2
  go_wp2_with fail
  go_quiet (fail)
  go_wp2
  refine bodyPost_ret (v := .tuple #[.int .i64 u, .int .i64 v, .bool true]) (by simp [results, Tryz.results99, go_sem]) rfl ⟨rfl, ?_⟩
  (go_light; repeat (first | (with_reducible exact Kept.refl _) | (with_reducible assumption) | (with_reducible refine Kept.alloc ?_ _ _) | (with_reducible refine Kept.drew ?_) | (with_reducible refine Kept.drewN ?_ _) | ((with_reducible refine Kept.setCell ?_ ?_ _); rotate_left; focus (first | (simp; done) | (simp; omega))) | refine Kept.trans ?_ (by assumption)))
set_option maxHeartbeats 1000000 in
theorem whose_h_no (f m g a q : Int) (hq : q = m * g) (f0 : 0 ≤ f) (f1 : f ≤ 10000) (q0 : 0 ≤ q) (q1 : q ≤ 10000) (h : a < f ∨ f + q ≤ a) (w : World) : Calls Tryz.prog 100 #[.agg #[.int .i64 f, .int .i64 m, .int .i64 g], .int .i64 a] w fun e w' => e = .returned (.tuple #[.int .i64 0, .int .i64 0, .bool false]) ∧ Kept w w' := by
  have SP := fun W => Lib.hid (span_h f m g q hq q0 q1 W)
  have HS := fun W => Lib.hid (has_no f q a f0 f1 q0 q1 h W)
  clear hq
  go_enter Tryz.func100, Tryz.ntmps100
  go_wp2_with fail
  refine (SP _).out.mono ?_
  rintro e w1 ⟨rfl, k1⟩
  have c0 : w1.cell? ⟨w.heap.size, 0, none⟩ = some (.int .i64 f) := k1.some (cell_new w _ _ _ 0 rfl)
  have c1 : w1.cell? ⟨w.heap.size, 1, none⟩ = some (.int .i64 m) := k1.some (cell_new w _ _ _ 1 rfl)
  have c2 : w1.cell? ⟨w.heap.size, 2, none⟩ = some (.int .i64 g) := k1.some (cell_new w _ _ _ 2 rfl)
  go_wp2_with fail
  refine (HS _).out.mono ?_
  rintro e w2 ⟨rfl, k2⟩
  have c0 : w2.cell? ⟨w.heap.size, 0, none⟩ = some (.int .i64 f) := k2.some c0
  have c1 : w2.cell? ⟨w.heap.size, 1, none⟩ = some (.int .i64 m) := k2.some c1
  have c2 : w2.cell? ⟨w.heap.size, 2, none⟩ = some (.int .i64 g) := k2.some c2
  go_wp2
  refine bodyPost_ret (v := .tuple #[.int .i64 0, .int .i64 0, .bool false]) (by simp [results, Tryz.results100, go_sem]) rfl ⟨rfl, ?_⟩
  (go_light; repeat (first | (with_reducible exact Kept.refl _) | (with_reducible assumption) | (with_reducible refine Kept.alloc ?_ _ _) | (with_reducible refine Kept.drew ?_) | (with_reducible refine Kept.drewN ?_ _) | ((with_reducible refine Kept.setCell ?_ ?_ _); rotate_left; focus (first | (simp; done) | (simp; omega))) | refine Kept.trans ?_ (by assumption)))
set_option maxHeartbeats 1000000 in
theorem whose_h_yes (f m g a q : Int) (hq : q = m * g) (f0 : 0 ≤ f) (f1 : f ≤ 10000) (q0 : 0 ≤ q) (q1 : q ≤ 10000) (g0 : 1 ≤ g) (h : f ≤ a) (h2 : a < f + q) (u v : Int) (hu : u = (a - f) / g) (hv : v = (a - f) % g) (w : World) : Calls Tryz.prog 100 #[.agg #[.int .i64 f, .int .i64 m, .int .i64 g], .int .i64 a] w fun e w' => e = .returned (.tuple #[.int .i64 u, .int .i64 v, .bool true]) ∧ Kept w w' := by
  have SP := fun W => Lib.hid (span_h f m g q hq q0 q1 W)
  have HS := fun W => Lib.hid (has_yes f q a f0 f1 q0 q1 h h2 W)
  clear hq
  have wa : IntKind.i64.wrap (a - f) = a - f := by rw [IntKind.wrap_i64]; omega
  have hu' : (a - f).tdiv g = u := by rw [hu]; exact Int.tdiv_eq_ediv_of_nonneg (by omega)
  have hv' : (a - f).tmod g = v := by rw [hv]; exact Int.tmod_eq_emod_of_nonneg (by omega)
  have u0 : 0 ≤ u ∧ u ≤ 20000 := by
    rw [hu]
    have h1 := Int.ediv_nonneg (show 0 ≤ a - f by omega) (show 0 ≤ g by omega)
    have h2 := Int.ediv_le_self g (show 0 ≤ a - f by omega)
    omega
  have hu2 : (a - f) / g = u := hu.symm
  have hv2 : (a - f) % g = v := hv.symm
  have wu : IntKind.i64.wrap u = u := by rw [IntKind.wrap_i64]; omega
  have gz : ¬ g = 0 := by omega
  clear hu hv
  go_enter Tryz.func100, Tryz.ntmps100
  go_wp2_with fail
  refine (SP _).out.mono ?_
  rintro e w1 ⟨rfl, k1⟩
  have c0 : w1.cell? ⟨w.heap.size, 0, none⟩ = some (.int .i64 f) := k1.some (cell_new w _ _ _ 0 rfl)
  have c1 : w1.cell? ⟨w.heap.size, 1, none⟩ = some (.int .i64 m) := k1.some (cell_new w _ _ _ 1 rfl)
  have c2 : w1.cell? ⟨w.heap.size, 2, none⟩ = some (.int .i64 g) := k1.some (cell_new w _ _ _ 2 rfl)
  go_wp2_with fail
  refine (HS _).out.mono ?_
  rintro e w2 ⟨rfl, k2⟩
  have c0 : w2.cell? ⟨w.heap.size, 0, none⟩ = some (.int .i64 f) := k2.some c0
  have c1 : w2.cell? ⟨w.heap.size, 1, none⟩ = some (.int .i64 m) := k2.some c1
  have c2 : w2.cell? ⟨w.heap.size, 2, none⟩ = some (.int .i64 g) := k2.some c2
  go_wp2_with fail
  go_quiet (fail)
  go_wp2
  refine bodyPost_ret (v := .tuple #[.int .i64 u, .int .i64 v, .bool true]) (by simp [results, Tryz.results100, go_sem]) rfl ⟨rfl, ?_⟩
  (go_light; repeat (first | (with_reducible exact Kept.refl _) | (with_reducible assumption) | (with_reducible refine Kept.alloc ?_ _ _) | (with_reducible refine Kept.drew ?_) | (with_reducible refine Kept.drewN ?_ _) | ((with_reducible refine Kept.setCell ?_ ?_ _); rotate_left; focus (first | (simp; done) | (simp; omega))) | refine Kept.trans ?_ (by assumption)))
set_option maxHeartbeats 1000000 in
theorem at_bad (t : Twr) (h : ¬ t.Sound) (i p : Int) (w : World) : Calls Tryz.prog 32 #[towV t, .int .i64 i, .int .i64 p] w fun e w' => e = .returned (.int .i64 (-1)) ∧ Kept w w' := by
  have HS := fun W => Lib.hid (sound_no t h W)
  clear h
  go_enter Tryz.func32, Tryz.ntmps32
  go_wp2_with fail
  refine ((HS _).out).mono ?_
  rintro e w1 ⟨rfl, k1⟩
  obtain ⟨a0, a1, a2, a3, a4, a5, a6, a7, a8, a9, a10, a11, a12⟩ := TB.kept (TB.new w _ _ rfl t) k1
  go_wp2
  go_ret
  exact ⟨rfl, by (go_light; repeat (first | (with_reducible exact Kept.refl _) | (with_reducible assumption) | (with_reducible refine Kept.alloc ?_ _ _) | (with_reducible refine Kept.drew ?_) | (with_reducible refine Kept.drewN ?_ _) | ((with_reducible refine Kept.setCell ?_ ?_ _); rotate_left; focus (first | (simp; done) | (simp; omega))) | refine Kept.trans ?_ (by assumption)))⟩
set_option maxHeartbeats 1000000 in
theorem at_head (t : Twr) (h : t.Sound) (p r : Int) (hp : IntKind.i64.wrap (p - 4) = r) (v : Int) (hc : ∀ W, Calls Tryz.prog 96 #[.agg #[.int .i64 t.H, .int .i64 1, .int .i64 t.G], .int .i64 0, .int .i64 r] W fun e w' => e = .returned (.int .i64 v) ∧ Kept W w') (w : World) : Calls Tryz.prog 32 #[towV t, .int .i64 (-1), .int .i64 p] w fun e w' => e = .returned (.int .i64 v) ∧ Kept w w' := by
  have HS := fun W => Lib.hid (sound_in t h W)
  have hp2 : wrap64 (p - 4) = r := by rw [← hp, IntKind.wrap_i64]; unfold wrap64; omega
  have HC := fun W => Lib.hid (hc W)
  clear h hc
  go_enter Tryz.func32, Tryz.ntmps32
  go_wp2_with fail
  refine ((HS _).out).mono ?_
  rintro e w1 ⟨rfl, k1⟩
  obtain ⟨a0, a1, a2, a3, a4, a5, a6, a7, a8, a9, a10, a11, a12⟩ := TB.kept (TB.new w _ _ rfl t) k1
  go_wp2_with fail
  refine (headRow_any t _).mono ?_
  rintro e w2 ⟨rfl, k2⟩
  obtain ⟨a0, a1, a2, a3, a4, a5, a6, a7, a8, a9, a10, a11, a12⟩ := TB.kept ⟨a0, a1, a2, a3, a4, a5, a6, a7, a8, a9, a10, a11, a12⟩ k2
  go_wp2_with fail
  refine (HC _).out.mono ?_
  rintro e w3 ⟨rfl, k3⟩
  go_wp2
  go_ret
  exact ⟨rfl, by (go_light; repeat (first | (with_reducible exact Kept.refl _) | (with_reducible assumption) | (with_reducible refine Kept.alloc ?_ _ _) | (with_reducible refine Kept.drew ?_) | (with_reducible refine Kept.drewN ?_ _) | ((with_reducible refine Kept.setCell ?_ ?_ _); rotate_left; focus (first | (simp; done) | (simp; omega))) | refine Kept.trans ?_ (by assumption)))⟩
set_option maxHeartbeats 1000000 in
theorem at_node (t : Twr) (h : t.Sound) (i p : Int) (hi : ¬ i = -1) (v : Int) (hc : ∀ W, Calls Tryz.prog 97 #[.agg #[.int .i64 t.D, .int .i64 t.A.F.N, .int .i64 (4 + t.G)], .int .i64 i, .int .i64 p] W fun e w' => e = .returned (.int .i64 v) ∧ Kept W w') (w : World) : Calls Tryz.prog 32 #[towV t, .int .i64 i, .int .i64 p] w fun e w' => e = .returned (.int .i64 v) ∧ Kept w w' := by
  have HS := fun W => Lib.hid (sound_in t h W)
  have NR := fun W => Lib.hid (nodeRow_any t h W)
  have HC := fun W => Lib.hid (hc W)
  clear h hc
  go_enter Tryz.func32, Tryz.ntmps32
  go_wp2_with fail
  refine ((HS _).out).mono ?_
  rintro e w1 ⟨rfl, k1⟩
  obtain ⟨a0, a1, a2, a3, a4, a5, a6, a7, a8, a9, a10, a11, a12⟩ := TB.kept (TB.new w _ _ rfl t) k1
  go_wp2_with fail
  refine ((NR _).out).mono ?_
  rintro e w2 ⟨rfl, k2⟩
  obtain ⟨a0, a1, a2, a3, a4, a5, a6, a7, a8, a9, a10, a11, a12⟩ := TB.kept ⟨a0, a1, a2, a3, a4, a5, a6, a7, a8, a9, a10, a11, a12⟩ k2
  go_wp2_with fail
  refine (HC _).out.mono ?_
  rintro e w3 ⟨rfl, k3⟩
  go_wp2
  go_ret
  exact ⟨rfl, by (go_light; repeat (first | (with_reducible exact Kept.refl _) | (with_reducible assumption) | (with_reducible refine Kept.alloc ?_ _ _) | (with_reducible refine Kept.drew ?_) | (with_reducible refine Kept.drewN ?_ _) | ((with_reducible refine Kept.setCell ?_ ?_ _); rotate_left; focus (first | (simp; done) | (simp; omega))) | refine Kept.trans ?_ (by assumption)))⟩
def I64 (x : Int) : Prop := -9223372036854775808 ≤ x ∧ x ≤ 9223372036854775807
theorem at_any (t : Twr) (i p : Int) (hp : I64 p) (w : World) : Calls Tryz.prog 32 #[towV t, .int .i64 i, .int .i64 p] w fun e w' => e = .returned (.int .i64 (atI t i p)) ∧ Kept w w' := by
  have hp0 : -9223372036854775808 ≤ p ∧ p ≤ 9223372036854775807 := hp
  by_cases h : t.Sound
  · have G1 := h.G1
    have G2 := h.G2
    have D1 := h.D1
    have D2 := h.D2
    have H1 := h.H1
    have H2 := h.H2
    by_cases hi : i = -1
    · subst hi
      by_cases hl : 4 ≤ p ∧ p < 4 + t.G
      · rw [atI_head h hl.1 hl.2]
        refine at_head t h p (p - 4) (by unfold I64 at hp; rw [IntKind.wrap_i64]; omega) _ (fun W => ?_) w
        have := cell_h5 t.H 1 t.G 0 (p - 4) (by omega) (by omega) (by omega) (by omega) 0 (by simp) (by omega) (by omega) H1 (by omega) (by omega) W
        rwa [Int.add_zero] at this
      · have e : atI t (-1) p = -1 := by unfold atI; rw [if_neg (by simpa using h), if_pos rfl, if_neg hl]
        rw [e]
        by_cases ho : -9223372036854775804 ≤ p
        · exact at_head t h p (p - 4) (by unfold I64 at hp; rw [IntKind.wrap_i64]; omega) _ (fun W => cell_h_no _ _ _ _ _ (by omega) W) w
        · exact at_head t h p (p - 4 + 18446744073709551616) (by unfold I64 at hp; rw [IntKind.wrap_i64]; omega) _ (fun W => cell_h_no _ _ _ _ _ (by omega) W) w
    · by_cases hl : 0 ≤ i ∧ i < t.A.F.N ∧ 0 ≤ p ∧ p < 4 + t.G
      · rw [atI_node h hl.1 hl.2.1 hl.2.2.1 hl.2.2.2]
        have b1 := mul_bound hl.1 hl.2.1 (show 0 ≤ 4 + t.G by omega)
        have b2 := mul_lo hl.1 (show 0 ≤ 4 + t.G by omega)
        have b3 := size_hi h
        exact at_node t h i p hi _ (fun W => cell_n5 t.D t.A.F.N (4 + t.G) i p hl.1 hl.2.1 hl.2.2.1 hl.2.2.2 _ rfl b2 (by omega) D1 (by omega) (by omega) W) w
      · have e : atI t i p = -1 := by unfold atI; rw [if_neg (by simpa using h), if_neg hi, if_neg hl]
        rw [e]
        exact at_node t h i p hi _ (fun W => cell_n_no _ _ _ _ _ (by omega) W) w
  · rw [atI_bad h]; exact at_bad t h i p w
set_option maxHeartbeats 400000 in
theorem next_bad (t : Twr) (i l : Int) (h : l < 0 ∨ t.G ≤ l) (w : World) : Calls Tryz.prog 33 #[towV t, .int .i64 i, .int .i64 l] w fun e w' => e = .returned (.int .i64 (-1)) ∧ Kept w w' := by
  have HS := fun W => Lib.hid (isLevel_no t l h W)
  clear h
  go_enter Tryz.func33, Tryz.ntmps33
  go_wp2_with fail
  refine (HS _).out.mono ?_
  rintro e w1 ⟨rfl, k1⟩
  go_wp2
  go_ret
  exact ⟨rfl, by (go_light; repeat (first | (with_reducible exact Kept.refl _) | (with_reducible assumption) | (with_reducible refine Kept.alloc ?_ _ _) | (with_reducible refine Kept.drew ?_) | (with_reducible refine Kept.drewN ?_ _) | ((with_reducible refine Kept.setCell ?_ ?_ _); rotate_left; focus (first | (simp; done) | (simp; omega))) | refine Kept.trans ?_ (by assumption)))⟩
set_option maxHeartbeats 400000 in
theorem next_in (t : Twr) (i l : Int) (h : 0 ≤ l) (h2 : l < t.G) (h3 : l ≤ 9223372036854775803) (w : World) : Calls Tryz.prog 33 #[towV t, .int .i64 i, .int .i64 l] w fun e w' => e = .returned (.int .i64 (nextI t i l)) ∧ Kept w w' := by
  have e : nextI t i l = atI t i (4 + l) := by unfold nextI; rw [if_pos ⟨h, h2⟩]
  rw [e]
  have HS := fun W => Lib.hid (isLevel_yes t l h h2 W)
  have HA := fun W => Lib.hid (at_any t i (4 + l) (by unfold I64; omega) W)
  clear e
  go_enter Tryz.func33, Tryz.ntmps33
  go_wp2_with fail
  refine (HS _).out.mono ?_
  rintro e w1 ⟨rfl, k1⟩
  obtain ⟨a0, a1, a2, a3, a4, a5, a6, a7, a8, a9, a10, a11, a12⟩ := TB.kept (TB.new w _ _ rfl t) k1
  go_wp2_with fail
  refine (HA _).out.mono ?_
  rintro e w2 ⟨rfl, k2⟩
  go_wp2
  go_ret
  exact ⟨rfl, by (go_light; repeat (first | (with_reducible exact Kept.refl _) | (with_reducible assumption) | (with_reducible refine Kept.alloc ?_ _ _) | (with_reducible refine Kept.drew ?_) | (with_reducible refine Kept.drewN ?_ _) | ((with_reducible refine Kept.setCell ?_ ?_ _); rotate_left; focus (first | (simp; done) | (simp; omega))) | refine Kept.trans ?_ (by assumption)))⟩
set_option maxHeartbeats 400000 in
theorem next_far (t : Twr) (i l : Int) (h2 : l < t.G) (h3 : 9223372036854775803 < l) (h4 : l ≤ 9223372036854775807) (w : World) : Calls Tryz.prog 33 #[towV t, .int .i64 i, .int .i64 l] w fun e w' => e = .returned (.int .i64 (-1)) ∧ Kept w w' := by
  have hn : ¬ t.Sound := fun h => by have := h.G2; omega
  have HS := fun W => Lib.hid (isLevel_yes t l (by omega) h2 W)
  have HA := fun W => Lib.hid (at_bad t hn i (4 + l - 18446744073709551616) W)
  have e4 : IntKind.i64.wrap (4 + l) = 4 + l - 18446744073709551616 := by rw [IntKind.wrap_i64]; omega
  clear hn
  go_enter Tryz.func33, Tryz.ntmps33
  go_wp2_with fail
  refine (HS _).out.mono ?_
  rintro e w1 ⟨rfl, k1⟩
  obtain ⟨a0, a1, a2, a3, a4, a5, a6, a7, a8, a9, a10, a11, a12⟩ := TB.kept (TB.new w _ _ rfl t) k1
  go_wp2_with fail
  try simp only [e4]
  refine (HA _).out.mono ?_
  rintro e w2 ⟨rfl, k2⟩
  go_wp2
  go_ret
  exact ⟨rfl, by (go_light; repeat (first | (with_reducible exact Kept.refl _) | (with_reducible assumption) | (with_reducible refine Kept.alloc ?_ _ _) | (with_reducible refine Kept.drew ?_) | (with_reducible refine Kept.drewN ?_ _) | ((with_reducible refine Kept.setCell ?_ ?_ _); rotate_left; focus (first | (simp; done) | (simp; omega))) | refine Kept.trans ?_ (by assumption)))⟩
theorem next_any (t : Twr) (i l : Int) (hl : I64 l) (w : World) : Calls Tryz.prog 33 #[towV t, .int .i64 i, .int .i64 l] w fun e w' => e = .returned (.int .i64 (nextI t i l)) ∧ Kept w w' := by
  by_cases h : 0 ≤ l ∧ l < t.G
  · by_cases h3 : l ≤ 9223372036854775803
    · exact next_in t i l h.1 h.2 h3 w
    · have hn : ¬ t.Sound := fun h' => by have := h'.G2; omega
      have e : nextI t i l = -1 := by unfold nextI; rw [if_pos h]; exact atI_bad hn _ _
      rw [e]
      exact next_far t i l h.2 (by omega) hl.2 w
  · have e : nextI t i l = -1 := by unfold nextI; rw [if_neg h]
    rw [e]; exact next_bad t i l (by omega) w
end Go.Proofs.YtejiogggocnldaaGreat.Tw
