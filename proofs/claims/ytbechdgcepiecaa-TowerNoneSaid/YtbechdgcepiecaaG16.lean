/- Which cell a part is, and whose a cell is: the document's. Written by gen15c.py. -/
import Derived.Test.YtbechdgcepiecaaG08
set_option linter.unusedVariables false
set_option linter.unusedSimpArgs false

namespace Go.Proofs.Ytbechdgcepiecaa.Tw
set_option maxRecDepth 20000
open Go.RowKit
open Wo (St acc wordAt PMem RefIs)
open Sk (Stk Arn idx Wd)

set_option maxHeartbeats 400000 in
theorem rsound_0 (t : Twr)  (hn : t.G < 1) (w : World) : Calls Try.prog 36 #[towV t] w fun e w' => e = .returned (.bool false) ∧ Kept w w' := by
  have d : decide (1 ≤ t.G) = false := by simp; omega
  go_enter Try.func36, Try.ntmps36
  go_wp2
  go_ret
  exact ⟨rfl, by (go_light; repeat (first | (with_reducible exact Kept.refl _) | (with_reducible assumption) | (with_reducible refine Kept.alloc ?_ _ _) | (with_reducible refine Kept.drew ?_) | (with_reducible refine Kept.drewN ?_ _) | ((with_reducible refine Kept.setCell ?_ ?_ _); rotate_left; focus (first | (simp; done) | (simp; omega))) | refine Kept.trans ?_ (by assumption)))⟩
set_option maxHeartbeats 400000 in
theorem rsound_1 (t : Twr) (h0 : 1 ≤ t.G) (hn : 4 < t.G) (w : World) : Calls Try.prog 36 #[towV t] w fun e w' => e = .returned (.bool false) ∧ Kept w w' := by
  have d : decide (t.G ≤ 4) = false := by simp; omega
  go_enter Try.func36, Try.ntmps36
  go_wp2
  go_ret
  exact ⟨rfl, by (go_light; repeat (first | (with_reducible exact Kept.refl _) | (with_reducible assumption) | (with_reducible refine Kept.alloc ?_ _ _) | (with_reducible refine Kept.drew ?_) | (with_reducible refine Kept.drewN ?_ _) | ((with_reducible refine Kept.setCell ?_ ?_ _); rotate_left; focus (first | (simp; done) | (simp; omega))) | refine Kept.trans ?_ (by assumption)))⟩
set_option maxHeartbeats 400000 in
theorem rsound_2 (t : Twr) (h0 : 1 ≤ t.G) (h1 : t.G ≤ 4) (hn : t.A.F.N < 1) (w : World) : Calls Try.prog 36 #[towV t] w fun e w' => e = .returned (.bool false) ∧ Kept w w' := by
  have d : decide (1 ≤ t.A.F.N) = false := by simp; omega
  go_enter Try.func36, Try.ntmps36
  go_wp2
  go_ret
  exact ⟨rfl, by (go_light; repeat (first | (with_reducible exact Kept.refl _) | (with_reducible assumption) | (with_reducible refine Kept.alloc ?_ _ _) | (with_reducible refine Kept.drew ?_) | (with_reducible refine Kept.drewN ?_ _) | ((with_reducible refine Kept.setCell ?_ ?_ _); rotate_left; focus (first | (simp; done) | (simp; omega))) | refine Kept.trans ?_ (by assumption)))⟩
set_option maxHeartbeats 400000 in
theorem rsound_3 (t : Twr) (h0 : 1 ≤ t.G) (h1 : t.G ≤ 4) (h2 : 1 ≤ t.A.F.N) (hn : 128 < t.A.F.N) (w : World) : Calls Try.prog 36 #[towV t] w fun e w' => e = .returned (.bool false) ∧ Kept w w' := by
  have d : decide (t.A.F.N ≤ 128) = false := by simp; omega
  go_enter Try.func36, Try.ntmps36
  go_wp2
  go_ret
  exact ⟨rfl, by (go_light; repeat (first | (with_reducible exact Kept.refl _) | (with_reducible assumption) | (with_reducible refine Kept.alloc ?_ _ _) | (with_reducible refine Kept.drew ?_) | (with_reducible refine Kept.drewN ?_ _) | ((with_reducible refine Kept.setCell ?_ ?_ _); rotate_left; focus (first | (simp; done) | (simp; omega))) | refine Kept.trans ?_ (by assumption)))⟩
set_option maxHeartbeats 400000 in
theorem rsound_4 (t : Twr) (h0 : 1 ≤ t.G) (h1 : t.G ≤ 4) (h2 : 1 ≤ t.A.F.N) (h3 : t.A.F.N ≤ 128) (hn : t.D < 0) (w : World) : Calls Try.prog 36 #[towV t] w fun e w' => e = .returned (.bool false) ∧ Kept w w' := by
  have d : decide (0 ≤ t.D) = false := by simp; omega
  go_enter Try.func36, Try.ntmps36
  go_wp2
  go_ret
  exact ⟨rfl, by (go_light; repeat (first | (with_reducible exact Kept.refl _) | (with_reducible assumption) | (with_reducible refine Kept.alloc ?_ _ _) | (with_reducible refine Kept.drew ?_) | (with_reducible refine Kept.drewN ?_ _) | ((with_reducible refine Kept.setCell ?_ ?_ _); rotate_left; focus (first | (simp; done) | (simp; omega))) | refine Kept.trans ?_ (by assumption)))⟩
set_option maxHeartbeats 400000 in
theorem rsound_5 (t : Twr) (h0 : 1 ≤ t.G) (h1 : t.G ≤ 4) (h2 : 1 ≤ t.A.F.N) (h3 : t.A.F.N ≤ 128) (h4 : 0 ≤ t.D) (hn : 4096 ≤ t.D) (w : World) : Calls Try.prog 36 #[towV t] w fun e w' => e = .returned (.bool false) ∧ Kept w w' := by
  have d : decide (t.D < 4096) = false := by simp; omega
  go_enter Try.func36, Try.ntmps36
  go_wp2
  go_ret
  exact ⟨rfl, by (go_light; repeat (first | (with_reducible exact Kept.refl _) | (with_reducible assumption) | (with_reducible refine Kept.alloc ?_ _ _) | (with_reducible refine Kept.drew ?_) | (with_reducible refine Kept.drewN ?_ _) | ((with_reducible refine Kept.setCell ?_ ?_ _); rotate_left; focus (first | (simp; done) | (simp; omega))) | refine Kept.trans ?_ (by assumption)))⟩
set_option maxHeartbeats 400000 in
theorem rsound_6 (t : Twr) (h0 : 1 ≤ t.G) (h1 : t.G ≤ 4) (h2 : 1 ≤ t.A.F.N) (h3 : t.A.F.N ≤ 128) (h4 : 0 ≤ t.D) (h5 : t.D < 4096) (hn : t.H < 0) (w : World) : Calls Try.prog 36 #[towV t] w fun e w' => e = .returned (.bool false) ∧ Kept w w' := by
  have d : decide (0 ≤ t.H) = false := by simp; omega
  go_enter Try.func36, Try.ntmps36
  go_wp2
  go_ret
  exact ⟨rfl, by (go_light; repeat (first | (with_reducible exact Kept.refl _) | (with_reducible assumption) | (with_reducible refine Kept.alloc ?_ _ _) | (with_reducible refine Kept.drew ?_) | (with_reducible refine Kept.drewN ?_ _) | ((with_reducible refine Kept.setCell ?_ ?_ _); rotate_left; focus (first | (simp; done) | (simp; omega))) | refine Kept.trans ?_ (by assumption)))⟩
set_option maxHeartbeats 400000 in
theorem rsound_7 (t : Twr) (h0 : 1 ≤ t.G) (h1 : t.G ≤ 4) (h2 : 1 ≤ t.A.F.N) (h3 : t.A.F.N ≤ 128) (h4 : 0 ≤ t.D) (h5 : t.D < 4096) (h6 : 0 ≤ t.H) (hn : 4096 ≤ t.H) (w : World) : Calls Try.prog 36 #[towV t] w fun e w' => e = .returned (.bool false) ∧ Kept w w' := by
  have d : decide (t.H < 4096) = false := by simp; omega
  go_enter Try.func36, Try.ntmps36
  go_wp2
  go_ret
  exact ⟨rfl, by (go_light; repeat (first | (with_reducible exact Kept.refl _) | (with_reducible assumption) | (with_reducible refine Kept.alloc ?_ _ _) | (with_reducible refine Kept.drew ?_) | (with_reducible refine Kept.drewN ?_ _) | ((with_reducible refine Kept.setCell ?_ ?_ _); rotate_left; focus (first | (simp; done) | (simp; omega))) | refine Kept.trans ?_ (by assumption)))⟩
set_option maxHeartbeats 400000 in
theorem rsound_in (t : Twr) (h0 : 1 ≤ t.G) (h1 : t.G ≤ 4) (h2 : 1 ≤ t.A.F.N) (h3 : t.A.F.N ≤ 128) (h4 : 0 ≤ t.D) (h5 : t.D < 4096) (h6 : 0 ≤ t.H) (h7 : t.H < 4096) (w : World) : Calls Try.prog 36 #[towV t] w fun e w' => e = .returned (.bool true) ∧ Kept w w' := by
  go_enter Try.func36, Try.ntmps36
  go_wp2
  go_ret
  exact ⟨rfl, by (go_light; repeat (first | (with_reducible exact Kept.refl _) | (with_reducible assumption) | (with_reducible refine Kept.alloc ?_ _ _) | (with_reducible refine Kept.drew ?_) | (with_reducible refine Kept.drewN ?_ _) | ((with_reducible refine Kept.setCell ?_ ?_ _); rotate_left; focus (first | (simp; done) | (simp; omega))) | refine Kept.trans ?_ (by assumption)))⟩
theorem rsound_any (t : Twr) (w : World) : Calls Try.prog 36 #[towV t] w fun e w' => e = .returned (.bool (decide t.Sound)) ∧ Kept w w' := by
  by_cases h : t.Sound
  · rw [decide_eq_true h]; exact rsound_in t h.G1 h.G2 h.N1 h.N2 h.D1 h.D2 h.H1 h.H2 w
  · rw [decide_eq_false h]
    rw [sound_iff] at h
    by_cases h0 : t.G < 1
    · exact rsound_0 t h0 w
    by_cases h1 : 4 < t.G
    · exact rsound_1 t (by omega) h1 w
    by_cases h2 : t.A.F.N < 1
    · exact rsound_2 t (by omega) (by omega) h2 w
    by_cases h3 : 128 < t.A.F.N
    · exact rsound_3 t (by omega) (by omega) (by omega) h3 w
    by_cases h4 : t.D < 0
    · exact rsound_4 t (by omega) (by omega) (by omega) (by omega) h4 w
    by_cases h5 : 4096 ≤ t.D
    · exact rsound_5 t (by omega) (by omega) (by omega) (by omega) (by omega) h5 w
    by_cases h6 : t.H < 0
    · exact rsound_6 t (by omega) (by omega) (by omega) (by omega) (by omega) (by omega) h6 w
    by_cases h7 : 4096 ≤ t.H
    · exact rsound_7 t (by omega) (by omega) (by omega) (by omega) (by omega) (by omega) (by omega) h7 w
    · omega
set_option maxHeartbeats 1000000 in
theorem rat_bad (t : Twr) (h : ¬ t.Sound) (i p : Int) (w : World) : Calls Try.prog 9 #[towV t, .int .i64 i, .int .i64 p] w fun e w' => e = .returned (.int .i64 (-1)) ∧ Kept w w' := by
  have HS := fun W => Lib.hid (show Calls Try.prog 36 #[towV t] W fun e w' => e = .returned (.bool false) ∧ Kept W w' from by have := rsound_any t W; rwa [decide_eq_false h] at this)
  clear h
  go_enter Try.func9, Try.ntmps9
  go_wp2_with fail
  refine (HS _).out.mono ?_
  rintro e w1 ⟨rfl, k1⟩
  obtain ⟨a0, a1, a2, a3, a4, a5, a6, a7, a8, a9, a10, a11, a12⟩ := TB.kept (TB.new w _ _ rfl t) k1
  go_wp2
  go_ret
  exact ⟨rfl, by (go_light; repeat (first | (with_reducible exact Kept.refl _) | (with_reducible assumption) | (with_reducible refine Kept.alloc ?_ _ _) | (with_reducible refine Kept.drew ?_) | (with_reducible refine Kept.drewN ?_ _) | ((with_reducible refine Kept.setCell ?_ ?_ _); rotate_left; focus (first | (simp; done) | (simp; omega))) | refine Kept.trans ?_ (by assumption)))⟩
set_option maxHeartbeats 1000000 in
theorem rat_1 (t : Twr) (h : t.Sound) (i p : Int) (h1 : i < -1) (w : World) : Calls Try.prog 9 #[towV t, .int .i64 i, .int .i64 p] w fun e w' => e = .returned (.int .i64 (-1)) ∧ Kept w w' := by
  have HS := fun W => Lib.hid (show Calls Try.prog 36 #[towV t] W fun e w' => e = .returned (.bool true) ∧ Kept W w' from by have := rsound_any t W; rwa [decide_eq_true h] at this)
  have G1 := h.G1
  have G2 := h.G2
  have D1 := h.D1
  have D2 := h.D2
  have H1 := h.H1
  have H2 := h.H2
  clear h
  go_enter Try.func9, Try.ntmps9
  go_wp2_with fail
  refine (HS _).out.mono ?_
  rintro e w1 ⟨rfl, k1⟩
  obtain ⟨a0, a1, a2, a3, a4, a5, a6, a7, a8, a9, a10, a11, a12⟩ := TB.kept (TB.new w _ _ rfl t) k1
  go_wp2
  go_ret
  exact ⟨rfl, by (go_light; repeat (first | (with_reducible exact Kept.refl _) | (with_reducible assumption) | (with_reducible refine Kept.alloc ?_ _ _) | (with_reducible refine Kept.drew ?_) | (with_reducible refine Kept.drewN ?_ _) | ((with_reducible refine Kept.setCell ?_ ?_ _); rotate_left; focus (first | (simp; done) | (simp; omega))) | refine Kept.trans ?_ (by assumption)))⟩
set_option maxHeartbeats 1000000 in
theorem rat_2 (t : Twr) (h : t.Sound) (i p : Int) (h1 : -1 ≤ i) (h2 : t.A.F.N ≤ i) (w : World) : Calls Try.prog 9 #[towV t, .int .i64 i, .int .i64 p] w fun e w' => e = .returned (.int .i64 (-1)) ∧ Kept w w' := by
  have HS := fun W => Lib.hid (show Calls Try.prog 36 #[towV t] W fun e w' => e = .returned (.bool true) ∧ Kept W w' from by have := rsound_any t W; rwa [decide_eq_true h] at this)
  have G1 := h.G1
  have G2 := h.G2
  have D1 := h.D1
  have D2 := h.D2
  have H1 := h.H1
  have H2 := h.H2
  clear h
  have d0 : decide (i < -1) = false := by simp; omega
  go_enter Try.func9, Try.ntmps9
  go_wp2_with fail
  refine (HS _).out.mono ?_
  rintro e w1 ⟨rfl, k1⟩
  obtain ⟨a0, a1, a2, a3, a4, a5, a6, a7, a8, a9, a10, a11, a12⟩ := TB.kept (TB.new w _ _ rfl t) k1
  go_wp2
  go_ret
  exact ⟨rfl, by (go_light; repeat (first | (with_reducible exact Kept.refl _) | (with_reducible assumption) | (with_reducible refine Kept.alloc ?_ _ _) | (with_reducible refine Kept.drew ?_) | (with_reducible refine Kept.drewN ?_ _) | ((with_reducible refine Kept.setCell ?_ ?_ _); rotate_left; focus (first | (simp; done) | (simp; omega))) | refine Kept.trans ?_ (by assumption)))⟩
set_option maxHeartbeats 1000000 in
theorem rat_3 (t : Twr) (h : t.Sound) (i p : Int) (h1 : -1 ≤ i) (h2 : i < t.A.F.N) (h3 : p < 0) (w : World) : Calls Try.prog 9 #[towV t, .int .i64 i, .int .i64 p] w fun e w' => e = .returned (.int .i64 (-1)) ∧ Kept w w' := by
  have HS := fun W => Lib.hid (show Calls Try.prog 36 #[towV t] W fun e w' => e = .returned (.bool true) ∧ Kept W w' from by have := rsound_any t W; rwa [decide_eq_true h] at this)
  have G1 := h.G1
  have G2 := h.G2
  have D1 := h.D1
  have D2 := h.D2
  have H1 := h.H1
  have H2 := h.H2
  clear h
  have d0 : decide (i < -1) = false := by simp; omega
  have d1 : decide (t.A.F.N ≤ i) = false := by simp; omega
  go_enter Try.func9, Try.ntmps9
  go_wp2_with fail
  refine (HS _).out.mono ?_
  rintro e w1 ⟨rfl, k1⟩
  obtain ⟨a0, a1, a2, a3, a4, a5, a6, a7, a8, a9, a10, a11, a12⟩ := TB.kept (TB.new w _ _ rfl t) k1
  go_wp2
  go_ret
  exact ⟨rfl, by (go_light; repeat (first | (with_reducible exact Kept.refl _) | (with_reducible assumption) | (with_reducible refine Kept.alloc ?_ _ _) | (with_reducible refine Kept.drew ?_) | (with_reducible refine Kept.drewN ?_ _) | ((with_reducible refine Kept.setCell ?_ ?_ _); rotate_left; focus (first | (simp; done) | (simp; omega))) | refine Kept.trans ?_ (by assumption)))⟩
set_option maxHeartbeats 1000000 in
theorem rat_4 (t : Twr) (h : t.Sound) (i p : Int) (h1 : -1 ≤ i) (h2 : i < t.A.F.N) (h3 : 0 ≤ p) (h4 : 4 + t.G ≤ p) (w : World) : Calls Try.prog 9 #[towV t, .int .i64 i, .int .i64 p] w fun e w' => e = .returned (.int .i64 (-1)) ∧ Kept w w' := by
  have HS := fun W => Lib.hid (show Calls Try.prog 36 #[towV t] W fun e w' => e = .returned (.bool true) ∧ Kept W w' from by have := rsound_any t W; rwa [decide_eq_true h] at this)
  have G1 := h.G1
  have G2 := h.G2
  have D1 := h.D1
  have D2 := h.D2
  have H1 := h.H1
  have H2 := h.H2
  clear h
  have d0 : decide (i < -1) = false := by simp; omega
  have d1 : decide (t.A.F.N ≤ i) = false := by simp; omega
  have d2 : decide (p < 0) = false := by simp; omega
  go_enter Try.func9, Try.ntmps9
  go_wp2_with fail
  refine (HS _).out.mono ?_
  rintro e w1 ⟨rfl, k1⟩
  obtain ⟨a0, a1, a2, a3, a4, a5, a6, a7, a8, a9, a10, a11, a12⟩ := TB.kept (TB.new w _ _ rfl t) k1
  go_wp2
  go_ret
  exact ⟨rfl, by (go_light; repeat (first | (with_reducible exact Kept.refl _) | (with_reducible assumption) | (with_reducible refine Kept.alloc ?_ _ _) | (with_reducible refine Kept.drew ?_) | (with_reducible refine Kept.drewN ?_ _) | ((with_reducible refine Kept.setCell ?_ ?_ _); rotate_left; focus (first | (simp; done) | (simp; omega))) | refine Kept.trans ?_ (by assumption)))⟩
set_option maxHeartbeats 1000000 in
theorem rat_5 (t : Twr) (h : t.Sound) (i p : Int) (h1 : -1 ≤ i) (h2 : i < t.A.F.N) (h3 : 0 ≤ p) (h4 : p < 4 + t.G) (h5 : i < 0) (h6 : p < 4) (w : World) : Calls Try.prog 9 #[towV t, .int .i64 i, .int .i64 p] w fun e w' => e = .returned (.int .i64 (-1)) ∧ Kept w w' := by
  have HS := fun W => Lib.hid (show Calls Try.prog 36 #[towV t] W fun e w' => e = .returned (.bool true) ∧ Kept W w' from by have := rsound_any t W; rwa [decide_eq_true h] at this)
  have G1 := h.G1
  have G2 := h.G2
  have D1 := h.D1
  have D2 := h.D2
  have H1 := h.H1
  have H2 := h.H2
  clear h
  have d0 : decide (i < -1) = false := by simp; omega
  have d1 : decide (t.A.F.N ≤ i) = false := by simp; omega
  have d2 : decide (p < 0) = false := by simp; omega
  have d3 : decide (4 + t.G ≤ p) = false := by simp; omega
  go_enter Try.func9, Try.ntmps9
  go_wp2_with fail
  refine (HS _).out.mono ?_
  rintro e w1 ⟨rfl, k1⟩
  obtain ⟨a0, a1, a2, a3, a4, a5, a6, a7, a8, a9, a10, a11, a12⟩ := TB.kept (TB.new w _ _ rfl t) k1
  go_wp2
  go_ret
  exact ⟨rfl, by (go_light; repeat (first | (with_reducible exact Kept.refl _) | (with_reducible assumption) | (with_reducible refine Kept.alloc ?_ _ _) | (with_reducible refine Kept.drew ?_) | (with_reducible refine Kept.drewN ?_ _) | ((with_reducible refine Kept.setCell ?_ ?_ _); rotate_left; focus (first | (simp; done) | (simp; omega))) | refine Kept.trans ?_ (by assumption)))⟩
set_option maxHeartbeats 1000000 in
theorem rat_6 (t : Twr) (h : t.Sound) (i p : Int) (h1 : -1 ≤ i) (h2 : i < t.A.F.N) (h3 : 4 ≤ p) (h4 : p < 4 + t.G) (h5 : i < 0) (w : World) : Calls Try.prog 9 #[towV t, .int .i64 i, .int .i64 p] w fun e w' => e = .returned (.int .i64 (t.H + p - 4)) ∧ Kept w w' := by
  have HS := fun W => Lib.hid (show Calls Try.prog 36 #[towV t] W fun e w' => e = .returned (.bool true) ∧ Kept W w' from by have := rsound_any t W; rwa [decide_eq_true h] at this)
  have G1 := h.G1
  have G2 := h.G2
  have D1 := h.D1
  have D2 := h.D2
  have H1 := h.H1
  have H2 := h.H2
  clear h
  have d0 : decide (i < -1) = false := by simp; omega
  have d1 : decide (t.A.F.N ≤ i) = false := by simp; omega
  have d2 : decide (p < 0) = false := by simp; omega
  have d3 : decide (4 + t.G ≤ p) = false := by simp; omega
  have d4 : decide (p < 4) = false := by simp; omega
  go_enter Try.func9, Try.ntmps9
  go_wp2_with fail
  refine (HS _).out.mono ?_
  rintro e w1 ⟨rfl, k1⟩
  obtain ⟨a0, a1, a2, a3, a4, a5, a6, a7, a8, a9, a10, a11, a12⟩ := TB.kept (TB.new w _ _ rfl t) k1
  go_wp2
  go_ret
  exact ⟨rfl, by (go_light; repeat (first | (with_reducible exact Kept.refl _) | (with_reducible assumption) | (with_reducible refine Kept.alloc ?_ _ _) | (with_reducible refine Kept.drew ?_) | (with_reducible refine Kept.drewN ?_ _) | ((with_reducible refine Kept.setCell ?_ ?_ _); rotate_left; focus (first | (simp; done) | (simp; omega))) | refine Kept.trans ?_ (by assumption)))⟩
set_option maxHeartbeats 1000000 in
theorem rat_7 (t : Twr) (h : t.Sound) (i p : Int) (h1 : 0 ≤ i) (h2 : i < t.A.F.N) (h3 : 0 ≤ p) (h4 : p < 4 + t.G) (q : Int) (hq : q = i * (4 + t.G)) (q0 : 0 ≤ q) (q1 : q ≤ 10000) (w : World) : Calls Try.prog 9 #[towV t, .int .i64 i, .int .i64 p] w fun e w' => e = .returned (.int .i64 (t.D + q + p)) ∧ Kept w w' := by
  have HS := fun W => Lib.hid (show Calls Try.prog 36 #[towV t] W fun e w' => e = .returned (.bool true) ∧ Kept W w' from by have := rsound_any t W; rwa [decide_eq_true h] at this)
  have G1 := h.G1
  have G2 := h.G2
  have D1 := h.D1
  have D2 := h.D2
  have H1 := h.H1
  have H2 := h.H2
  clear h
  have e : IntKind.i64.wrap (i * (4 + t.G)) = q := by rw [← hq, IntKind.wrap_i64]; omega
  have e2 : wrap64 (i * (4 + t.G)) = q := by rw [← hq]; unfold wrap64; omega
  have HQ := Lib.hid hq
  clear hq
  have d0 : decide (i < -1) = false := by simp; omega
  have d1 : decide (t.A.F.N ≤ i) = false := by simp; omega
  have d2 : decide (p < 0) = false := by simp; omega
  have d3 : decide (4 + t.G ≤ p) = false := by simp; omega
  have d4 : decide (i < 0) = false := by simp; omega
  go_enter Try.func9, Try.ntmps9
  go_wp2_with fail
  refine (HS _).out.mono ?_
  rintro e w1 ⟨rfl, k1⟩
  obtain ⟨a0, a1, a2, a3, a4, a5, a6, a7, a8, a9, a10, a11, a12⟩ := TB.kept (TB.new w _ _ rfl t) k1
  go_wp2
  go_ret
  exact ⟨rfl, by (go_light; repeat (first | (with_reducible exact Kept.refl _) | (with_reducible assumption) | (with_reducible refine Kept.alloc ?_ _ _) | (with_reducible refine Kept.drew ?_) | (with_reducible refine Kept.drewN ?_ _) | ((with_reducible refine Kept.setCell ?_ ?_ _); rotate_left; focus (first | (simp; done) | (simp; omega))) | refine Kept.trans ?_ (by assumption)))⟩
theorem rat_any (t : Twr) (i p : Int) (w : World) : Calls Try.prog 9 #[towV t, .int .i64 i, .int .i64 p] w fun e w' => e = .returned (.int .i64 (atI t i p)) ∧ Kept w w' := by
  by_cases h : t.Sound
  · have G1 := h.G1
    have G2 := h.G2
    unfold atI
    rw [if_neg (by simpa using h)]
    by_cases h1 : i < -1
    · rw [if_neg (by omega), if_neg (by omega)]; exact rat_1 t h i p h1 w
    by_cases h2 : t.A.F.N ≤ i
    · have := h.N1
      rw [if_neg (by omega), if_neg (by omega)]; exact rat_2 t h i p (by omega) h2 w
    by_cases h3 : p < 0
    · rw [show (if i = -1 then (if 4 ≤ p ∧ p < 4 + t.G then t.H + (p - 4) else -1) else if 0 ≤ i ∧ i < t.A.F.N ∧ 0 ≤ p ∧ p < 4 + t.G then t.D + i * (4 + t.G) + p else -1) = -1 from by split <;> rw [if_neg (by omega)]]
      exact rat_3 t h i p (by omega) (by omega) h3 w
    by_cases h4 : 4 + t.G ≤ p
    · rw [show (if i = -1 then (if 4 ≤ p ∧ p < 4 + t.G then t.H + (p - 4) else -1) else if 0 ≤ i ∧ i < t.A.F.N ∧ 0 ≤ p ∧ p < 4 + t.G then t.D + i * (4 + t.G) + p else -1) = -1 from by split <;> rw [if_neg (by omega)]]
      exact rat_4 t h i p (by omega) (by omega) (by omega) h4 w
    by_cases h5 : i < 0
    · rw [if_pos (by omega)]
      by_cases h6 : p < 4
      · rw [if_neg (by omega)]; exact rat_5 t h i p (by omega) (by omega) (by omega) (by omega) h5 h6 w
      · rw [if_pos (by omega), show t.H + (p - 4) = t.H + p - 4 by omega]; exact rat_6 t h i p (by omega) (by omega) (by omega) (by omega) h5 w
    · rw [if_neg (by omega), if_pos ⟨by omega, by omega, by omega, by omega⟩]
      have b1 := mul_bound (show 0 ≤ i by omega) (show i < t.A.F.N by omega) (show 0 ≤ 4 + t.G by omega)
      have b2 := mul_lo (show 0 ≤ i by omega) (show 0 ≤ 4 + t.G by omega)
      have b3 := size_hi h
      exact rat_7 t h i p (by omega) (by omega) (by omega) (by omega) _ rfl b2 (by omega) w
  · rw [atI_bad h]; exact rat_bad t h i p w
set_option maxHeartbeats 400000 in
theorem rnext_lo (t : Twr) (i l : Int) (h : l < 0) (w : World) : Calls Try.prog 11 #[towV t, .int .i64 i, .int .i64 l] w fun e w' => e = .returned (.int .i64 (-1)) ∧ Kept w w' := by
  go_enter Try.func11, Try.ntmps11
  go_wp2
  go_ret
  exact ⟨rfl, by (go_light; repeat (first | (with_reducible exact Kept.refl _) | (with_reducible assumption) | (with_reducible refine Kept.alloc ?_ _ _) | (with_reducible refine Kept.drew ?_) | (with_reducible refine Kept.drewN ?_ _) | ((with_reducible refine Kept.setCell ?_ ?_ _); rotate_left; focus (first | (simp; done) | (simp; omega))) | refine Kept.trans ?_ (by assumption)))⟩
set_option maxHeartbeats 400000 in
theorem rnext_hi (t : Twr) (i l : Int) (h : 0 ≤ l) (h2 : 4 ≤ l) (w : World) : Calls Try.prog 11 #[towV t, .int .i64 i, .int .i64 l] w fun e w' => e = .returned (.int .i64 (-1)) ∧ Kept w w' := by
  have d : decide (l < 0) = false := by simp; omega
  go_enter Try.func11, Try.ntmps11
  go_wp2
  go_ret
  exact ⟨rfl, by (go_light; repeat (first | (with_reducible exact Kept.refl _) | (with_reducible assumption) | (with_reducible refine Kept.alloc ?_ _ _) | (with_reducible refine Kept.drew ?_) | (with_reducible refine Kept.drewN ?_ _) | ((with_reducible refine Kept.setCell ?_ ?_ _); rotate_left; focus (first | (simp; done) | (simp; omega))) | refine Kept.trans ?_ (by assumption)))⟩
set_option maxHeartbeats 400000 in
theorem rnext_in (t : Twr) (i l : Int) (h : 0 ≤ l) (h2 : l < 4) (w : World) : Calls Try.prog 11 #[towV t, .int .i64 i, .int .i64 l] w fun e w' => e = .returned (.int .i64 (atI t i (4 + l))) ∧ Kept w w' := by
  have d : decide (l < 0) = false := by simp; omega
  have d2 : decide (4 ≤ l) = false := by simp; omega
  have HA := fun W => Lib.hid (rat_any t i (4 + l) W)
  go_enter Try.func11, Try.ntmps11
  go_wp2_with fail
  refine (HA _).out.mono ?_
  rintro e w1 ⟨rfl, k1⟩
  go_wp2
  go_ret
  exact ⟨rfl, by (go_light; repeat (first | (with_reducible exact Kept.refl _) | (with_reducible assumption) | (with_reducible refine Kept.alloc ?_ _ _) | (with_reducible refine Kept.drew ?_) | (with_reducible refine Kept.drewN ?_ _) | ((with_reducible refine Kept.setCell ?_ ?_ _); rotate_left; focus (first | (simp; done) | (simp; omega))) | refine Kept.trans ?_ (by assumption)))⟩
theorem rnext_any (t : Twr) (i l : Int) (w : World) : Calls Try.prog 11 #[towV t, .int .i64 i, .int .i64 l] w fun e w' => e = .returned (.int .i64 (nextI t i l)) ∧ Kept w w' := by
  by_cases h0 : l < 0
  · have e : nextI t i l = -1 := by unfold nextI; rw [if_neg (by omega)]
    rw [e]; exact rnext_lo t i l h0 w
  by_cases h1 : 4 ≤ l
  · have e : nextI t i l = -1 := by
      unfold nextI
      split
      · exact atI_bad (fun h => by have := h.G2; omega) _ _
      · rfl
    rw [e]; exact rnext_hi t i l (by omega) h1 w
  · have e : nextI t i l = atI t i (4 + l) := by
      unfold nextI
      split
      · rfl
      · unfold atI
        split
        · rfl
        · split
          · rw [if_neg (by omega)]
          · rw [if_neg (by omega)]
    rw [e]; exact rnext_in t i l (by omega) (by omega) w
set_option maxHeartbeats 1000000 in
theorem rwho_bad (t : Twr) (h : ¬ t.Sound) (a : Int) (w : World) : Calls Try.prog 7 #[towV t, .int .i64 a] w fun e w' => e = .returned (.tuple #[.int .i64 0, .int .i64 0, .bool false]) ∧ Kept w w' := by
  have HS := fun W => Lib.hid (show Calls Try.prog 36 #[towV t] W fun e w' => e = .returned (.bool false) ∧ Kept W w' from by have := rsound_any t W; rwa [decide_eq_false h] at this)
  clear h
  go_enter Try.func7, Try.ntmps7
  go_wp2_with fail
  refine (HS _).out.mono ?_
  rintro e w1 ⟨rfl, k1⟩
  obtain ⟨a0, a1, a2, a3, a4, a5, a6, a7, a8, a9, a10, a11, a12⟩ := TB.kept (TB.new w _ _ rfl t) k1
  go_wp2
  refine bodyPost_ret (v := .tuple #[.int .i64 0, .int .i64 0, .bool false]) (by simp [results, Try.results7, go_sem]) rfl ⟨rfl, ?_⟩
  (go_light; repeat (first | (with_reducible exact Kept.refl _) | (with_reducible assumption) | (with_reducible refine Kept.alloc ?_ _ _) | (with_reducible refine Kept.drew ?_) | (with_reducible refine Kept.drewN ?_ _) | ((with_reducible refine Kept.setCell ?_ ?_ _); rotate_left; focus (first | (simp; done) | (simp; omega))) | refine Kept.trans ?_ (by assumption)))
set_option maxHeartbeats 1000000 in
theorem rwho_node (t : Twr) (h : t.Sound) (a : Int) (q : Int) (hq : q = t.A.F.N * (4 + t.G)) (q0 : 0 ≤ q) (q1 : q ≤ 10000) (h1 : t.D ≤ a) (h2 : a < t.D + q) (u v : Int) (hu : u = (a - t.D) / (4 + t.G)) (hv : v = (a - t.D) % (4 + t.G)) (w : World) : Calls Try.prog 7 #[towV t, .int .i64 a] w fun e w' => e = .returned (.tuple #[.int .i64 u, .int .i64 v, .bool true]) ∧ Kept w w' := by
  have HS := fun W => Lib.hid (show Calls Try.prog 36 #[towV t] W fun e w' => e = .returned (.bool true) ∧ Kept W w' from by have := rsound_any t W; rwa [decide_eq_true h] at this)
  have G1 := h.G1
  have G2 := h.G2
  have D1 := h.D1
  have D2 := h.D2
  have H1 := h.H1
  have H2 := h.H2
  have e : IntKind.i64.wrap (t.A.F.N * (4 + t.G)) = q := by rw [← hq, IntKind.wrap_i64]; omega
  have e2 : wrap64 (t.A.F.N * (4 + t.G)) = q := by rw [← hq]; unfold wrap64; omega
  have HQ := Lib.hid hq
  clear hq h
  have wa : IntKind.i64.wrap (a - t.D) = a - t.D := by rw [IntKind.wrap_i64]; omega
  have hu' : (a - t.D).tdiv (4 + t.G) = u := by rw [hu]; exact Int.tdiv_eq_ediv_of_nonneg (by omega)
  have hv' : (a - t.D).tmod (4 + t.G) = v := by rw [hv]; exact Int.tmod_eq_emod_of_nonneg (by omega)
  have u0 : 0 ≤ u ∧ u ≤ 20000 := by
    rw [hu]
    have h1 := Int.ediv_nonneg (show 0 ≤ a - t.D by omega) (show 0 ≤ 4 + t.G by omega)
    have h2 := Int.ediv_le_self (4 + t.G) (show 0 ≤ a - t.D by omega)
    omega
  have hu2 : (a - t.D) / (4 + t.G) = u := hu.symm
  have hv2 : (a - t.D) % (4 + t.G) = v := hv.symm
  have wu : IntKind.i64.wrap u = u := by rw [IntKind.wrap_i64]; omega
  have gz : ¬ 4 + t.G = 0 := by omega
  clear hu hv
  go_enter Try.func7, Try.ntmps7
  go_wp2_with fail
  refine (HS _).out.mono ?_
  rintro e w1 ⟨rfl, k1⟩
  obtain ⟨a0, a1, a2, a3, a4, a5, a6, a7, a8, a9, a10, a11, a12⟩ := TB.kept (TB.new w _ _ rfl t) k1
  go_wp2_with fail
  go_quiet (fail)
  go_wp2
  refine bodyPost_ret (v := .tuple #[.int .i64 u, .int .i64 v, .bool true]) (by simp [results, Try.results7, go_sem]) rfl ⟨rfl, ?_⟩
  (go_light; repeat (first | (with_reducible exact Kept.refl _) | (with_reducible assumption) | (with_reducible refine Kept.alloc ?_ _ _) | (with_reducible refine Kept.drew ?_) | (with_reducible refine Kept.drewN ?_ _) | ((with_reducible refine Kept.setCell ?_ ?_ _); rotate_left; focus (first | (simp; done) | (simp; omega))) | refine Kept.trans ?_ (by assumption)))
set_option maxHeartbeats 1000000 in
theorem rwho_h1 (t : Twr) (h : t.Sound) (a : Int) (q : Int) (hq : q = t.A.F.N * (4 + t.G)) (q0 : 0 ≤ q) (q1 : q ≤ 10000) (h1 : a < t.D) (h2 : t.H ≤ a) (h3 : a < t.H + t.G) (w : World) : Calls Try.prog 7 #[towV t, .int .i64 a] w fun e w' => e = .returned (.tuple #[.int .i64 (-1), .int .i64 (a - t.H + 4), .bool true]) ∧ Kept w w' := by
  have HS := fun W => Lib.hid (show Calls Try.prog 36 #[towV t] W fun e w' => e = .returned (.bool true) ∧ Kept W w' from by have := rsound_any t W; rwa [decide_eq_true h] at this)
  have G1 := h.G1
  have G2 := h.G2
  have D1 := h.D1
  have D2 := h.D2
  have H1 := h.H1
  have H2 := h.H2
  have e : IntKind.i64.wrap (t.A.F.N * (4 + t.G)) = q := by rw [← hq, IntKind.wrap_i64]; omega
  have e2 : wrap64 (t.A.F.N * (4 + t.G)) = q := by rw [← hq]; unfold wrap64; omega
  have HQ := Lib.hid hq
  clear hq h
  have d0 : decide (t.D ≤ a) = false := by simp; omega
  go_enter Try.func7, Try.ntmps7
  go_wp2_with fail
  refine (HS _).out.mono ?_
  rintro e w1 ⟨rfl, k1⟩
  obtain ⟨a0, a1, a2, a3, a4, a5, a6, a7, a8, a9, a10, a11, a12⟩ := TB.kept (TB.new w _ _ rfl t) k1
  go_wp2_with fail
  go_quiet (fail)
  go_wp2
  refine bodyPost_ret (v := .tuple #[.int .i64 (-1), .int .i64 (a - t.H + 4), .bool true]) (by simp [results, Try.results7, go_sem]) rfl ⟨rfl, ?_⟩
  (go_light; repeat (first | (with_reducible exact Kept.refl _) | (with_reducible assumption) | (with_reducible refine Kept.alloc ?_ _ _) | (with_reducible refine Kept.drew ?_) | (with_reducible refine Kept.drewN ?_ _) | ((with_reducible refine Kept.setCell ?_ ?_ _); rotate_left; focus (first | (simp; done) | (simp; omega))) | refine Kept.trans ?_ (by assumption)))
set_option maxHeartbeats 1000000 in
theorem rwho_h2 (t : Twr) (h : t.Sound) (a : Int) (q : Int) (hq : q = t.A.F.N * (4 + t.G)) (q0 : 0 ≤ q) (q1 : q ≤ 10000) (h1 : t.D ≤ a) (h4 : t.D + q ≤ a) (h2 : t.H ≤ a) (h3 : a < t.H + t.G) (w : World) : Calls Try.prog 7 #[towV t, .int .i64 a] w fun e w' => e = .returned (.tuple #[.int .i64 (-1), .int .i64 (a - t.H + 4), .bool true]) ∧ Kept w w' := by
  have HS := fun W => Lib.hid (show Calls Try.prog 36 #[towV t] W fun e w' => e = .returned (.bool true) ∧ Kept W w' from by have := rsound_any t W; rwa [decide_eq_true h] at this)
  have G1 := h.G1
  have G2 := h.G2
  have D1 := h.D1
  have D2 := h.D2
  have H1 := h.H1
  have H2 := h.H2
  have e : IntKind.i64.wrap (t.A.F.N * (4 + t.G)) = q := by rw [← hq, IntKind.wrap_i64]; omega
  have e2 : wrap64 (t.A.F.N * (4 + t.G)) = q := by rw [← hq]; unfold wrap64; omega
  have HQ := Lib.hid hq
  clear hq h
  have d0 : decide (a < t.D + q) = false := by simp; omega
  go_enter Try.func7, Try.ntmps7
  go_wp2_with fail
  refine (HS _).out.mono ?_
  rintro e w1 ⟨rfl, k1⟩
  obtain ⟨a0, a1, a2, a3, a4, a5, a6, a7, a8, a9, a10, a11, a12⟩ := TB.kept (TB.new w _ _ rfl t) k1
  go_wp2_with fail
  go_quiet (fail)
  go_wp2
  refine bodyPost_ret (v := .tuple #[.int .i64 (-1), .int .i64 (a - t.H + 4), .bool true]) (by simp [results, Try.results7, go_sem]) rfl ⟨rfl, ?_⟩
  (go_light; repeat (first | (with_reducible exact Kept.refl _) | (with_reducible assumption) | (with_reducible refine Kept.alloc ?_ _ _) | (with_reducible refine Kept.drew ?_) | (with_reducible refine Kept.drewN ?_ _) | ((with_reducible refine Kept.setCell ?_ ?_ _); rotate_left; focus (first | (simp; done) | (simp; omega))) | refine Kept.trans ?_ (by assumption)))
set_option maxHeartbeats 1000000 in
theorem rwho_n1 (t : Twr) (h : t.Sound) (a : Int) (q : Int) (hq : q = t.A.F.N * (4 + t.G)) (q0 : 0 ≤ q) (q1 : q ≤ 10000) (h1 : a < t.D) (h2 : a < t.H) (w : World) : Calls Try.prog 7 #[towV t, .int .i64 a] w fun e w' => e = .returned (.tuple #[.int .i64 0, .int .i64 0, .bool false]) ∧ Kept w w' := by
  have HS := fun W => Lib.hid (show Calls Try.prog 36 #[towV t] W fun e w' => e = .returned (.bool true) ∧ Kept W w' from by have := rsound_any t W; rwa [decide_eq_true h] at this)
  have G1 := h.G1
  have G2 := h.G2
  have D1 := h.D1
  have D2 := h.D2
  have H1 := h.H1
  have H2 := h.H2
  have e : IntKind.i64.wrap (t.A.F.N * (4 + t.G)) = q := by rw [← hq, IntKind.wrap_i64]; omega
  have e2 : wrap64 (t.A.F.N * (4 + t.G)) = q := by rw [← hq]; unfold wrap64; omega
  have HQ := Lib.hid hq
  clear hq h
  have d0 : decide (t.D ≤ a) = false := by simp; omega
  have d1 : decide (t.H ≤ a) = false := by simp; omega
  go_enter Try.func7, Try.ntmps7
  go_wp2_with fail
  refine (HS _).out.mono ?_
  rintro e w1 ⟨rfl, k1⟩
  obtain ⟨a0, a1, a2, a3, a4, a5, a6, a7, a8, a9, a10, a11, a12⟩ := TB.kept (TB.new w _ _ rfl t) k1
  go_wp2
  refine bodyPost_ret (v := .tuple #[.int .i64 0, .int .i64 0, .bool false]) (by simp [results, Try.results7, go_sem]) rfl ⟨rfl, ?_⟩
  (go_light; repeat (first | (with_reducible exact Kept.refl _) | (with_reducible assumption) | (with_reducible refine Kept.alloc ?_ _ _) | (with_reducible refine Kept.drew ?_) | (with_reducible refine Kept.drewN ?_ _) | ((with_reducible refine Kept.setCell ?_ ?_ _); rotate_left; focus (first | (simp; done) | (simp; omega))) | refine Kept.trans ?_ (by assumption)))
set_option maxHeartbeats 1000000 in
theorem rwho_n2 (t : Twr) (h : t.Sound) (a : Int) (q : Int) (hq : q = t.A.F.N * (4 + t.G)) (q0 : 0 ≤ q) (q1 : q ≤ 10000) (h1 : a < t.D) (h2 : t.H ≤ a) (h3 : t.H + t.G ≤ a) (w : World) : Calls Try.prog 7 #[towV t, .int .i64 a] w fun e w' => e = .returned (.tuple #[.int .i64 0, .int .i64 0, .bool false]) ∧ Kept w w' := by
  have HS := fun W => Lib.hid (show Calls Try.prog 36 #[towV t] W fun e w' => e = .returned (.bool true) ∧ Kept W w' from by have := rsound_any t W; rwa [decide_eq_true h] at this)
  have G1 := h.G1
  have G2 := h.G2
  have D1 := h.D1
  have D2 := h.D2
  have H1 := h.H1
  have H2 := h.H2
  have e : IntKind.i64.wrap (t.A.F.N * (4 + t.G)) = q := by rw [← hq, IntKind.wrap_i64]; omega
  have e2 : wrap64 (t.A.F.N * (4 + t.G)) = q := by rw [← hq]; unfold wrap64; omega
  have HQ := Lib.hid hq
  clear hq h
  have d0 : decide (t.D ≤ a) = false := by simp; omega
  have d1 : decide (a < t.H + t.G) = false := by simp; omega
  go_enter Try.func7, Try.ntmps7
  go_wp2_with fail
  refine (HS _).out.mono ?_
  rintro e w1 ⟨rfl, k1⟩
  obtain ⟨a0, a1, a2, a3, a4, a5, a6, a7, a8, a9, a10, a11, a12⟩ := TB.kept (TB.new w _ _ rfl t) k1
  go_wp2
  refine bodyPost_ret (v := .tuple #[.int .i64 0, .int .i64 0, .bool false]) (by simp [results, Try.results7, go_sem]) rfl ⟨rfl, ?_⟩
  (go_light; repeat (first | (with_reducible exact Kept.refl _) | (with_reducible assumption) | (with_reducible refine Kept.alloc ?_ _ _) | (with_reducible refine Kept.drew ?_) | (with_reducible refine Kept.drewN ?_ _) | ((with_reducible refine Kept.setCell ?_ ?_ _); rotate_left; focus (first | (simp; done) | (simp; omega))) | refine Kept.trans ?_ (by assumption)))
set_option maxHeartbeats 1000000 in
theorem rwho_n3 (t : Twr) (h : t.Sound) (a : Int) (q : Int) (hq : q = t.A.F.N * (4 + t.G)) (q0 : 0 ≤ q) (q1 : q ≤ 10000) (h1 : t.D ≤ a) (h4 : t.D + q ≤ a) (h2 : a < t.H) (w : World) : Calls Try.prog 7 #[towV t, .int .i64 a] w fun e w' => e = .returned (.tuple #[.int .i64 0, .int .i64 0, .bool false]) ∧ Kept w w' := by
  have HS := fun W => Lib.hid (show Calls Try.prog 36 #[towV t] W fun e w' => e = .returned (.bool true) ∧ Kept W w' from by have := rsound_any t W; rwa [decide_eq_true h] at this)
  have G1 := h.G1
  have G2 := h.G2
  have D1 := h.D1
  have D2 := h.D2
  have H1 := h.H1
  have H2 := h.H2
  have e : IntKind.i64.wrap (t.A.F.N * (4 + t.G)) = q := by rw [← hq, IntKind.wrap_i64]; omega
  have e2 : wrap64 (t.A.F.N * (4 + t.G)) = q := by rw [← hq]; unfold wrap64; omega
  have HQ := Lib.hid hq
  clear hq h
  have d0 : decide (a < t.D + q) = false := by simp; omega
  have d1 : decide (t.H ≤ a) = false := by simp; omega
  go_enter Try.func7, Try.ntmps7
  go_wp2_with fail
  refine (HS _).out.mono ?_
  rintro e w1 ⟨rfl, k1⟩
  obtain ⟨a0, a1, a2, a3, a4, a5, a6, a7, a8, a9, a10, a11, a12⟩ := TB.kept (TB.new w _ _ rfl t) k1
  go_wp2
  refine bodyPost_ret (v := .tuple #[.int .i64 0, .int .i64 0, .bool false]) (by simp [results, Try.results7, go_sem]) rfl ⟨rfl, ?_⟩
  (go_light; repeat (first | (with_reducible exact Kept.refl _) | (with_reducible assumption) | (with_reducible refine Kept.alloc ?_ _ _) | (with_reducible refine Kept.drew ?_) | (with_reducible refine Kept.drewN ?_ _) | ((with_reducible refine Kept.setCell ?_ ?_ _); rotate_left; focus (first | (simp; done) | (simp; omega))) | refine Kept.trans ?_ (by assumption)))
set_option maxHeartbeats 1000000 in
theorem rwho_n4 (t : Twr) (h : t.Sound) (a : Int) (q : Int) (hq : q = t.A.F.N * (4 + t.G)) (q0 : 0 ≤ q) (q1 : q ≤ 10000) (h1 : t.D ≤ a) (h4 : t.D + q ≤ a) (h2 : t.H ≤ a) (h3 : t.H + t.G ≤ a) (w : World) : Calls Try.prog 7 #[towV t, .int .i64 a] w fun e w' => e = .returned (.tuple #[.int .i64 0, .int .i64 0, .bool false]) ∧ Kept w w' := by
  have HS := fun W => Lib.hid (show Calls Try.prog 36 #[towV t] W fun e w' => e = .returned (.bool true) ∧ Kept W w' from by have := rsound_any t W; rwa [decide_eq_true h] at this)
  have G1 := h.G1
  have G2 := h.G2
  have D1 := h.D1
  have D2 := h.D2
  have H1 := h.H1
  have H2 := h.H2
  have e : IntKind.i64.wrap (t.A.F.N * (4 + t.G)) = q := by rw [← hq, IntKind.wrap_i64]; omega
  have e2 : wrap64 (t.A.F.N * (4 + t.G)) = q := by rw [← hq]; unfold wrap64; omega
  have HQ := Lib.hid hq
  clear hq h
  have d0 : decide (a < t.D + q) = false := by simp; omega
  have d1 : decide (a < t.H + t.G) = false := by simp; omega
  go_enter Try.func7, Try.ntmps7
  go_wp2_with fail
  refine (HS _).out.mono ?_
  rintro e w1 ⟨rfl, k1⟩
  obtain ⟨a0, a1, a2, a3, a4, a5, a6, a7, a8, a9, a10, a11, a12⟩ := TB.kept (TB.new w _ _ rfl t) k1
  go_wp2
  refine bodyPost_ret (v := .tuple #[.int .i64 0, .int .i64 0, .bool false]) (by simp [results, Try.results7, go_sem]) rfl ⟨rfl, ?_⟩
  (go_light; repeat (first | (with_reducible exact Kept.refl _) | (with_reducible assumption) | (with_reducible refine Kept.alloc ?_ _ _) | (with_reducible refine Kept.drew ?_) | (with_reducible refine Kept.drewN ?_ _) | ((with_reducible refine Kept.setCell ?_ ?_ _); rotate_left; focus (first | (simp; done) | (simp; omega))) | refine Kept.trans ?_ (by assumption)))
theorem rwho_any (t : Twr) (a : Int) (w : World) : Calls Try.prog 7 #[towV t, .int .i64 a] w fun e w' => e = .returned (.tuple #[.int .i64 (whoI t a).1, .int .i64 (whoI t a).2.1, .bool (whoI t a).2.2]) ∧ Kept w w' := by
  by_cases h : t.Sound
  · have b3 := size_hi h
    have b4 := size_lo h
    obtain ⟨q, hq⟩ : ∃ q, q = t.A.F.N * (4 + t.G) := ⟨_, rfl⟩
    unfold whoI
    rw [← hq] at b3 b4 ⊢
    rw [if_neg (by simpa using h)]
    by_cases hn : t.D ≤ a ∧ a < t.D + q
    · rw [if_pos hn]; exact rwho_node t h a q hq (by omega) (by omega) hn.1 hn.2 _ _ rfl rfl w
    · rw [if_neg hn]
      by_cases hh : t.H ≤ a ∧ a < t.H + t.G
      · rw [if_pos hh]
        by_cases h1 : a < t.D
        · exact rwho_h1 t h a q hq (by omega) (by omega) h1 hh.1 hh.2 w
        · exact rwho_h2 t h a q hq (by omega) (by omega) (by omega) (by omega) hh.1 hh.2 w
      · rw [if_neg hh]
        by_cases h1 : a < t.D
        · by_cases h2 : a < t.H
          · exact rwho_n1 t h a q hq (by omega) (by omega) h1 h2 w
          · exact rwho_n2 t h a q hq (by omega) (by omega) h1 (by omega) (by omega) w
        · by_cases h2 : a < t.H
          · exact rwho_n3 t h a q hq (by omega) (by omega) (by omega) (by omega) h2 w
          · exact rwho_n4 t h a q hq (by omega) (by omega) (by omega) (by omega) (by omega) (by omega) w
  · have e : whoI t a = (0, 0, false) := by unfold whoI; rw [if_pos h]
    rw [e]; exact rwho_bad t h a w
end Go.Proofs.Ytbechdgcepiecaa.Tw
