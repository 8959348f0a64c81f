/- Which cell a part is, and whose a cell is: the program's. Written by gen15b.py. -/
import Derived.Test.YtejiogggocnldaaG07
import Derived.Test.YtejiogggocnldaaG06
import Derived.Test.YtejiogggocnldaaG05
import Derived.Lib.Hide
import Derived.Deep.Light
set_option linter.unusedVariables false
set_option linter.unusedSimpArgs false

namespace Go.Proofs.Ytejiogggocnldaa.Tw
set_option maxRecDepth 20000
open Go.RowKit
open Wo (St acc wordAt PMem RefIs)
open Sk (Stk Arn idx Wd)

set_option maxHeartbeats 400000 in
theorem cell_n1 (f m g i c : Int) (h : i < 0) (w : World) : Calls Try.prog 148 #[.agg #[.int .i64 f, .int .i64 m, .int .i64 g], .int .i64 i, .int .i64 c] w fun e w' => e = .returned (.int .i64 (-1)) ∧ Kept w w' := by
  go_enter Try.func148, Try.ntmps148
  go_wp2
  go_ret
  exact ⟨rfl, by (go_light; repeat (first | (with_reducible exact Kept.refl _) | (with_reducible assumption) | (with_reducible refine Kept.alloc ?_ _ _) | (with_reducible refine Kept.drew ?_) | (with_reducible refine Kept.drewN ?_ _) | ((with_reducible refine Kept.setCell ?_ ?_ _); rotate_left; focus (first | (simp; done) | (simp; omega))) | refine Kept.trans ?_ (by assumption)))⟩
set_option maxHeartbeats 400000 in
theorem cell_n2 (f m g i c : Int) (h : 0 ≤ i) (h2 : m ≤ i) (w : World) : Calls Try.prog 148 #[.agg #[.int .i64 f, .int .i64 m, .int .i64 g], .int .i64 i, .int .i64 c] w fun e w' => e = .returned (.int .i64 (-1)) ∧ Kept w w' := by
  go_enter Try.func148, Try.ntmps148
  go_wp2
  go_ret
  exact ⟨rfl, by (go_light; repeat (first | (with_reducible exact Kept.refl _) | (with_reducible assumption) | (with_reducible refine Kept.alloc ?_ _ _) | (with_reducible refine Kept.drew ?_) | (with_reducible refine Kept.drewN ?_ _) | ((with_reducible refine Kept.setCell ?_ ?_ _); rotate_left; focus (first | (simp; done) | (simp; omega))) | refine Kept.trans ?_ (by assumption)))⟩
set_option maxHeartbeats 400000 in
theorem cell_n3 (f m g i c : Int) (h : 0 ≤ i) (h2 : i < m) (h3 : c < 0) (w : World) : Calls Try.prog 148 #[.agg #[.int .i64 f, .int .i64 m, .int .i64 g], .int .i64 i, .int .i64 c] w fun e w' => e = .returned (.int .i64 (-1)) ∧ Kept w w' := by
  have d : decide (m ≤ i) = false := by simp; omega
  go_enter Try.func148, Try.ntmps148
  go_wp2
  go_ret
  exact ⟨rfl, by (go_light; repeat (first | (with_reducible exact Kept.refl _) | (with_reducible assumption) | (with_reducible refine Kept.alloc ?_ _ _) | (with_reducible refine Kept.drew ?_) | (with_reducible refine Kept.drewN ?_ _) | ((with_reducible refine Kept.setCell ?_ ?_ _); rotate_left; focus (first | (simp; done) | (simp; omega))) | refine Kept.trans ?_ (by assumption)))⟩
set_option maxHeartbeats 400000 in
theorem cell_n4 (f m g i c : Int) (h : 0 ≤ i) (h2 : i < m) (h3 : 0 ≤ c) (h4 : g ≤ c) (w : World) : Calls Try.prog 148 #[.agg #[.int .i64 f, .int .i64 m, .int .i64 g], .int .i64 i, .int .i64 c] w fun e w' => e = .returned (.int .i64 (-1)) ∧ Kept w w' := by
  have d : decide (m ≤ i) = false := by simp; omega
  go_enter Try.func148, Try.ntmps148
  go_wp2
  go_ret
  exact ⟨rfl, by (go_light; repeat (first | (with_reducible exact Kept.refl _) | (with_reducible assumption) | (with_reducible refine Kept.alloc ?_ _ _) | (with_reducible refine Kept.drew ?_) | (with_reducible refine Kept.drewN ?_ _) | ((with_reducible refine Kept.setCell ?_ ?_ _); rotate_left; focus (first | (simp; done) | (simp; omega))) | refine Kept.trans ?_ (by assumption)))⟩
set_option maxHeartbeats 400000 in
theorem cell_n5 (f m g i c : Int) (h : 0 ≤ i) (h2 : i < m) (h3 : 0 ≤ c) (h4 : c < g) (q : Int) (hq : q = i * g) (q0 : 0 ≤ q) (q1 : q ≤ 10000) (f0 : 0 ≤ f) (f1 : f ≤ 10000) (g1 : g ≤ 100) (w : World) : Calls Try.prog 148 #[.agg #[.int .i64 f, .int .i64 m, .int .i64 g], .int .i64 i, .int .i64 c] w fun e w' => e = .returned (.int .i64 (f + q + c)) ∧ Kept w w' := by
  have d : decide (m ≤ i) = false := by simp; omega
  have d2 : decide (g ≤ c) = false := by simp; omega
  have e : IntKind.i64.wrap (i * g) = q := by rw [← hq, IntKind.wrap_i64]; omega
  have e2 : wrap64 (i * g) = q := by rw [← hq]; unfold wrap64; omega
  have HQ := Lib.hid hq
  clear hq
  go_enter Try.func148, Try.ntmps148
  go_wp2
  go_ret
  exact ⟨rfl, by (go_light; repeat (first | (with_reducible exact Kept.refl _) | (with_reducible assumption) | (with_reducible refine Kept.alloc ?_ _ _) | (with_reducible refine Kept.drew ?_) | (with_reducible refine Kept.drewN ?_ _) | ((with_reducible refine Kept.setCell ?_ ?_ _); rotate_left; focus (first | (simp; done) | (simp; omega))) | refine Kept.trans ?_ (by assumption)))⟩
theorem cell_n_no (f m g i c : Int) (h : i < 0 ∨ m ≤ i ∨ c < 0 ∨ g ≤ c) (w : World) : Calls Try.prog 148 #[.agg #[.int .i64 f, .int .i64 m, .int .i64 g], .int .i64 i, .int .i64 c] w fun e w' => e = .returned (.int .i64 (-1)) ∧ Kept w w' := by
  by_cases h0 : i < 0
  · exact cell_n1 f m g i c h0 w
  by_cases h1 : m ≤ i
  · exact cell_n2 f m g i c (by omega) h1 w
  by_cases h2 : c < 0
  · exact cell_n3 f m g i c (by omega) (by omega) h2 w
  · exact cell_n4 f m g i c (by omega) (by omega) (by omega) (by omega) w
set_option maxHeartbeats 400000 in
theorem cell_h1 (f m g i c : Int) (h : i < 0) (w : World) : Calls Try.prog 146 #[.agg #[.int .i64 f, .int .i64 m, .int .i64 g], .int .i64 i, .int .i64 c] w fun e w' => e = .returned (.int .i64 (-1)) ∧ Kept w w' := by
  go_enter Try.func146, Try.ntmps146
  go_wp2
  go_ret
  exact ⟨rfl, by (go_light; repeat (first | (with_reducible exact Kept.refl _) | (with_reducible assumption) | (with_reducible refine Kept.alloc ?_ _ _) | (with_reducible refine Kept.drew ?_) | (with_reducible refine Kept.drewN ?_ _) | ((with_reducible refine Kept.setCell ?_ ?_ _); rotate_left; focus (first | (simp; done) | (simp; omega))) | refine Kept.trans ?_ (by assumption)))⟩
set_option maxHeartbeats 400000 in
theorem cell_h2 (f m g i c : Int) (h : 0 ≤ i) (h2 : m ≤ i) (w : World) : Calls Try.prog 146 #[.agg #[.int .i64 f, .int .i64 m, .int .i64 g], .int .i64 i, .int .i64 c] w fun e w' => e = .returned (.int .i64 (-1)) ∧ Kept w w' := by
  go_enter Try.func146, Try.ntmps146
  go_wp2
  go_ret
  exact ⟨rfl, by (go_light; repeat (first | (with_reducible exact Kept.refl _) | (with_reducible assumption) | (with_reducible refine Kept.alloc ?_ _ _) | (with_reducible refine Kept.drew ?_) | (with_reducible refine Kept.drewN ?_ _) | ((with_reducible refine Kept.setCell ?_ ?_ _); rotate_left; focus (first | (simp; done) | (simp; omega))) | refine Kept.trans ?_ (by assumption)))⟩
set_option maxHeartbeats 400000 in
theorem cell_h3 (f m g i c : Int) (h : 0 ≤ i) (h2 : i < m) (h3 : c < 0) (w : World) : Calls Try.prog 146 #[.agg #[.int .i64 f, .int .i64 m, .int .i64 g], .int .i64 i, .int .i64 c] w fun e w' => e = .returned (.int .i64 (-1)) ∧ Kept w w' := by
  have d : decide (m ≤ i) = false := by simp; omega
  go_enter Try.func146, Try.ntmps146
  go_wp2
  go_ret
  exact ⟨rfl, by (go_light; repeat (first | (with_reducible exact Kept.refl _) | (with_reducible assumption) | (with_reducible refine Kept.alloc ?_ _ _) | (with_reducible refine Kept.drew ?_) | (with_reducible refine Kept.drewN ?_ _) | ((with_reducible refine Kept.setCell ?_ ?_ _); rotate_left; focus (first | (simp; done) | (simp; omega))) | refine Kept.trans ?_ (by assumption)))⟩
set_option maxHeartbeats 400000 in
theorem cell_h4 (f m g i c : Int) (h : 0 ≤ i) (h2 : i < m) (h3 : 0 ≤ c) (h4 : g ≤ c) (w : World) : Calls Try.prog 146 #[.agg #[.int .i64 f, .int .i64 m, .int .i64 g], .int .i64 i, .int .i64 c] w fun e w' => e = .returned (.int .i64 (-1)) ∧ Kept w w' := by
  have d : decide (m ≤ i) = false := by simp; omega
  go_enter Try.func146, Try.ntmps146
  go_wp2
  go_ret
  exact ⟨rfl, by (go_light; repeat (first | (with_reducible exact Kept.refl _) | (with_reducible assumption) | (with_reducible refine Kept.alloc ?_ _ _) | (with_reducible refine Kept.drew ?_) | (with_reducible refine Kept.drewN ?_ _) | ((with_reducible refine Kept.setCell ?_ ?_ _); rotate_left; focus (first | (simp; done) | (simp; omega))) | refine Kept.trans ?_ (by assumption)))⟩
set_option maxHeartbeats 400000 in
theorem cell_h5 (f m g i c : Int) (h : 0 ≤ i) (h2 : i < m) (h3 : 0 ≤ c) (h4 : c < g) (q : Int) (hq : q = i * g) (q0 : 0 ≤ q) (q1 : q ≤ 10000) (f0 : 0 ≤ f) (f1 : f ≤ 10000) (g1 : g ≤ 100) (w : World) : Calls Try.prog 146 #[.agg #[.int .i64 f, .int .i64 m, .int .i64 g], .int .i64 i, .int .i64 c] w fun e w' => e = .returned (.int .i64 (f + q + c)) ∧ Kept w w' := by
  have d : decide (m ≤ i) = false := by simp; omega
  have d2 : decide (g ≤ c) = false := by simp; omega
  have e : IntKind.i64.wrap (i * g) = q := by rw [← hq, IntKind.wrap_i64]; omega
  have e2 : wrap64 (i * g) = q := by rw [← hq]; unfold wrap64; omega
  have HQ := Lib.hid hq
  clear hq
  go_enter Try.func146, Try.ntmps146
  go_wp2
  go_ret
  exact ⟨rfl, by (go_light; repeat (first | (with_reducible exact Kept.refl _) | (with_reducible assumption) | (with_reducible refine Kept.alloc ?_ _ _) | (with_reducible refine Kept.drew ?_) | (with_reducible refine Kept.drewN ?_ _) | ((with_reducible refine Kept.setCell ?_ ?_ _); rotate_left; focus (first | (simp; done) | (simp; omega))) | refine Kept.trans ?_ (by assumption)))⟩
theorem cell_h_no (f m g i c : Int) (h : i < 0 ∨ m ≤ i ∨ c < 0 ∨ g ≤ c) (w : World) : Calls Try.prog 146 #[.agg #[.int .i64 f, .int .i64 m, .int .i64 g], .int .i64 i, .int .i64 c] w fun e w' => e = .returned (.int .i64 (-1)) ∧ Kept w w' := by
  by_cases h0 : i < 0
  · exact cell_h1 f m g i c h0 w
  by_cases h1 : m ≤ i
  · exact cell_h2 f m g i c (by omega) h1 w
  by_cases h2 : c < 0
  · exact cell_h3 f m g i c (by omega) (by omega) h2 w
  · exact cell_h4 f m g i c (by omega) (by omega) (by omega) (by omega) w
set_option maxHeartbeats 1000000 in
theorem at_bad (t : Twr) (h : ¬ t.Sound) (i p : Int) (w : World) : Calls Try.prog 122 #[towV t, .int .i64 i, .int .i64 p] w fun e w' => e = .returned (.int .i64 (-1)) ∧ Kept w w' := by
  have HS := fun W => Lib.hid (sound_no t h W)
  clear h
  go_enter Try.func122, Try.ntmps122
  go_wp2_with fail
  refine ((HS _).out).mono ?_
  rintro e w1 ⟨rfl, k1⟩
  obtain ⟨a0, a1, a2, a3, a4, a5, a6, a7, a8, a9, a10, a11, a12⟩ := TB.kept (TB.new w _ _ rfl t) k1
  go_wp2
  go_ret
  exact ⟨rfl, by (go_light; repeat (first | (with_reducible exact Kept.refl _) | (with_reducible assumption) | (with_reducible refine Kept.alloc ?_ _ _) | (with_reducible refine Kept.drew ?_) | (with_reducible refine Kept.drewN ?_ _) | ((with_reducible refine Kept.setCell ?_ ?_ _); rotate_left; focus (first | (simp; done) | (simp; omega))) | refine Kept.trans ?_ (by assumption)))⟩
set_option maxHeartbeats 1000000 in
theorem at_head (t : Twr) (h : t.Sound) (p r : Int) (hp : IntKind.i64.wrap (p - 4) = r) (v : Int) (hc : ∀ W, Calls Try.prog 146 #[.agg #[.int .i64 t.H, .int .i64 1, .int .i64 t.G], .int .i64 0, .int .i64 r] W fun e w' => e = .returned (.int .i64 v) ∧ Kept W w') (w : World) : Calls Try.prog 122 #[towV t, .int .i64 (-1), .int .i64 p] w fun e w' => e = .returned (.int .i64 v) ∧ Kept w w' := by
  have HS := fun W => Lib.hid (sound_in t h W)
  have hp2 : wrap64 (p - 4) = r := by rw [← hp, IntKind.wrap_i64]; unfold wrap64; omega
  have HC := fun W => Lib.hid (hc W)
  clear h hc
  go_enter Try.func122, Try.ntmps122
  go_wp2_with fail
  refine ((HS _).out).mono ?_
  rintro e w1 ⟨rfl, k1⟩
  obtain ⟨a0, a1, a2, a3, a4, a5, a6, a7, a8, a9, a10, a11, a12⟩ := TB.kept (TB.new w _ _ rfl t) k1
  go_wp2_with fail
  refine (headRow_any t _).mono ?_
  rintro e w2 ⟨rfl, k2⟩
  obtain ⟨a0, a1, a2, a3, a4, a5, a6, a7, a8, a9, a10, a11, a12⟩ := TB.kept ⟨a0, a1, a2, a3, a4, a5, a6, a7, a8, a9, a10, a11, a12⟩ k2
  go_wp2_with fail
  refine (HC _).out.mono ?_
  rintro e w3 ⟨rfl, k3⟩
  go_wp2
  go_ret
  exact ⟨rfl, by (go_light; repeat (first | (with_reducible exact Kept.refl _) | (with_reducible assumption) | (with_reducible refine Kept.alloc ?_ _ _) | (with_reducible refine Kept.drew ?_) | (with_reducible refine Kept.drewN ?_ _) | ((with_reducible refine Kept.setCell ?_ ?_ _); rotate_left; focus (first | (simp; done) | (simp; omega))) | refine Kept.trans ?_ (by assumption)))⟩
set_option maxHeartbeats 1000000 in
theorem at_node (t : Twr) (h : t.Sound) (i p : Int) (hi : ¬ i = -1) (v : Int) (hc : ∀ W, Calls Try.prog 148 #[.agg #[.int .i64 t.D, .int .i64 t.A.F.N, .int .i64 (4 + t.G)], .int .i64 i, .int .i64 p] W fun e w' => e = .returned (.int .i64 v) ∧ Kept W w') (w : World) : Calls Try.prog 122 #[towV t, .int .i64 i, .int .i64 p] w fun e w' => e = .returned (.int .i64 v) ∧ Kept w w' := by
  have HS := fun W => Lib.hid (sound_in t h W)
  have NR := fun W => Lib.hid (nodeRow_any t h W)
  have HC := fun W => Lib.hid (hc W)
  clear h hc
  go_enter Try.func122, Try.ntmps122
  go_wp2_with fail
  refine ((HS _).out).mono ?_
  rintro e w1 ⟨rfl, k1⟩
  obtain ⟨a0, a1, a2, a3, a4, a5, a6, a7, a8, a9, a10, a11, a12⟩ := TB.kept (TB.new w _ _ rfl t) k1
  go_wp2_with fail
  refine ((NR _).out).mono ?_
  rintro e w2 ⟨rfl, k2⟩
  obtain ⟨a0, a1, a2, a3, a4, a5, a6, a7, a8, a9, a10, a11, a12⟩ := TB.kept ⟨a0, a1, a2, a3, a4, a5, a6, a7, a8, a9, a10, a11, a12⟩ k2
  go_wp2_with fail
  refine (HC _).out.mono ?_
  rintro e w3 ⟨rfl, k3⟩
  go_wp2
  go_ret
  exact ⟨rfl, by (go_light; repeat (first | (with_reducible exact Kept.refl _) | (with_reducible assumption) | (with_reducible refine Kept.alloc ?_ _ _) | (with_reducible refine Kept.drew ?_) | (with_reducible refine Kept.drewN ?_ _) | ((with_reducible refine Kept.setCell ?_ ?_ _); rotate_left; focus (first | (simp; done) | (simp; omega))) | refine Kept.trans ?_ (by assumption)))⟩
def I64 (x : Int) : Prop := -9223372036854775808 ≤ x ∧ x ≤ 9223372036854775807
theorem at_any (t : Twr) (i p : Int) (hp : I64 p) (w : World) : Calls Try.prog 122 #[towV t, .int .i64 i, .int .i64 p] w fun e w' => e = .returned (.int .i64 (atI t i p)) ∧ Kept w w' := by
  have hp0 : -9223372036854775808 ≤ p ∧ p ≤ 9223372036854775807 := hp
  by_cases h : t.Sound
  · have G1 := h.G1
    have G2 := h.G2
    have D1 := h.D1
    have D2 := h.D2
    have H1 := h.H1
    have H2 := h.H2
    by_cases hi : i = -1
    · subst hi
      by_cases hl : 4 ≤ p ∧ p < 4 + t.G
      · rw [atI_head h hl.1 hl.2]
        refine at_head t h p (p - 4) (by unfold I64 at hp; rw [IntKind.wrap_i64]; omega) _ (fun W => ?_) w
        have := cell_h5 t.H 1 t.G 0 (p - 4) (by omega) (by omega) (by omega) (by omega) 0 (by simp) (by omega) (by omega) H1 (by omega) (by omega) W
        rwa [Int.add_zero] at this
      · have e : atI t (-1) p = -1 := by unfold atI; rw [if_neg (by simpa using h), if_pos rfl, if_neg hl]
        rw [e]
        by_cases ho : -9223372036854775804 ≤ p
        · exact at_head t h p (p - 4) (by unfold I64 at hp; rw [IntKind.wrap_i64]; omega) _ (fun W => cell_h_no _ _ _ _ _ (by omega) W) w
        · exact at_head t h p (p - 4 + 18446744073709551616) (by unfold I64 at hp; rw [IntKind.wrap_i64]; omega) _ (fun W => cell_h_no _ _ _ _ _ (by omega) W) w
    · by_cases hl : 0 ≤ i ∧ i < t.A.F.N ∧ 0 ≤ p ∧ p < 4 + t.G
      · rw [atI_node h hl.1 hl.2.1 hl.2.2.1 hl.2.2.2]
        have b1 := mul_bound hl.1 hl.2.1 (show 0 ≤ 4 + t.G by omega)
        have b2 := mul_lo hl.1 (show 0 ≤ 4 + t.G by omega)
        have b3 := size_hi h
        exact at_node t h i p hi _ (fun W => cell_n5 t.D t.A.F.N (4 + t.G) i p hl.1 hl.2.1 hl.2.2.1 hl.2.2.2 _ rfl b2 (by omega) D1 (by omega) (by omega) W) w
      · have e : atI t i p = -1 := by unfold atI; rw [if_neg (by simpa using h), if_neg hi, if_neg hl]
        rw [e]
        exact at_node t h i p hi _ (fun W => cell_n_no _ _ _ _ _ (by omega) W) w
  · rw [atI_bad h]; exact at_bad t h i p w
set_option maxHeartbeats 400000 in
theorem next_bad (t : Twr) (i l : Int) (h : l < 0 ∨ t.G ≤ l) (w : World) : Calls Try.prog 92 #[towV t, .int .i64 i, .int .i64 l] w fun e w' => e = .returned (.int .i64 (-1)) ∧ Kept w w' := by
  have HS := fun W => Lib.hid (isLevel_no t l h W)
  clear h
  go_enter Try.func92, Try.ntmps92
  go_wp2_with fail
  refine (HS _).out.mono ?_
  rintro e w1 ⟨rfl, k1⟩
  go_wp2
  go_ret
  exact ⟨rfl, by (go_light; repeat (first | (with_reducible exact Kept.refl _) | (with_reducible assumption) | (with_reducible refine Kept.alloc ?_ _ _) | (with_reducible refine Kept.drew ?_) | (with_reducible refine Kept.drewN ?_ _) | ((with_reducible refine Kept.setCell ?_ ?_ _); rotate_left; focus (first | (simp; done) | (simp; omega))) | refine Kept.trans ?_ (by assumption)))⟩
set_option maxHeartbeats 400000 in
theorem next_in (t : Twr) (i l : Int) (h : 0 ≤ l) (h2 : l < t.G) (h3 : l ≤ 9223372036854775803) (w : World) : Calls Try.prog 92 #[towV t, .int .i64 i, .int .i64 l] w fun e w' => e = .returned (.int .i64 (nextI t i l)) ∧ Kept w w' := by
  have e : nextI t i l = atI t i (4 + l) := by unfold nextI; rw [if_pos ⟨h, h2⟩]
  rw [e]
  have HS := fun W => Lib.hid (isLevel_yes t l h h2 W)
  have HA := fun W => Lib.hid (at_any t i (4 + l) (by unfold I64; omega) W)
  clear e
  go_enter Try.func92, Try.ntmps92
  go_wp2_with fail
  refine (HS _).out.mono ?_
  rintro e w1 ⟨rfl, k1⟩
  obtain ⟨a0, a1, a2, a3, a4, a5, a6, a7, a8, a9, a10, a11, a12⟩ := TB.kept (TB.new w _ _ rfl t) k1
  go_wp2_with fail
  refine (HA _).out.mono ?_
  rintro e w2 ⟨rfl, k2⟩
  go_wp2
  go_ret
  exact ⟨rfl, by (go_light; repeat (first | (with_reducible exact Kept.refl _) | (with_reducible assumption) | (with_reducible refine Kept.alloc ?_ _ _) | (with_reducible refine Kept.drew ?_) | (with_reducible refine Kept.drewN ?_ _) | ((with_reducible refine Kept.setCell ?_ ?_ _); rotate_left; focus (first | (simp; done) | (simp; omega))) | refine Kept.trans ?_ (by assumption)))⟩
set_option maxHeartbeats 400000 in
theorem next_far (t : Twr) (i l : Int) (h2 : l < t.G) (h3 : 9223372036854775803 < l) (h4 : l ≤ 9223372036854775807) (w : World) : Calls Try.prog 92 #[towV t, .int .i64 i, .int .i64 l] w fun e w' => e = .returned (.int .i64 (-1)) ∧ Kept w w' := by
  have hn : ¬ t.Sound := fun h => by have := h.G2; omega
  have HS := fun W => Lib.hid (isLevel_yes t l (by omega) h2 W)
  have HA := fun W => Lib.hid (at_bad t hn i (4 + l - 18446744073709551616) W)
  have e4 : IntKind.i64.wrap (4 + l) = 4 + l - 18446744073709551616 := by rw [IntKind.wrap_i64]; omega
  clear hn
  go_enter Try.func92, Try.ntmps92
  go_wp2_with fail
  refine (HS _).out.mono ?_
  rintro e w1 ⟨rfl, k1⟩
  obtain ⟨a0, a1, a2, a3, a4, a5, a6, a7, a8, a9, a10, a11, a12⟩ := TB.kept (TB.new w _ _ rfl t) k1
  go_wp2_with fail
  try simp only [e4]
  refine (HA _).out.mono ?_
  rintro e w2 ⟨rfl, k2⟩
  go_wp2
  go_ret
  exact ⟨rfl, by (go_light; repeat (first | (with_reducible exact Kept.refl _) | (with_reducible assumption) | (with_reducible refine Kept.alloc ?_ _ _) | (with_reducible refine Kept.drew ?_) | (with_reducible refine Kept.drewN ?_ _) | ((with_reducible refine Kept.setCell ?_ ?_ _); rotate_left; focus (first | (simp; done) | (simp; omega))) | refine Kept.trans ?_ (by assumption)))⟩
theorem next_any (t : Twr) (i l : Int) (hl : I64 l) (w : World) : Calls Try.prog 92 #[towV t, .int .i64 i, .int .i64 l] w fun e w' => e = .returned (.int .i64 (nextI t i l)) ∧ Kept w w' := by
  by_cases h : 0 ≤ l ∧ l < t.G
  · by_cases h3 : l ≤ 9223372036854775803
    · exact next_in t i l h.1 h.2 h3 w
    · have hn : ¬ t.Sound := fun h' => by have := h'.G2; omega
      have e : nextI t i l = -1 := by unfold nextI; rw [if_pos h]; exact atI_bad hn _ _
      rw [e]
      exact next_far t i l h.2 (by omega) hl.2 w
  · have e : nextI t i l = -1 := by unfold nextI; rw [if_neg h]
    rw [e]; exact next_bad t i l (by omega) w
end Go.Proofs.Ytejiogggocnldaa.Tw

namespace Go.Proofs.Ytejiogggocnldaa.Fd
open Go.RowKit
open Wo (St acc wordAt)
open Sk (Stk Arn idx Wd)
open Tw (Twr atI nextI)

structure Pos where
  p : Int
  k : Int
  c : Int
  v : Int
  x : Int
def Pos.zero : Pos := ⟨0, 0, 0, 0, 0⟩
def Pos.head : Pos := ⟨-1, 0, 0, 0, 0⟩
structure FOp where
  pos : Nat → Pos
  r : Int
  er : Int
def upd (f : Nat → Pos) (l : Nat) (q : Pos) : Nat → Pos := fun k => if k = l then q else f k
theorem upd_same (f : Nat → Pos) (l : Nat) (q : Pos) : upd f l q l = q := if_pos rfl
theorem upd_other (f : Nat → Pos) {l k : Nat} (q : Pos) (h : k ≠ l) : upd f l q k = f k := if_neg h
def lvl (f : Nat → Pos) : Nat → Option Nat
  | 0 => none
  | g + 1 => if (f g).x = 4 then lvl f g else some g
def frm (g : Nat) (f : Nat → Pos) (l : Nat) : Pos := if l + 1 < g then f (l + 1) else Pos.head
def faced (N : Int) (q : Pos) (w : Int) : Pos := ⟨q.p, q.k, w, q.v, if idx N w < 0 then 4 else 1⟩
def unmark (w : Int) : Int := w % 9223372036854775808
def markB (w : Int) : Bool := w / 9223372036854775808 == 1
structure Ask where
  kind : Int
  at_ : Int
  old : Int
  new : Int
def ask (t : Twr) (g : Nat) (f : Nat → Pos) (l : Nat) : Ask :=
  if (f l).x = 0 then ⟨1, nextI t (frm g f l).p l, 0, 0⟩
  else if (f l).x = 1 then ⟨1, nextI t (idx t.A.F.N (f l).c) l, 0, 0⟩
  else if (f l).x = 2 then ⟨3, nextI t (f l).p l, (f l).c, unmark (f l).v⟩
  else ⟨1, atI t (idx t.A.F.N (f l).c) 0, 0, 0⟩
def went (t : Twr) (key : Int) (g : Nat) (f : Nat → Pos) (l : Nat) (w : Int) : Nat → Pos :=
  if (f l).x = 0 then (if markB w then fun _ => Pos.zero else upd f l (faced t.A.F.N (frm g f l) w))
  else if (f l).x = 1 then upd f l ⟨(f l).p, (f l).k, (f l).c, w, if markB w then 2 else 3⟩
  else if (f l).x = 2 then (if w = 1 then upd f l (faced t.A.F.N (f l) (unmark (f l).v)) else fun _ => Pos.zero)
  else if key ≤ w then upd f l ⟨(f l).p, (f l).k, (f l).c, (f l).v, 4⟩
  else upd f l (faced t.A.F.N ⟨idx t.A.F.N (f l).c, (f l).c, (f l).c, (f l).v, (f l).x⟩ (f l).v)
def byI (g : Nat) (f : Nat → Pos) (l : Nat) : Int := if (f l).x = 0 then (frm g f l).k else if (f l).x = 2 then (f l).k else (f l).c
def told (f : Nat → Pos) : Int := if (f 0).x = 4 then 0 else 14
def stepOp (t : Twr) (key : Int) (g : Nat) (o : FOp) (w : Int) : FOp :=
  match lvl o.pos g with
  | none => o
  | some l => ⟨went t key g o.pos l w, byI g o.pos l, told (went t key g o.pos l w)⟩
end Go.Proofs.Ytejiogggocnldaa.Fd

namespace Go.Proofs.Ytejiogggocnldaa.Fd
set_option maxRecDepth 20000
open Go.RowKit
open Wo (St acc wordAt PMem RefIs)
open Sk (Stk Arn idx Wd g_top)
open Tw (Twr TB towV atI nextI next_any I64 nextI_lo nextI_hi)

abbrev posV (q : Pos) : Value := .agg #[.int .i64 q.p, .int .u64 q.k, .int .u64 q.c, .int .u64 q.v, .int .i64 q.x]
structure TF (w : World) (F : Nat) (t : Twr) : Prop where
  t0 : w.cell? ⟨F, 1, none⟩ = some (.int .i64 t.D)
  t1 : w.cell? ⟨F, 2, none⟩ = some (.int .i64 t.H)
  t2 : w.cell? ⟨F, 3, none⟩ = some (.int .i64 t.G)
  t3 : w.cell? ⟨F, 4, none⟩ = some (.int .i64 t.A.F.T)
  t4 : w.cell? ⟨F, 5, none⟩ = some (.int .i64 t.A.F.K)
  t5 : w.cell? ⟨F, 6, none⟩ = some (.int .i64 t.A.F.N)
  t6 : w.cell? ⟨F, 7, none⟩ = some (.int .i64 t.A.G)
  t7 : w.cell? ⟨F, 8, none⟩ = some (.int .i64 t.A.V)
  t8 : w.cell? ⟨F, 9, none⟩ = some (.int .i64 t.A.L)
  t9 : w.cell? ⟨F, 10, none⟩ = some (.int .i64 t.E.T)
  t10 : w.cell? ⟨F, 11, none⟩ = some (.int .i64 t.E.K)
  t11 : w.cell? ⟨F, 12, none⟩ = some (.int .i64 t.E.N)
  t12 : w.cell? ⟨F, 13, none⟩ = some (.int .i64 t.P)
theorem TF.but {w w' : World} {F : Nat} {t : Twr} (h : TF w F t) {T : Nat → Prop} (k : But T w w') (hT : ¬ T F) : TF w' F t :=
  ⟨k.some h.t0 hT, k.some h.t1 hT, k.some h.t2 hT, k.some h.t3 hT, k.some h.t4 hT, k.some h.t5 hT, k.some h.t6 hT, k.some h.t7 hT, k.some h.t8 hT, k.some h.t9 hT, k.some h.t10 hT, k.some h.t11 hT, k.some h.t12 hT⟩
structure PosAt (w : World) (F : Nat) (f : Nat → Pos) : Prop where
  p0 : ∀ k, k < 4 → w.cell? ⟨F, 15 + k * 5, none⟩ = some (.int .i64 (f k).p)
  p1 : ∀ k, k < 4 → w.cell? ⟨F, 15 + k * 5 + 1, none⟩ = some (.int .u64 (f k).k)
  p2 : ∀ k, k < 4 → w.cell? ⟨F, 15 + k * 5 + 2, none⟩ = some (.int .u64 (f k).c)
  p3 : ∀ k, k < 4 → w.cell? ⟨F, 15 + k * 5 + 3, none⟩ = some (.int .u64 (f k).v)
  p4 : ∀ k, k < 4 → w.cell? ⟨F, 15 + k * 5 + 4, none⟩ = some (.int .i64 (f k).x)
theorem PosAt.but {w w' : World} {F : Nat} {f : Nat → Pos} (h : PosAt w F f) {T : Nat → Prop} (k : But T w w') (hT : ¬ T F) : PosAt w' F f :=
  ⟨fun j hj => k.some (h.p0 j hj) hT, fun j hj => k.some (h.p1 j hj) hT, fun j hj => k.some (h.p2 j hj) hT, fun j hj => k.some (h.p3 j hj) hT, fun j hj => k.some (h.p4 j hj) hT⟩
structure FdAt (w : World) (F : Nat) (t : Twr) (key : Int) (o : FOp) : Prop where
  md : w.cell? ⟨F, 0, none⟩ = some (.bool true)
  tf : TF w F t
  ky : w.cell? ⟨F, 14, none⟩ = some (.int .u64 key)
  ps : PosAt w F o.pos
  by_ : w.cell? ⟨F, 35, none⟩ = some (.int .u64 o.r)
  er : w.cell? ⟨F, 36, none⟩ = some (.int .i64 o.er)
  fz : ∀ i, w.frozen? ⟨F, i, none⟩ = false
theorem FdAt.but {w w' : World} {F : Nat} {t : Twr} {key : Int} {o : FOp} (h : FdAt w F t key o) {T : Nat → Prop} (k : But T w w') (hT : ¬ T F) : FdAt w' F t key o :=
  ⟨k.some h.md hT, h.tf.but k hT, k.some h.ky hT, h.ps.but k hT, k.some h.by_ hT, k.some h.er hT, fun i => k.soft (lt_of_cell h.md) (h.fz i)⟩
theorem FdAt.kept {w w' : World} {F : Nat} {t : Twr} {key : Int} {o : FOp} (h : FdAt w F t key o) (k : Kept w w') : FdAt w' F t key o := h.but (k.but (fun _ => False)) id
theorem FdAt.lt {w : World} {F : Nat} {t : Twr} {key : Int} {o : FOp} (h : FdAt w F t key o) : F < w.heap.size := lt_of_cell h.md

set_option maxHeartbeats 1000000 in
theorem fread_hi (t : Twr) (x : Int) (h0 : 0 ≤ x) (h1 : x < 18446744073709551616) (h : ¬ x % 65536 - 1 < t.A.F.N) (w : World) : Calls Try.prog 119 #[towV t, .int .u64 x] w fun e w' => e = .returned (.int .i64 (-1)) ∧ Kept w w' := by
  have GT := fun W => Lib.hid (g_top x W h0 h1)
  obtain ⟨i, hi⟩ : ∃ i, i = x % 65536 - 1 := ⟨_, rfl⟩
  have hN : t.A.F.N ≤ i := by omega
  rw [← hi] at GT
  clear hi h h0 h1
  go_enter Try.func119, Try.ntmps119
  go_wp2_with fail
  refine (GT _).out.mono ?_
  rintro e w1 ⟨rfl, k1⟩
  obtain ⟨a0, a1, a2, a3, a4, a5, a6, a7, a8, a9, a10, a11, a12⟩ := TB.kept (TB.new w _ _ rfl t) k1
  have lz := lt_of_cell a0
  go_wp2
  go_ret
  exact ⟨rfl, by (go_light; repeat (first | (with_reducible exact Kept.refl _) | (with_reducible assumption) | (with_reducible refine Kept.alloc ?_ _ _) | (with_reducible refine Kept.drew ?_) | (with_reducible refine Kept.drewN ?_ _) | ((with_reducible refine Kept.setCell ?_ ?_ _); rotate_left; focus (first | (simp; done) | (simp; omega))) | refine Kept.trans ?_ (by assumption)))⟩
set_option maxHeartbeats 1000000 in
theorem fread_lo (t : Twr) (x : Int) (h0 : 0 ≤ x) (h1 : x < 18446744073709551616) (h : x % 65536 - 1 < t.A.F.N) (w : World) : Calls Try.prog 119 #[towV t, .int .u64 x] w fun e w' => e = .returned (.int .i64 (x % 65536 - 1)) ∧ Kept w w' := by
  have GT := fun W => Lib.hid (g_top x W h0 h1)
  obtain ⟨i, hi⟩ : ∃ i, i = x % 65536 - 1 := ⟨_, rfl⟩
  rw [← hi] at GT h ⊢
  have hN : decide (t.A.F.N ≤ i) = false := by simp; omega
  clear hi h h0 h1
  go_enter Try.func119, Try.ntmps119
  go_wp2_with fail
  refine (GT _).out.mono ?_
  rintro e w1 ⟨rfl, k1⟩
  obtain ⟨a0, a1, a2, a3, a4, a5, a6, a7, a8, a9, a10, a11, a12⟩ := TB.kept (TB.new w _ _ rfl t) k1
  have lz := lt_of_cell a0
  go_wp2
  go_ret
  exact ⟨rfl, by (go_light; repeat (first | (with_reducible exact Kept.refl _) | (with_reducible assumption) | (with_reducible refine Kept.alloc ?_ _ _) | (with_reducible refine Kept.drew ?_) | (with_reducible refine Kept.drewN ?_ _) | ((with_reducible refine Kept.setCell ?_ ?_ _); rotate_left; focus (first | (simp; done) | (simp; omega))) | refine Kept.trans ?_ (by assumption)))⟩
theorem fread_any (t : Twr) (x : Int) (h0 : 0 ≤ x) (h1 : x < 18446744073709551616) (w : World) : Calls Try.prog 119 #[towV t, .int .u64 x] w fun e w' => e = .returned (.int .i64 (idx t.A.F.N x)) ∧ Kept w w' := by
  unfold idx
  split
  · exact fread_lo t x h0 h1 (by assumption) w
  · exact fread_hi t x h0 h1 (by assumption) w
set_option maxHeartbeats 1000000 in
theorem fsound_any (t : Twr) (w : World) : Calls Try.prog 59 #[towV t] w fun e w' => e = .returned (.bool (decide t.Sound)) ∧ Kept w w' := by
  have hb : decide (0 ≤ nextI t (-1) 0) = decide t.Sound := by
    by_cases h : t.Sound
    · have h1 := h.G1
      have h2 := h.H1
      have : nextI t (-1) 0 = t.H := by
        unfold nextI
        rw [if_pos ⟨by omega, by omega⟩, Tw.atI_head h (by omega) (by omega)]
        omega
      rw [this, decide_eq_true h, decide_eq_true h2]
    · have : nextI t (-1) 0 = -1 := by
        unfold nextI
        split
        · exact Tw.atI_bad h _ _
        · rfl
      rw [this, decide_eq_false h]; rfl
  have NX := fun W => Lib.hid (next_any t (-1) 0 (by unfold I64; omega) W)
  obtain ⟨b, hb2⟩ : ∃ b, b = decide t.Sound := ⟨_, rfl⟩
  rw [← hb2] at hb ⊢
  clear hb2
  go_enter Try.func59, Try.ntmps59
  go_wp2_with fail
  refine (NX _).out.mono ?_
  rintro e w1 ⟨rfl, k1⟩
  go_wp2
  go_ret
  simp only [hb]
  exact ⟨rfl, by (go_light; repeat (first | (with_reducible exact Kept.refl _) | (with_reducible assumption) | (with_reducible refine Kept.alloc ?_ _ _) | (with_reducible refine Kept.drew ?_) | (with_reducible refine Kept.drewN ?_ _) | ((with_reducible refine Kept.setCell ?_ ?_ _); rotate_left; focus (first | (simp; done) | (simp; omega))) | refine Kept.trans ?_ (by assumption)))⟩
end Go.Proofs.Ytejiogggocnldaa.Fd
