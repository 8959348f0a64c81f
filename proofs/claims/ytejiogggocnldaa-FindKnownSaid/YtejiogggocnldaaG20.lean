/- Which cell a part is, and whose a cell is: the document's. Written by gen15c.py. -/
import Derived.Test.YtejiogggocnldaaG08
import Derived.Test.YtejiogggocnldaaG07
import Derived.WalkKit
import Derived.ProofKit
import Derived.Deep.Slices
import Derived.Deep.Fields
import Derived.Lib.SmallJoins
set_option linter.unusedVariables false
set_option linter.unusedSimpArgs false

namespace Go.Proofs.Ytejiogggocnldaa.Tw
set_option maxRecDepth 20000
open Go.RowKit
open Wo (St acc wordAt PMem RefIs)
open Sk (Stk Arn idx Wd)

set_option maxHeartbeats 400000 in
theorem rsound_0 (t : Twr)  (hn : t.G < 1) (w : World) : Calls Try.prog 20 #[towV t] w fun e w' => e = .returned (.bool false) ∧ Kept w w' := by
  have d : decide (1 ≤ t.G) = false := by simp; omega
  go_enter Try.func20, Try.ntmps20
  go_wp2
  go_ret
  exact ⟨rfl, by (go_light; repeat (first | (with_reducible exact Kept.refl _) | (with_reducible assumption) | (with_reducible refine Kept.alloc ?_ _ _) | (with_reducible refine Kept.drew ?_) | (with_reducible refine Kept.drewN ?_ _) | ((with_reducible refine Kept.setCell ?_ ?_ _); rotate_left; focus (first | (simp; done) | (simp; omega))) | refine Kept.trans ?_ (by assumption)))⟩
set_option maxHeartbeats 400000 in
theorem rsound_1 (t : Twr) (h0 : 1 ≤ t.G) (hn : 4 < t.G) (w : World) : Calls Try.prog 20 #[towV t] w fun e w' => e = .returned (.bool false) ∧ Kept w w' := by
  have d : decide (t.G ≤ 4) = false := by simp; omega
  go_enter Try.func20, Try.ntmps20
  go_wp2
  go_ret
  exact ⟨rfl, by (go_light; repeat (first | (with_reducible exact Kept.refl _) | (with_reducible assumption) | (with_reducible refine Kept.alloc ?_ _ _) | (with_reducible refine Kept.drew ?_) | (with_reducible refine Kept.drewN ?_ _) | ((with_reducible refine Kept.setCell ?_ ?_ _); rotate_left; focus (first | (simp; done) | (simp; omega))) | refine Kept.trans ?_ (by assumption)))⟩
set_option maxHeartbeats 400000 in
theorem rsound_2 (t : Twr) (h0 : 1 ≤ t.G) (h1 : t.G ≤ 4) (hn : t.A.F.N < 1) (w : World) : Calls Try.prog 20 #[towV t] w fun e w' => e = .returned (.bool false) ∧ Kept w w' := by
  have d : decide (1 ≤ t.A.F.N) = false := by simp; omega
  go_enter Try.func20, Try.ntmps20
  go_wp2
  go_ret
  exact ⟨rfl, by (go_light; repeat (first | (with_reducible exact Kept.refl _) | (with_reducible assumption) | (with_reducible refine Kept.alloc ?_ _ _) | (with_reducible refine Kept.drew ?_) | (with_reducible refine Kept.drewN ?_ _) | ((with_reducible refine Kept.setCell ?_ ?_ _); rotate_left; focus (first | (simp; done) | (simp; omega))) | refine Kept.trans ?_ (by assumption)))⟩
set_option maxHeartbeats 400000 in
theorem rsound_3 (t : Twr) (h0 : 1 ≤ t.G) (h1 : t.G ≤ 4) (h2 : 1 ≤ t.A.F.N) (hn : 128 < t.A.F.N) (w : World) : Calls Try.prog 20 #[towV t] w fun e w' => e = .returned (.bool false) ∧ Kept w w' := by
  have d : decide (t.A.F.N ≤ 128) = false := by simp; omega
  go_enter Try.func20, Try.ntmps20
  go_wp2
  go_ret
  exact ⟨rfl, by (go_light; repeat (first | (with_reducible exact Kept.refl _) | (with_reducible assumption) | (with_reducible refine Kept.alloc ?_ _ _) | (with_reducible refine Kept.drew ?_) | (with_reducible refine Kept.drewN ?_ _) | ((with_reducible refine Kept.setCell ?_ ?_ _); rotate_left; focus (first | (simp; done) | (simp; omega))) | refine Kept.trans ?_ (by assumption)))⟩
set_option maxHeartbeats 400000 in
theorem rsound_4 (t : Twr) (h0 : 1 ≤ t.G) (h1 : t.G ≤ 4) (h2 : 1 ≤ t.A.F.N) (h3 : t.A.F.N ≤ 128) (hn : t.D < 0) (w : World) : Calls Try.prog 20 #[towV t] w fun e w' => e = .returned (.bool false) ∧ Kept w w' := by
  have d : decide (0 ≤ t.D) = false := by simp; omega
  go_enter Try.func20, Try.ntmps20
  go_wp2
  go_ret
  exact ⟨rfl, by (go_light; repeat (first | (with_reducible exact Kept.refl _) | (with_reducible assumption) | (with_reducible refine Kept.alloc ?_ _ _) | (with_reducible refine Kept.drew ?_) | (with_reducible refine Kept.drewN ?_ _) | ((with_reducible refine Kept.setCell ?_ ?_ _); rotate_left; focus (first | (simp; done) | (simp; omega))) | refine Kept.trans ?_ (by assumption)))⟩
set_option maxHeartbeats 400000 in
theorem rsound_5 (t : Twr) (h0 : 1 ≤ t.G) (h1 : t.G ≤ 4) (h2 : 1 ≤ t.A.F.N) (h3 : t.A.F.N ≤ 128) (h4 : 0 ≤ t.D) (hn : 4096 ≤ t.D) (w : World) : Calls Try.prog 20 #[towV t] w fun e w' => e = .returned (.bool false) ∧ Kept w w' := by
  have d : decide (t.D < 4096) = false := by simp; omega
  go_enter Try.func20, Try.ntmps20
  go_wp2
  go_ret
  exact ⟨rfl, by (go_light; repeat (first | (with_reducible exact Kept.refl _) | (with_reducible assumption) | (with_reducible refine Kept.alloc ?_ _ _) | (with_reducible refine Kept.drew ?_) | (with_reducible refine Kept.drewN ?_ _) | ((with_reducible refine Kept.setCell ?_ ?_ _); rotate_left; focus (first | (simp; done) | (simp; omega))) | refine Kept.trans ?_ (by assumption)))⟩
set_option maxHeartbeats 400000 in
theorem rsound_6 (t : Twr) (h0 : 1 ≤ t.G) (h1 : t.G ≤ 4) (h2 : 1 ≤ t.A.F.N) (h3 : t.A.F.N ≤ 128) (h4 : 0 ≤ t.D) (h5 : t.D < 4096) (hn : t.H < 0) (w : World) : Calls Try.prog 20 #[towV t] w fun e w' => e = .returned (.bool false) ∧ Kept w w' := by
  have d : decide (0 ≤ t.H) = false := by simp; omega
  go_enter Try.func20, Try.ntmps20
  go_wp2
  go_ret
  exact ⟨rfl, by (go_light; repeat (first | (with_reducible exact Kept.refl _) | (with_reducible assumption) | (with_reducible refine Kept.alloc ?_ _ _) | (with_reducible refine Kept.drew ?_) | (with_reducible refine Kept.drewN ?_ _) | ((with_reducible refine Kept.setCell ?_ ?_ _); rotate_left; focus (first | (simp; done) | (simp; omega))) | refine Kept.trans ?_ (by assumption)))⟩
set_option maxHeartbeats 400000 in
theorem rsound_7 (t : Twr) (h0 : 1 ≤ t.G) (h1 : t.G ≤ 4) (h2 : 1 ≤ t.A.F.N) (h3 : t.A.F.N ≤ 128) (h4 : 0 ≤ t.D) (h5 : t.D < 4096) (h6 : 0 ≤ t.H) (hn : 4096 ≤ t.H) (w : World) : Calls Try.prog 20 #[towV t] w fun e w' => e = .returned (.bool false) ∧ Kept w w' := by
  have d : decide (t.H < 4096) = false := by simp; omega
  go_enter Try.func20, Try.ntmps20
  go_wp2
  go_ret
  exact ⟨rfl, by (go_light; repeat (first | (with_reducible exact Kept.refl _) | (with_reducible assumption) | (with_reducible refine Kept.alloc ?_ _ _) | (with_reducible refine Kept.drew ?_) | (with_reducible refine Kept.drewN ?_ _) | ((with_reducible refine Kept.setCell ?_ ?_ _); rotate_left; focus (first | (simp; done) | (simp; omega))) | refine Kept.trans ?_ (by assumption)))⟩
set_option maxHeartbeats 400000 in
theorem rsound_in (t : Twr) (h0 : 1 ≤ t.G) (h1 : t.G ≤ 4) (h2 : 1 ≤ t.A.F.N) (h3 : t.A.F.N ≤ 128) (h4 : 0 ≤ t.D) (h5 : t.D < 4096) (h6 : 0 ≤ t.H) (h7 : t.H < 4096) (w : World) : Calls Try.prog 20 #[towV t] w fun e w' => e = .returned (.bool true) ∧ Kept w w' := by
  go_enter Try.func20, Try.ntmps20
  go_wp2
  go_ret
  exact ⟨rfl, by (go_light; repeat (first | (with_reducible exact Kept.refl _) | (with_reducible assumption) | (with_reducible refine Kept.alloc ?_ _ _) | (with_reducible refine Kept.drew ?_) | (with_reducible refine Kept.drewN ?_ _) | ((with_reducible refine Kept.setCell ?_ ?_ _); rotate_left; focus (first | (simp; done) | (simp; omega))) | refine Kept.trans ?_ (by assumption)))⟩
theorem rsound_any (t : Twr) (w : World) : Calls Try.prog 20 #[towV t] w fun e w' => e = .returned (.bool (decide t.Sound)) ∧ Kept w w' := by
  by_cases h : t.Sound
  · rw [decide_eq_true h]; exact rsound_in t h.G1 h.G2 h.N1 h.N2 h.D1 h.D2 h.H1 h.H2 w
  · rw [decide_eq_false h]
    rw [sound_iff] at h
    by_cases h0 : t.G < 1
    · exact rsound_0 t h0 w
    by_cases h1 : 4 < t.G
    · exact rsound_1 t (by omega) h1 w
    by_cases h2 : t.A.F.N < 1
    · exact rsound_2 t (by omega) (by omega) h2 w
    by_cases h3 : 128 < t.A.F.N
    · exact rsound_3 t (by omega) (by omega) (by omega) h3 w
    by_cases h4 : t.D < 0
    · exact rsound_4 t (by omega) (by omega) (by omega) (by omega) h4 w
    by_cases h5 : 4096 ≤ t.D
    · exact rsound_5 t (by omega) (by omega) (by omega) (by omega) (by omega) h5 w
    by_cases h6 : t.H < 0
    · exact rsound_6 t (by omega) (by omega) (by omega) (by omega) (by omega) (by omega) h6 w
    by_cases h7 : 4096 ≤ t.H
    · exact rsound_7 t (by omega) (by omega) (by omega) (by omega) (by omega) (by omega) (by omega) h7 w
    · omega
end Go.Proofs.Ytejiogggocnldaa.Tw

namespace Go.Proofs.Ytejiogggocnldaa.Tw
set_option maxRecDepth 20000
open Go.ChangeShapes Go.WideShapes Go.Deep Go.RowKit
open Sk (Stk Arn)
theorem cells_int : Try.prog.cellsOf 3 = 1 := by kernel_rfl
theorem cells_stack : Try.prog.cellsOf 43 = 3 := by kernel_rfl
theorem cells_arena : Try.prog.cellsOf 45 = 6 := by kernel_rfl
theorem cells_epoch : Try.prog.cellsOf 47 = 3 := by kernel_rfl
theorem cells_limbo : Try.prog.cellsOf 49 = 10 := by kernel_rfl
theorem cells_tower : Try.prog.cellsOf 51 = 13 := by kernel_rfl
def stcell (S : Stk) : List Value := [.int .i64 S.T, .int .i64 S.K, .int .i64 S.N]
def arcell (A : Arn) : List Value := [.int .i64 A.F.T, .int .i64 A.F.K, .int .i64 A.F.N, .int .i64 A.G, .int .i64 A.V, .int .i64 A.L]
def licell (A : Arn) (E : Stk) (P : Int) : List Value := arcell A ++ stcell E ++ [.int .i64 P]
def towcell (t : Twr) : List Value := [.int .i64 t.D, .int .i64 t.H, .int .i64 t.G] ++ licell t.A t.E t.P
section
variable {H : Type} {enc : TypeId × Value → H} {w : World} {base : Nat} {spare : Nat → Bool} {held : Bool}
theorem open_stack {fuel : Nat} {cs : List Value} {x : DataW H × List MemPlace} (h : DataW.trod enc Try.prog w base spare held fuel 43 cs = some x) : ∃ S : Stk, cs = stcell S := by
  obtain ⟨xs, n, _, _, hl, hxl, hf⟩ := DataW.trod_struct Try.underlying43 h
  rw [cells_stack] at hl
  match cs, hl with
  | [v0, v1, v2], _ =>
    match xs, hxl with
    | [x0, x1, x2], _ =>
      have f0 : DataW.trod enc Try.prog w base spare held n 3 (([v0, v1, v2].drop 0).take (Try.prog.cellsOf 3)) = some x0 := hf 0 _ rfl
      have f1 : DataW.trod enc Try.prog w base spare held n 3 (([v0, v1, v2].drop 1).take (Try.prog.cellsOf 3)) = some x1 := hf 1 _ rfl
      have f2 : DataW.trod enc Try.prog w base spare held n 3 (([v0, v1, v2].drop 2).take (Try.prog.cellsOf 3)) = some x2 := hf 2 _ rfl
      simp only [cells_int, cells_stack, cells_arena, cells_epoch, cells_limbo, List.drop_zero, List.drop_succ_cons, List.take_succ_cons, List.take_zero] at f0 f1 f2
      obtain ⟨q0, e0, _, w0⟩ := DataW.trod_int Try.underlying3 f0
      simp at e0
      subst e0
      obtain ⟨q1, e1, _, w1⟩ := DataW.trod_int Try.underlying3 f1
      simp at e1
      subst e1
      obtain ⟨q2, e2, _, w2⟩ := DataW.trod_int Try.underlying3 f2
      simp at e2
      subst e2
      exact ⟨⟨q0, q1, q2⟩, rfl⟩
theorem open_epoch {fuel : Nat} {cs : List Value} {x : DataW H × List MemPlace} (h : DataW.trod enc Try.prog w base spare held fuel 47 cs = some x) : ∃ S : Stk, cs = stcell S := by
  obtain ⟨xs, n, _, _, hl, hxl, hf⟩ := DataW.trod_struct Try.underlying47 h
  rw [cells_epoch] at hl
  match cs, hl with
  | [v0, v1, v2], _ =>
    match xs, hxl with
    | [x0, x1, x2], _ =>
      have f0 : DataW.trod enc Try.prog w base spare held n 3 (([v0, v1, v2].drop 0).take (Try.prog.cellsOf 3)) = some x0 := hf 0 _ rfl
      have f1 : DataW.trod enc Try.prog w base spare held n 3 (([v0, v1, v2].drop 1).take (Try.prog.cellsOf 3)) = some x1 := hf 1 _ rfl
      have f2 : DataW.trod enc Try.prog w base spare held n 3 (([v0, v1, v2].drop 2).take (Try.prog.cellsOf 3)) = some x2 := hf 2 _ rfl
      simp only [cells_int, cells_stack, cells_arena, cells_epoch, cells_limbo, List.drop_zero, List.drop_succ_cons, List.take_succ_cons, List.take_zero] at f0 f1 f2
      obtain ⟨q0, e0, _, w0⟩ := DataW.trod_int Try.underlying3 f0
      simp at e0
      subst e0
      obtain ⟨q1, e1, _, w1⟩ := DataW.trod_int Try.underlying3 f1
      simp at e1
      subst e1
      obtain ⟨q2, e2, _, w2⟩ := DataW.trod_int Try.underlying3 f2
      simp at e2
      subst e2
      exact ⟨⟨q0, q1, q2⟩, rfl⟩
theorem open_arena {fuel : Nat} {cs : List Value} {x : DataW H × List MemPlace} (h : DataW.trod enc Try.prog w base spare held fuel 45 cs = some x) : ∃ A : Arn, cs = arcell A := by
  obtain ⟨xs, n, _, _, hl, hxl, hf⟩ := DataW.trod_struct Try.underlying45 h
  rw [cells_arena] at hl
  match cs, hl with
  | [v0, v1, v2, v3, v4, v5], _ =>
    match xs, hxl with
    | [x0, x1, x2, x3], _ =>
      have f0 : DataW.trod enc Try.prog w base spare held n 43 (([v0, v1, v2, v3, v4, v5].drop 0).take (Try.prog.cellsOf 43)) = some x0 := hf 0 _ rfl
      have f1 : DataW.trod enc Try.prog w base spare held n 3 (([v0, v1, v2, v3, v4, v5].drop 3).take (Try.prog.cellsOf 3)) = some x1 := hf 1 _ rfl
      have f2 : DataW.trod enc Try.prog w base spare held n 3 (([v0, v1, v2, v3, v4, v5].drop 4).take (Try.prog.cellsOf 3)) = some x2 := hf 2 _ rfl
      have f3 : DataW.trod enc Try.prog w base spare held n 3 (([v0, v1, v2, v3, v4, v5].drop 5).take (Try.prog.cellsOf 3)) = some x3 := hf 3 _ rfl
      simp only [cells_int, cells_stack, cells_arena, cells_epoch, cells_limbo, List.drop_zero, List.drop_succ_cons, List.take_succ_cons, List.take_zero] at f0 f1 f2 f3
      obtain ⟨q0, e0⟩ := open_stack f0
      obtain ⟨q1, e1, _, w1⟩ := DataW.trod_int Try.underlying3 f1
      simp at e1
      subst e1
      obtain ⟨q2, e2, _, w2⟩ := DataW.trod_int Try.underlying3 f2
      simp at e2
      subst e2
      obtain ⟨q3, e3, _, w3⟩ := DataW.trod_int Try.underlying3 f3
      simp at e3
      subst e3
      simp only [stcell, List.cons.injEq, and_true] at e0
      obtain ⟨rfl, rfl, rfl⟩ := e0
      exact ⟨⟨q0, q1, q2, q3⟩, rfl⟩
theorem open_limbo {fuel : Nat} {cs : List Value} {x : DataW H × List MemPlace} (h : DataW.trod enc Try.prog w base spare held fuel 49 cs = some x) : ∃ q : Arn × Stk × Int, cs = licell q.1 q.2.1 q.2.2 := by
  obtain ⟨xs, n, _, _, hl, hxl, hf⟩ := DataW.trod_struct Try.underlying49 h
  rw [cells_limbo] at hl
  match cs, hl with
  | [v0, v1, v2, v3, v4, v5, v6, v7, v8, v9], _ =>
    match xs, hxl with
    | [x0, x1, x2], _ =>
      have f0 : DataW.trod enc Try.prog w base spare held n 45 (([v0, v1, v2, v3, v4, v5, v6, v7, v8, v9].drop 0).take (Try.prog.cellsOf 45)) = some x0 := hf 0 _ rfl
      have f1 : DataW.trod enc Try.prog w base spare held n 47 (([v0, v1, v2, v3, v4, v5, v6, v7, v8, v9].drop 6).take (Try.prog.cellsOf 47)) = some x1 := hf 1 _ rfl
      have f2 : DataW.trod enc Try.prog w base spare held n 3 (([v0, v1, v2, v3, v4, v5, v6, v7, v8, v9].drop 9).take (Try.prog.cellsOf 3)) = some x2 := hf 2 _ rfl
      simp only [cells_int, cells_stack, cells_arena, cells_epoch, cells_limbo, List.drop_zero, List.drop_succ_cons, List.take_succ_cons, List.take_zero] at f0 f1 f2
      obtain ⟨q0, e0⟩ := open_arena f0
      obtain ⟨q1, e1⟩ := open_epoch f1
      obtain ⟨q2, e2, _, w2⟩ := DataW.trod_int Try.underlying3 f2
      simp at e2
      subst e2
      simp only [arcell, List.cons.injEq, and_true] at e0
      simp only [stcell, List.cons.injEq, and_true] at e1
      obtain ⟨rfl, rfl, rfl, rfl, rfl, rfl⟩ := e0
      obtain ⟨rfl, rfl, rfl⟩ := e1
      exact ⟨(q0, q1, q2), rfl⟩
theorem open_tower {fuel : Nat} {cs : List Value} {x : DataW H × List MemPlace} (h : DataW.trod enc Try.prog w base spare held fuel 51 cs = some x) : ∃ t : Twr, cs = towcell t := by
  obtain ⟨xs, n, _, _, hl, hxl, hf⟩ := DataW.trod_struct Try.underlying51 h
  rw [cells_tower] at hl
  match cs, hl with
  | [v0, v1, v2, v3, v4, v5, v6, v7, v8, v9, v10, v11, v12], _ =>
    match xs, hxl with
    | [x0, x1, x2, x3], _ =>
      have f0 : DataW.trod enc Try.prog w base spare held n 3 (([v0, v1, v2, v3, v4, v5, v6, v7, v8, v9, v10, v11, v12].drop 0).take (Try.prog.cellsOf 3)) = some x0 := hf 0 _ rfl
      have f1 : DataW.trod enc Try.prog w base spare held n 3 (([v0, v1, v2, v3, v4, v5, v6, v7, v8, v9, v10, v11, v12].drop 1).take (Try.prog.cellsOf 3)) = some x1 := hf 1 _ rfl
      have f2 : DataW.trod enc Try.prog w base spare held n 3 (([v0, v1, v2, v3, v4, v5, v6, v7, v8, v9, v10, v11, v12].drop 2).take (Try.prog.cellsOf 3)) = some x2 := hf 2 _ rfl
      have f3 : DataW.trod enc Try.prog w base spare held n 49 (([v0, v1, v2, v3, v4, v5, v6, v7, v8, v9, v10, v11, v12].drop 3).take (Try.prog.cellsOf 49)) = some x3 := hf 3 _ rfl
      simp only [cells_int, cells_stack, cells_arena, cells_epoch, cells_limbo, List.drop_zero, List.drop_succ_cons, List.take_succ_cons, List.take_zero] at f0 f1 f2 f3
      obtain ⟨q0, e0, _, w0⟩ := DataW.trod_int Try.underlying3 f0
      simp at e0
      subst e0
      obtain ⟨q1, e1, _, w1⟩ := DataW.trod_int Try.underlying3 f1
      simp at e1
      subst e1
      obtain ⟨q2, e2, _, w2⟩ := DataW.trod_int Try.underlying3 f2
      simp at e2
      subst e2
      obtain ⟨q3, e3⟩ := open_limbo f3
      simp only [licell, arcell, stcell, List.cons_append, List.nil_append, List.cons.injEq, and_true] at e3
      obtain ⟨rfl, rfl, rfl, rfl, rfl, rfl, rfl, rfl, rfl, rfl⟩ := e3
      exact ⟨⟨q0, q1, q2, q3.1, q3.2.1, q3.2.2⟩, rfl⟩
theorem open_towerv {fuel : Nat} {cs : Array Value} {x : DataW H × List MemPlace} (h : DataW.trod enc Try.prog w base spare held fuel 51 cs.toList = some x) : ∃ t : Twr, cs = (towcell t).toArray := by
  obtain ⟨t, h1⟩ := open_tower h
  exact ⟨t, by rw [← h1]⟩
end
end Go.Proofs.Ytejiogggocnldaa.Tw
