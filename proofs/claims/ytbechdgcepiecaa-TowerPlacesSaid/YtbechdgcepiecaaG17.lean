/- A tower that a law is handed by value. Written by gen15k.py. -/
import Derived.Test.YtbechdgcepiecaaG07
import Derived.WalkKit
import Derived.ProofKit
import Derived.Deep.Slices
import Derived.Deep.Fields
import Derived.Lib.SmallJoins
import Derived.Test.YtbechdgcepiecaaG15
import Derived.Test.YtbechdgcepiecaaG16
set_option linter.unusedVariables false
set_option linter.unusedSimpArgs false

namespace Go.Proofs.Ytbechdgcepiecaa.Tw
set_option maxRecDepth 20000
open Go.ChangeShapes Go.WideShapes Go.Deep Go.RowKit
open Sk (Stk Arn)
theorem cells_int : Try.prog.cellsOf 3 = 1 := by kernel_rfl
theorem cells_stack : Try.prog.cellsOf 23 = 3 := by kernel_rfl
theorem cells_arena : Try.prog.cellsOf 25 = 6 := by kernel_rfl
theorem cells_epoch : Try.prog.cellsOf 27 = 3 := by kernel_rfl
theorem cells_limbo : Try.prog.cellsOf 29 = 10 := by kernel_rfl
theorem cells_tower : Try.prog.cellsOf 31 = 13 := by kernel_rfl
def stcell (S : Stk) : List Value := [.int .i64 S.T, .int .i64 S.K, .int .i64 S.N]
def arcell (A : Arn) : List Value := [.int .i64 A.F.T, .int .i64 A.F.K, .int .i64 A.F.N, .int .i64 A.G, .int .i64 A.V, .int .i64 A.L]
def licell (A : Arn) (E : Stk) (P : Int) : List Value := arcell A ++ stcell E ++ [.int .i64 P]
def towcell (t : Twr) : List Value := [.int .i64 t.D, .int .i64 t.H, .int .i64 t.G] ++ licell t.A t.E t.P
section
variable {H : Type} {enc : TypeId × Value → H} {w : World} {base : Nat} {spare : Nat → Bool} {held : Bool}
theorem open_stack {fuel : Nat} {cs : List Value} {x : DataW H × List MemPlace} (h : DataW.trod enc Try.prog w base spare held fuel 23 cs = some x) : ∃ S : Stk, cs = stcell S := by
  obtain ⟨xs, n, _, _, hl, hxl, hf⟩ := DataW.trod_struct Try.underlying23 h
  rw [cells_stack] at hl
  match cs, hl with
  | [v0, v1, v2], _ =>
    match xs, hxl with
    | [x0, x1, x2], _ =>
      have f0 : DataW.trod enc Try.prog w base spare held n 3 (([v0, v1, v2].drop 0).take (Try.prog.cellsOf 3)) = some x0 := hf 0 _ rfl
      have f1 : DataW.trod enc Try.prog w base spare held n 3 (([v0, v1, v2].drop 1).take (Try.prog.cellsOf 3)) = some x1 := hf 1 _ rfl
      have f2 : DataW.trod enc Try.prog w base spare held n 3 (([v0, v1, v2].drop 2).take (Try.prog.cellsOf 3)) = some x2 := hf 2 _ rfl
      simp only [cells_int, cells_stack, cells_arena, cells_epoch, cells_limbo, List.drop_zero, List.drop_succ_cons, List.take_succ_cons, List.take_zero] at f0 f1 f2
      obtain ⟨q0, e0, _, w0⟩ := DataW.trod_int Try.underlying3 f0
      simp at e0
      subst e0
      obtain ⟨q1, e1, _, w1⟩ := DataW.trod_int Try.underlying3 f1
      simp at e1
      subst e1
      obtain ⟨q2, e2, _, w2⟩ := DataW.trod_int Try.underlying3 f2
      simp at e2
      subst e2
      exact ⟨⟨q0, q1, q2⟩, rfl⟩
theorem open_epoch {fuel : Nat} {cs : List Value} {x : DataW H × List MemPlace} (h : DataW.trod enc Try.prog w base spare held fuel 27 cs = some x) : ∃ S : Stk, cs = stcell S := by
  obtain ⟨xs, n, _, _, hl, hxl, hf⟩ := DataW.trod_struct Try.underlying27 h
  rw [cells_epoch] at hl
  match cs, hl with
  | [v0, v1, v2], _ =>
    match xs, hxl with
    | [x0, x1, x2], _ =>
      have f0 : DataW.trod enc Try.prog w base spare held n 3 (([v0, v1, v2].drop 0).take (Try.prog.cellsOf 3)) = some x0 := hf 0 _ rfl
      have f1 : DataW.trod enc Try.prog w base spare held n 3 (([v0, v1, v2].drop 1).take (Try.prog.cellsOf 3)) = some x1 := hf 1 _ rfl
      have f2 : DataW.trod enc Try.prog w base spare held n 3 (([v0, v1, v2].drop 2).take (Try.prog.cellsOf 3)) = some x2 := hf 2 _ rfl
      simp only [cells_int, cells_stack, cells_arena, cells_epoch, cells_limbo, List.drop_zero, List.drop_succ_cons, List.take_succ_cons, List.take_zero] at f0 f1 f2
      obtain ⟨q0, e0, _, w0⟩ := DataW.trod_int Try.underlying3 f0
      simp at e0
      subst e0
      obtain ⟨q1, e1, _, w1⟩ := DataW.trod_int Try.underlying3 f1
      simp at e1
      subst e1
      obtain ⟨q2, e2, _, w2⟩ := DataW.trod_int Try.underlying3 f2
      simp at e2
      subst e2
      exact ⟨⟨q0, q1, q2⟩, rfl⟩
theorem open_arena {fuel : Nat} {cs : List Value} {x : DataW H × List MemPlace} (h : DataW.trod enc Try.prog w base spare held fuel 25 cs = some x) : ∃ A : Arn, cs = arcell A := by
  obtain ⟨xs, n, _, _, hl, hxl, hf⟩ := DataW.trod_struct Try.underlying25 h
  rw [cells_arena] at hl
  match cs, hl with
  | [v0, v1, v2, v3, v4, v5], _ =>
    match xs, hxl with
    | [x0, x1, x2, x3], _ =>
      have f0 : DataW.trod enc Try.prog w base spare held n 23 (([v0, v1, v2, v3, v4, v5].drop 0).take (Try.prog.cellsOf 23)) = some x0 := hf 0 _ rfl
      have f1 : DataW.trod enc Try.prog w base spare held n 3 (([v0, v1, v2, v3, v4, v5].drop 3).take (Try.prog.cellsOf 3)) = some x1 := hf 1 _ rfl
      have f2 : DataW.trod enc Try.prog w base spare held n 3 (([v0, v1, v2, v3, v4, v5].drop 4).take (Try.prog.cellsOf 3)) = some x2 := hf 2 _ rfl
      have f3 : DataW.trod enc Try.prog w base spare held n 3 (([v0, v1, v2, v3, v4, v5].drop 5).take (Try.prog.cellsOf 3)) = some x3 := hf 3 _ rfl
      simp only [cells_int, cells_stack, cells_arena, cells_epoch, cells_limbo, List.drop_zero, List.drop_succ_cons, List.take_succ_cons, List.take_zero] at f0 f1 f2 f3
      obtain ⟨q0, e0⟩ := open_stack f0
      obtain ⟨q1, e1, _, w1⟩ := DataW.trod_int Try.underlying3 f1
      simp at e1
      subst e1
      obtain ⟨q2, e2, _, w2⟩ := DataW.trod_int Try.underlying3 f2
      simp at e2
      subst e2
      obtain ⟨q3, e3, _, w3⟩ := DataW.trod_int Try.underlying3 f3
      simp at e3
      subst e3
      simp only [stcell, List.cons.injEq, and_true] at e0
      obtain ⟨rfl, rfl, rfl⟩ := e0
      exact ⟨⟨q0, q1, q2, q3⟩, rfl⟩
theorem open_limbo {fuel : Nat} {cs : List Value} {x : DataW H × List MemPlace} (h : DataW.trod enc Try.prog w base spare held fuel 29 cs = some x) : ∃ q : Arn × Stk × Int, cs = licell q.1 q.2.1 q.2.2 := by
  obtain ⟨xs, n, _, _, hl, hxl, hf⟩ := DataW.trod_struct Try.underlying29 h
  rw [cells_limbo] at hl
  match cs, hl with
  | [v0, v1, v2, v3, v4, v5, v6, v7, v8, v9], _ =>
    match xs, hxl with
    | [x0, x1, x2], _ =>
      have f0 : DataW.trod enc Try.prog w base spare held n 25 (([v0, v1, v2, v3, v4, v5, v6, v7, v8, v9].drop 0).take (Try.prog.cellsOf 25)) = some x0 := hf 0 _ rfl
      have f1 : DataW.trod enc Try.prog w base spare held n 27 (([v0, v1, v2, v3, v4, v5, v6, v7, v8, v9].drop 6).take (Try.prog.cellsOf 27)) = some x1 := hf 1 _ rfl
      have f2 : DataW.trod enc Try.prog w base spare held n 3 (([v0, v1, v2, v3, v4, v5, v6, v7, v8, v9].drop 9).take (Try.prog.cellsOf 3)) = some x2 := hf 2 _ rfl
      simp only [cells_int, cells_stack, cells_arena, cells_epoch, cells_limbo, List.drop_zero, List.drop_succ_cons, List.take_succ_cons, List.take_zero] at f0 f1 f2
      obtain ⟨q0, e0⟩ := open_arena f0
      obtain ⟨q1, e1⟩ := open_epoch f1
      obtain ⟨q2, e2, _, w2⟩ := DataW.trod_int Try.underlying3 f2
      simp at e2
      subst e2
      simp only [arcell, List.cons.injEq, and_true] at e0
      simp only [stcell, List.cons.injEq, and_true] at e1
      obtain ⟨rfl, rfl, rfl, rfl, rfl, rfl⟩ := e0
      obtain ⟨rfl, rfl, rfl⟩ := e1
      exact ⟨(q0, q1, q2), rfl⟩
theorem open_tower {fuel : Nat} {cs : List Value} {x : DataW H × List MemPlace} (h : DataW.trod enc Try.prog w base spare held fuel 31 cs = some x) : ∃ t : Twr, cs = towcell t := by
  obtain ⟨xs, n, _, _, hl, hxl, hf⟩ := DataW.trod_struct Try.underlying31 h
  rw [cells_tower] at hl
  match cs, hl with
  | [v0, v1, v2, v3, v4, v5, v6, v7, v8, v9, v10, v11, v12], _ =>
    match xs, hxl with
    | [x0, x1, x2, x3], _ =>
      have f0 : DataW.trod enc Try.prog w base spare held n 3 (([v0, v1, v2, v3, v4, v5, v6, v7, v8, v9, v10, v11, v12].drop 0).take (Try.prog.cellsOf 3)) = some x0 := hf 0 _ rfl
      have f1 : DataW.trod enc Try.prog w base spare held n 3 (([v0, v1, v2, v3, v4, v5, v6, v7, v8, v9, v10, v11, v12].drop 1).take (Try.prog.cellsOf 3)) = some x1 := hf 1 _ rfl
      have f2 : DataW.trod enc Try.prog w base spare held n 3 (([v0, v1, v2, v3, v4, v5, v6, v7, v8, v9, v10, v11, v12].drop 2).take (Try.prog.cellsOf 3)) = some x2 := hf 2 _ rfl
      have f3 : DataW.trod enc Try.prog w base spare held n 29 (([v0, v1, v2, v3, v4, v5, v6, v7, v8, v9, v10, v11, v12].drop 3).take (Try.prog.cellsOf 29)) = some x3 := hf 3 _ rfl
      simp only [cells_int, cells_stack, cells_arena, cells_epoch, cells_limbo, List.drop_zero, List.drop_succ_cons, List.take_succ_cons, List.take_zero] at f0 f1 f2 f3
      obtain ⟨q0, e0, _, w0⟩ := DataW.trod_int Try.underlying3 f0
      simp at e0
      subst e0
      obtain ⟨q1, e1, _, w1⟩ := DataW.trod_int Try.underlying3 f1
      simp at e1
      subst e1
      obtain ⟨q2, e2, _, w2⟩ := DataW.trod_int Try.underlying3 f2
      simp at e2
      subst e2
      obtain ⟨q3, e3⟩ := open_limbo f3
      simp only [licell, arcell, stcell, List.cons_append, List.nil_append, List.cons.injEq, and_true] at e3
      obtain ⟨rfl, rfl, rfl, rfl, rfl, rfl, rfl, rfl, rfl, rfl⟩ := e3
      exact ⟨⟨q0, q1, q2, q3.1, q3.2.1, q3.2.2⟩, rfl⟩
theorem open_towerv {fuel : Nat} {cs : Array Value} {x : DataW H × List MemPlace} (h : DataW.trod enc Try.prog w base spare held fuel 31 cs.toList = some x) : ∃ t : Twr, cs = (towcell t).toArray := by
  obtain ⟨t, h1⟩ := open_tower h
  exact ⟨t, by rw [← h1]⟩
end
end Go.Proofs.Ytbechdgcepiecaa.Tw

namespace Go.Proofs.Ytbechdgcepiecaa.Tw
set_option maxRecDepth 20000
open Go.RowKit
open Wo (St acc wordAt PMem RefIs)

set_option maxHeartbeats 4000000 in
theorem places_any (t : Twr) (i p l a : Int) (hp : I64 p) (hl : I64 l) (w : World) : Calls Try.prog 3 #[towV t, .int .i64 i, .int .i64 p, .int .i64 l, .int .i64 a] w fun e w' => e = .returned (.bool true) ∧ Kept w w' := by
  have W1 := fun W => Lib.hid (who_any t a W)
  have W2 := fun W => Lib.hid (rwho_any t a W)
  have A1 := fun W => Lib.hid (at_any t i p hp W)
  have A2 := fun W => Lib.hid (rat_any t i p W)
  have N1 := fun W => Lib.hid (next_any t i l hl W)
  have N2 := fun W => Lib.hid (rnext_any t i l W)
  have AW := Lib.hid awake_any
  clear hp hl
  generalize (whoI t a).1 = u at *
  generalize (whoI t a).2.1 = v at *
  generalize (whoI t a).2.2 = b at *
  generalize atI t i p = x at *
  generalize nextI t i l = y at *
  cases b
  all_goals
    go_enter Try.func3, Try.ntmps3
    go_wp2_with fail
    refine ((W1 _).out).mono ?_
    rintro e w1 ⟨rfl, k1⟩
    have TT := Lib.hid (TB.kept (TB.new w w.heap.size 31 rfl t) k1)
    have KK : Hid (Kept w w1) := Lib.hid (((Kept.refl w).alloc _ _).trans k1)
    obtain ⟨a0, a1, a2, a3, a4, a5, a6, a7, a8, a9, a10, a11, a12⟩ := TT.out
    clear k1
    go_wp2_with fail
    refine ((W2 _).out).mono ?_
    rintro e w2 ⟨rfl, k2⟩
    have TT := Lib.hid (TB.kept TT.out k2)
    have KK := Lib.hid (KK.out.trans k2)
    clear a0 a1 a2 a3 a4 a5 a6 a7 a8 a9 a10 a11 a12
    obtain ⟨a0, a1, a2, a3, a4, a5, a6, a7, a8, a9, a10, a11, a12⟩ := TT.out
    clear k2
    have KT : Kept w2 w2 := Kept.refl _
    go_wp2_with fail
    go_region_held3 (fun w' => w'.cell? ⟨w.heap.size, 0, none⟩ = some (.int .i64 t.D) ∧ w'.cell? ⟨w.heap.size, 1, none⟩ = some (.int .i64 t.H) ∧ w'.cell? ⟨w.heap.size, 2, none⟩ = some (.int .i64 t.G) ∧ w'.cell? ⟨w.heap.size, 3, none⟩ = some (.int .i64 t.A.F.T) ∧ w'.cell? ⟨w.heap.size, 4, none⟩ = some (.int .i64 t.A.F.K) ∧ w'.cell? ⟨w.heap.size, 5, none⟩ = some (.int .i64 t.A.F.N) ∧ w'.cell? ⟨w.heap.size, 6, none⟩ = some (.int .i64 t.A.G) ∧ w'.cell? ⟨w.heap.size, 7, none⟩ = some (.int .i64 t.A.V) ∧ w'.cell? ⟨w.heap.size, 8, none⟩ = some (.int .i64 t.A.L) ∧ w'.cell? ⟨w.heap.size, 9, none⟩ = some (.int .i64 t.E.T) ∧ w'.cell? ⟨w.heap.size, 10, none⟩ = some (.int .i64 t.E.K) ∧ w'.cell? ⟨w.heap.size, 11, none⟩ = some (.int .i64 t.E.N) ∧ w'.cell? ⟨w.heap.size, 12, none⟩ = some (.int .i64 t.P)) (first | (with_reducible exact ⟨KT.some a0, KT.some a1, KT.some a2, KT.some a3, KT.some a4, KT.some a5, KT.some a6, KT.some a7, KT.some a8, KT.some a9, KT.some a10, KT.some a11, KT.some a12⟩) | go_keep) (first
      | (go_at_call 8; refine ((A1 _).out).mono ?_; rintro e x1 ⟨rfl, yx1⟩; have KT : Kept w2 x1 := Kept.trans (b := _) (by first | exact KT | exact KT.drew | exact KT.drewN _) yx1)
      | (go_at_call 9; refine ((A2 _).out).mono ?_; rintro e x2 ⟨rfl, yx2⟩; have KT : Kept w2 x2 := Kept.trans (b := _) (by first | exact KT | exact KT.drew | exact KT.drewN _) yx2)
      | (go_at_call 10; refine ((N1 _).out).mono ?_; rintro e x3 ⟨rfl, yx3⟩; have KT : Kept w2 x3 := Kept.trans (b := _) (by first | exact KT | exact KT.drew | exact KT.drewN _) yx3)
      | (go_at_call 11; refine ((N2 _).out).mono ?_; rintro e x4 ⟨rfl, yx4⟩; have KT : Kept w2 x4 := Kept.trans (b := _) (by first | exact KT | exact KT.drew | exact KT.drewN _) yx4)
      | (go_at_call 12; refine ((AW.out _)).mono ?_; rintro e x5 ⟨rfl, yx5⟩; have KT : Kept w2 x5 := Kept.trans (b := _) (by first | exact KT | exact KT.drew | exact KT.drewN _) yx5))
    all_goals
      go_wp2
      go_ret
      exact ⟨rfl, KK.out.trans (by first | exact KT | exact KT.drew | exact KT.drewN _)⟩
theorem places_law {cs : Array Value} (h : ∃ t : Twr, cs = (towcell t).toArray) {i p l a : Int} (hp : (Lit.int .i64 p).wf = true) (hl : (Lit.int .i64 l).wf = true) (w : World) : Calls Try.prog 3 #[.agg cs, .int .i64 i, .int .i64 p, .int .i64 l, .int .i64 a] w fun e w' => e = .returned (.bool true) ∧ Kept w w' := by
  obtain ⟨t, rfl⟩ := h
  have e : IntKind.i64.min = -9223372036854775808 := by decide
  have e' : IntKind.i64.max = 9223372036854775807 := by decide
  have h1 : I64 p := by simp [Lit.wf, e, e'] at hp; unfold I64; omega
  have h2 : I64 l := by simp [Lit.wf, e, e'] at hl; unfold I64; omega
  exact places_any t i p l a h1 h2 w
end Go.Proofs.Ytbechdgcepiecaa.Tw
