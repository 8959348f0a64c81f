/- A tower that a law is handed by value. Written by gen15k.py. -/
import Derived.Test.YtbechdgcepiecaaG07
import Derived.WalkKit
import Derived.ProofKit
import Derived.Deep.Slices
import Derived.Deep.Fields
import Derived.Lib.SmallJoins
import Derived.Test.YtbechdgcepiecaaG15
import Derived.Test.YtbechdgcepiecaaG16
import Derived.Test.YtbechdgcepiecaaG03
import Derived.Test.YtbechdgcepiecaaG11
import Derived.Test.YtbechdgcepiecaaG13
import Derived.Deep.RegionHeld3
set_option linter.unusedVariables false
set_option linter.unusedSimpArgs false

namespace Go.Proofs.Ytbechdgcepiecaa.Tw
set_option maxRecDepth 20000
open Go.ChangeShapes Go.WideShapes Go.Deep Go.RowKit
open Sk (Stk Arn)
theorem cells_int : Try.prog.cellsOf 3 = 1 := by kernel_rfl
theorem cells_stack : Try.prog.cellsOf 23 = 3 := by kernel_rfl
theorem cells_arena : Try.prog.cellsOf 25 = 6 := by kernel_rfl
theorem cells_epoch : Try.prog.cellsOf 27 = 3 := by kernel_rfl
theorem cells_limbo : Try.prog.cellsOf 29 = 10 := by kernel_rfl
theorem cells_tower : Try.prog.cellsOf 31 = 13 := by kernel_rfl
def stcell (S : Stk) : List Value := [.int .i64 S.T, .int .i64 S.K, .int .i64 S.N]
def arcell (A : Arn) : List Value := [.int .i64 A.F.T, .int .i64 A.F.K, .int .i64 A.F.N, .int .i64 A.G, .int .i64 A.V, .int .i64 A.L]
def licell (A : Arn) (E : Stk) (P : Int) : List Value := arcell A ++ stcell E ++ [.int .i64 P]
def towcell (t : Twr) : List Value := [.int .i64 t.D, .int .i64 t.H, .int .i64 t.G] ++ licell t.A t.E t.P
section
variable {H : Type} {enc : TypeId × Value → H} {w : World} {base : Nat} {spare : Nat → Bool} {held : Bool}
theorem open_stack {fuel : Nat} {cs : List Value} {x : DataW H × List MemPlace} (h : DataW.trod enc Try.prog w base spare held fuel 23 cs = some x) : ∃ S : Stk, cs = stcell S := by
  obtain ⟨xs, n, _, _, hl, hxl, hf⟩ := DataW.trod_struct Try.underlying23 h
  rw [cells_stack] at hl
  match cs, hl with
  | [v0, v1, v2], _ =>
    match xs, hxl with
    | [x0, x1, x2], _ =>
      have f0 : DataW.trod enc Try.prog w base spare held n 3 (([v0, v1, v2].drop 0).take (Try.prog.cellsOf 3)) = some x0 := hf 0 _ rfl
      have f1 : DataW.trod enc Try.prog w base spare held n 3 (([v0, v1, v2].drop 1).take (Try.prog.cellsOf 3)) = some x1 := hf 1 _ rfl
      have f2 : DataW.trod enc Try.prog w base spare held n 3 (([v0, v1, v2].drop 2).take (Try.prog.cellsOf 3)) = some x2 := hf 2 _ rfl
      simp only [cells_int, cells_stack, cells_arena, cells_epoch, cells_limbo, List.drop_zero, List.drop_succ_cons, List.take_succ_cons, List.take_zero] at f0 f1 f2
      obtain ⟨q0, e0, _, w0⟩ := DataW.trod_int Try.underlying3 f0
      simp at e0
      subst e0
      obtain ⟨q1, e1, _, w1⟩ := DataW.trod_int Try.underlying3 f1
      simp at e1
      subst e1
      obtain ⟨q2, e2, _, w2⟩ := DataW.trod_int Try.underlying3 f2
      simp at e2
      subst e2
      exact ⟨⟨q0, q1, q2⟩, rfl⟩
theorem open_epoch {fuel : Nat} {cs : List Value} {x : DataW H × List MemPlace} (h : DataW.trod enc Try.prog w base spare held fuel 27 cs = some x) : ∃ S : Stk, cs = stcell S := by
  obtain ⟨xs, n, _, _, hl, hxl, hf⟩ := DataW.trod_struct Try.underlying27 h
  rw [cells_epoch] at hl
  match cs, hl with
  | [v0, v1, v2], _ =>
    match xs, hxl with
    | [x0, x1, x2], _ =>
      have f0 : DataW.trod enc Try.prog w base spare held n 3 (([v0, v1, v2].drop 0).take (Try.prog.cellsOf 3)) = some x0 := hf 0 _ rfl
      have f1 : DataW.trod enc Try.prog w base spare held n 3 (([v0, v1, v2].drop 1).take (Try.prog.cellsOf 3)) = some x1 := hf 1 _ rfl
      have f2 : DataW.trod enc Try.prog w base spare held n 3 (([v0, v1, v2].drop 2).take (Try.prog.cellsOf 3)) = some x2 := hf 2 _ rfl
      simp only [cells_int, cells_stack, cells_arena, cells_epoch, cells_limbo, List.drop_zero, List.drop_succ_cons, List.take_succ_cons, List.take_zero] at f0 f1 f2
      obtain ⟨q0, e0, _, w0⟩ := DataW.trod_int Try.underlying3 f0
      simp at e0
      subst e0
      obtain ⟨q1, e1, _, w1⟩ := DataW.trod_int Try.underlying3 f1
      simp at e1
      subst e1
      obtain ⟨q2, e2, _, w2⟩ := DataW.trod_int Try.underlying3 f2
      simp at e2
      subst e2
      exact ⟨⟨q0, q1, q2⟩, rfl⟩
theorem open_arena {fuel : Nat} {cs : List Value} {x : DataW H × List MemPlace} (h : DataW.trod enc Try.prog w base spare held fuel 25 cs = some x) : ∃ A : Arn, cs = arcell A := by
  obtain ⟨xs, n, _, _, hl, hxl, hf⟩ := DataW.trod_struct Try.underlying25 h
  rw [cells_arena] at hl
  match cs, hl with
  | [v0, v1, v2, v3, v4, v5], _ =>
    match xs, hxl with
    | [x0, x1, x2, x3], _ =>
      have f0 : DataW.trod enc Try.prog w base spare held n 23 (([v0, v1, v2, v3, v4, v5].drop 0).take (Try.prog.cellsOf 23)) = some x0 := hf 0 _ rfl
      have f1 : DataW.trod enc Try.prog w base spare held n 3 (([v0, v1, v2, v3, v4, v5].drop 3).take (Try.prog.cellsOf 3)) = some x1 := hf 1 _ rfl
      have f2 : DataW.trod enc Try.prog w base spare held n 3 (([v0, v1, v2, v3, v4, v5].drop 4).take (Try.prog.cellsOf 3)) = some x2 := hf 2 _ rfl
      have f3 : DataW.trod enc Try.prog w base spare held n 3 (([v0, v1, v2, v3, v4, v5].drop 5).take (Try.prog.cellsOf 3)) = some x3 := hf 3 _ rfl
      simp only [cells_int, cells_stack, cells_arena, cells_epoch, cells_limbo, List.drop_zero, List.drop_succ_cons, List.take_succ_cons, List.take_zero] at f0 f1 f2 f3
      obtain ⟨q0, e0⟩ := open_stack f0
      obtain ⟨q1, e1, _, w1⟩ := DataW.trod_int Try.underlying3 f1
      simp at e1
      subst e1
      obtain ⟨q2, e2, _, w2⟩ := DataW.trod_int Try.underlying3 f2
      simp at e2
      subst e2
      obtain ⟨q3, e3, _, w3⟩ := DataW.trod_int Try.underlying3 f3
      simp at e3
      subst e3
      simp only [stcell, List.cons.injEq, and_true] at e0
      obtain ⟨rfl, rfl, rfl⟩ := e0
      exact ⟨⟨q0, q1, q2, q3⟩, rfl⟩
theorem open_limbo {fuel : Nat} {cs : List Value} {x : DataW H × List MemPlace} (h : DataW.trod enc Try.prog w base spare held fuel 29 cs = some x) : ∃ q : Arn × Stk × Int, cs = licell q.1 q.2.1 q.2.2 := by
  obtain ⟨xs, n, _, _, hl, hxl, hf⟩ := DataW.trod_struct Try.underlying29 h
  rw [cells_limbo] at hl
  match cs, hl with
  | [v0, v1, v2, v3, v4, v5, v6, v7, v8, v9], _ =>
    match xs, hxl with
    | [x0, x1, x2], _ =>
      have f0 : DataW.trod enc Try.prog w base spare held n 25 (([v0, v1, v2, v3, v4, v5, v6, v7, v8, v9].drop 0).take (Try.prog.cellsOf 25)) = some x0 := hf 0 _ rfl
      have f1 : DataW.trod enc Try.prog w base spare held n 27 (([v0, v1, v2, v3, v4, v5, v6, v7, v8, v9].drop 6).take (Try.prog.cellsOf 27)) = some x1 := hf 1 _ rfl
      have f2 : DataW.trod enc Try.prog w base spare held n 3 (([v0, v1, v2, v3, v4, v5, v6, v7, v8, v9].drop 9).take (Try.prog.cellsOf 3)) = some x2 := hf 2 _ rfl
      simp only [cells_int, cells_stack, cells_arena, cells_epoch, cells_limbo, List.drop_zero, List.drop_succ_cons, List.take_succ_cons, List.take_zero] at f0 f1 f2
      obtain ⟨q0, e0⟩ := open_arena f0
      obtain ⟨q1, e1⟩ := open_epoch f1
      obtain ⟨q2, e2, _, w2⟩ := DataW.trod_int Try.underlying3 f2
      simp at e2
      subst e2
      simp only [arcell, List.cons.injEq, and_true] at e0
      simp only [stcell, List.cons.injEq, and_true] at e1
      obtain ⟨rfl, rfl, rfl, rfl, rfl, rfl⟩ := e0
      obtain ⟨rfl, rfl, rfl⟩ := e1
      exact ⟨(q0, q1, q2), rfl⟩
theorem open_tower {fuel : Nat} {cs : List Value} {x : DataW H × List MemPlace} (h : DataW.trod enc Try.prog w base spare held fuel 31 cs = some x) : ∃ t : Twr, cs = towcell t := by
  obtain ⟨xs, n, _, _, hl, hxl, hf⟩ := DataW.trod_struct Try.underlying31 h
  rw [cells_tower] at hl
  match cs, hl with
  | [v0, v1, v2, v3, v4, v5, v6, v7, v8, v9, v10, v11, v12], _ =>
    match xs, hxl with
    | [x0, x1, x2, x3], _ =>
      have f0 : DataW.trod enc Try.prog w base spare held n 3 (([v0, v1, v2, v3, v4, v5, v6, v7, v8, v9, v10, v11, v12].drop 0).take (Try.prog.cellsOf 3)) = some x0 := hf 0 _ rfl
      have f1 : DataW.trod enc Try.prog w base spare held n 3 (([v0, v1, v2, v3, v4, v5, v6, v7, v8, v9, v10, v11, v12].drop 1).take (Try.prog.cellsOf 3)) = some x1 := hf 1 _ rfl
      have f2 : DataW.trod enc Try.prog w base spare held n 3 (([v0, v1, v2, v3, v4, v5, v6, v7, v8, v9, v10, v11, v12].drop 2).take (Try.prog.cellsOf 3)) = some x2 := hf 2 _ rfl
      have f3 : DataW.trod enc Try.prog w base spare held n 29 (([v0, v1, v2, v3, v4, v5, v6, v7, v8, v9, v10, v11, v12].drop 3).take (Try.prog.cellsOf 29)) = some x3 := hf 3 _ rfl
      simp only [cells_int, cells_stack, cells_arena, cells_epoch, cells_limbo, List.drop_zero, List.drop_succ_cons, List.take_succ_cons, List.take_zero] at f0 f1 f2 f3
      obtain ⟨q0, e0, _, w0⟩ := DataW.trod_int Try.underlying3 f0
      simp at e0
      subst e0
      obtain ⟨q1, e1, _, w1⟩ := DataW.trod_int Try.underlying3 f1
      simp at e1
      subst e1
      obtain ⟨q2, e2, _, w2⟩ := DataW.trod_int Try.underlying3 f2
      simp at e2
      subst e2
      obtain ⟨q3, e3⟩ := open_limbo f3
      simp only [licell, arcell, stcell, List.cons_append, List.nil_append, List.cons.injEq, and_true] at e3
      obtain ⟨rfl, rfl, rfl, rfl, rfl, rfl, rfl, rfl, rfl, rfl⟩ := e3
      exact ⟨⟨q0, q1, q2, q3.1, q3.2.1, q3.2.2⟩, rfl⟩
theorem open_towerv {fuel : Nat} {cs : Array Value} {x : DataW H × List MemPlace} (h : DataW.trod enc Try.prog w base spare held fuel 31 cs.toList = some x) : ∃ t : Twr, cs = (towcell t).toArray := by
  obtain ⟨t, h1⟩ := open_tower h
  exact ⟨t, by rw [← h1]⟩
end
end Go.Proofs.Ytbechdgcepiecaa.Tw

namespace Go.Proofs.Ytbechdgcepiecaa.Tw
set_option maxRecDepth 20000
open Go.RowKit
open Wo (St acc wordAt PMem RefIs)

set_option maxHeartbeats 4000000 in
theorem places_any (t : Twr) (i p l a : Int) (hp : I64 p) (hl : I64 l) (w : World) : Calls Try.prog 3 #[towV t, .int .i64 i, .int .i64 p, .int .i64 l, .int .i64 a] w fun e w' => e = .returned (.bool true) ∧ Kept w w' := by
  have W1 := fun W => Lib.hid (who_any t a W)
  have W2 := fun W => Lib.hid (rwho_any t a W)
  have A1 := fun W => Lib.hid (at_any t i p hp W)
  have A2 := fun W => Lib.hid (rat_any t i p W)
  have N1 := fun W => Lib.hid (next_any t i l hl W)
  have N2 := fun W => Lib.hid (rnext_any t i l W)
  have AW := Lib.hid awake_any
  clear hp hl
  generalize (whoI t a).1 = u at *
  generalize (whoI t a).2.1 = v at *
  generalize (whoI t a).2.2 = b at *
  generalize atI t i p = x at *
  generalize nextI t i l = y at *
  cases b
  all_goals
    go_enter Try.func3, Try.ntmps3
    go_wp2_with fail
    refine ((W1 _).out).mono ?_
    rintro e w1 ⟨rfl, k1⟩
    have TT := Lib.hid (TB.kept (TB.new w w.heap.size 31 rfl t) k1)
    have KK : Hid (Kept w w1) := Lib.hid (((Kept.refl w).alloc _ _).trans k1)
    obtain ⟨a0, a1, a2, a3, a4, a5, a6, a7, a8, a9, a10, a11, a12⟩ := TT.out
    clear k1
    go_wp2_with fail
    refine ((W2 _).out).mono ?_
    rintro e w2 ⟨rfl, k2⟩
    have TT := Lib.hid (TB.kept TT.out k2)
    have KK := Lib.hid (KK.out.trans k2)
    clear a0 a1 a2 a3 a4 a5 a6 a7 a8 a9 a10 a11 a12
    obtain ⟨a0, a1, a2, a3, a4, a5, a6, a7, a8, a9, a10, a11, a12⟩ := TT.out
    clear k2
    have KT : Kept w2 w2 := Kept.refl _
    go_wp2_with fail
    go_region_held3 (fun w' => w'.cell? ⟨w.heap.size, 0, none⟩ = some (.int .i64 t.D) ∧ w'.cell? ⟨w.heap.size, 1, none⟩ = some (.int .i64 t.H) ∧ w'.cell? ⟨w.heap.size, 2, none⟩ = some (.int .i64 t.G) ∧ w'.cell? ⟨w.heap.size, 3, none⟩ = some (.int .i64 t.A.F.T) ∧ w'.cell? ⟨w.heap.size, 4, none⟩ = some (.int .i64 t.A.F.K) ∧ w'.cell? ⟨w.heap.size, 5, none⟩ = some (.int .i64 t.A.F.N) ∧ w'.cell? ⟨w.heap.size, 6, none⟩ = some (.int .i64 t.A.G) ∧ w'.cell? ⟨w.heap.size, 7, none⟩ = some (.int .i64 t.A.V) ∧ w'.cell? ⟨w.heap.size, 8, none⟩ = some (.int .i64 t.A.L) ∧ w'.cell? ⟨w.heap.size, 9, none⟩ = some (.int .i64 t.E.T) ∧ w'.cell? ⟨w.heap.size, 10, none⟩ = some (.int .i64 t.E.K) ∧ w'.cell? ⟨w.heap.size, 11, none⟩ = some (.int .i64 t.E.N) ∧ w'.cell? ⟨w.heap.size, 12, none⟩ = some (.int .i64 t.P)) (first | (with_reducible exact ⟨KT.some a0, KT.some a1, KT.some a2, KT.some a3, KT.some a4, KT.some a5, KT.some a6, KT.some a7, KT.some a8, KT.some a9, KT.some a10, KT.some a11, KT.some a12⟩) | go_keep) (first
      | (go_at_call 8; refine ((A1 _).out).mono ?_; rintro e x1 ⟨rfl, yx1⟩; have KT : Kept w2 x1 := Kept.trans (b := _) (by first | exact KT | exact KT.drew | exact KT.drewN _) yx1)
      | (go_at_call 9; refine ((A2 _).out).mono ?_; rintro e x2 ⟨rfl, yx2⟩; have KT : Kept w2 x2 := Kept.trans (b := _) (by first | exact KT | exact KT.drew | exact KT.drewN _) yx2)
      | (go_at_call 10; refine ((N1 _).out).mono ?_; rintro e x3 ⟨rfl, yx3⟩; have KT : Kept w2 x3 := Kept.trans (b := _) (by first | exact KT | exact KT.drew | exact KT.drewN _) yx3)
      | (go_at_call 11; refine ((N2 _).out).mono ?_; rintro e x4 ⟨rfl, yx4⟩; have KT : Kept w2 x4 := Kept.trans (b := _) (by first | exact KT | exact KT.drew | exact KT.drewN _) yx4)
      | (go_at_call 12; refine ((AW.out _)).mono ?_; rintro e x5 ⟨rfl, yx5⟩; have KT : Kept w2 x5 := Kept.trans (b := _) (by first | exact KT | exact KT.drew | exact KT.drewN _) yx5))
    all_goals
      go_wp2
      go_ret
      exact ⟨rfl, KK.out.trans (by first | exact KT | exact KT.drew | exact KT.drewN _)⟩
theorem places_law {cs : Array Value} (h : ∃ t : Twr, cs = (towcell t).toArray) {i p l a : Int} (hp : (Lit.int .i64 p).wf = true) (hl : (Lit.int .i64 l).wf = true) (w : World) : Calls Try.prog 3 #[.agg cs, .int .i64 i, .int .i64 p, .int .i64 l, .int .i64 a] w fun e w' => e = .returned (.bool true) ∧ Kept w w' := by
  obtain ⟨t, rfl⟩ := h
  have e : IntKind.i64.min = -9223372036854775808 := by decide
  have e' : IntKind.i64.max = 9223372036854775807 := by decide
  have h1 : I64 p := by simp [Lit.wf, e, e'] at hp; unfold I64; omega
  have h2 : I64 l := by simp [Lit.wf, e, e'] at hl; unfold I64; omega
  exact places_any t i p l a h1 h2 w
end Go.Proofs.Ytbechdgcepiecaa.Tw

namespace Go.Proofs.Ytbechdgcepiecaa.Wo
set_option maxRecDepth 20000
open Go.RowKit

set_option maxHeartbeats 1000000 in
theorem valid_nil (w : World) : Calls Try.prog 50 #[.pointer none] w fun e w' => e = .returned (.bool false) ∧ w = w' := by
  go_enter Try.func50, Try.ntmps50
  go_wp2
  go_ret
  exact ⟨rfl, rfl⟩
set_option maxHeartbeats 1000000 in
theorem no_size_nil (w : World) : Calls Try.prog 117 #[.pointer none] w fun e w' => e = .returned (.int .i64 0) ∧ w = w' := by
  go_enter Try.func117, Try.ntmps117
  go_wp2_with fail
  refine (valid_nil _).mono ?_
  rintro e w' ⟨rfl, rfl⟩
  go_wp2
  go_ret
  exact ⟨rfl, rfl⟩
set_option maxHeartbeats 1000000 in
theorem no_count_nil (w : World) : Calls Try.prog 21 #[.pointer none] w fun e w' => e = .returned (.int .i64 0) ∧ w = w' := by
  go_enter Try.func21, Try.ntmps21
  go_wp2_with fail
  refine (valid_nil _).mono ?_
  rintro e w' ⟨rfl, rfl⟩
  go_wp2
  go_ret
  exact ⟨rfl, rfl⟩
set_option maxHeartbeats 1000000 in
theorem no_words_nil (w : World) : Calls Try.prog 73 #[.pointer none] w fun e w' => e = .returned (.slice none 0 0) ∧ w = w' := by
  go_enter Try.func73, Try.ntmps73
  go_wp2_with fail
  refine (valid_nil _).mono ?_
  rintro e w' ⟨rfl, rfl⟩
  go_wp2
  go_ret
  exact ⟨rfl, rfl⟩
set_option maxHeartbeats 1000000 in
theorem cell_nil (i : Int) (w : World) : Calls Try.prog 87 #[.pointer none, .int .i64 i] w fun e w' => e = .returned (.pointer none) ∧ w = w' := by
  by_cases h : i < 0
  · go_enter Try.func87, Try.ntmps87
    go_wp2
    go_ret
    exact ⟨rfl, rfl⟩
  · have h' : 0 ≤ i := by omega
    go_enter Try.func87, Try.ntmps87
    go_wp2_with fail
    refine (no_size_nil _).mono ?_
    rintro e w' ⟨rfl, rfl⟩
    go_wp2
    go_ret
    exact ⟨rfl, rfl⟩
set_option maxHeartbeats 1000000 in
theorem access_nil (k i : Int) (F : Value) (w : World) : Calls Try.prog 86 #[.pointer none, .int .i64 k, .int .i64 i, F] w fun e w' => e = .returned (.agg #[.int .i64 0, .int .i64 0, .int .u64 0, .int .u64 0, .bool false]) ∧ Kept w w' := by
  go_enter Try.func86, Try.ntmps86
  go_wp2_with fail
  refine (valid_nil _).mono ?_
  rintro e w' ⟨rfl, rfl⟩
  go_wp2
  refine bodyPost_ret (v := (.agg #[.int .i64 0, .int .i64 0, .int .u64 0, .int .u64 0, .bool false])) (by simp [results, Try.results86, go_sem]) rfl ⟨rfl, ?_⟩
  (go_light; repeat (first | (with_reducible exact Kept.refl _) | (with_reducible assumption) | (with_reducible refine Kept.alloc ?_ _ _) | (with_reducible refine Kept.drew ?_) | (with_reducible refine Kept.drewN ?_ _) | ((with_reducible refine Kept.setCell ?_ ?_ _); rotate_left; focus (first | (simp; done) | (simp; omega))) | refine Kept.trans ?_ (by assumption)))
set_option maxHeartbeats 1000000 in
theorem no_last_nil (w : World) : Calls Try.prog 130 #[.pointer none] w fun e w' => e = .returned (.agg #[.int .i64 0, .int .i64 0, .int .u64 0, .int .u64 0, .bool false]) ∧ Kept w w' := by
  go_enter Try.func130, Try.ntmps130
  go_wp2_with fail
  refine (valid_nil _).mono ?_
  rintro e w' ⟨rfl, rfl⟩
  go_wp2
  refine bodyPost_ret (v := (.agg #[.int .i64 0, .int .i64 0, .int .u64 0, .int .u64 0, .bool false])) (by simp [results, Try.results130, go_sem]) rfl ⟨rfl, ?_⟩
  (go_light; repeat (first | (with_reducible exact Kept.refl _) | (with_reducible assumption) | (with_reducible refine Kept.alloc ?_ _ _) | (with_reducible refine Kept.drew ?_) | (with_reducible refine Kept.drewN ?_ _) | ((with_reducible refine Kept.setCell ?_ ?_ _); rotate_left; focus (first | (simp; done) | (simp; omega))) | refine Kept.trans ?_ (by assumption)))
set_option maxHeartbeats 1000000 in
theorem no_load_nil (i : Int) (w : World) : Calls Try.prog 58 #[.pointer none, .int .i64 i] w fun e w' => e = .returned (.int .u64 0) ∧ Kept w w' := by
  have hfn := field_new
  have hfh := field_held
  go_enter Try.func58, Try.ntmps58
  go_wp2_with fail
  refine (cell_nil _ _).mono ?_
  rintro e w' ⟨rfl, rfl⟩
  go_wp2_with fail
  refine (access_nil _ _ _ _).mono ?_
  rintro e w' ⟨rfl, k⟩
  go_wp2
  go_ret
  exact ⟨rfl, k⟩
set_option maxHeartbeats 1000000 in
theorem no_store_nil (i x : Int) (w : World) : Calls Try.prog 45 #[.pointer none, .int .i64 i, .int .u64 x] w fun e w' => e = .returned (.tuple #[]) ∧ Kept w w' := by
  have hfn := field_new
  have hfh := field_held
  go_enter Try.func45, Try.ntmps45
  go_wp2_with fail
  refine (cell_nil _ _).mono ?_
  rintro e w' ⟨rfl, rfl⟩
  go_wp2_with fail
  refine (access_nil _ _ _ _).mono ?_
  rintro e w' ⟨rfl, k⟩
  go_wp2
  go_end0
  exact ⟨rfl, k⟩
set_option maxHeartbeats 1000000 in
theorem no_cas_nil (i x y : Int) (w : World) : Calls Try.prog 167 #[.pointer none, .int .i64 i, .int .u64 x, .int .u64 y] w fun e w' => e = .returned (.bool false) ∧ Kept w w' := by
  have hfn := field_new
  have hfh := field_held
  go_enter Try.func167, Try.ntmps167
  go_wp2_with fail
  refine (cell_nil _ _).mono ?_
  rintro e w' ⟨rfl, rfl⟩
  go_wp2_with fail
  refine (access_nil _ _ _ _).mono ?_
  rintro e w' ⟨rfl, k⟩
  go_wp2
  go_ret
  exact ⟨rfl, k⟩
end Go.Proofs.Ytbechdgcepiecaa.Wo

namespace Go.Proofs.Ytbechdgcepiecaa.Tw
set_option maxRecDepth 100000
open Go.RowKit Go.Shelf
open Wo (St acc wordAt PMem RefIs)
open Sk (Stk Arn idx Wd kept_of Blk leaves sized_yes untagged_any link_in gen_in generations_any generations1_any)
attribute [local go_sem] Oper.semAt_some

theorem nil_store (i x : Int) (w : World) : Calls Try.prog 45 #[.pointer none, .int .i64 i, .int .u64 x] w fun e w' => e = .returned (.tuple #[]) ∧ Kept w w' :=
  (Wo.no_store_nil i x w).mono fun _ _ ⟨a, k⟩ => ⟨a, kept_of k⟩
theorem gives_nil (w : World) : GivesWords (.pointer none) 0 (fun _ => 0) w := fun W _ =>
  (Wo.no_words_nil W).mono fun _ _ ⟨e, k⟩ => ⟨_, e, .inl ⟨rfl, rfl⟩, fun g hg => by simp [Value.ownBlock] at hg, k ▸ Kept.refl _⟩
set_option maxHeartbeats 2000000 in
theorem sfill_nil (S : Stk) (w : World) (N1 : 1 ≤ S.N) (N2 : S.N ≤ 4096) (K1 : 0 ≤ S.K) (K2 : S.K ≤ 10000) : Calls Try.prog 120 #[.agg #[.int .i64 S.T, .int .i64 S.K, .int .i64 S.N], .pointer none] w fun e w' => e = .returned (.tuple #[]) ∧ Kept w w' := by
  go_enter Try.func120, Try.ntmps120
  go_wp2_with fail
  refine (sized_yes S _ N1 N2).mono ?_
  rintro e w1 ⟨rfl, k1⟩
  have a0 : w1.cell? ⟨w.heap.size, 0, none⟩ = some (.int .i64 S.T) := k1.some (by simp)
  have a1 : w1.cell? ⟨w.heap.size, 1, none⟩ = some (.int .i64 S.K) := k1.some (by simp)
  have a2 : w1.cell? ⟨w.heap.size, 2, none⟩ = some (.int .i64 S.N) := k1.some (by simp)
  have K : Hid (Kept w w1) := Lib.hid (by (go_light; repeat (first | (with_reducible exact Kept.refl _) | (with_reducible assumption) | (with_reducible refine Kept.alloc ?_ _ _) | (with_reducible refine Kept.drew ?_) | (with_reducible refine Kept.drewN ?_ _) | ((with_reducible refine Kept.setCell ?_ ?_ _); rotate_left; focus (first | (simp; done) | (simp; omega))) | refine Kept.trans ?_ (by assumption))))
  clear k1
  have KT : Kept w1 w1 := Kept.refl _
  go_wp2_with fail
  go_region_held3 (fun w' => w'.cell? ⟨w.heap.size, 0, none⟩ = some (.int .i64 S.T) ∧ w'.cell? ⟨w.heap.size, 1, none⟩ = some (.int .i64 S.K) ∧ w'.cell? ⟨w.heap.size, 2, none⟩ = some (.int .i64 S.N)) (first | (with_reducible exact ⟨KT.some a0, KT.some a1, KT.some a2⟩) | go_keep) (first
    | (go_at_call 150; refine (untagged_any 0 _ (by omega) (by omega)).mono ?_; rintro e w2 ⟨rfl, k2⟩; have KT : Kept w1 w2 := Kept.trans (b := _) (by first | exact KT | exact KT.drew | exact KT.drewN _) k2)
    | (go_at_call 45; refine (nil_store _ _ _).mono ?_; rintro e w3 ⟨rfl, k3⟩; have KT : Kept w1 w3 := Kept.trans (b := _) (by first | exact KT | exact KT.drew | exact KT.drewN _) k3))
  have D0 := Lib.hid (KT.some a0)
  have D1 := Lib.hid (KT.some a1)
  have D2 := Lib.hid (KT.some a2)
  have d2 := D2.out
  have BW := Lib.hid (K.out.trans KT)
  clear a0 a1 a2 KT
  obtain ⟨m, hmm⟩ : ∃ m : Nat, (m : Int) = S.N - 1 := ⟨(S.N - 1).toNat, by omega⟩
  have HMM := Lib.hid hmm
  clear hmm
  go_wp2_with fail
  go_loopw [18, 5] (fun i _ wr => ∃ k : Nat, k ≤ m ∧ i = .int .i64 k ∧ Kept w3 wr) (fun i _ _ => m - (intOf i).toNat)
  case atStart => exact ⟨0, Nat.zero_le _, rfl, Kept.refl _⟩
  case round =>
    obtain ⟨k, hk, rfl, kr⟩ := hrel
    have e0 := kr.some D0.out
    have e1 := kr.some D1.out
    have e2 := kr.some D2.out
    have hmm := HMM.out
    have KR := Lib.hid kr
    clear kr d2
    by_cases hlt : k < m
    · have hl : (k : Int) < S.N - 1 := by omega
      clear hmm
      go_wp2_with fail
      refine (link_in S.T S.K S.N k _ K1 (by omega) (by omega) (by omega)).mono ?_
      rintro e w4 ⟨rfl, k4⟩
      go_wp2_with fail
      refine (untagged_any (k + 1) _ (by omega) (by omega)).mono ?_
      rintro e w5 ⟨rfl, k5⟩
      go_wp2_with fail
      refine (nil_store _ _ _).mono ?_
      rintro e w6 ⟨rfl, k6⟩
      have K6 := Lib.hid (KR.out.trans ((k4.trans k5).trans k6))
      clear k4 k5 k6
      go_wp2
      go_roundw
      case rel => exact ⟨k + 1, by omega, by go_num, K6.out⟩
      case measure => simp [intOf]; omega
    · have hl : S.N - 1 ≤ (k : Int) := by omega
      clear hmm
      go_wp2_with fail
      refine (link_in S.T S.K S.N (S.N - 1) _ K1 (by omega) (by omega) (by omega)).mono ?_
      rintro e w4 ⟨rfl, k4⟩
      go_wp2_with fail
      refine (untagged_any (-1) _ (by omega) (by omega)).mono ?_
      rintro e w5 ⟨rfl, k5⟩
      go_wp2_with fail
      refine (nil_store _ _ _).mono ?_
      rintro e w6 ⟨rfl, k6⟩
      have K6 := Lib.hid (BW.out.trans (KR.out.trans ((k4.trans k5).trans k6)))
      clear k4 k5 k6
      go_wp2
      go_end0
      exact ⟨rfl, K6.out⟩
set_option maxHeartbeats 2000000 in
theorem afill_nil (A : Arn) (w : World) (N1 : 1 ≤ A.F.N) (N2 : A.F.N ≤ 4096) (K1 : 0 ≤ A.F.K) (K2 : A.F.K ≤ 10000) (G1 : 0 ≤ A.G) (G2 : A.G ≤ 10000) : Calls Try.prog 93 #[.agg #[.int .i64 A.F.T, .int .i64 A.F.K, .int .i64 A.F.N, .int .i64 A.G, .int .i64 A.V, .int .i64 A.L], .pointer none] w fun e w' => e = .returned (.tuple #[]) ∧ Kept w w' := by
  have HF := fun W => Lib.hid (sfill_nil A.F W N1 N2 K1 K2)
  go_enter Try.func93, Try.ntmps93
  go_wp2_with fail
  refine (HF _).out.mono ?_
  rintro e w1 ⟨rfl, k1⟩
  have a0 := k1.some (cell_new w #[.int .i64 A.F.T, .int .i64 A.F.K, .int .i64 A.F.N, .int .i64 A.G, .int .i64 A.V, .int .i64 A.L] 25 w.heap.size 0 rfl)
  have a1 := k1.some (cell_new w #[.int .i64 A.F.T, .int .i64 A.F.K, .int .i64 A.F.N, .int .i64 A.G, .int .i64 A.V, .int .i64 A.L] 25 w.heap.size 1 rfl)
  have a2 := k1.some (cell_new w #[.int .i64 A.F.T, .int .i64 A.F.K, .int .i64 A.F.N, .int .i64 A.G, .int .i64 A.V, .int .i64 A.L] 25 w.heap.size 2 rfl)
  have a3 := k1.some (cell_new w #[.int .i64 A.F.T, .int .i64 A.F.K, .int .i64 A.F.N, .int .i64 A.G, .int .i64 A.V, .int .i64 A.L] 25 w.heap.size 3 rfl)
  have a4 := k1.some (cell_new w #[.int .i64 A.F.T, .int .i64 A.F.K, .int .i64 A.F.N, .int .i64 A.G, .int .i64 A.V, .int .i64 A.L] 25 w.heap.size 4 rfl)
  have a5 := k1.some (cell_new w #[.int .i64 A.F.T, .int .i64 A.F.K, .int .i64 A.F.N, .int .i64 A.G, .int .i64 A.V, .int .i64 A.L] 25 w.heap.size 5 rfl)
  have K1' : Hid (Kept w w1) := Lib.hid (((Kept.refl w).alloc _ _).trans k1)
  clear k1 HF
  go_wp2_with fail
  refine (nil_store _ _ _).mono ?_
  rintro e w2 ⟨rfl, k2⟩
  have D0 := Lib.hid (k2.some a0)
  have D1 := Lib.hid (k2.some a1)
  have D2 := Lib.hid (k2.some a2)
  have D3 := Lib.hid (k2.some a3)
  have D4 := Lib.hid (k2.some a4)
  have D5 := Lib.hid (k2.some a5)
  have d2 := D2.out
  have K2' := Lib.hid (K1'.out.trans k2)
  obtain ⟨m, hmm⟩ : ∃ m : Nat, (m : Int) = A.F.N := ⟨A.F.N.toNat, by omega⟩
  have HMM := Lib.hid hmm
  clear k2 a0 a1 a2 a3 a4 a5 hmm
  go_wp2_with fail
  go_loopw [27, 4, 5] (fun i _ _ wr => ∃ k : Nat, k ≤ m ∧ i = .int .i64 k ∧ Kept w2 wr) (fun i _ _ _ => m - (intOf i).toNat)
  case atStart => exact ⟨0, Nat.zero_le _, rfl, Kept.refl _⟩
  case round =>
    obtain ⟨k, hk, rfl, kr⟩ := hrel
    have e0 := kr.some D0.out
    have e1 := kr.some D1.out
    have e2 := kr.some D2.out
    have e3 := kr.some D3.out
    have e4 := kr.some D4.out
    have e5 := kr.some D5.out
    have hmm := HMM.out
    have KR := Lib.hid kr
    clear kr d2
    by_cases hlt : k < m
    · have hl : (k : Int) < A.F.N := by omega
      have hk2 : (k : Int) ≤ 65534 := by omega
      have HG : ∀ W, Hid (Calls Try.prog 122 #[.agg #[.int .i64 A.F.T, .int .i64 A.F.K, .int .i64 A.F.N, .int .i64 A.G, .int .i64 A.V, .int .i64 A.L], .int .i64 (k : Int)] W fun e w' => e = .returned (.int .i64 (A.G + k)) ∧ Kept W w') := fun W => Lib.hid (gen_in _ _ _ _ _ _ _ W G1 (by omega) (by omega) (by omega))
      clear hmm
      go_wp2_with fail
      refine (generations_any 0 _).mono ?_
      rintro e w4 ⟨b, rfl, hb, cb, fb, k4⟩
      have hbu := lt_of_cell cb
      have g0 := k4.some e0
      have g1 := k4.some e1
      have g2 := k4.some e2
      have g3 := k4.some e3
      have g4 := k4.some e4
      have g5 := k4.some e5
      have K4 := Lib.hid k4
      have FB := Lib.hid fb
      clear k4 fb
      go_wp2_with fail
      refine (HG _).out.mono ?_
      rintro e w5 ⟨rfl, k5⟩
      have cb5 := k5.some cb
      have fb5 : ∀ i, w5.frozen? ⟨b, i, none⟩ = false := fun j => k5.soft hbu (FB.out j)
      have K5 := Lib.hid (K4.out.trans k5)
      clear k5
      go_wp2_with fail
      refine (generations1_any 0 b _ cb5 fb5).mono ?_
      rintro e w6 ⟨rfl, h6⟩
      have K6 := Lib.hid (show Kept _ w6 by rw [h6]; exact Kept.setCell K5.out (p := ⟨b, 0, none⟩) hb _)
      clear h6 cb5 fb5 cb g0 g1 g2 g3 g4 g5
      go_wp2_with fail
      refine (nil_store _ _ _).mono ?_
      rintro e w7 ⟨rfl, k7⟩
      have K7 := Lib.hid (KR.out.trans (K6.out.trans k7))
      clear k7
      go_wp2
      go_roundw
      case rel => exact ⟨k + 1, by omega, by go_num, K7.out⟩
      case measure => simp [intOf]; omega
    · have hl : A.F.N ≤ (k : Int) := by omega
      clear hmm
      go_wp2
      go_end0
      exact ⟨rfl, K2'.out.trans KR.out⟩

open Ep in
set_option maxHeartbeats 4000000 in
theorem efill_nil (S : Stk) (w : World) (N1 : 1 ≤ S.N) (N2 : S.N ≤ 64) (K0 : 0 ≤ S.K) (K1 : S.K ≤ 10000) :
    Calls Try.prog 94 #[.agg #[.int .i64 S.T, .int .i64 S.K, .int .i64 S.N], .pointer none] w fun e w' => e = .returned (.tuple #[]) ∧ Kept w w' := by
  refine (callsIn_wide (n := 6)).1 ?_
  refine callsIn_of_wp_marks Try.func94 rfl trivial ?_ rfl
  simp only [Try.ntmps94, List.size_toArray, List.length_cons, List.length_nil, Nat.reduceAdd, Nat.reduceSub, Array.replicate_succ, Array.replicate_zero, List.push_toArray, List.append_toArray, List.nil_append, List.cons_append]
  rw [wpIn_wide]
  go_wp2_with fail
  obtain ⟨W0, hW0⟩ : ∃ W0, W0 = ((w.alloc (.cells #[.int .i64 S.T, .int .i64 S.K, .int .i64 S.N] 27)).alloc (.cells #[.pointer none] 37)) := ⟨_, rfl⟩
  have a0 : W0.cell? ⟨w.heap.size, 0, none⟩ = some (.int .i64 S.T) := by rw [hW0]; exact ((Kept.refl _).alloc _ _).some (cell_new _ _ _ _ 0 rfl)
  have a1 : W0.cell? ⟨w.heap.size, 1, none⟩ = some (.int .i64 S.K) := by rw [hW0]; exact ((Kept.refl _).alloc _ _).some (cell_new _ _ _ _ 1 rfl)
  have a2 : W0.cell? ⟨w.heap.size, 2, none⟩ = some (.int .i64 S.N) := by rw [hW0]; exact ((Kept.refl _).alloc _ _).some (cell_new _ _ _ _ 2 rfl)
  have b0 : W0.cell? ⟨w.heap.size + 1, 0, none⟩ = some (.pointer none) := by rw [hW0]; exact cell_new _ _ _ _ 0 (by simp)
  have k0 : Kept w W0 := by rw [hW0]; exact ((Kept.refl w).alloc _ _).alloc _ _
  rw [← hW0]
  clear hW0
  refine (Ep.sized_yes S _ N1 N2).mono ?_
  rintro e w1 ⟨rfl, k1⟩
  have a0 := k1.some a0
  have a1 := k1.some a1
  have a2 := k1.some a2
  have b0 := k1.some b0
  have K1 := Lib.hid (k0.trans k1)
  clear k0 k1
  go_wp2_with fail
  refine (nil_store _ _ _).mono ?_
  rintro e w2 ⟨rfl, k2⟩
  have a0 := k2.some a0
  have a1 := k2.some a1
  have a2 := k2.some a2
  have b0 := k2.some b0
  have K2 := Lib.hid (K1.out.trans k2)
  have z2 : w.heap.size + 1 < w2.heap.size := lt_of_cell b0
  clear k2 K1
  go_wp2_with fail
  refine (Ep.pins_any S 0 _).mono ?_
  rintro e w3 ⟨a, b, rfl, la, lb, ha, hb, bs, k3⟩
  have B0 := Lib.hid (k3.some b0)
  have K3 := Lib.hid (K2.out.trans k3)
  have z3 : w.heap.size + 1 < w3.heap.size := by have := k3.size; omega
  have BS := Lib.hid bs
  clear a0 a1 a2 b0 la lb bs k3 K2
  go_wp2_with fail
  rw [← wpIn_wide (n := 6)]
  refine Ep.range_manyN (Bs := fun k => w3.heap.size + 1 + 1 ≤ k) (by decide) (gf := 153) (lb := #[.pointer (some ⟨b, 0, none⟩), .pointer (some ⟨a, 0, none⟩)]) rfl (enters_of Try.func153 (by kernel_rfl) rfl) (fun x : Int => #[Value.int .i64 x, Value.int .i64 (S.K + x)]) (fun _ => rfl)
    (fun k h => .inr h)
    (fun pre X => Kept w3 X)
    (fun cd pre X => False)
    (fun pre x => pre = Ep.cs 0 pre.length ∧ x = 0 + (pre.length : Int) ∧ x < S.N) (fun xs => ∃ k : Nat, xs = Ep.cs 0 k ∧ S.N ≤ 0 + (k : Int))
    ?_ ?_ ?_ ?_ ?_ ?_
    (fun x => { tmps := #[.agg #[.int .i64 S.T, .int .i64 S.K, .int .i64 S.N], .pointer none, .pointer (some ⟨w.heap.size, 0, none⟩), .pointer (some ⟨w.heap.size + 1, 0, none⟩), undef, .int .i64 (S.K + x), .agg #[.int .i64 S.T, .int .i64 S.K, .int .i64 S.N], .bool true, .bool false, .pointer none, .pointer (some ⟨w.heap.size, 0, none⟩), .int .i64 S.T, .tuple #[], .agg #[.int .i64 S.T, .int .i64 S.K, .int .i64 S.N],
      .func (.func 153) #[] #[.pointer (some ⟨b, 0, none⟩), .pointer (some ⟨a, 0, none⟩)], .int .i64 x, .int .i64 (S.K + x), undef, undef, undef], defers := [] })
    ?_ ?_ ?_ ?_
  · exact fun X k => k
  · exact fun pre X X' h k => h.trans k
  · intro pre X r y y' hr hy h
    exact (Sk.but_turned (h.but (fun _ => False)) hy rfl rfl (.inr (by omega))).kept fun _ _ h => h
  · exact fun cd pre X X' h k => h
  · exact fun cd pre X l y y' hl hy h => h
  · intro l X0 J Jx k0 z0 hl hJk hJb hY h0
    exact Ep.pins_in 5 (by decide) l a b S 0 (by omega) (by omega) (by omega) (by omega) (by omega) J Jx hJk (fun pre X h => BS.out.kept (hJb pre X h).1) hY X0 h0
  · intro l x X K hK
    gi_wp2
    exact hK
  · intro l pre x X hI hso hsz hbut
    have hmb := hI.some B0.out
    have HI := Lib.hid hI
    clear hI hso hbut
    gi_wp2_with (refine ⟨trivial, ?_⟩; gi_at_call 45; refine (CallsIn.inRound l (callsIn_wide.2 (nil_store _ _ _))).mono ?_; rintro e v ⟨rfl, m4⟩)
    exact ⟨HI.out.trans m4, .of (m4.but _)⟩
  · intro D xs X hN hI hbut hD hd
    have kD : Kept w (X.putObj D (.deferred none)) := (Blk.turned (S := fun _ => False) (Blk.of ((K3.out.trans hI).but _)) hd (Or.inr (by omega))).kept (fun _ _ h => h)
    clear hN hI hbut
    go_wp2
    refine ⟨by simp, .inl ⟨_, _, rfl, run_takeDeferred hd, ?_⟩⟩
    exact ⟨.tuple #[], by simp [results, Try.results94, go_sem], rfl, kD⟩
  · intro D cd xs X hI hbut hD hd
    exact hI.elim

set_option maxHeartbeats 2000000 in
theorem lfill_nil (t : Twr) (w : World) (n : Nat) (hL : LOk t n) : Calls Try.prog 53 #[limV t, .pointer none] w fun e w' => e = .returned (.tuple #[]) ∧ Kept w w' := by
  have P0 := hL.P0
  have P1 := hL.P1
  have HF := fun W => Lib.hid (afill_nil t.A W hL.A.F.N1 hL.A.F.N2 hL.A.F.K1 (by have := hL.A.F.K2; have := hL.A.F.n2; have := hL.A.F.N1; omega) hL.A.G1 (by have := hL.A.G2; have := hL.A.F.n2; have := hL.A.F.N1; omega))
  have HG := fun W => Lib.hid (efill_nil t.E W hL.N1 hL.N2 hL.K0 hL.K1)
  clear hL
  go_enter Try.func53, Try.ntmps53
  go_wp2_with fail
  refine (HF _).out.mono ?_
  rintro e w1 ⟨rfl, k1⟩
  obtain ⟨l0, l1, l2, l3, l4, l5, l6, l7, l8, l9⟩ := (LB.new w w.heap.size 29 rfl t).kept k1
  have K1 : Hid (Kept w w1) := Lib.hid (((Kept.refl w).alloc _ _).trans k1)
  clear k1 HF
  go_wp2_with fail
  refine (HG _).out.mono ?_
  rintro e w2 ⟨rfl, k2⟩
  have LL := Lib.hid (LB.kept ⟨l0, l1, l2, l3, l4, l5, l6, l7, l8, l9⟩ k2)
  have K2 := Lib.hid (K1.out.trans k2)
  obtain ⟨l0, l1, l2, l3, l4, l5, l6, l7, l8, l9⟩ := LL.out
  have lz := lt_of_cell l0
  have hl9 := l9
  clear k2 HG l0 l1 l2 l3 l4 l5 l6 l7 l8 l9
  go_wp2_with fail
  go_loopw [13, 4] (fun i _ wr => ∃ k : Nat, k ≤ 3 ∧ i = .int .i64 k ∧ Kept w2 wr) (fun i _ _ => 3 - (intOf i).toNat)
  case atStart => exact ⟨0, Nat.zero_le _, rfl, Kept.refl _⟩
  case round =>
    obtain ⟨k, hk, rfl, kr⟩ := hrel
    obtain ⟨l0, l1, l2, l3, l4, l5, l6, l7, l8, l9⟩ := LL.out.kept kr
    have KR := Lib.hid kr
    clear kr hl9
    by_cases hlt : k < 3
    · have hl : (k : Int) < 3 := by omega
      go_wp2_with fail
      refine (nil_store _ _ _).mono ?_
      rintro e w7 ⟨rfl, k7⟩
      have K7 := Lib.hid (KR.out.trans k7)
      clear k7
      go_wp2
      go_roundw
      case rel => exact ⟨k + 1, by omega, by go_num, K7.out⟩
      case measure => simp [intOf]; omega
    · have hl : ¬ (k : Int) < 3 := by omega
      go_wp2
      go_end0
      exact ⟨rfl, K2.out.trans KR.out⟩
set_option maxHeartbeats 2000000 in
theorem tfill_nil (t : Twr) (w : World) (n : Nat) (hL : LOk t n) (hS : t.Sound) : Calls Try.prog 24 #[towV t, .pointer none] w fun e w' => e = .returned (.tuple #[]) ∧ Kept w w' := by
  have G1 := hS.G1
  have G2 := hS.G2
  have SY := fun W => Lib.hid (sound_in t hS W)
  have HF := fun W => Lib.hid (lfill_nil t W n hL)
  clear hL hS
  go_enter Try.func24, Try.ntmps24
  go_wp2_with fail
  refine (SY _).out.mono ?_
  rintro e w0 ⟨rfl, k0⟩
  obtain ⟨a0, a1, a2, a3, a4, a5, a6, a7, a8, a9, a10, a11, a12⟩ := TB.kept (TB.new w w.heap.size 31 rfl t) k0
  have K0 : Hid (Kept w w0) := Lib.hid (((Kept.refl w).alloc _ _).trans k0)
  clear k0
  go_wp2_with fail
  refine (HF _).out.mono ?_
  rintro e w1 ⟨rfl, k1⟩
  have TT := Lib.hid (TB.kept ⟨a0, a1, a2, a3, a4, a5, a6, a7, a8, a9, a10, a11, a12⟩ k1)
  have BW1 := Lib.hid (K0.out.trans k1)
  have hg2 := TT.out.c2
  have lz := lt_of_cell hg2
  obtain ⟨m, hmm⟩ : ∃ m : Nat, (m : Int) = t.G := ⟨t.G.toNat, by omega⟩
  have HMM := Lib.hid hmm
  clear k1 HF a0 a1 a2 a3 a4 a5 a6 a7 a8 a9 a10 a11 a12 hmm
  go_wp2_with fail
  go_loopw [14, 4] (fun i _ wr => ∃ k : Nat, k ≤ m ∧ i = .int .i64 k ∧ Kept w1 wr) (fun i _ _ => m - (intOf i).toNat)
  case atStart => exact ⟨0, Nat.zero_le _, rfl, Kept.refl _⟩
  case round =>
    obtain ⟨k, hk, rfl, kr⟩ := hrel
    obtain ⟨a0, a1, a2, a3, a4, a5, a6, a7, a8, a9, a10, a11, a12⟩ := TT.out.kept kr
    have hmm := HMM.out
    have KR := Lib.hid kr
    clear kr hg2
    by_cases hlt : k < m
    · have hl : (k : Int) < t.G := by omega
      have HN := fun W => Lib.hid (next_any t (-1) (k : Int) (by unfold I64; omega) W)
      clear hmm
      go_wp2_with fail
      refine (HN _).out.mono ?_
      rintro e w5 ⟨rfl, k5⟩
      have K5 := Lib.hid k5
      clear k5
      go_wp2_with fail
      refine (nil_store _ _ _).mono ?_
      rintro e w7 ⟨rfl, k7⟩
      have K7 := Lib.hid (KR.out.trans (K5.out.trans k7))
      clear k7
      go_wp2
      go_roundw
      case rel => exact ⟨k + 1, by omega, by go_num, K7.out⟩
      case measure => simp [intOf]; omega
    · have hl : t.G ≤ (k : Int) := by omega
      clear hmm
      go_wp2
      go_end0
      exact ⟨rfl, BW1.out.trans KR.out⟩
end Go.Proofs.Ytbechdgcepiecaa.Tw
