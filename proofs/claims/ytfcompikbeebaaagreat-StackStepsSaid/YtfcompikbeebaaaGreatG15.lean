/- 'begin': a core begins an operation, twice. Written by gen10b.py. -/
import Derived.Test.YtfcompikbeebaaaGreatG13
import Derived.Deep.RegionHeld3
import Derived.Test.YtfcompikbeebaaaGreatG00
import Derived.RangeFuncNested
import Derived.RangeFuncBound
import Derived.RangeFuncCalls
import Derived.RangeFuncLeaves
import Derived.Shelf.Abstract
import Derived.Shelf.RegionOpen
import Derived.OwnWalkIn
import Derived.TacticsInMore
import Derived.LoopNIn
import Derived.LoopIn
set_option linter.unusedVariables false
set_option linter.unusedSimpArgs false

namespace Go.Proofs.YtfcompikbeebaaaGreat.Sk
set_option maxRecDepth 20000
open Go.RowKit
open Wo (St acc wordAt PMem RefIs)

def BegunPost (own : Nat → Nat) (c : Nat) (S : Stk) (w : World) (e : Ending) (w' : World) : Prop :=
  ∃ (p : PS) (own' : Nat → Nat), e = .returned (.agg p.cells.toArray) ∧ (∀ k, k < w.heap.size → own' k = own k) ∧ p.Is own' c S w' ∧ Kept w w'
theorem frozen_new (w : World) (b i : Nat) (h : w.heap.size ≤ b) : w.frozen? ⟨b, i, none⟩ = false := by
  simp [World.frozen?, Array.getElem?_eq_none h]
def newOwn (own : Nat → Nat) (c P Q : Nat) (k : Nat) : Nat := if k = P then 10 + 2 * c else if k = Q then 11 + 2 * c else own k
theorem newOwn_old {own : Nat → Nat} {c P Q n : Nat} (hP : n ≤ P) (hQ : n ≤ Q) : ∀ k, k < n → newOwn own c P Q k = own k := fun k hk => by
  unfold newOwn; rw [if_neg (by omega), if_neg (by omega)]
theorem newOwn_P {own : Nat → Nat} {c P Q : Nat} : newOwn own c P Q P = 10 + 2 * c := by unfold newOwn; rw [if_pos rfl]
theorem newOwn_Q {own : Nat → Nat} {c P Q : Nat} (h : P ≠ Q) : newOwn own c P Q Q = 11 + 2 * c := by unfold newOwn; rw [if_neg (Ne.symm h), if_pos rfl]
theorem good_new : Op.new.Good := ⟨by decide, by decide, by decide, by decide⟩
theorem good_over : Op.over.Good := ⟨by decide, by decide, by decide, by decide⟩

set_option maxHeartbeats 2000000 in
theorem begin_pop (own : Nat → Nat) (c : Nat) (S : Stk) (co i : Int)  (w : World) : Calls Tryz.prog 10 #[.agg #[.int .i64 S.T, .int .i64 S.K, .int .i64 S.N], .agg #[.int .i64 co, .int .i64 1, .int .i64 i]] w (BegunPost own c S w) := by
  go_enter Tryz.func10, Tryz.ntmps10
  go_upto_region 3 with fail
  obtain ⟨W1, hW1⟩ : ∃ W1, W1 = ((w.alloc (.cells #[.int .i64 S.T, .int .i64 S.K, .int .i64 S.N] 23)).alloc (.cells #[.int .i64 co, .int .i64 1, .int .i64 i] 42)).alloc (.cells #[.pointer none, .pointer none, .pointer none, .pointer none, .pointer none, .pointer none] 50) := ⟨_, rfl⟩
  have t0 : W1.cell? ⟨w.heap.size, 0, none⟩ = some (.int .i64 S.T) := by rw [hW1]; exact (((Kept.refl _).alloc _ _).alloc _ _).some (cell_new w _ _ _ 0 rfl)
  have t1 : W1.cell? ⟨w.heap.size, 1, none⟩ = some (.int .i64 S.K) := by rw [hW1]; exact (((Kept.refl _).alloc _ _).alloc _ _).some (cell_new w _ _ _ 1 rfl)
  have t2 : W1.cell? ⟨w.heap.size, 2, none⟩ = some (.int .i64 S.N) := by rw [hW1]; exact (((Kept.refl _).alloc _ _).alloc _ _).some (cell_new w _ _ _ 2 rfl)
  have a2 : W1.cell? ⟨w.heap.size + 1, 2, none⟩ = some (.int .i64 i) := by rw [hW1]; exact ((Kept.refl _).alloc _ _).some (cell_new _ _ _ _ 2 (by simp))
  have p0 : W1.cell? ⟨w.heap.size + 1 + 1, 0, none⟩ = some (.pointer none) := by rw [hW1]; exact cell_new _ _ _ _ 0 (by simp)
  have p1 : W1.cell? ⟨w.heap.size + 1 + 1, 1, none⟩ = some (.pointer none) := by rw [hW1]; exact cell_new _ _ _ _ 1 (by simp)
  have p2 : W1.cell? ⟨w.heap.size + 1 + 1, 2, none⟩ = some (.pointer none) := by rw [hW1]; exact cell_new _ _ _ _ 2 (by simp)
  have p3 : W1.cell? ⟨w.heap.size + 1 + 1, 3, none⟩ = some (.pointer none) := by rw [hW1]; exact cell_new _ _ _ _ 3 (by simp)
  have p4 : W1.cell? ⟨w.heap.size + 1 + 1, 4, none⟩ = some (.pointer none) := by rw [hW1]; exact cell_new _ _ _ _ 4 (by simp)
  have p5 : W1.cell? ⟨w.heap.size + 1 + 1, 5, none⟩ = some (.pointer none) := by rw [hW1]; exact cell_new _ _ _ _ 5 (by simp)
  have f1 : ∀ i, W1.frozen? ⟨w.heap.size + 1 + 1, i, none⟩ = false := fun i => by rw [hW1, frozen?_alloc_cells, frozen?_alloc_cells, frozen?_alloc_cells]; exact frozen_new w _ _ (by omega)
  have k1 : Kept w W1 := by rw [hW1]; exact (((Kept.refl w).alloc _ _).alloc _ _).alloc _ _
  have z1 : W1.heap.size = w.heap.size + 3 := by rw [hW1]; simp
  rw [← hW1]
  have K1 := Lib.hid k1
  have Z1 := Lib.hid z1
  have ne1 : w.heap.size + 1 + 1 ≠ w.heap.size := by omega
  have ne2 : w.heap.size + 1 + 1 ≠ w.heap.size + 1 := by omega
  have F1 := Lib.hid f1
  clear hW1 k1 z1 f1
  go_region_held3 (fun w' => w'.cell? ⟨w.heap.size, 0, none⟩ = some (.int .i64 S.T) ∧ w'.cell? ⟨w.heap.size, 1, none⟩ = some (.int .i64 S.K) ∧ w'.cell? ⟨w.heap.size, 2, none⟩ = some (.int .i64 S.N) ∧ w'.cell? ⟨w.heap.size + 1, 2, none⟩ = some (.int .i64 i)) (first | go_keep | (exact ⟨k3.some t0, k3.some t1, k3.some t2, k3.some a2⟩) | (exact ⟨e0, e1, e2, e3⟩) | (refine ⟨?_, ?_, ?_, ?_⟩ <;> (rw [cell_set_far _ _ _ _ _ _ (by omega), cell_set_far _ _ _ _ _ _ (by omega), cell_set_far _ _ _ _ _ _ (by omega), cell_set_far _ _ _ _ _ _ (by omega), cell_set_far _ _ _ _ _ _ (by omega), cell_set_far _ _ _ _ _ _ (by omega)]; assumption))) (first
    | (go_at_call 29; refine (newPop_any S _).mono ?_; rintro e u1 ⟨P, rfl, lP, gP, hp, k3⟩; have K3 : Kept W1 u1 := Kept.trans (b := _) (by first | exact Kept.refl _ | exact (Kept.refl _).drew | exact (Kept.refl _).drewN _) k3)
    | (go_at_call 30; refine (rnewPop_any S _).mono ?_; rintro e u2 ⟨Q, rfl, lQ, gQ, hq, k4⟩; have K34 : Kept u1 u2 := Kept.trans (b := _) (by first | exact Kept.refl _ | exact (Kept.refl _).drew | exact (Kept.refl _).drewN _) k4; have K4 : Kept W1 u2 := K3.trans K34; have q0 := K4.some p0; have q1 := K4.some p1; have q2 := K4.some p2; have q3 := K4.some p3; have q4 := K4.some p4; have q5 := K4.some p5; have e0 := K4.some t0; have e1 := K4.some t1; have e2 := K4.some t2; have e3 := K4.some a2; have pf : ∀ i, u2.frozen? ⟨w.heap.size + 1 + 1, i, none⟩ = false := fun i => K4.soft (by have := Z1.out; omega) (F1.out i)))
  have hPW : W1.heap.size ≤ P := lP
  have hQW : u1.heap.size ≤ Q := lQ
  have z3 := K3.size
  have zz := Z1.out
  have hp2 := OpAt.kept hp K34
  have hq2 := hq
  have KA := Lib.hid (K1.out.trans K4)
  have HP := Lib.hid hp2
  have HQ := Lib.hid hq2
  clear hp hq hp2 hq2 k3 k4 K34 K3 K4 lP lQ t0 t1 t2 a2 p0 p1 p2 p3 p4 p5
  go_wp2
  refine bodyPost_ret (v := .agg #[.pointer (some ⟨P, 0, none⟩), .pointer (some ⟨Q, 0, none⟩), .pointer none, .pointer none, .pointer none, .pointer none]) (by simp [results, Tryz.results10, go_sem, cell_set, *]) rfl ?_
  go_light
  have ka := KA.out
  refine ⟨.pop Op.new P Q, newOwn own c P Q, rfl, newOwn_old (by omega) (by omega), ⟨OpAt.frame HP.out (T := fun k => k = w.heap.size + 1 + 1) (by repeat (first | (with_reducible exact But.refl _ _) | (with_reducible refine But.here ?_ _ _))) (by omega), RPopAt.frame HQ.out (T := fun k => k = w.heap.size + 1 + 1) (by repeat (first | (with_reducible exact But.refl _ _) | (with_reducible refine But.here ?_ _ _))) (by omega), good_new, .inl rfl, fun h => absurd h (by decide), newOwn_P, newOwn_Q (by omega)⟩, ?_⟩
  repeat (first | (with_reducible exact ka) | (with_reducible refine Kept.setCell ?_ (by simp; omega) _))

set_option maxHeartbeats 2000000 in
theorem begin_all (own : Nat → Nat) (c : Nat) (S : Stk) (co i : Int)  (w : World) : Calls Tryz.prog 10 #[.agg #[.int .i64 S.T, .int .i64 S.K, .int .i64 S.N], .agg #[.int .i64 co, .int .i64 3, .int .i64 i]] w (BegunPost own c S w) := by
  go_enter Tryz.func10, Tryz.ntmps10
  go_upto_region 6 with fail
  obtain ⟨W1, hW1⟩ : ∃ W1, W1 = ((w.alloc (.cells #[.int .i64 S.T, .int .i64 S.K, .int .i64 S.N] 23)).alloc (.cells #[.int .i64 co, .int .i64 3, .int .i64 i] 42)).alloc (.cells #[.pointer none, .pointer none, .pointer none, .pointer none, .pointer none, .pointer none] 50) := ⟨_, rfl⟩
  have t0 : W1.cell? ⟨w.heap.size, 0, none⟩ = some (.int .i64 S.T) := by rw [hW1]; exact (((Kept.refl _).alloc _ _).alloc _ _).some (cell_new w _ _ _ 0 rfl)
  have t1 : W1.cell? ⟨w.heap.size, 1, none⟩ = some (.int .i64 S.K) := by rw [hW1]; exact (((Kept.refl _).alloc _ _).alloc _ _).some (cell_new w _ _ _ 1 rfl)
  have t2 : W1.cell? ⟨w.heap.size, 2, none⟩ = some (.int .i64 S.N) := by rw [hW1]; exact (((Kept.refl _).alloc _ _).alloc _ _).some (cell_new w _ _ _ 2 rfl)
  have a2 : W1.cell? ⟨w.heap.size + 1, 2, none⟩ = some (.int .i64 i) := by rw [hW1]; exact ((Kept.refl _).alloc _ _).some (cell_new _ _ _ _ 2 (by simp))
  have p0 : W1.cell? ⟨w.heap.size + 1 + 1, 0, none⟩ = some (.pointer none) := by rw [hW1]; exact cell_new _ _ _ _ 0 (by simp)
  have p1 : W1.cell? ⟨w.heap.size + 1 + 1, 1, none⟩ = some (.pointer none) := by rw [hW1]; exact cell_new _ _ _ _ 1 (by simp)
  have p2 : W1.cell? ⟨w.heap.size + 1 + 1, 2, none⟩ = some (.pointer none) := by rw [hW1]; exact cell_new _ _ _ _ 2 (by simp)
  have p3 : W1.cell? ⟨w.heap.size + 1 + 1, 3, none⟩ = some (.pointer none) := by rw [hW1]; exact cell_new _ _ _ _ 3 (by simp)
  have p4 : W1.cell? ⟨w.heap.size + 1 + 1, 4, none⟩ = some (.pointer none) := by rw [hW1]; exact cell_new _ _ _ _ 4 (by simp)
  have p5 : W1.cell? ⟨w.heap.size + 1 + 1, 5, none⟩ = some (.pointer none) := by rw [hW1]; exact cell_new _ _ _ _ 5 (by simp)
  have f1 : ∀ i, W1.frozen? ⟨w.heap.size + 1 + 1, i, none⟩ = false := fun i => by rw [hW1, frozen?_alloc_cells, frozen?_alloc_cells, frozen?_alloc_cells]; exact frozen_new w _ _ (by omega)
  have k1 : Kept w W1 := by rw [hW1]; exact (((Kept.refl w).alloc _ _).alloc _ _).alloc _ _
  have z1 : W1.heap.size = w.heap.size + 3 := by rw [hW1]; simp
  rw [← hW1]
  have K1 := Lib.hid k1
  have Z1 := Lib.hid z1
  have ne1 : w.heap.size + 1 + 1 ≠ w.heap.size := by omega
  have ne2 : w.heap.size + 1 + 1 ≠ w.heap.size + 1 := by omega
  have F1 := Lib.hid f1
  clear hW1 k1 z1 f1
  go_region_held3 (fun w' => w'.cell? ⟨w.heap.size, 0, none⟩ = some (.int .i64 S.T) ∧ w'.cell? ⟨w.heap.size, 1, none⟩ = some (.int .i64 S.K) ∧ w'.cell? ⟨w.heap.size, 2, none⟩ = some (.int .i64 S.N) ∧ w'.cell? ⟨w.heap.size + 1, 2, none⟩ = some (.int .i64 i)) (first | go_keep | (exact ⟨k3.some t0, k3.some t1, k3.some t2, k3.some a2⟩) | (exact ⟨e0, e1, e2, e3⟩) | (refine ⟨?_, ?_, ?_, ?_⟩ <;> (rw [cell_set_far _ _ _ _ _ _ (by omega), cell_set_far _ _ _ _ _ _ (by omega), cell_set_far _ _ _ _ _ _ (by omega), cell_set_far _ _ _ _ _ _ (by omega), cell_set_far _ _ _ _ _ _ (by omega), cell_set_far _ _ _ _ _ _ (by omega)]; assumption))) (first
    | (go_at_call 33; refine (newAll_any S _).mono ?_; rintro e u1 ⟨P, rfl, lP, gP, hp, k3⟩; have K3 : Kept W1 u1 := Kept.trans (b := _) (by first | exact Kept.refl _ | exact (Kept.refl _).drew | exact (Kept.refl _).drewN _) k3)
    | (go_at_call 34; refine (rnewAll_any S _).mono ?_; rintro e u2 ⟨Q, rfl, lQ, gQ, hq, k4⟩; have K34 : Kept u1 u2 := Kept.trans (b := _) (by first | exact Kept.refl _ | exact (Kept.refl _).drew | exact (Kept.refl _).drewN _) k4; have K4 : Kept W1 u2 := K3.trans K34; have q0 := K4.some p0; have q1 := K4.some p1; have q2 := K4.some p2; have q3 := K4.some p3; have q4 := K4.some p4; have q5 := K4.some p5; have e0 := K4.some t0; have e1 := K4.some t1; have e2 := K4.some t2; have e3 := K4.some a2; have pf : ∀ i, u2.frozen? ⟨w.heap.size + 1 + 1, i, none⟩ = false := fun i => K4.soft (by have := Z1.out; omega) (F1.out i)))
  have hPW : W1.heap.size ≤ P := lP
  have hQW : u1.heap.size ≤ Q := lQ
  have z3 := K3.size
  have zz := Z1.out
  have hp2 := OpAt.kept hp K34
  have hq2 := hq
  have KA := Lib.hid (K1.out.trans K4)
  have HP := Lib.hid hp2
  have HQ := Lib.hid hq2
  clear hp hq hp2 hq2 k3 k4 K34 K3 K4 lP lQ t0 t1 t2 a2 p0 p1 p2 p3 p4 p5
  go_wp2
  refine bodyPost_ret (v := .agg #[.pointer none, .pointer none, .pointer none, .pointer none, .pointer (some ⟨P, 0, none⟩), .pointer (some ⟨Q, 0, none⟩)]) (by simp [results, Tryz.results10, go_sem, cell_set, *]) rfl ?_
  go_light
  have ka := KA.out
  refine ⟨.all Op.new P Q, newOwn own c P Q, rfl, newOwn_old (by omega) (by omega), ⟨OpAt.frame HP.out (T := fun k => k = w.heap.size + 1 + 1) (by repeat (first | (with_reducible exact But.refl _ _) | (with_reducible refine But.here ?_ _ _))) (by omega), RAllAt.frame HQ.out (T := fun k => k = w.heap.size + 1 + 1) (by repeat (first | (with_reducible exact But.refl _ _) | (with_reducible refine But.here ?_ _ _))) (by omega), good_new, .inl rfl, by decide, fun h => absurd h (by decide), newOwn_P, newOwn_Q (by omega)⟩, ?_⟩
  repeat (first | (with_reducible exact ka) | (with_reducible refine Kept.setCell ?_ (by simp; omega) _))

set_option maxHeartbeats 2000000 in
theorem begin_in (own : Nat → Nat) (c : Nat) (S : Stk) (co i : Int) (h0 : 0 ≤ i) (h1 : i < S.N) (h2 : S.N ≤ 4096) (w : World) : Calls Tryz.prog 10 #[.agg #[.int .i64 S.T, .int .i64 S.K, .int .i64 S.N], .agg #[.int .i64 co, .int .i64 2, .int .i64 i]] w (BegunPost own c S w) := by
  go_enter Tryz.func10, Tryz.ntmps10
  go_upto_region 5 with fail
  obtain ⟨W1, hW1⟩ : ∃ W1, W1 = ((w.alloc (.cells #[.int .i64 S.T, .int .i64 S.K, .int .i64 S.N] 23)).alloc (.cells #[.int .i64 co, .int .i64 2, .int .i64 i] 42)).alloc (.cells #[.pointer none, .pointer none, .pointer none, .pointer none, .pointer none, .pointer none] 50) := ⟨_, rfl⟩
  have t0 : W1.cell? ⟨w.heap.size, 0, none⟩ = some (.int .i64 S.T) := by rw [hW1]; exact (((Kept.refl _).alloc _ _).alloc _ _).some (cell_new w _ _ _ 0 rfl)
  have t1 : W1.cell? ⟨w.heap.size, 1, none⟩ = some (.int .i64 S.K) := by rw [hW1]; exact (((Kept.refl _).alloc _ _).alloc _ _).some (cell_new w _ _ _ 1 rfl)
  have t2 : W1.cell? ⟨w.heap.size, 2, none⟩ = some (.int .i64 S.N) := by rw [hW1]; exact (((Kept.refl _).alloc _ _).alloc _ _).some (cell_new w _ _ _ 2 rfl)
  have a2 : W1.cell? ⟨w.heap.size + 1, 2, none⟩ = some (.int .i64 i) := by rw [hW1]; exact ((Kept.refl _).alloc _ _).some (cell_new _ _ _ _ 2 (by simp))
  have p0 : W1.cell? ⟨w.heap.size + 1 + 1, 0, none⟩ = some (.pointer none) := by rw [hW1]; exact cell_new _ _ _ _ 0 (by simp)
  have p1 : W1.cell? ⟨w.heap.size + 1 + 1, 1, none⟩ = some (.pointer none) := by rw [hW1]; exact cell_new _ _ _ _ 1 (by simp)
  have p2 : W1.cell? ⟨w.heap.size + 1 + 1, 2, none⟩ = some (.pointer none) := by rw [hW1]; exact cell_new _ _ _ _ 2 (by simp)
  have p3 : W1.cell? ⟨w.heap.size + 1 + 1, 3, none⟩ = some (.pointer none) := by rw [hW1]; exact cell_new _ _ _ _ 3 (by simp)
  have p4 : W1.cell? ⟨w.heap.size + 1 + 1, 4, none⟩ = some (.pointer none) := by rw [hW1]; exact cell_new _ _ _ _ 4 (by simp)
  have p5 : W1.cell? ⟨w.heap.size + 1 + 1, 5, none⟩ = some (.pointer none) := by rw [hW1]; exact cell_new _ _ _ _ 5 (by simp)
  have f1 : ∀ i, W1.frozen? ⟨w.heap.size + 1 + 1, i, none⟩ = false := fun i => by rw [hW1, frozen?_alloc_cells, frozen?_alloc_cells, frozen?_alloc_cells]; exact frozen_new w _ _ (by omega)
  have k1 : Kept w W1 := by rw [hW1]; exact (((Kept.refl w).alloc _ _).alloc _ _).alloc _ _
  have z1 : W1.heap.size = w.heap.size + 3 := by rw [hW1]; simp
  rw [← hW1]
  have K1 := Lib.hid k1
  have Z1 := Lib.hid z1
  have ne1 : w.heap.size + 1 + 1 ≠ w.heap.size := by omega
  have ne2 : w.heap.size + 1 + 1 ≠ w.heap.size + 1 := by omega
  have F1 := Lib.hid f1
  clear hW1 k1 z1 f1
  go_region_held3 (fun w' => w'.cell? ⟨w.heap.size, 0, none⟩ = some (.int .i64 S.T) ∧ w'.cell? ⟨w.heap.size, 1, none⟩ = some (.int .i64 S.K) ∧ w'.cell? ⟨w.heap.size, 2, none⟩ = some (.int .i64 S.N) ∧ w'.cell? ⟨w.heap.size + 1, 2, none⟩ = some (.int .i64 i)) (first | go_keep | (exact ⟨k3.some t0, k3.some t1, k3.some t2, k3.some a2⟩) | (exact ⟨e0, e1, e2, e3⟩) | (refine ⟨?_, ?_, ?_, ?_⟩ <;> (rw [cell_set_far _ _ _ _ _ _ (by omega), cell_set_far _ _ _ _ _ _ (by omega), cell_set_far _ _ _ _ _ _ (by omega), cell_set_far _ _ _ _ _ _ (by omega), cell_set_far _ _ _ _ _ _ (by omega), cell_set_far _ _ _ _ _ _ (by omega)]; assumption))) (first
    | (go_at_call 31; refine (newPush_in S i h0 h1 (by omega) _).mono ?_; rintro e u1 ⟨P, rfl, lP, gP, hp, k3⟩; have K3 : Kept W1 u1 := Kept.trans (b := _) (by first | exact Kept.refl _ | exact (Kept.refl _).drew | exact (Kept.refl _).drewN _) k3)
    | (go_at_call 32; refine (rnewPush_in S i h0 h1 _).mono ?_; rintro e u2 ⟨Q, rfl, lQ, gQ, hq, k4⟩; have K34 : Kept u1 u2 := Kept.trans (b := _) (by first | exact Kept.refl _ | exact (Kept.refl _).drew | exact (Kept.refl _).drewN _) k4; have K4 : Kept W1 u2 := K3.trans K34; have q0 := K4.some p0; have q1 := K4.some p1; have q2 := K4.some p2; have q3 := K4.some p3; have q4 := K4.some p4; have q5 := K4.some p5; have e0 := K4.some t0; have e1 := K4.some t1; have e2 := K4.some t2; have e3 := K4.some a2; have pf : ∀ i, u2.frozen? ⟨w.heap.size + 1 + 1, i, none⟩ = false := fun i => K4.soft (by have := Z1.out; omega) (F1.out i)))
  have hPW : W1.heap.size ≤ P := lP
  have hQW : u1.heap.size ≤ Q := lQ
  have z3 := K3.size
  have zz := Z1.out
  have hp2 := PushAt.frame hp (Kept.but K34 (fun _ => False)) id
  have hq2 := hq
  have KA := Lib.hid (K1.out.trans K4)
  have HP := Lib.hid hp2
  have HQ := Lib.hid hq2
  clear hp hq hp2 hq2 k3 k4 K34 K3 K4 lP lQ t0 t1 t2 a2 p0 p1 p2 p3 p4 p5
  go_wp2
  refine bodyPost_ret (v := .agg #[.pointer none, .pointer none, .pointer (some ⟨P, 0, none⟩), .pointer (some ⟨Q, 0, none⟩), .pointer none, .pointer none]) (by simp [results, Tryz.results10, go_sem, cell_set, *]) rfl ?_
  go_light
  have ka := KA.out
  refine ⟨.push i i 0 Op.new P Q, newOwn own c P Q, rfl, newOwn_old (by omega) (by omega), ⟨PushAt.frame HP.out (T := fun k => k = w.heap.size + 1 + 1) (by repeat (first | (with_reducible exact But.refl _ _) | (with_reducible refine But.here ?_ _ _))) (by omega), RPushAt.frame HQ.out (T := fun k => k = w.heap.size + 1 + 1) (by repeat (first | (with_reducible exact But.refl _ _) | (with_reducible refine But.here ?_ _ _))) (by omega), good_new, .inl rfl, fun _ => ⟨rfl, h0, h1, rfl⟩, newOwn_P, newOwn_Q (by omega)⟩, ?_⟩
  repeat (first | (with_reducible exact ka) | (with_reducible refine Kept.setCell ?_ (by simp; omega) _))

set_option maxHeartbeats 2000000 in
theorem begin_out (own : Nat → Nat) (c : Nat) (S : Stk) (co i : Int) (h0 : i < 0 ∨ S.N ≤ i) (w : World) : Calls Tryz.prog 10 #[.agg #[.int .i64 S.T, .int .i64 S.K, .int .i64 S.N], .agg #[.int .i64 co, .int .i64 2, .int .i64 i]] w (BegunPost own c S w) := by
  go_enter Tryz.func10, Tryz.ntmps10
  go_upto_region 5 with fail
  obtain ⟨W1, hW1⟩ : ∃ W1, W1 = ((w.alloc (.cells #[.int .i64 S.T, .int .i64 S.K, .int .i64 S.N] 23)).alloc (.cells #[.int .i64 co, .int .i64 2, .int .i64 i] 42)).alloc (.cells #[.pointer none, .pointer none, .pointer none, .pointer none, .pointer none, .pointer none] 50) := ⟨_, rfl⟩
  have t0 : W1.cell? ⟨w.heap.size, 0, none⟩ = some (.int .i64 S.T) := by rw [hW1]; exact (((Kept.refl _).alloc _ _).alloc _ _).some (cell_new w _ _ _ 0 rfl)
  have t1 : W1.cell? ⟨w.heap.size, 1, none⟩ = some (.int .i64 S.K) := by rw [hW1]; exact (((Kept.refl _).alloc _ _).alloc _ _).some (cell_new w _ _ _ 1 rfl)
  have t2 : W1.cell? ⟨w.heap.size, 2, none⟩ = some (.int .i64 S.N) := by rw [hW1]; exact (((Kept.refl _).alloc _ _).alloc _ _).some (cell_new w _ _ _ 2 rfl)
  have a2 : W1.cell? ⟨w.heap.size + 1, 2, none⟩ = some (.int .i64 i) := by rw [hW1]; exact ((Kept.refl _).alloc _ _).some (cell_new _ _ _ _ 2 (by simp))
  have p0 : W1.cell? ⟨w.heap.size + 1 + 1, 0, none⟩ = some (.pointer none) := by rw [hW1]; exact cell_new _ _ _ _ 0 (by simp)
  have p1 : W1.cell? ⟨w.heap.size + 1 + 1, 1, none⟩ = some (.pointer none) := by rw [hW1]; exact cell_new _ _ _ _ 1 (by simp)
  have p2 : W1.cell? ⟨w.heap.size + 1 + 1, 2, none⟩ = some (.pointer none) := by rw [hW1]; exact cell_new _ _ _ _ 2 (by simp)
  have p3 : W1.cell? ⟨w.heap.size + 1 + 1, 3, none⟩ = some (.pointer none) := by rw [hW1]; exact cell_new _ _ _ _ 3 (by simp)
  have p4 : W1.cell? ⟨w.heap.size + 1 + 1, 4, none⟩ = some (.pointer none) := by rw [hW1]; exact cell_new _ _ _ _ 4 (by simp)
  have p5 : W1.cell? ⟨w.heap.size + 1 + 1, 5, none⟩ = some (.pointer none) := by rw [hW1]; exact cell_new _ _ _ _ 5 (by simp)
  have f1 : ∀ i, W1.frozen? ⟨w.heap.size + 1 + 1, i, none⟩ = false := fun i => by rw [hW1, frozen?_alloc_cells, frozen?_alloc_cells, frozen?_alloc_cells]; exact frozen_new w _ _ (by omega)
  have k1 : Kept w W1 := by rw [hW1]; exact (((Kept.refl w).alloc _ _).alloc _ _).alloc _ _
  have z1 : W1.heap.size = w.heap.size + 3 := by rw [hW1]; simp
  rw [← hW1]
  have K1 := Lib.hid k1
  have Z1 := Lib.hid z1
  have ne1 : w.heap.size + 1 + 1 ≠ w.heap.size := by omega
  have ne2 : w.heap.size + 1 + 1 ≠ w.heap.size + 1 := by omega
  have F1 := Lib.hid f1
  clear hW1 k1 z1 f1
  go_region_held3 (fun w' => w'.cell? ⟨w.heap.size, 0, none⟩ = some (.int .i64 S.T) ∧ w'.cell? ⟨w.heap.size, 1, none⟩ = some (.int .i64 S.K) ∧ w'.cell? ⟨w.heap.size, 2, none⟩ = some (.int .i64 S.N) ∧ w'.cell? ⟨w.heap.size + 1, 2, none⟩ = some (.int .i64 i)) (first | go_keep | (exact ⟨k3.some t0, k3.some t1, k3.some t2, k3.some a2⟩) | (exact ⟨e0, e1, e2, e3⟩) | (refine ⟨?_, ?_, ?_, ?_⟩ <;> (rw [cell_set_far _ _ _ _ _ _ (by omega), cell_set_far _ _ _ _ _ _ (by omega), cell_set_far _ _ _ _ _ _ (by omega), cell_set_far _ _ _ _ _ _ (by omega), cell_set_far _ _ _ _ _ _ (by omega), cell_set_far _ _ _ _ _ _ (by omega)]; assumption))) (first
    | (go_at_call 31; refine (newPush_out S i h0 _).mono ?_; rintro e u1 ⟨P, rfl, lP, gP, hp, k3⟩; have K3 : Kept W1 u1 := Kept.trans (b := _) (by first | exact Kept.refl _ | exact (Kept.refl _).drew | exact (Kept.refl _).drewN _) k3)
    | (go_at_call 32; refine (rnewPush_out S i h0 _).mono ?_; rintro e u2 ⟨Q, rfl, lQ, gQ, hq, k4⟩; have K34 : Kept u1 u2 := Kept.trans (b := _) (by first | exact Kept.refl _ | exact (Kept.refl _).drew | exact (Kept.refl _).drewN _) k4; have K4 : Kept W1 u2 := K3.trans K34; have q0 := K4.some p0; have q1 := K4.some p1; have q2 := K4.some p2; have q3 := K4.some p3; have q4 := K4.some p4; have q5 := K4.some p5; have e0 := K4.some t0; have e1 := K4.some t1; have e2 := K4.some t2; have e3 := K4.some a2; have pf : ∀ i, u2.frozen? ⟨w.heap.size + 1 + 1, i, none⟩ = false := fun i => K4.soft (by have := Z1.out; omega) (F1.out i)))
  have hPW : W1.heap.size ≤ P := lP
  have hQW : u1.heap.size ≤ Q := lQ
  have z3 := K3.size
  have zz := Z1.out
  have hp2 := PushAt.frame hp (Kept.but K34 (fun _ => False)) id
  have hq2 := hq
  have KA := Lib.hid (K1.out.trans K4)
  have HP := Lib.hid hp2
  have HQ := Lib.hid hq2
  clear hp hq hp2 hq2 k3 k4 K34 K3 K4 lP lQ t0 t1 t2 a2 p0 p1 p2 p3 p4 p5
  go_wp2
  refine bodyPost_ret (v := .agg #[.pointer none, .pointer none, .pointer (some ⟨P, 0, none⟩), .pointer (some ⟨Q, 0, none⟩), .pointer none, .pointer none]) (by simp [results, Tryz.results10, go_sem, cell_set, *]) rfl ?_
  go_light
  have ka := KA.out
  refine ⟨.push i 0 3 Op.over P Q, newOwn own c P Q, rfl, newOwn_old (by omega) (by omega), ⟨PushAt.frame HP.out (T := fun k => k = w.heap.size + 1 + 1) (by repeat (first | (with_reducible exact But.refl _ _) | (with_reducible refine But.here ?_ _ _))) (by omega), RPushAt.frame HQ.out (T := fun k => k = w.heap.size + 1 + 1) (by repeat (first | (with_reducible exact But.refl _ _) | (with_reducible refine But.here ?_ _ _))) (by omega), good_over, .inr (.inr (.inr rfl)), fun h => absurd rfl h, newOwn_P, newOwn_Q (by omega)⟩, ?_⟩
  repeat (first | (with_reducible exact ka) | (with_reducible refine Kept.setCell ?_ (by simp; omega) _))
end Go.Proofs.YtfcompikbeebaaaGreat.Sk

namespace Go.Proofs.YtfcompikbeebaaaGreat.Sk
set_option maxRecDepth 20000
open Go.RowKit Go.Shelf

theorem but_turned {S : Nat → Prop} {a w : World} {l : Nat} {o o' : Obj} (h : But S a w) (hl : w.heap[l]? = some o) (ho : o.isCells = false) (ho' : o'.isCells = false) (hS : S l ∨ a.heap.size ≤ l) : But S a (w.putObj l o') := by
  have hlt := (Array.getElem?_eq_some_iff.1 hl).1
  refine ⟨h.os, h.tape, h.output, by simpa [World.putObj] using h.size, fun k hk hk' => ?_, fun x hx => ?_⟩
  · have hne : k ≠ l := fun e => hS.elim (fun s => hk' (e ▸ s)) fun s => by omega
    exact (World.putObj_heap_other hne).trans (h.block k hk hk')
  · refine Eq.trans ?_ (h.froze x hx)
    by_cases e : x.block = l
    · have h1 : (w.putObj l o').heap[x.block]? = some o' := by rw [e]; exact World.putObj_heap_same hlt
      have h2 : w.heap[x.block]? = some o := by rw [e]; exact hl
      unfold World.frozen?
      rw [h1, h2]
      cases o <;> cases o' <;> simp_all [Obj.isCells]
    · exact World.frozen?_of_block (World.putObj_heap_other e)

structure Blk (S : Nat → Prop) (w w' : World) : Prop where
  os : w'.os = w.os
  tape : w'.tape = w.tape
  output : w'.output = w.output
  size : w.heap.size ≤ w'.heap.size
  block : ∀ k, k < w.heap.size → ¬ S k → w'.heap[k]? = w.heap[k]?
theorem Blk.of {S : Nat → Prop} {w w' : World} (h : But S w w') : Blk S w w' := ⟨h.os, h.tape, h.output, h.size, h.block⟩
theorem Blk.refl (S : Nat → Prop) (w : World) : Blk S w w := .of (But.refl _ _)
theorem Blk.mono {S T : Nat → Prop} {w w' : World} (h : Blk S w w') (hST : ∀ k, k < w.heap.size → S k → T k) : Blk T w w' :=
  ⟨h.os, h.tape, h.output, h.size, fun k hk hT => h.block k hk (fun hS => hT (hST k hk hS))⟩
theorem Blk.trans {S T : Nat → Prop} {a b c : World} (h : Blk S a b) (k : Blk T b c) (hT : ∀ i, i < a.heap.size → T i → S i) : Blk S a c :=
  ⟨k.os.trans h.os, k.tape.trans h.tape, k.output.trans h.output, Nat.le_trans h.size k.size,
   fun i hi hS => (k.block i (Nat.lt_of_lt_of_le hi h.size) (fun ht => hS (hT i hi ht))).trans (h.block i hi hS)⟩
theorem Blk.then {S : Nat → Prop} {a b c : World} (h : Blk S a b) (k : Kept b c) : Blk S a c := h.trans (.of (k.but S)) (fun _ _ h => h)
theorem Blk.turned {S : Nat → Prop} {a w : World} {l : Nat} {o o' : Obj} (h : Blk S a w) (hl : w.heap[l]? = some o) (hS : S l ∨ a.heap.size ≤ l) : Blk S a (w.putObj l o') := by
  have hlt := (Array.getElem?_eq_some_iff.1 hl).1
  refine ⟨h.os, h.tape, h.output, by simpa [World.putObj] using h.size, fun k hk hk' => ?_⟩
  have hne : k ≠ l := fun e => hS.elim (fun s => hk' (e ▸ s)) fun s => by omega
  exact (World.putObj_heap_other hne).trans (h.block k hk hk')
theorem Blk.kept {S : Nat → Prop} {w w' : World} (h : Blk S w w') (hS : ∀ k, k < w.heap.size → ¬ S k) : Kept w w' :=
  ⟨⟨h.os, h.tape, h.output, h.size, fun k hk => h.block k hk (hS k hk)⟩⟩

def leaves (e : Exit) (c : Code) : Prop := (e = .ret ∧ c = .ret) ∨ ∃ id, e = .exit id ∧ c = .exit id

theorem range_many {α : Type} {Bs : Nat → Prop} {n : Nat} {P : Program} {g : Operand} {p : Tmp} {assign body : Code} {Q : Exit → Act → World → Prop} {a : Act} {w : World} (h1 : 1 ≤ n)
    {gf : Nat} {lb : Array Value} (hg : a.eval g = .func (.func gf) #[] lb) (eg : ∀ args w, (callFunc gf args).run P w = .ok (.enter gf args) w) (enc : α → Value)
    (hBs : ∀ k, Bs k → k < w.heap.size ∨ w.heap.size + 1 + 1 ≤ k)
    (I : List α → World → Prop) (Ix : Code → List α → World → Prop) (So : List α → α → Prop) (Nn : List α → Prop)
    (hI0 : ∀ W, Kept w W → I [] W)
    (hIk : ∀ pre W W', I pre W → Kept W W' → I pre W')
    (hIl : ∀ pre W l y y', w.heap.size ≤ l → W.heap[l]? = some (.loop y) → I pre W → I pre (W.putObj l (.loop y')))
    (hXk : ∀ c pre W W', Ix c pre W → Kept W W' → Ix c pre W')
    (hXl : ∀ c pre W l y y', w.heap.size ≤ l → W.heap[l]? = some (.loop y) → Ix c pre W → Ix c pre (W.putObj l (.loop y')))
    (hseq : ∀ (l : Nat) (W0 : World) (J Jx : List α → World → Prop), Kept w W0 → W0.heap.size = w.heap.size + 1 + 1 → l < W0.heap.size →
      (∀ pre W W', J pre W → Kept W W' → J pre W') → (∀ pre W, J pre W → I pre W ∧ Blk (fun k => Bs k ∨ (w.heap.size ≤ k ∧ k < w.heap.size + 1 + 1)) W0 W) →
      (∀ pre x W1, J pre W1 → So pre x → YieldAt Fence.wide (n - 1 - 1) P l #[enc x] W1 fun e W' => (e = .returned (.bool true) ∧ J (pre ++ [x]) W') ∨ (e = .returned (.bool false) ∧ Jx (pre ++ [x]) W')) →
      J [] W0 →
      CallsIn Fence.wide (n - 1) P gf (#[.func (.yield l) #[] #[]] ++ lb) W0 fun e W' => (∃ v, e = .returned v) ∧ ((∃ xs, Nn xs ∧ J xs W') ∨ ∃ pre W1, Jx pre W1 ∧ Kept W1 W'))
    (a1 : α → Act) (hassign : ∀ (l : Nat) (x : α) (W : World) (K : Act → World → Prop), K (a1 x) W → assign.wpIn (Fence.wide.inRound l) (n - 1 - 1) P (Exit.then K (fun _ _ _ => False)) { tmps := a.tmps.setIfInBounds p (enc x), defers := [] } W)
    (hbody : ∀ (l : Nat) (pre : List α) (x : α) (W : World), I pre W → So pre x → w.heap.size + 1 + 1 ≤ W.heap.size → Blk Bs w W →
      body.wpIn (Fence.wide.inRound l) (n - 1 - 1) P (fun e _ W3 => (e = .normal ∧ I (pre ++ [x]) W3 ∧ Blk Bs W W3) ∨ (∃ c, leaves e c ∧ Ix c (pre ++ [x]) W3 ∧ Blk Bs W W3)) (a1 x) W)
    (hdone : ∀ (D : Nat) (xs : List α) (W : World), Nn xs → I xs W → Blk Bs w W → w.heap.size ≤ D → W.heap[D]? = some (.deferred (some [])) → Q .normal { a with defers := { target := .collected D, args := #[] } :: a.defers } W)
    (hstop : ∀ (D : Nat) (c : Code) (xs : List α) (W : World), Ix c xs W → Blk Bs w W → w.heap.size ≤ D → W.heap[D]? = some (.deferred (some [])) → c.wpIn Fence.wide n P Q { a with defers := { target := .collected D, args := #[] } :: a.defers } W) :
    (Code.rangeFunc g #[p] assign body).wpIn Fence.wide n P Q a w := by
  refine wpIn_rangeFunc fun fn hfn => ?_
  rw [show Fence.wide.round = none from rfl]
  obtain ⟨rc, hrc⟩ : ∃ rc : LoopState → Option Code → Loop, rc = fun st pe => { state := st, pending := pe, fn, tmps := a.tmps, params := #[p], assign, body, defers := w.heap.size } := ⟨_, rfl⟩
  obtain ⟨WD, hWD⟩ : ∃ WD, w.alloc (.deferred (some [])) = WD := ⟨_, rfl⟩
  obtain ⟨W0, hW0⟩ : ∃ W0, WD.alloc (.loop (rc .ready none)) = W0 := ⟨_, rfl⟩
  have sD : WD.heap.size = w.heap.size + 1 := by rw [← hWD]; simp
  have s0 : W0.heap.size = w.heap.size + 1 + 1 := by rw [← hW0]; simp [sD]
  have kD : Kept w WD := by rw [← hWD]; exact ⟨(Kept.refl _).below.alloc (Kept.refl _).below.size _⟩
  have k0 : Kept WD W0 := by rw [← hW0]; exact ⟨(Kept.refl _).below.alloc (Kept.refl _).below.size _⟩
  have kW : Kept w W0 := kD.trans k0
  have bL : W0.heap[w.heap.size + 1]? = some (.loop (rc .ready none)) := by
    rw [← hW0, ← sD]; exact World.alloc_heap_new _ _
  have bD : W0.heap[w.heap.size]? = some (.deferred (some [])) := by
    rw [k0.below.block _ (by omega), ← hWD]; exact World.alloc_heap_new _ _
  have h0 : (Instr.enterLoop fn a.tmps #[p] assign body none).run P w = .ok (w.heap.size + 1, [{ target := .collected w.heap.size, args := #[] }]) W0 := by
    rw [← hW0, ← hWD, hrc]; exact run_enterLoop_outer _ _ _ _ _
  refine ⟨_, _, W0, { target := .fn (.func gf) lb, args := #[.func (.yield (w.heap.size + 1)) #[] #[]] }, W0, gf, #[.func (.yield (w.heap.size + 1)) #[] #[]] ++ lb, W0, h0, ?_, fun _ _ => trivial, ?_, fun _ => h1, ?_⟩
  · simp only [resolve, hg]
    simp [go_sem]
  · simp [invoke, go_sem, eg]
  -- between two rounds, and behind one that leaves
  refine (hseq (w.heap.size + 1) W0
    (fun pre W => I pre W ∧ W.heap[w.heap.size + 1]? = some (.loop (rc .ready none)) ∧ W.heap[w.heap.size]? = some (.deferred (some [])) ∧ Blk (fun k => Bs k ∨ k = w.heap.size + 1) W0 W)
    (fun pre W => ∃ c, Ix c pre W ∧ W.heap[w.heap.size + 1]? = some (.loop (rc .done (some c))) ∧ W.heap[w.heap.size]? = some (.deferred (some [])) ∧ Blk (fun k => Bs k ∨ k = w.heap.size + 1) W0 W)
    kW s0 (by omega) ?_ ?_ ?_ ⟨hI0 _ kW, bL, bD, Blk.refl _ _⟩).mono ?_
  · rintro pre W W' ⟨hi, hl, hd, hb⟩ k
    exact ⟨hIk _ _ _ hi k, (k.below.block _ (Array.getElem?_eq_some_iff.1 hl).1).trans hl, (k.below.block _ (Array.getElem?_eq_some_iff.1 hd).1).trans hd, hb.then k⟩
  · rintro pre W ⟨hi, _, _, hb⟩
    exact ⟨hi, hb.mono fun k _ h => h.imp id (fun e => by subst e; omega)⟩
  · rintro pre x W1 ⟨hi, hl, hd, hb⟩ hso
    have hy := run_yield (P := P) (args := #[enc x]) hl (by rw [hrc]; rfl)
    rw [hrc] at hy
    have e0 : ((#[p]).zip #[enc x]).foldl (fun (t : Array Value) (q : Tmp × Value) => t.setIfInBounds q.1 q.2) a.tmps = a.tmps.setIfInBounds p (enc x) := by simp
    have hy' : (Instr.yield (w.heap.size + 1) #[enc x]).run P W1 = .ok (.round (w.heap.size + 1) fn (a.tmps.setIfInBounds p (enc x)) assign body) W1 := by rw [← e0]; exact hy
    clear hy e0
    refine ⟨fn, _, assign, body, hy', roundIn_of_wpIn hfn (hassign _ x W1 _ ?_)⟩
    have hlt := (Array.getElem?_eq_some_iff.1 hl).1
    have hbg := run_beginRound (P := P) hl (by rw [hrc])
    have e1 : ({ rc .ready none with state := .busy } : Loop) = rc .busy none := by rw [hrc]
    rw [e1] at hbg
    have b2 : Blk (fun k => k = w.heap.size + 1) W1 (W1.putObj (w.heap.size + 1) (.loop (rc .busy none))) := (Blk.refl _ _).turned hl (.inl rfl)
    have z2 : W0.heap.size ≤ (W1.putObj (w.heap.size + 1) (.loop (rc .busy none))).heap.size := Nat.le_trans hb.size b2.size
    have hw2 : Blk Bs w (W1.putObj (w.heap.size + 1) (.loop (rc .busy none))) :=
      ((Blk.of (kW.but Bs)).trans (hb.trans (b2.mono fun k _ h => Or.inr h) (fun _ _ h => h)) fun k hk h => h.elim id (fun e => by omega))
    refine ⟨_, hbg, wpIn_mono (hbody (w.heap.size + 1) pre x _ (hIl _ _ _ _ _ (by omega) hl hi) hso (by omega) hw2) ?_⟩
    have l2 : (W1.putObj (w.heap.size + 1) (.loop (rc .busy none))).heap[w.heap.size + 1]? = some (.loop (rc .busy none)) := World.putObj_heap_same hlt
    have d2 : (W1.putObj (w.heap.size + 1) (.loop (rc .busy none))).heap[w.heap.size]? = some (.deferred (some [])) := (World.putObj_heap_other (by omega)).trans hd
    have no : ∀ k, w.heap.size ≤ k → k < w.heap.size + 1 + 1 → ¬ Bs k := fun k hk hk' h => absurd (hBs k h) (by omega)
    rintro e a3 W3 (⟨rfl, hi3, b3⟩ | ⟨c, hc, hx3, b3⟩)
    · have l3 := (b3.block _ (by omega) (no _ (by omega) (by omega))).trans l2
      have d3 := (b3.block _ (by omega) (no _ (by omega) (by omega))).trans d2
      have he := run_endRound (P := P) none l3
      have e2 : ({ rc .busy none with state := if (none : Option Code).isNone then .ready else .done, pending := none } : Loop) = rc .ready none := by rw [hrc]; rfl
      rw [e2] at he
      refine ⟨_, _, he, .inl ⟨rfl, hIl _ _ _ _ _ (by omega) l3 hi3, World.putObj_heap_same (Array.getElem?_eq_some_iff.1 l3).1, (World.putObj_heap_other (by omega)).trans d3, ?_⟩⟩
      exact (hb.trans ((b2.mono (T := fun k => Bs k ∨ k = w.heap.size + 1) fun k _ h => Or.inr h).trans (b3.mono fun k _ h => Or.inl h) (fun _ _ h => h)) (fun _ _ h => h)).turned l3 (.inl (.inr rfl))
    · have l3 := (b3.block _ (by omega) (no _ (by omega) (by omega))).trans l2
      have d3 := (b3.block _ (by omega) (no _ (by omega) (by omega))).trans d2
      have he := run_endRound (P := P) (some c) l3
      have e2 : ({ rc .busy none with state := if (some c).isNone then .ready else .done, pending := some c } : Loop) = rc .done (some c) := by rw [hrc]; rfl
      rw [e2] at he
      have fin : ∃ v w', (Instr.endRound (w.heap.size + 1) (some c)).run P W3 = .ok v w' ∧ v = .bool false ∧ (∃ c, Ix c (pre ++ [x]) w' ∧ w'.heap[w.heap.size + 1]? = some (.loop (rc .done (some c))) ∧ w'.heap[w.heap.size]? = some (.deferred (some [])) ∧ Blk (fun k => Bs k ∨ k = w.heap.size + 1) W0 w') :=
        ⟨_, _, he, rfl, ⟨c, hXl _ _ _ _ _ _ (by omega) l3 hx3, World.putObj_heap_same (Array.getElem?_eq_some_iff.1 l3).1, (World.putObj_heap_other (by omega)).trans d3,
          (hb.trans ((b2.mono (T := fun k => Bs k ∨ k = w.heap.size + 1) fun k _ h => Or.inr h).trans (b3.mono fun k _ h => Or.inl h) (fun _ _ h => h)) (fun _ _ h => h)).turned l3 (.inl (.inr rfl))⟩⟩
      clear he
      rcases hc with ⟨rfl, rfl⟩ | ⟨id, rfl, rfl⟩
      · obtain ⟨v, w', he, rfl, rest⟩ := fin
        exact ⟨_, _, he, .inr ⟨rfl, rest⟩⟩
      · obtain ⟨v, w', he, rfl, rest⟩ := fin
        exact ⟨_, _, he, .inr ⟨rfl, rest⟩⟩
  · have end1 : ∀ W, Blk (fun k => Bs k ∨ k = w.heap.size + 1) W0 W → Blk Bs w W := fun W hb => (Blk.of (kW.but Bs)).trans hb fun k hk h => h.elim id (fun e => by omega)
    rintro e W2 ⟨⟨v, rfl⟩, ⟨xs, hN, hi, hl, hd, hb⟩ | ⟨pre, W1, ⟨c, hx, hl, hd, hb⟩, k⟩⟩
    · have hen := run_endLoop (P := P) hl (by rw [hrc]; simp)
      have e3 : (rc .ready none).pending = none := by rw [hrc]
      rw [e3] at hen
      exact ⟨none, _, hen, hdone _ _ _ hN (hIl _ _ _ _ _ (by omega) hl hi) ((end1 _ hb).turned hl (.inr (by omega))) (Nat.le_refl _) ((World.putObj_heap_other (by omega)).trans hd)⟩
    · have l2 := (k.below.block _ (Array.getElem?_eq_some_iff.1 hl).1).trans hl
      have d2 := (k.below.block _ (Array.getElem?_eq_some_iff.1 hd).1).trans hd
      have hen := run_endLoop (P := P) l2 (by rw [hrc]; simp)
      have e3 : (rc .done (some c)).pending = some c := by rw [hrc]
      rw [e3] at hen
      exact ⟨some c, _, hen, hstop _ _ _ _ (hXl _ _ _ _ _ _ (by omega) l2 (hXk _ _ _ _ hx k)) ((end1 _ (hb.then k)).turned l2 (.inr (by omega))) (Nat.le_refl _) ((World.putObj_heap_other (by omega)).trans d2)⟩
end Go.Proofs.YtfcompikbeebaaaGreat.Sk
