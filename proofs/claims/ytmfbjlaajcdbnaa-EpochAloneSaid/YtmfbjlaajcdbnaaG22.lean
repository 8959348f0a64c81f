/- 'begin': a core begins an operation, twice. Written by gen12b.py. -/
import Derived.Test.YtmfbjlaajcdbnaaG20
import Derived.Test.YtmfbjlaajcdbnaaG11
import Derived.Test.YtmfbjlaajcdbnaaG14
import Derived.Deep.RegionHeld3
set_option linter.unusedVariables false
set_option linter.unusedSimpArgs false

namespace Go.Proofs.Ytmfbjlaajcdbnaa.Ep
set_option maxRecDepth 20000
open Go.RowKit
open Wo (St acc wordAt PMem RefIs)
open Sk (Stk Wd)

def BegunPost (own : Nat → Nat) (c : Nat) (S : Stk) (w : World) (e : Ending) (w' : World) : Prop :=
  ∃ (p : PS) (own' : Nat → Nat), e = .returned (.agg p.cells.toArray) ∧ (∀ k, k < w.heap.size → own' k = own k) ∧ p.Is own' c S w' ∧ Kept w w'
theorem frozen_out (w : World) (b i : Nat) (h : w.heap.size ≤ b) : w.frozen? ⟨b, i, none⟩ = false := by
  simp [World.frozen?, Array.getElem?_eq_none h]
def newOwn (own : Nat → Nat) (c P Q : Nat) (k : Nat) : Nat := if k = P then 10 + 2 * c else if k = Q then 11 + 2 * c else own k
theorem newOwn_old {own : Nat → Nat} {c P Q n : Nat} (hP : n ≤ P) (hQ : n ≤ Q) : ∀ k, k < n → newOwn own c P Q k = own k := fun k hk => by
  unfold newOwn; rw [if_neg (by omega), if_neg (by omega)]
theorem newOwn_P {own : Nat → Nat} {c P Q : Nat} : newOwn own c P Q P = 10 + 2 * c := by unfold newOwn; rw [if_pos rfl]
theorem newOwn_Q {own : Nat → Nat} {c P Q : Nat} (h : P ≠ Q) : newOwn own c P Q Q = 11 + 2 * c := by unfold newOwn; rw [if_neg (Ne.symm h), if_pos rfl]

set_option maxHeartbeats 2000000 in
theorem begin_pin_yes (own : Nat → Nat) (c : Nat) (S : Stk) (co d p : Int) (h0 : 0 ≤ d) (h1 : d < S.N) (w : World) : Calls Try.prog 13 #[.agg #[.int .i64 S.T, .int .i64 S.K, .int .i64 S.N], .agg #[.int .i64 co, .int .i64 1, .int .i64 d, .int .i64 p]] w (BegunPost own c S w) := by
  go_enter Try.func13, Try.ntmps13
  go_upto_region 3 with fail
  obtain ⟨W1, hW1⟩ : ∃ W1, W1 = ((w.alloc (.cells #[.int .i64 S.T, .int .i64 S.K, .int .i64 S.N] 23)).alloc (.cells #[.int .i64 co, .int .i64 1, .int .i64 d, .int .i64 p] 36)).alloc (.cells #[.pointer none, .pointer none, .pointer none, .pointer none, .pointer none, .pointer none] 44) := ⟨_, rfl⟩
  have t0 : W1.cell? ⟨w.heap.size, 0, none⟩ = some (.int .i64 S.T) := by rw [hW1]; exact (((Kept.refl _).alloc _ _).alloc _ _).some (cell_new w _ _ _ 0 rfl)
  have t1 : W1.cell? ⟨w.heap.size, 1, none⟩ = some (.int .i64 S.K) := by rw [hW1]; exact (((Kept.refl _).alloc _ _).alloc _ _).some (cell_new w _ _ _ 1 rfl)
  have t2 : W1.cell? ⟨w.heap.size, 2, none⟩ = some (.int .i64 S.N) := by rw [hW1]; exact (((Kept.refl _).alloc _ _).alloc _ _).some (cell_new w _ _ _ 2 rfl)
  have a2 : W1.cell? ⟨w.heap.size + 1, 2, none⟩ = some (.int .i64 d) := by rw [hW1]; exact ((Kept.refl _).alloc _ _).some (cell_new _ _ _ _ 2 (by simp))
  have a3 : W1.cell? ⟨w.heap.size + 1, 3, none⟩ = some (.int .i64 p) := by rw [hW1]; exact ((Kept.refl _).alloc _ _).some (cell_new _ _ _ _ 3 (by simp))
  have p0 : W1.cell? ⟨w.heap.size + 1 + 1, 0, none⟩ = some (.pointer none) := by rw [hW1]; exact cell_new _ _ _ _ 0 (by simp)
  have p1 : W1.cell? ⟨w.heap.size + 1 + 1, 1, none⟩ = some (.pointer none) := by rw [hW1]; exact cell_new _ _ _ _ 1 (by simp)
  have p2 : W1.cell? ⟨w.heap.size + 1 + 1, 2, none⟩ = some (.pointer none) := by rw [hW1]; exact cell_new _ _ _ _ 2 (by simp)
  have p3 : W1.cell? ⟨w.heap.size + 1 + 1, 3, none⟩ = some (.pointer none) := by rw [hW1]; exact cell_new _ _ _ _ 3 (by simp)
  have p4 : W1.cell? ⟨w.heap.size + 1 + 1, 4, none⟩ = some (.pointer none) := by rw [hW1]; exact cell_new _ _ _ _ 4 (by simp)
  have p5 : W1.cell? ⟨w.heap.size + 1 + 1, 5, none⟩ = some (.pointer none) := by rw [hW1]; exact cell_new _ _ _ _ 5 (by simp)
  have f1 : ∀ i, W1.frozen? ⟨w.heap.size + 1 + 1, i, none⟩ = false := fun i => by rw [hW1, frozen?_alloc_cells, frozen?_alloc_cells, frozen?_alloc_cells]; exact frozen_out w _ _ (by omega)
  have k1 : Kept w W1 := by rw [hW1]; exact (((Kept.refl w).alloc _ _).alloc _ _).alloc _ _
  have z1 : W1.heap.size = w.heap.size + 3 := by rw [hW1]; simp
  rw [← hW1]
  have K1 := Lib.hid k1
  have Z1 := Lib.hid z1
  have ne1 : w.heap.size + 1 + 1 ≠ w.heap.size := by omega
  have ne2 : w.heap.size + 1 + 1 ≠ w.heap.size + 1 := by omega
  have F1 := Lib.hid f1
  clear hW1 k1 z1 f1
  go_region_held3 (fun w' => w'.cell? ⟨w.heap.size, 0, none⟩ = some (.int .i64 S.T) ∧ w'.cell? ⟨w.heap.size, 1, none⟩ = some (.int .i64 S.K) ∧ w'.cell? ⟨w.heap.size, 2, none⟩ = some (.int .i64 S.N) ∧ w'.cell? ⟨w.heap.size + 1, 2, none⟩ = some (.int .i64 d) ∧ w'.cell? ⟨w.heap.size + 1, 3, none⟩ = some (.int .i64 p)) (first | go_keep | (exact ⟨k3.some t0, k3.some t1, k3.some t2, k3.some a2, k3.some a3⟩) | (exact ⟨e0, e1, e2, e3, e4⟩) | (refine ⟨?_, ?_, ?_, ?_, ?_⟩ <;> (rw [cell_set_far _ _ _ _ _ _ (by omega), cell_set_far _ _ _ _ _ _ (by omega), cell_set_far _ _ _ _ _ _ (by omega), cell_set_far _ _ _ _ _ _ (by omega), cell_set_far _ _ _ _ _ _ (by omega), cell_set_far _ _ _ _ _ _ (by omega)]; assumption))) (first
    | (go_at_call 37; refine (newPin_yes S d _ h0 h1).mono ?_; rintro e u1 ⟨P, rfl, lP, gP, hp, k3⟩; have K3 : Kept W1 u1 := Kept.trans (b := _) (by first | exact Kept.refl _ | exact (Kept.refl _).drew | exact (Kept.refl _).drewN _) k3)
    | (go_at_call 55; refine (rnewPin_yes S d h0 h1 _).mono ?_; rintro e u2 ⟨Q, rfl, lQ, gQ, hq, k4⟩; have K34 : Kept u1 u2 := Kept.trans (b := _) (by first | exact Kept.refl _ | exact (Kept.refl _).drew | exact (Kept.refl _).drewN _) k4; have K4 : Kept W1 u2 := K3.trans K34; have q0 := K4.some p0; have q1 := K4.some p1; have q2 := K4.some p2; have q3 := K4.some p3; have q4 := K4.some p4; have q5 := K4.some p5; have e0 := K4.some t0; have e1 := K4.some t1; have e2 := K4.some t2; have e3 := K4.some a2; have e4 := K4.some a3; have pf : ∀ i, u2.frozen? ⟨w.heap.size + 1 + 1, i, none⟩ = false := fun i => K4.soft (by have := Z1.out; omega) (F1.out i)))
  have hPW : W1.heap.size ≤ P := lP
  have hQW : u1.heap.size ≤ Q := lQ
  have z3 := K3.size
  have zz := Z1.out
  have hp2 := hp.kept K34
  have hq2 := hq
  have KA := Lib.hid (K1.out.trans K4)
  have HP := Lib.hid hp2
  have HQ := Lib.hid hq2
  clear hp hq hp2 hq2 k3 k4 K34 K3 K4 lP lQ t0 t1 t2 a2 a3 p0 p1 p2 p3 p4 p5
  go_wp2
  refine bodyPost_ret (v := .agg #[.pointer (some ⟨P, 0, none⟩), .pointer (some ⟨Q, 0, none⟩), .pointer none, .pointer none, .pointer none, .pointer none]) (by simp [results, Try.results13, go_sem, cell_set, *]) rfl ?_
  go_light
  have ka := KA.out
  refine ⟨.pin d EOp.new P Q, newOwn own c P Q, rfl, newOwn_old (by omega) (by omega), ⟨HP.out.but (T := fun k => k = w.heap.size + 1 + 1) (by repeat (first | (with_reducible exact But.refl _ _) | (with_reducible refine But.here ?_ _ _))) (by omega), HQ.out.but (T := fun k => k = w.heap.size + 1 + 1) (by repeat (first | (with_reducible exact But.refl _ _) | (with_reducible refine But.here ?_ _ _))) (by omega), ok_new, fun _ => ⟨h0, h1⟩, newOwn_P, newOwn_Q (by omega)⟩, ?_⟩
  repeat (first | (with_reducible exact ka) | (with_reducible refine Kept.setCell ?_ (by simp; omega) _))

set_option maxHeartbeats 2000000 in
theorem begin_pin_no (own : Nat → Nat) (c : Nat) (S : Stk) (co d p : Int) (h : d < 0 ∨ S.N ≤ d) (w : World) : Calls Try.prog 13 #[.agg #[.int .i64 S.T, .int .i64 S.K, .int .i64 S.N], .agg #[.int .i64 co, .int .i64 1, .int .i64 d, .int .i64 p]] w (BegunPost own c S w) := by
  go_enter Try.func13, Try.ntmps13
  go_upto_region 3 with fail
  obtain ⟨W1, hW1⟩ : ∃ W1, W1 = ((w.alloc (.cells #[.int .i64 S.T, .int .i64 S.K, .int .i64 S.N] 23)).alloc (.cells #[.int .i64 co, .int .i64 1, .int .i64 d, .int .i64 p] 36)).alloc (.cells #[.pointer none, .pointer none, .pointer none, .pointer none, .pointer none, .pointer none] 44) := ⟨_, rfl⟩
  have t0 : W1.cell? ⟨w.heap.size, 0, none⟩ = some (.int .i64 S.T) := by rw [hW1]; exact (((Kept.refl _).alloc _ _).alloc _ _).some (cell_new w _ _ _ 0 rfl)
  have t1 : W1.cell? ⟨w.heap.size, 1, none⟩ = some (.int .i64 S.K) := by rw [hW1]; exact (((Kept.refl _).alloc _ _).alloc _ _).some (cell_new w _ _ _ 1 rfl)
  have t2 : W1.cell? ⟨w.heap.size, 2, none⟩ = some (.int .i64 S.N) := by rw [hW1]; exact (((Kept.refl _).alloc _ _).alloc _ _).some (cell_new w _ _ _ 2 rfl)
  have a2 : W1.cell? ⟨w.heap.size + 1, 2, none⟩ = some (.int .i64 d) := by rw [hW1]; exact ((Kept.refl _).alloc _ _).some (cell_new _ _ _ _ 2 (by simp))
  have a3 : W1.cell? ⟨w.heap.size + 1, 3, none⟩ = some (.int .i64 p) := by rw [hW1]; exact ((Kept.refl _).alloc _ _).some (cell_new _ _ _ _ 3 (by simp))
  have p0 : W1.cell? ⟨w.heap.size + 1 + 1, 0, none⟩ = some (.pointer none) := by rw [hW1]; exact cell_new _ _ _ _ 0 (by simp)
  have p1 : W1.cell? ⟨w.heap.size + 1 + 1, 1, none⟩ = some (.pointer none) := by rw [hW1]; exact cell_new _ _ _ _ 1 (by simp)
  have p2 : W1.cell? ⟨w.heap.size + 1 + 1, 2, none⟩ = some (.pointer none) := by rw [hW1]; exact cell_new _ _ _ _ 2 (by simp)
  have p3 : W1.cell? ⟨w.heap.size + 1 + 1, 3, none⟩ = some (.pointer none) := by rw [hW1]; exact cell_new _ _ _ _ 3 (by simp)
  have p4 : W1.cell? ⟨w.heap.size + 1 + 1, 4, none⟩ = some (.pointer none) := by rw [hW1]; exact cell_new _ _ _ _ 4 (by simp)
  have p5 : W1.cell? ⟨w.heap.size + 1 + 1, 5, none⟩ = some (.pointer none) := by rw [hW1]; exact cell_new _ _ _ _ 5 (by simp)
  have f1 : ∀ i, W1.frozen? ⟨w.heap.size + 1 + 1, i, none⟩ = false := fun i => by rw [hW1, frozen?_alloc_cells, frozen?_alloc_cells, frozen?_alloc_cells]; exact frozen_out w _ _ (by omega)
  have k1 : Kept w W1 := by rw [hW1]; exact (((Kept.refl w).alloc _ _).alloc _ _).alloc _ _
  have z1 : W1.heap.size = w.heap.size + 3 := by rw [hW1]; simp
  rw [← hW1]
  have K1 := Lib.hid k1
  have Z1 := Lib.hid z1
  have ne1 : w.heap.size + 1 + 1 ≠ w.heap.size := by omega
  have ne2 : w.heap.size + 1 + 1 ≠ w.heap.size + 1 := by omega
  have F1 := Lib.hid f1
  clear hW1 k1 z1 f1
  go_region_held3 (fun w' => w'.cell? ⟨w.heap.size, 0, none⟩ = some (.int .i64 S.T) ∧ w'.cell? ⟨w.heap.size, 1, none⟩ = some (.int .i64 S.K) ∧ w'.cell? ⟨w.heap.size, 2, none⟩ = some (.int .i64 S.N) ∧ w'.cell? ⟨w.heap.size + 1, 2, none⟩ = some (.int .i64 d) ∧ w'.cell? ⟨w.heap.size + 1, 3, none⟩ = some (.int .i64 p)) (first | go_keep | (exact ⟨k3.some t0, k3.some t1, k3.some t2, k3.some a2, k3.some a3⟩) | (exact ⟨e0, e1, e2, e3, e4⟩) | (refine ⟨?_, ?_, ?_, ?_, ?_⟩ <;> (rw [cell_set_far _ _ _ _ _ _ (by omega), cell_set_far _ _ _ _ _ _ (by omega), cell_set_far _ _ _ _ _ _ (by omega), cell_set_far _ _ _ _ _ _ (by omega), cell_set_far _ _ _ _ _ _ (by omega), cell_set_far _ _ _ _ _ _ (by omega)]; assumption))) (first
    | (go_at_call 37; refine (newPin_no S d _ h).mono ?_; rintro e u1 ⟨P, rfl, lP, gP, hp, k3⟩; have K3 : Kept W1 u1 := Kept.trans (b := _) (by first | exact Kept.refl _ | exact (Kept.refl _).drew | exact (Kept.refl _).drewN _) k3)
    | (go_at_call 55; refine (rnewPin_no S d h _).mono ?_; rintro e u2 ⟨Q, rfl, lQ, gQ, hq, k4⟩; have K34 : Kept u1 u2 := Kept.trans (b := _) (by first | exact Kept.refl _ | exact (Kept.refl _).drew | exact (Kept.refl _).drewN _) k4; have K4 : Kept W1 u2 := K3.trans K34; have q0 := K4.some p0; have q1 := K4.some p1; have q2 := K4.some p2; have q3 := K4.some p3; have q4 := K4.some p4; have q5 := K4.some p5; have e0 := K4.some t0; have e1 := K4.some t1; have e2 := K4.some t2; have e3 := K4.some a2; have e4 := K4.some a3; have pf : ∀ i, u2.frozen? ⟨w.heap.size + 1 + 1, i, none⟩ = false := fun i => K4.soft (by have := Z1.out; omega) (F1.out i)))
  have hPW : W1.heap.size ≤ P := lP
  have hQW : u1.heap.size ≤ Q := lQ
  have z3 := K3.size
  have zz := Z1.out
  have hp2 := hp.kept K34
  have hq2 := hq
  have KA := Lib.hid (K1.out.trans K4)
  have HP := Lib.hid hp2
  have HQ := Lib.hid hq2
  clear hp hq hp2 hq2 k3 k4 K34 K3 K4 lP lQ t0 t1 t2 a2 a3 p0 p1 p2 p3 p4 p5
  go_wp2
  refine bodyPost_ret (v := .agg #[.pointer (some ⟨P, 0, none⟩), .pointer (some ⟨Q, 0, none⟩), .pointer none, .pointer none, .pointer none, .pointer none]) (by simp [results, Try.results13, go_sem, cell_set, *]) rfl ?_
  go_light
  have ka := KA.out
  refine ⟨.pin d EOp.bad P Q, newOwn own c P Q, rfl, newOwn_old (by omega) (by omega), ⟨HP.out.but (T := fun k => k = w.heap.size + 1 + 1) (by repeat (first | (with_reducible exact But.refl _ _) | (with_reducible refine But.here ?_ _ _))) (by omega), HQ.out.but (T := fun k => k = w.heap.size + 1 + 1) (by repeat (first | (with_reducible exact But.refl _ _) | (with_reducible refine But.here ?_ _ _))) (by omega), ok_bad, fun h => absurd rfl h, newOwn_P, newOwn_Q (by omega)⟩, ?_⟩
  repeat (first | (with_reducible exact ka) | (with_reducible refine Kept.setCell ?_ (by simp; omega) _))

set_option maxHeartbeats 2000000 in
theorem begin_unpin_yes (own : Nat → Nat) (c : Nat) (S : Stk) (co d p : Int) (h0 : 0 ≤ d) (h1 : d < S.N) (w : World) : Calls Try.prog 13 #[.agg #[.int .i64 S.T, .int .i64 S.K, .int .i64 S.N], .agg #[.int .i64 co, .int .i64 2, .int .i64 d, .int .i64 p]] w (BegunPost own c S w) := by
  go_enter Try.func13, Try.ntmps13
  go_upto_region 5 with fail
  obtain ⟨W1, hW1⟩ : ∃ W1, W1 = ((w.alloc (.cells #[.int .i64 S.T, .int .i64 S.K, .int .i64 S.N] 23)).alloc (.cells #[.int .i64 co, .int .i64 2, .int .i64 d, .int .i64 p] 36)).alloc (.cells #[.pointer none, .pointer none, .pointer none, .pointer none, .pointer none, .pointer none] 44) := ⟨_, rfl⟩
  have t0 : W1.cell? ⟨w.heap.size, 0, none⟩ = some (.int .i64 S.T) := by rw [hW1]; exact (((Kept.refl _).alloc _ _).alloc _ _).some (cell_new w _ _ _ 0 rfl)
  have t1 : W1.cell? ⟨w.heap.size, 1, none⟩ = some (.int .i64 S.K) := by rw [hW1]; exact (((Kept.refl _).alloc _ _).alloc _ _).some (cell_new w _ _ _ 1 rfl)
  have t2 : W1.cell? ⟨w.heap.size, 2, none⟩ = some (.int .i64 S.N) := by rw [hW1]; exact (((Kept.refl _).alloc _ _).alloc _ _).some (cell_new w _ _ _ 2 rfl)
  have a2 : W1.cell? ⟨w.heap.size + 1, 2, none⟩ = some (.int .i64 d) := by rw [hW1]; exact ((Kept.refl _).alloc _ _).some (cell_new _ _ _ _ 2 (by simp))
  have a3 : W1.cell? ⟨w.heap.size + 1, 3, none⟩ = some (.int .i64 p) := by rw [hW1]; exact ((Kept.refl _).alloc _ _).some (cell_new _ _ _ _ 3 (by simp))
  have p0 : W1.cell? ⟨w.heap.size + 1 + 1, 0, none⟩ = some (.pointer none) := by rw [hW1]; exact cell_new _ _ _ _ 0 (by simp)
  have p1 : W1.cell? ⟨w.heap.size + 1 + 1, 1, none⟩ = some (.pointer none) := by rw [hW1]; exact cell_new _ _ _ _ 1 (by simp)
  have p2 : W1.cell? ⟨w.heap.size + 1 + 1, 2, none⟩ = some (.pointer none) := by rw [hW1]; exact cell_new _ _ _ _ 2 (by simp)
  have p3 : W1.cell? ⟨w.heap.size + 1 + 1, 3, none⟩ = some (.pointer none) := by rw [hW1]; exact cell_new _ _ _ _ 3 (by simp)
  have p4 : W1.cell? ⟨w.heap.size + 1 + 1, 4, none⟩ = some (.pointer none) := by rw [hW1]; exact cell_new _ _ _ _ 4 (by simp)
  have p5 : W1.cell? ⟨w.heap.size + 1 + 1, 5, none⟩ = some (.pointer none) := by rw [hW1]; exact cell_new _ _ _ _ 5 (by simp)
  have f1 : ∀ i, W1.frozen? ⟨w.heap.size + 1 + 1, i, none⟩ = false := fun i => by rw [hW1, frozen?_alloc_cells, frozen?_alloc_cells, frozen?_alloc_cells]; exact frozen_out w _ _ (by omega)
  have k1 : Kept w W1 := by rw [hW1]; exact (((Kept.refl w).alloc _ _).alloc _ _).alloc _ _
  have z1 : W1.heap.size = w.heap.size + 3 := by rw [hW1]; simp
  rw [← hW1]
  have K1 := Lib.hid k1
  have Z1 := Lib.hid z1
  have ne1 : w.heap.size + 1 + 1 ≠ w.heap.size := by omega
  have ne2 : w.heap.size + 1 + 1 ≠ w.heap.size + 1 := by omega
  have F1 := Lib.hid f1
  clear hW1 k1 z1 f1
  go_region_held3 (fun w' => w'.cell? ⟨w.heap.size, 0, none⟩ = some (.int .i64 S.T) ∧ w'.cell? ⟨w.heap.size, 1, none⟩ = some (.int .i64 S.K) ∧ w'.cell? ⟨w.heap.size, 2, none⟩ = some (.int .i64 S.N) ∧ w'.cell? ⟨w.heap.size + 1, 2, none⟩ = some (.int .i64 d) ∧ w'.cell? ⟨w.heap.size + 1, 3, none⟩ = some (.int .i64 p)) (first | go_keep | (exact ⟨k3.some t0, k3.some t1, k3.some t2, k3.some a2, k3.some a3⟩) | (exact ⟨e0, e1, e2, e3, e4⟩) | (refine ⟨?_, ?_, ?_, ?_, ?_⟩ <;> (rw [cell_set_far _ _ _ _ _ _ (by omega), cell_set_far _ _ _ _ _ _ (by omega), cell_set_far _ _ _ _ _ _ (by omega), cell_set_far _ _ _ _ _ _ (by omega), cell_set_far _ _ _ _ _ _ (by omega), cell_set_far _ _ _ _ _ _ (by omega)]; assumption))) (first
    | (go_at_call 36; refine (newUnpin_yes S d _ h0 h1).mono ?_; rintro e u1 ⟨P, rfl, lP, gP, hp, k3⟩; have K3 : Kept W1 u1 := Kept.trans (b := _) (by first | exact Kept.refl _ | exact (Kept.refl _).drew | exact (Kept.refl _).drewN _) k3)
    | (go_at_call 56; refine (rnewUnpin_yes S d h0 h1 _).mono ?_; rintro e u2 ⟨Q, rfl, lQ, gQ, hq, k4⟩; have K34 : Kept u1 u2 := Kept.trans (b := _) (by first | exact Kept.refl _ | exact (Kept.refl _).drew | exact (Kept.refl _).drewN _) k4; have K4 : Kept W1 u2 := K3.trans K34; have q0 := K4.some p0; have q1 := K4.some p1; have q2 := K4.some p2; have q3 := K4.some p3; have q4 := K4.some p4; have q5 := K4.some p5; have e0 := K4.some t0; have e1 := K4.some t1; have e2 := K4.some t2; have e3 := K4.some a2; have e4 := K4.some a3; have pf : ∀ i, u2.frozen? ⟨w.heap.size + 1 + 1, i, none⟩ = false := fun i => K4.soft (by have := Z1.out; omega) (F1.out i)))
  have hPW : W1.heap.size ≤ P := lP
  have hQW : u1.heap.size ≤ Q := lQ
  have z3 := K3.size
  have zz := Z1.out
  have hp2 := hp.kept K34
  have hq2 := hq
  have KA := Lib.hid (K1.out.trans K4)
  have HP := Lib.hid hp2
  have HQ := Lib.hid hq2
  clear hp hq hp2 hq2 k3 k4 K34 K3 K4 lP lQ t0 t1 t2 a2 a3 p0 p1 p2 p3 p4 p5
  go_wp2
  refine bodyPost_ret (v := .agg #[.pointer none, .pointer none, .pointer (some ⟨P, 0, none⟩), .pointer (some ⟨Q, 0, none⟩), .pointer none, .pointer none]) (by simp [results, Try.results13, go_sem, cell_set, *]) rfl ?_
  go_light
  have ka := KA.out
  refine ⟨.unpin d EOp.new P Q, newOwn own c P Q, rfl, newOwn_old (by omega) (by omega), ⟨HP.out.but (T := fun k => k = w.heap.size + 1 + 1) (by repeat (first | (with_reducible exact But.refl _ _) | (with_reducible refine But.here ?_ _ _))) (by omega), HQ.out.but (T := fun k => k = w.heap.size + 1 + 1) (by repeat (first | (with_reducible exact But.refl _ _) | (with_reducible refine But.here ?_ _ _))) (by omega), ok_new, .inl rfl, fun _ => ⟨h0, h1⟩, newOwn_P, newOwn_Q (by omega)⟩, ?_⟩
  repeat (first | (with_reducible exact ka) | (with_reducible refine Kept.setCell ?_ (by simp; omega) _))

set_option maxHeartbeats 2000000 in
theorem begin_unpin_no (own : Nat → Nat) (c : Nat) (S : Stk) (co d p : Int) (h : d < 0 ∨ S.N ≤ d) (w : World) : Calls Try.prog 13 #[.agg #[.int .i64 S.T, .int .i64 S.K, .int .i64 S.N], .agg #[.int .i64 co, .int .i64 2, .int .i64 d, .int .i64 p]] w (BegunPost own c S w) := by
  go_enter Try.func13, Try.ntmps13
  go_upto_region 5 with fail
  obtain ⟨W1, hW1⟩ : ∃ W1, W1 = ((w.alloc (.cells #[.int .i64 S.T, .int .i64 S.K, .int .i64 S.N] 23)).alloc (.cells #[.int .i64 co, .int .i64 2, .int .i64 d, .int .i64 p] 36)).alloc (.cells #[.pointer none, .pointer none, .pointer none, .pointer none, .pointer none, .pointer none] 44) := ⟨_, rfl⟩
  have t0 : W1.cell? ⟨w.heap.size, 0, none⟩ = some (.int .i64 S.T) := by rw [hW1]; exact (((Kept.refl _).alloc _ _).alloc _ _).some (cell_new w _ _ _ 0 rfl)
  have t1 : W1.cell? ⟨w.heap.size, 1, none⟩ = some (.int .i64 S.K) := by rw [hW1]; exact (((Kept.refl _).alloc _ _).alloc _ _).some (cell_new w _ _ _ 1 rfl)
  have t2 : W1.cell? ⟨w.heap.size, 2, none⟩ = some (.int .i64 S.N) := by rw [hW1]; exact (((Kept.refl _).alloc _ _).alloc _ _).some (cell_new w _ _ _ 2 rfl)
  have a2 : W1.cell? ⟨w.heap.size + 1, 2, none⟩ = some (.int .i64 d) := by rw [hW1]; exact ((Kept.refl _).alloc _ _).some (cell_new _ _ _ _ 2 (by simp))
  have a3 : W1.cell? ⟨w.heap.size + 1, 3, none⟩ = some (.int .i64 p) := by rw [hW1]; exact ((Kept.refl _).alloc _ _).some (cell_new _ _ _ _ 3 (by simp))
  have p0 : W1.cell? ⟨w.heap.size + 1 + 1, 0, none⟩ = some (.pointer none) := by rw [hW1]; exact cell_new _ _ _ _ 0 (by simp)
  have p1 : W1.cell? ⟨w.heap.size + 1 + 1, 1, none⟩ = some (.pointer none) := by rw [hW1]; exact cell_new _ _ _ _ 1 (by simp)
  have p2 : W1.cell? ⟨w.heap.size + 1 + 1, 2, none⟩ = some (.pointer none) := by rw [hW1]; exact cell_new _ _ _ _ 2 (by simp)
  have p3 : W1.cell? ⟨w.heap.size + 1 + 1, 3, none⟩ = some (.pointer none) := by rw [hW1]; exact cell_new _ _ _ _ 3 (by simp)
  have p4 : W1.cell? ⟨w.heap.size + 1 + 1, 4, none⟩ = some (.pointer none) := by rw [hW1]; exact cell_new _ _ _ _ 4 (by simp)
  have p5 : W1.cell? ⟨w.heap.size + 1 + 1, 5, none⟩ = some (.pointer none) := by rw [hW1]; exact cell_new _ _ _ _ 5 (by simp)
  have f1 : ∀ i, W1.frozen? ⟨w.heap.size + 1 + 1, i, none⟩ = false := fun i => by rw [hW1, frozen?_alloc_cells, frozen?_alloc_cells, frozen?_alloc_cells]; exact frozen_out w _ _ (by omega)
  have k1 : Kept w W1 := by rw [hW1]; exact (((Kept.refl w).alloc _ _).alloc _ _).alloc _ _
  have z1 : W1.heap.size = w.heap.size + 3 := by rw [hW1]; simp
  rw [← hW1]
  have K1 := Lib.hid k1
  have Z1 := Lib.hid z1
  have ne1 : w.heap.size + 1 + 1 ≠ w.heap.size := by omega
  have ne2 : w.heap.size + 1 + 1 ≠ w.heap.size + 1 := by omega
  have F1 := Lib.hid f1
  clear hW1 k1 z1 f1
  go_region_held3 (fun w' => w'.cell? ⟨w.heap.size, 0, none⟩ = some (.int .i64 S.T) ∧ w'.cell? ⟨w.heap.size, 1, none⟩ = some (.int .i64 S.K) ∧ w'.cell? ⟨w.heap.size, 2, none⟩ = some (.int .i64 S.N) ∧ w'.cell? ⟨w.heap.size + 1, 2, none⟩ = some (.int .i64 d) ∧ w'.cell? ⟨w.heap.size + 1, 3, none⟩ = some (.int .i64 p)) (first | go_keep | (exact ⟨k3.some t0, k3.some t1, k3.some t2, k3.some a2, k3.some a3⟩) | (exact ⟨e0, e1, e2, e3, e4⟩) | (refine ⟨?_, ?_, ?_, ?_, ?_⟩ <;> (rw [cell_set_far _ _ _ _ _ _ (by omega), cell_set_far _ _ _ _ _ _ (by omega), cell_set_far _ _ _ _ _ _ (by omega), cell_set_far _ _ _ _ _ _ (by omega), cell_set_far _ _ _ _ _ _ (by omega), cell_set_far _ _ _ _ _ _ (by omega)]; assumption))) (first
    | (go_at_call 36; refine (newUnpin_no S d _ h).mono ?_; rintro e u1 ⟨P, rfl, lP, gP, hp, k3⟩; have K3 : Kept W1 u1 := Kept.trans (b := _) (by first | exact Kept.refl _ | exact (Kept.refl _).drew | exact (Kept.refl _).drewN _) k3)
    | (go_at_call 56; refine (rnewUnpin_no S d h _).mono ?_; rintro e u2 ⟨Q, rfl, lQ, gQ, hq, k4⟩; have K34 : Kept u1 u2 := Kept.trans (b := _) (by first | exact Kept.refl _ | exact (Kept.refl _).drew | exact (Kept.refl _).drewN _) k4; have K4 : Kept W1 u2 := K3.trans K34; have q0 := K4.some p0; have q1 := K4.some p1; have q2 := K4.some p2; have q3 := K4.some p3; have q4 := K4.some p4; have q5 := K4.some p5; have e0 := K4.some t0; have e1 := K4.some t1; have e2 := K4.some t2; have e3 := K4.some a2; have e4 := K4.some a3; have pf : ∀ i, u2.frozen? ⟨w.heap.size + 1 + 1, i, none⟩ = false := fun i => K4.soft (by have := Z1.out; omega) (F1.out i)))
  have hPW : W1.heap.size ≤ P := lP
  have hQW : u1.heap.size ≤ Q := lQ
  have z3 := K3.size
  have zz := Z1.out
  have hp2 := hp.kept K34
  have hq2 := hq
  have KA := Lib.hid (K1.out.trans K4)
  have HP := Lib.hid hp2
  have HQ := Lib.hid hq2
  clear hp hq hp2 hq2 k3 k4 K34 K3 K4 lP lQ t0 t1 t2 a2 a3 p0 p1 p2 p3 p4 p5
  go_wp2
  refine bodyPost_ret (v := .agg #[.pointer none, .pointer none, .pointer (some ⟨P, 0, none⟩), .pointer (some ⟨Q, 0, none⟩), .pointer none, .pointer none]) (by simp [results, Try.results13, go_sem, cell_set, *]) rfl ?_
  go_light
  have ka := KA.out
  refine ⟨.unpin d EOp.bad P Q, newOwn own c P Q, rfl, newOwn_old (by omega) (by omega), ⟨HP.out.but (T := fun k => k = w.heap.size + 1 + 1) (by repeat (first | (with_reducible exact But.refl _ _) | (with_reducible refine But.here ?_ _ _))) (by omega), HQ.out.but (T := fun k => k = w.heap.size + 1 + 1) (by repeat (first | (with_reducible exact But.refl _ _) | (with_reducible refine But.here ?_ _ _))) (by omega), ok_bad, .inr rfl, fun h => absurd rfl h, newOwn_P, newOwn_Q (by omega)⟩, ?_⟩
  repeat (first | (with_reducible exact ka) | (with_reducible refine Kept.setCell ?_ (by simp; omega) _))

set_option maxHeartbeats 2000000 in
theorem begin_adv_yes (own : Nat → Nat) (c : Nat) (S : Stk) (co d p : Int) (h0 : 0 ≤ d) (h1 : d < S.N) (w : World) : Calls Try.prog 13 #[.agg #[.int .i64 S.T, .int .i64 S.K, .int .i64 S.N], .agg #[.int .i64 co, .int .i64 3, .int .i64 d, .int .i64 p]] w (BegunPost own c S w) := by
  go_enter Try.func13, Try.ntmps13
  go_upto_region 6 with fail
  obtain ⟨W1, hW1⟩ : ∃ W1, W1 = ((w.alloc (.cells #[.int .i64 S.T, .int .i64 S.K, .int .i64 S.N] 23)).alloc (.cells #[.int .i64 co, .int .i64 3, .int .i64 d, .int .i64 p] 36)).alloc (.cells #[.pointer none, .pointer none, .pointer none, .pointer none, .pointer none, .pointer none] 44) := ⟨_, rfl⟩
  have t0 : W1.cell? ⟨w.heap.size, 0, none⟩ = some (.int .i64 S.T) := by rw [hW1]; exact (((Kept.refl _).alloc _ _).alloc _ _).some (cell_new w _ _ _ 0 rfl)
  have t1 : W1.cell? ⟨w.heap.size, 1, none⟩ = some (.int .i64 S.K) := by rw [hW1]; exact (((Kept.refl _).alloc _ _).alloc _ _).some (cell_new w _ _ _ 1 rfl)
  have t2 : W1.cell? ⟨w.heap.size, 2, none⟩ = some (.int .i64 S.N) := by rw [hW1]; exact (((Kept.refl _).alloc _ _).alloc _ _).some (cell_new w _ _ _ 2 rfl)
  have a2 : W1.cell? ⟨w.heap.size + 1, 2, none⟩ = some (.int .i64 d) := by rw [hW1]; exact ((Kept.refl _).alloc _ _).some (cell_new _ _ _ _ 2 (by simp))
  have a3 : W1.cell? ⟨w.heap.size + 1, 3, none⟩ = some (.int .i64 p) := by rw [hW1]; exact ((Kept.refl _).alloc _ _).some (cell_new _ _ _ _ 3 (by simp))
  have p0 : W1.cell? ⟨w.heap.size + 1 + 1, 0, none⟩ = some (.pointer none) := by rw [hW1]; exact cell_new _ _ _ _ 0 (by simp)
  have p1 : W1.cell? ⟨w.heap.size + 1 + 1, 1, none⟩ = some (.pointer none) := by rw [hW1]; exact cell_new _ _ _ _ 1 (by simp)
  have p2 : W1.cell? ⟨w.heap.size + 1 + 1, 2, none⟩ = some (.pointer none) := by rw [hW1]; exact cell_new _ _ _ _ 2 (by simp)
  have p3 : W1.cell? ⟨w.heap.size + 1 + 1, 3, none⟩ = some (.pointer none) := by rw [hW1]; exact cell_new _ _ _ _ 3 (by simp)
  have p4 : W1.cell? ⟨w.heap.size + 1 + 1, 4, none⟩ = some (.pointer none) := by rw [hW1]; exact cell_new _ _ _ _ 4 (by simp)
  have p5 : W1.cell? ⟨w.heap.size + 1 + 1, 5, none⟩ = some (.pointer none) := by rw [hW1]; exact cell_new _ _ _ _ 5 (by simp)
  have f1 : ∀ i, W1.frozen? ⟨w.heap.size + 1 + 1, i, none⟩ = false := fun i => by rw [hW1, frozen?_alloc_cells, frozen?_alloc_cells, frozen?_alloc_cells]; exact frozen_out w _ _ (by omega)
  have k1 : Kept w W1 := by rw [hW1]; exact (((Kept.refl w).alloc _ _).alloc _ _).alloc _ _
  have z1 : W1.heap.size = w.heap.size + 3 := by rw [hW1]; simp
  rw [← hW1]
  have K1 := Lib.hid k1
  have Z1 := Lib.hid z1
  have ne1 : w.heap.size + 1 + 1 ≠ w.heap.size := by omega
  have ne2 : w.heap.size + 1 + 1 ≠ w.heap.size + 1 := by omega
  have F1 := Lib.hid f1
  clear hW1 k1 z1 f1
  go_region_held3 (fun w' => w'.cell? ⟨w.heap.size, 0, none⟩ = some (.int .i64 S.T) ∧ w'.cell? ⟨w.heap.size, 1, none⟩ = some (.int .i64 S.K) ∧ w'.cell? ⟨w.heap.size, 2, none⟩ = some (.int .i64 S.N) ∧ w'.cell? ⟨w.heap.size + 1, 2, none⟩ = some (.int .i64 d) ∧ w'.cell? ⟨w.heap.size + 1, 3, none⟩ = some (.int .i64 p)) (first | go_keep | (exact ⟨k3.some t0, k3.some t1, k3.some t2, k3.some a2, k3.some a3⟩) | (exact ⟨e0, e1, e2, e3, e4⟩) | (refine ⟨?_, ?_, ?_, ?_, ?_⟩ <;> (rw [cell_set_far _ _ _ _ _ _ (by omega), cell_set_far _ _ _ _ _ _ (by omega), cell_set_far _ _ _ _ _ _ (by omega), cell_set_far _ _ _ _ _ _ (by omega), cell_set_far _ _ _ _ _ _ (by omega), cell_set_far _ _ _ _ _ _ (by omega)]; assumption))) (first
    | (go_at_call 38; refine (newAdvance_yes S d p _ h0 h1).mono ?_; rintro e u1 ⟨P, rfl, lP, gP, hp, k3⟩; have K3 : Kept W1 u1 := Kept.trans (b := _) (by first | exact Kept.refl _ | exact (Kept.refl _).drew | exact (Kept.refl _).drewN _) k3)
    | (go_at_call 57; refine (rnewAdvance_yes S d p h0 h1 _).mono ?_; rintro e u2 ⟨Q, rfl, lQ, gQ, hq, k4⟩; have K34 : Kept u1 u2 := Kept.trans (b := _) (by first | exact Kept.refl _ | exact (Kept.refl _).drew | exact (Kept.refl _).drewN _) k4; have K4 : Kept W1 u2 := K3.trans K34; have q0 := K4.some p0; have q1 := K4.some p1; have q2 := K4.some p2; have q3 := K4.some p3; have q4 := K4.some p4; have q5 := K4.some p5; have e0 := K4.some t0; have e1 := K4.some t1; have e2 := K4.some t2; have e3 := K4.some a2; have e4 := K4.some a3; have pf : ∀ i, u2.frozen? ⟨w.heap.size + 1 + 1, i, none⟩ = false := fun i => K4.soft (by have := Z1.out; omega) (F1.out i)))
  have hPW : W1.heap.size ≤ P := lP
  have hQW : u1.heap.size ≤ Q := lQ
  have z3 := K3.size
  have zz := Z1.out
  have hp2 := hp.kept K34
  have hq2 := hq
  have KA := Lib.hid (K1.out.trans K4)
  have HP := Lib.hid hp2
  have HQ := Lib.hid hq2
  clear hp hq hp2 hq2 k3 k4 K34 K3 K4 lP lQ t0 t1 t2 a2 a3 p0 p1 p2 p3 p4 p5
  go_wp2
  refine bodyPost_ret (v := .agg #[.pointer none, .pointer none, .pointer none, .pointer none, .pointer (some ⟨P, 0, none⟩), .pointer (some ⟨Q, 0, none⟩)]) (by simp [results, Try.results13, go_sem, cell_set, *]) rfl ?_
  go_light
  have ka := KA.out
  refine ⟨.adv d p EOp.new P Q, newOwn own c P Q, rfl, newOwn_old (by omega) (by omega), ⟨HP.out.but (T := fun k => k = w.heap.size + 1 + 1) (by repeat (first | (with_reducible exact But.refl _ _) | (with_reducible refine But.here ?_ _ _))) (by omega), HQ.out.but (T := fun k => k = w.heap.size + 1 + 1) (by repeat (first | (with_reducible exact But.refl _ _) | (with_reducible refine But.here ?_ _ _))) (by omega), ok_new, at_new S, newOwn_P, newOwn_Q (by omega)⟩, ?_⟩
  repeat (first | (with_reducible exact ka) | (with_reducible refine Kept.setCell ?_ (by simp; omega) _))

set_option maxHeartbeats 2000000 in
theorem begin_adv_no (own : Nat → Nat) (c : Nat) (S : Stk) (co d p : Int) (h : d < 0 ∨ S.N ≤ d) (w : World) : Calls Try.prog 13 #[.agg #[.int .i64 S.T, .int .i64 S.K, .int .i64 S.N], .agg #[.int .i64 co, .int .i64 3, .int .i64 d, .int .i64 p]] w (BegunPost own c S w) := by
  go_enter Try.func13, Try.ntmps13
  go_upto_region 6 with fail
  obtain ⟨W1, hW1⟩ : ∃ W1, W1 = ((w.alloc (.cells #[.int .i64 S.T, .int .i64 S.K, .int .i64 S.N] 23)).alloc (.cells #[.int .i64 co, .int .i64 3, .int .i64 d, .int .i64 p] 36)).alloc (.cells #[.pointer none, .pointer none, .pointer none, .pointer none, .pointer none, .pointer none] 44) := ⟨_, rfl⟩
  have t0 : W1.cell? ⟨w.heap.size, 0, none⟩ = some (.int .i64 S.T) := by rw [hW1]; exact (((Kept.refl _).alloc _ _).alloc _ _).some (cell_new w _ _ _ 0 rfl)
  have t1 : W1.cell? ⟨w.heap.size, 1, none⟩ = some (.int .i64 S.K) := by rw [hW1]; exact (((Kept.refl _).alloc _ _).alloc _ _).some (cell_new w _ _ _ 1 rfl)
  have t2 : W1.cell? ⟨w.heap.size, 2, none⟩ = some (.int .i64 S.N) := by rw [hW1]; exact (((Kept.refl _).alloc _ _).alloc _ _).some (cell_new w _ _ _ 2 rfl)
  have a2 : W1.cell? ⟨w.heap.size + 1, 2, none⟩ = some (.int .i64 d) := by rw [hW1]; exact ((Kept.refl _).alloc _ _).some (cell_new _ _ _ _ 2 (by simp))
  have a3 : W1.cell? ⟨w.heap.size + 1, 3, none⟩ = some (.int .i64 p) := by rw [hW1]; exact ((Kept.refl _).alloc _ _).some (cell_new _ _ _ _ 3 (by simp))
  have p0 : W1.cell? ⟨w.heap.size + 1 + 1, 0, none⟩ = some (.pointer none) := by rw [hW1]; exact cell_new _ _ _ _ 0 (by simp)
  have p1 : W1.cell? ⟨w.heap.size + 1 + 1, 1, none⟩ = some (.pointer none) := by rw [hW1]; exact cell_new _ _ _ _ 1 (by simp)
  have p2 : W1.cell? ⟨w.heap.size + 1 + 1, 2, none⟩ = some (.pointer none) := by rw [hW1]; exact cell_new _ _ _ _ 2 (by simp)
  have p3 : W1.cell? ⟨w.heap.size + 1 + 1, 3, none⟩ = some (.pointer none) := by rw [hW1]; exact cell_new _ _ _ _ 3 (by simp)
  have p4 : W1.cell? ⟨w.heap.size + 1 + 1, 4, none⟩ = some (.pointer none) := by rw [hW1]; exact cell_new _ _ _ _ 4 (by simp)
  have p5 : W1.cell? ⟨w.heap.size + 1 + 1, 5, none⟩ = some (.pointer none) := by rw [hW1]; exact cell_new _ _ _ _ 5 (by simp)
  have f1 : ∀ i, W1.frozen? ⟨w.heap.size + 1 + 1, i, none⟩ = false := fun i => by rw [hW1, frozen?_alloc_cells, frozen?_alloc_cells, frozen?_alloc_cells]; exact frozen_out w _ _ (by omega)
  have k1 : Kept w W1 := by rw [hW1]; exact (((Kept.refl w).alloc _ _).alloc _ _).alloc _ _
  have z1 : W1.heap.size = w.heap.size + 3 := by rw [hW1]; simp
  rw [← hW1]
  have K1 := Lib.hid k1
  have Z1 := Lib.hid z1
  have ne1 : w.heap.size + 1 + 1 ≠ w.heap.size := by omega
  have ne2 : w.heap.size + 1 + 1 ≠ w.heap.size + 1 := by omega
  have F1 := Lib.hid f1
  clear hW1 k1 z1 f1
  go_region_held3 (fun w' => w'.cell? ⟨w.heap.size, 0, none⟩ = some (.int .i64 S.T) ∧ w'.cell? ⟨w.heap.size, 1, none⟩ = some (.int .i64 S.K) ∧ w'.cell? ⟨w.heap.size, 2, none⟩ = some (.int .i64 S.N) ∧ w'.cell? ⟨w.heap.size + 1, 2, none⟩ = some (.int .i64 d) ∧ w'.cell? ⟨w.heap.size + 1, 3, none⟩ = some (.int .i64 p)) (first | go_keep | (exact ⟨k3.some t0, k3.some t1, k3.some t2, k3.some a2, k3.some a3⟩) | (exact ⟨e0, e1, e2, e3, e4⟩) | (refine ⟨?_, ?_, ?_, ?_, ?_⟩ <;> (rw [cell_set_far _ _ _ _ _ _ (by omega), cell_set_far _ _ _ _ _ _ (by omega), cell_set_far _ _ _ _ _ _ (by omega), cell_set_far _ _ _ _ _ _ (by omega), cell_set_far _ _ _ _ _ _ (by omega), cell_set_far _ _ _ _ _ _ (by omega)]; assumption))) (first
    | (go_at_call 38; refine (newAdvance_no S d p _ h).mono ?_; rintro e u1 ⟨P, rfl, lP, gP, hp, k3⟩; have K3 : Kept W1 u1 := Kept.trans (b := _) (by first | exact Kept.refl _ | exact (Kept.refl _).drew | exact (Kept.refl _).drewN _) k3)
    | (go_at_call 57; refine (rnewAdvance_no S d p h _).mono ?_; rintro e u2 ⟨Q, rfl, lQ, gQ, hq, k4⟩; have K34 : Kept u1 u2 := Kept.trans (b := _) (by first | exact Kept.refl _ | exact (Kept.refl _).drew | exact (Kept.refl _).drewN _) k4; have K4 : Kept W1 u2 := K3.trans K34; have q0 := K4.some p0; have q1 := K4.some p1; have q2 := K4.some p2; have q3 := K4.some p3; have q4 := K4.some p4; have q5 := K4.some p5; have e0 := K4.some t0; have e1 := K4.some t1; have e2 := K4.some t2; have e3 := K4.some a2; have e4 := K4.some a3; have pf : ∀ i, u2.frozen? ⟨w.heap.size + 1 + 1, i, none⟩ = false := fun i => K4.soft (by have := Z1.out; omega) (F1.out i)))
  have hPW : W1.heap.size ≤ P := lP
  have hQW : u1.heap.size ≤ Q := lQ
  have z3 := K3.size
  have zz := Z1.out
  have hp2 := hp.kept K34
  have hq2 := hq
  have KA := Lib.hid (K1.out.trans K4)
  have HP := Lib.hid hp2
  have HQ := Lib.hid hq2
  clear hp hq hp2 hq2 k3 k4 K34 K3 K4 lP lQ t0 t1 t2 a2 a3 p0 p1 p2 p3 p4 p5
  go_wp2
  refine bodyPost_ret (v := .agg #[.pointer none, .pointer none, .pointer none, .pointer none, .pointer (some ⟨P, 0, none⟩), .pointer (some ⟨Q, 0, none⟩)]) (by simp [results, Try.results13, go_sem, cell_set, *]) rfl ?_
  go_light
  have ka := KA.out
  refine ⟨.adv d p EOp.bad P Q, newOwn own c P Q, rfl, newOwn_old (by omega) (by omega), ⟨HP.out.but (T := fun k => k = w.heap.size + 1 + 1) (by repeat (first | (with_reducible exact But.refl _ _) | (with_reducible refine But.here ?_ _ _))) (by omega), HQ.out.but (T := fun k => k = w.heap.size + 1 + 1) (by repeat (first | (with_reducible exact But.refl _ _) | (with_reducible refine But.here ?_ _ _))) (by omega), ok_bad, at_bad S, newOwn_P, newOwn_Q (by omega)⟩, ?_⟩
  repeat (first | (with_reducible exact ka) | (with_reducible refine Kept.setCell ?_ (by simp; omega) _))

theorem begin_any (own : Nat → Nat) (c : Nat) (S : Stk) (co wh d p : Int) (h1 : 1 ≤ wh) (h3 : wh ≤ 3) (w : World) : Calls Try.prog 13 #[.agg #[.int .i64 S.T, .int .i64 S.K, .int .i64 S.N], .agg #[.int .i64 co, .int .i64 wh, .int .i64 d, .int .i64 p]] w (BegunPost own c S w) := by
  have hc : wh = 1 ∨ wh = 2 ∨ wh = 3 := by omega
  by_cases h : 0 ≤ d ∧ d < S.N
  · rcases hc with rfl | rfl | rfl
    · exact begin_pin_yes own c S co d p h.1 h.2 w
    · exact begin_unpin_yes own c S co d p h.1 h.2 w
    · exact begin_adv_yes own c S co d p h.1 h.2 w
  · have h' : d < 0 ∨ S.N ≤ d := by omega
    rcases hc with rfl | rfl | rfl
    · exact begin_pin_no own c S co d p h' w
    · exact begin_unpin_no own c S co d p h' w
    · exact begin_adv_no own c S co d p h' w
end Go.Proofs.Ytmfbjlaajcdbnaa.Ep
