/- 'begin': a core begins an operation, twice. Written by gen14v.py. -/
import Derived.Test.YtlfdiffbepfgbaaGreatG14
import Derived.Test.YtlfdiffbepfgbaaGreatG16
import Derived.Deep.RegionHeld3
import Derived.Test.YtlfdiffbepfgbaaGreatG09
import Derived.Test.YtlfdiffbepfgbaaGreatG04
import Derived.Deep.RegionLaw
set_option linter.unusedVariables false
set_option linter.unusedSimpArgs false

namespace Go.Proofs.YtlfdiffbepfgbaaGreat.Ri
set_option maxRecDepth 20000
open Go.RowKit
open Wo (St acc wordAt PMem RefIs)
open Sk (Wd)

def BegunPost (own : Nat → Nat) (c : Nat) (R : Rng) (w : World) (e : Ending) (w' : World) : Prop :=
  ∃ (p : PS) (own' : Nat → Nat), e = .returned (.agg p.cells.toArray) ∧ (∀ k, k < w.heap.size → own' k = own k) ∧ p.Is own' c R w' ∧ Kept w w'
theorem frozen_out (w : World) (b i : Nat) (h : w.heap.size ≤ b) : w.frozen? ⟨b, i, none⟩ = false := by
  simp [World.frozen?, Array.getElem?_eq_none h]
def newOwn (own : Nat → Nat) (c P Q : Nat) (k : Nat) : Nat := if k = P then 10 + 2 * c else if k = Q then 11 + 2 * c else own k
theorem newOwn_old {own : Nat → Nat} {c P Q n : Nat} (hP : n ≤ P) (hQ : n ≤ Q) : ∀ k, k < n → newOwn own c P Q k = own k := fun k hk => by
  unfold newOwn; rw [if_neg (by omega), if_neg (by omega)]
theorem newOwn_P {own : Nat → Nat} {c P Q : Nat} : newOwn own c P Q P = 10 + 2 * c := by unfold newOwn; rw [if_pos rfl]
theorem newOwn_Q {own : Nat → Nat} {c P Q : Nat} (h : P ≠ Q) : newOwn own c P Q Q = 11 + 2 * c := by unfold newOwn; rw [if_neg (Ne.symm h), if_pos rfl]

set_option maxHeartbeats 2000000 in
theorem begin_push (own : Nat → Nat) (c : Nat) (R : Rng) (n1 : 1 ≤ R.N) (n2 : R.N ≤ 4096) (co v h : Int) (h0 : 0 ≤ h) (h1 : h < 18446744073709551616) (w : World) : Calls Tryz.prog 48 #[.agg #[.int .i64 R.H, .int .i64 R.T, .int .i64 R.K, .int .i64 R.N], .agg #[.int .i64 co, .int .i64 1, .int .i64 v, .int .u64 h]] w (BegunPost own c R w) := by
  have PN := fun W => Lib.hid (newPush_any R v n1 n2 W)
  have DN := fun W => Lib.hid (rnewPush_any R v n1 n2 W)
  have GD := Lib.hid ((push_good v).1 : ((if 0 ≤ v ∧ v ≤ 65535 then pushNew v else pushBad v) : ROp).Good)
  have IX : Hid (isPush (if 0 ≤ v ∧ v ≤ 65535 then pushNew v else pushBad v)) := Lib.hid ((push_good v).2)
  generalize hxx : (if 0 ≤ v ∧ v ≤ 65535 then pushNew v else pushBad v) = xx at PN DN GD IX
  clear hxx h0 h1
  go_enter Tryz.func48, Tryz.ntmps48
  go_upto_region 3 with fail
  obtain ⟨W1, hW1⟩ : ∃ W1, W1 = ((w.alloc (.cells #[.int .i64 R.H, .int .i64 R.T, .int .i64 R.K, .int .i64 R.N] 114)).alloc (.cells #[.int .i64 co, .int .i64 1, .int .i64 v, .int .u64 h] 120)).alloc (.cells #[.pointer none, .pointer none, .pointer none, .pointer none, .pointer none, .pointer none] 128) := ⟨_, rfl⟩
  have t0 : W1.cell? ⟨w.heap.size, 0, none⟩ = some (.int .i64 R.H) := by rw [hW1]; exact (((Kept.refl _).alloc _ _).alloc _ _).some (cell_new w _ _ _ 0 rfl)
  have t1 : W1.cell? ⟨w.heap.size, 1, none⟩ = some (.int .i64 R.T) := by rw [hW1]; exact (((Kept.refl _).alloc _ _).alloc _ _).some (cell_new w _ _ _ 1 rfl)
  have t2 : W1.cell? ⟨w.heap.size, 2, none⟩ = some (.int .i64 R.K) := by rw [hW1]; exact (((Kept.refl _).alloc _ _).alloc _ _).some (cell_new w _ _ _ 2 rfl)
  have t3 : W1.cell? ⟨w.heap.size, 3, none⟩ = some (.int .i64 R.N) := by rw [hW1]; exact (((Kept.refl _).alloc _ _).alloc _ _).some (cell_new w _ _ _ 3 rfl)
  have a2 : W1.cell? ⟨w.heap.size + 1, 2, none⟩ = some (.int .i64 v) := by rw [hW1]; exact ((Kept.refl _).alloc _ _).some (cell_new _ _ _ _ 2 (by simp))
  have a3 : W1.cell? ⟨w.heap.size + 1, 3, none⟩ = some (.int .u64 h) := by rw [hW1]; exact ((Kept.refl _).alloc _ _).some (cell_new _ _ _ _ 3 (by simp))
  have p0 : W1.cell? ⟨w.heap.size + 1 + 1, 0, none⟩ = some (.pointer none) := by rw [hW1]; exact cell_new _ _ _ _ 0 (by simp)
  have p1 : W1.cell? ⟨w.heap.size + 1 + 1, 1, none⟩ = some (.pointer none) := by rw [hW1]; exact cell_new _ _ _ _ 1 (by simp)
  have p2 : W1.cell? ⟨w.heap.size + 1 + 1, 2, none⟩ = some (.pointer none) := by rw [hW1]; exact cell_new _ _ _ _ 2 (by simp)
  have p3 : W1.cell? ⟨w.heap.size + 1 + 1, 3, none⟩ = some (.pointer none) := by rw [hW1]; exact cell_new _ _ _ _ 3 (by simp)
  have p4 : W1.cell? ⟨w.heap.size + 1 + 1, 4, none⟩ = some (.pointer none) := by rw [hW1]; exact cell_new _ _ _ _ 4 (by simp)
  have p5 : W1.cell? ⟨w.heap.size + 1 + 1, 5, none⟩ = some (.pointer none) := by rw [hW1]; exact cell_new _ _ _ _ 5 (by simp)
  have f1 : ∀ i, W1.frozen? ⟨w.heap.size + 1 + 1, i, none⟩ = false := fun i => by rw [hW1, frozen?_alloc_cells, frozen?_alloc_cells, frozen?_alloc_cells]; exact frozen_out w _ _ (by omega)
  have k1 : Kept w W1 := by rw [hW1]; exact (((Kept.refl w).alloc _ _).alloc _ _).alloc _ _
  have z1 : W1.heap.size = w.heap.size + 3 := by rw [hW1]; simp
  rw [← hW1]
  have K1 := Lib.hid k1
  have Z1 := Lib.hid z1
  have ne1 : w.heap.size + 1 + 1 ≠ w.heap.size := by omega
  have ne2 : w.heap.size + 1 + 1 ≠ w.heap.size + 1 := by omega
  have F1 := Lib.hid f1
  clear hW1 k1 z1 f1
  go_region_held3 (fun w' => w'.cell? ⟨w.heap.size, 0, none⟩ = some (.int .i64 R.H) ∧ w'.cell? ⟨w.heap.size, 1, none⟩ = some (.int .i64 R.T) ∧ w'.cell? ⟨w.heap.size, 2, none⟩ = some (.int .i64 R.K) ∧ w'.cell? ⟨w.heap.size, 3, none⟩ = some (.int .i64 R.N) ∧ w'.cell? ⟨w.heap.size + 1, 2, none⟩ = some (.int .i64 v) ∧ w'.cell? ⟨w.heap.size + 1, 3, none⟩ = some (.int .u64 h)) (first | go_keep | (exact ⟨k3.some t0, k3.some t1, k3.some t2, k3.some t3, k3.some a2, k3.some a3⟩) | (exact ⟨e0, e1, e2, e3, e4, e5⟩) | (refine ⟨?_, ?_, ?_, ?_, ?_, ?_⟩ <;> (rw [cell_set_far _ _ _ _ _ _ (by omega), cell_set_far _ _ _ _ _ _ (by omega), cell_set_far _ _ _ _ _ _ (by omega), cell_set_far _ _ _ _ _ _ (by omega), cell_set_far _ _ _ _ _ _ (by omega), cell_set_far _ _ _ _ _ _ (by omega)]; assumption))) (first
    | (go_at_call 111; refine (PN _).out.mono ?_; rintro e u1 ⟨P, rfl, lP, gP, hp, k3⟩; have K3 : Kept W1 u1 := Kept.trans (b := _) (by first | exact Kept.refl _ | exact (Kept.refl _).drew | exact (Kept.refl _).drewN _) k3)
    | (go_at_call 112; refine (DN _).out.mono ?_; rintro e u2 ⟨Q, rfl, lQ, gQ, hq, k4⟩; have K34 : Kept u1 u2 := Kept.trans (b := _) (by first | exact Kept.refl _ | exact (Kept.refl _).drew | exact (Kept.refl _).drewN _) k4; have K4 : Kept W1 u2 := K3.trans K34; have q0 := K4.some p0; have q1 := K4.some p1; have q2 := K4.some p2; have q3 := K4.some p3; have q4 := K4.some p4; have q5 := K4.some p5; have e0 := K4.some t0; have e1 := K4.some t1; have e2 := K4.some t2; have e3 := K4.some t3; have e4 := K4.some a2; have e5 := K4.some a3; have pf : ∀ i, u2.frozen? ⟨w.heap.size + 1 + 1, i, none⟩ = false := fun i => K4.soft (by have := Z1.out; omega) (F1.out i)))
  have hPW : W1.heap.size ≤ P := lP
  have hQW : u1.heap.size ≤ Q := lQ
  have z3 := K3.size
  have zz := Z1.out
  have hp2 := hp.kept K34
  have hq2 := hq
  have KA := Lib.hid (K1.out.trans K4)
  have HP := Lib.hid hp2
  have HQ := Lib.hid hq2
  clear hp hq hp2 hq2 k3 k4 K34 K3 K4 lP lQ t0 t1 t2 t3 a2 a3 p0 p1 p2 p3 p4 p5
  go_wp2
  refine bodyPost_ret (v := .agg #[.pointer (some ⟨P, 0, none⟩), .pointer (some ⟨Q, 0, none⟩), .pointer none, .pointer none, .pointer none, .pointer none]) (by simp [results, Tryz.results48, go_sem, cell_set, *]) rfl ?_
  go_light
  have ka := KA.out
  refine ⟨.push xx P Q, newOwn own c P Q, rfl, newOwn_old (by omega) (by omega), ⟨HP.out.frame (T := fun k => k = w.heap.size + 1 + 1) (by repeat (first | (with_reducible exact But.refl _ _) | (with_reducible refine But.here ?_ _ _))) (by omega), HQ.out.frame (T' := fun k => k = w.heap.size + 1 + 1) (by repeat (first | (with_reducible exact But.refl _ _) | (with_reducible refine But.here ?_ _ _))) (by omega), GD.out, IX.out, newOwn_P, newOwn_Q (by omega)⟩, ?_⟩
  repeat (first | (with_reducible exact ka) | (with_reducible refine Kept.setCell ?_ (by simp; omega) _))

set_option maxHeartbeats 2000000 in
theorem begin_front (own : Nat → Nat) (c : Nat) (R : Rng) (n1 : 1 ≤ R.N) (n2 : R.N ≤ 4096) (co v h : Int) (h0 : 0 ≤ h) (h1 : h < 18446744073709551616) (w : World) : Calls Tryz.prog 48 #[.agg #[.int .i64 R.H, .int .i64 R.T, .int .i64 R.K, .int .i64 R.N], .agg #[.int .i64 co, .int .i64 2, .int .i64 v, .int .u64 h]] w (BegunPost own c R w) := by
  have PN := fun W => Lib.hid (newFront_yes R n1 n2 W)
  have DN := fun W => Lib.hid (rnewFront R W n1 n2)
  have GD := Lib.hid (frontNew_good : (frontNew : ROp).Good)
  have IX : Hid (isFront frontNew) := Lib.hid (⟨.inr (.inl rfl), fun _ => rfl⟩)
  generalize hxx : frontNew = xx at PN DN GD IX
  clear hxx h0 h1
  go_enter Tryz.func48, Tryz.ntmps48
  go_upto_region 5 with fail
  obtain ⟨W1, hW1⟩ : ∃ W1, W1 = ((w.alloc (.cells #[.int .i64 R.H, .int .i64 R.T, .int .i64 R.K, .int .i64 R.N] 114)).alloc (.cells #[.int .i64 co, .int .i64 2, .int .i64 v, .int .u64 h] 120)).alloc (.cells #[.pointer none, .pointer none, .pointer none, .pointer none, .pointer none, .pointer none] 128) := ⟨_, rfl⟩
  have t0 : W1.cell? ⟨w.heap.size, 0, none⟩ = some (.int .i64 R.H) := by rw [hW1]; exact (((Kept.refl _).alloc _ _).alloc _ _).some (cell_new w _ _ _ 0 rfl)
  have t1 : W1.cell? ⟨w.heap.size, 1, none⟩ = some (.int .i64 R.T) := by rw [hW1]; exact (((Kept.refl _).alloc _ _).alloc _ _).some (cell_new w _ _ _ 1 rfl)
  have t2 : W1.cell? ⟨w.heap.size, 2, none⟩ = some (.int .i64 R.K) := by rw [hW1]; exact (((Kept.refl _).alloc _ _).alloc _ _).some (cell_new w _ _ _ 2 rfl)
  have t3 : W1.cell? ⟨w.heap.size, 3, none⟩ = some (.int .i64 R.N) := by rw [hW1]; exact (((Kept.refl _).alloc _ _).alloc _ _).some (cell_new w _ _ _ 3 rfl)
  have a2 : W1.cell? ⟨w.heap.size + 1, 2, none⟩ = some (.int .i64 v) := by rw [hW1]; exact ((Kept.refl _).alloc _ _).some (cell_new _ _ _ _ 2 (by simp))
  have a3 : W1.cell? ⟨w.heap.size + 1, 3, none⟩ = some (.int .u64 h) := by rw [hW1]; exact ((Kept.refl _).alloc _ _).some (cell_new _ _ _ _ 3 (by simp))
  have p0 : W1.cell? ⟨w.heap.size + 1 + 1, 0, none⟩ = some (.pointer none) := by rw [hW1]; exact cell_new _ _ _ _ 0 (by simp)
  have p1 : W1.cell? ⟨w.heap.size + 1 + 1, 1, none⟩ = some (.pointer none) := by rw [hW1]; exact cell_new _ _ _ _ 1 (by simp)
  have p2 : W1.cell? ⟨w.heap.size + 1 + 1, 2, none⟩ = some (.pointer none) := by rw [hW1]; exact cell_new _ _ _ _ 2 (by simp)
  have p3 : W1.cell? ⟨w.heap.size + 1 + 1, 3, none⟩ = some (.pointer none) := by rw [hW1]; exact cell_new _ _ _ _ 3 (by simp)
  have p4 : W1.cell? ⟨w.heap.size + 1 + 1, 4, none⟩ = some (.pointer none) := by rw [hW1]; exact cell_new _ _ _ _ 4 (by simp)
  have p5 : W1.cell? ⟨w.heap.size + 1 + 1, 5, none⟩ = some (.pointer none) := by rw [hW1]; exact cell_new _ _ _ _ 5 (by simp)
  have f1 : ∀ i, W1.frozen? ⟨w.heap.size + 1 + 1, i, none⟩ = false := fun i => by rw [hW1, frozen?_alloc_cells, frozen?_alloc_cells, frozen?_alloc_cells]; exact frozen_out w _ _ (by omega)
  have k1 : Kept w W1 := by rw [hW1]; exact (((Kept.refl w).alloc _ _).alloc _ _).alloc _ _
  have z1 : W1.heap.size = w.heap.size + 3 := by rw [hW1]; simp
  rw [← hW1]
  have K1 := Lib.hid k1
  have Z1 := Lib.hid z1
  have ne1 : w.heap.size + 1 + 1 ≠ w.heap.size := by omega
  have ne2 : w.heap.size + 1 + 1 ≠ w.heap.size + 1 := by omega
  have F1 := Lib.hid f1
  clear hW1 k1 z1 f1
  go_region_held3 (fun w' => w'.cell? ⟨w.heap.size, 0, none⟩ = some (.int .i64 R.H) ∧ w'.cell? ⟨w.heap.size, 1, none⟩ = some (.int .i64 R.T) ∧ w'.cell? ⟨w.heap.size, 2, none⟩ = some (.int .i64 R.K) ∧ w'.cell? ⟨w.heap.size, 3, none⟩ = some (.int .i64 R.N) ∧ w'.cell? ⟨w.heap.size + 1, 2, none⟩ = some (.int .i64 v) ∧ w'.cell? ⟨w.heap.size + 1, 3, none⟩ = some (.int .u64 h)) (first | go_keep | (exact ⟨k3.some t0, k3.some t1, k3.some t2, k3.some t3, k3.some a2, k3.some a3⟩) | (exact ⟨e0, e1, e2, e3, e4, e5⟩) | (refine ⟨?_, ?_, ?_, ?_, ?_, ?_⟩ <;> (rw [cell_set_far _ _ _ _ _ _ (by omega), cell_set_far _ _ _ _ _ _ (by omega), cell_set_far _ _ _ _ _ _ (by omega), cell_set_far _ _ _ _ _ _ (by omega), cell_set_far _ _ _ _ _ _ (by omega), cell_set_far _ _ _ _ _ _ (by omega)]; assumption))) (first
    | (go_at_call 113; refine (PN _).out.mono ?_; rintro e u1 ⟨P, rfl, lP, gP, hp, k3⟩; have K3 : Kept W1 u1 := Kept.trans (b := _) (by first | exact Kept.refl _ | exact (Kept.refl _).drew | exact (Kept.refl _).drewN _) k3)
    | (go_at_call 114; refine (DN _).out.mono ?_; rintro e u2 ⟨Q, rfl, lQ, gQ, hq, k4⟩; have K34 : Kept u1 u2 := Kept.trans (b := _) (by first | exact Kept.refl _ | exact (Kept.refl _).drew | exact (Kept.refl _).drewN _) k4; have K4 : Kept W1 u2 := K3.trans K34; have q0 := K4.some p0; have q1 := K4.some p1; have q2 := K4.some p2; have q3 := K4.some p3; have q4 := K4.some p4; have q5 := K4.some p5; have e0 := K4.some t0; have e1 := K4.some t1; have e2 := K4.some t2; have e3 := K4.some t3; have e4 := K4.some a2; have e5 := K4.some a3; have pf : ∀ i, u2.frozen? ⟨w.heap.size + 1 + 1, i, none⟩ = false := fun i => K4.soft (by have := Z1.out; omega) (F1.out i)))
  have hPW : W1.heap.size ≤ P := lP
  have hQW : u1.heap.size ≤ Q := lQ
  have z3 := K3.size
  have zz := Z1.out
  have hp2 := hp.kept K34
  have hq2 := hq
  have KA := Lib.hid (K1.out.trans K4)
  have HP := Lib.hid hp2
  have HQ := Lib.hid hq2
  clear hp hq hp2 hq2 k3 k4 K34 K3 K4 lP lQ t0 t1 t2 t3 a2 a3 p0 p1 p2 p3 p4 p5
  go_wp2
  refine bodyPost_ret (v := .agg #[.pointer none, .pointer none, .pointer (some ⟨P, 0, none⟩), .pointer (some ⟨Q, 0, none⟩), .pointer none, .pointer none]) (by simp [results, Tryz.results48, go_sem, cell_set, *]) rfl ?_
  go_light
  have ka := KA.out
  refine ⟨.front xx P Q, newOwn own c P Q, rfl, newOwn_old (by omega) (by omega), ⟨HP.out.frame (T := fun k => k = w.heap.size + 1 + 1) (by repeat (first | (with_reducible exact But.refl _ _) | (with_reducible refine But.here ?_ _ _))) (by omega), HQ.out.frame (T' := fun k => k = w.heap.size + 1 + 1) (by repeat (first | (with_reducible exact But.refl _ _) | (with_reducible refine But.here ?_ _ _))) (by omega), GD.out, IX.out, newOwn_P, newOwn_Q (by omega)⟩, ?_⟩
  repeat (first | (with_reducible exact ka) | (with_reducible refine Kept.setCell ?_ (by simp; omega) _))

set_option maxHeartbeats 2000000 in
theorem begin_drop (own : Nat → Nat) (c : Nat) (R : Rng) (n1 : 1 ≤ R.N) (n2 : R.N ≤ 4096) (co v h : Int) (h0 : 0 ≤ h) (h1 : h < 18446744073709551616) (w : World) : Calls Tryz.prog 48 #[.agg #[.int .i64 R.H, .int .i64 R.T, .int .i64 R.K, .int .i64 R.N], .agg #[.int .i64 co, .int .i64 3, .int .i64 v, .int .u64 h]] w (BegunPost own c R w) := by
  have PN := fun W => Lib.hid (newDrop_yes R h n1 n2 W)
  have DN := fun W => Lib.hid (rnewDrop R h W n1 n2)
  have GD := Lib.hid ((dropNew_good h0 h1) : ((dropNew h) : ROp).Good)
  have IX : Hid (isDrop (dropNew h)) := Lib.hid ((.inr (.inl rfl)))
  generalize hxx : (dropNew h) = xx at PN DN GD IX
  clear hxx h0 h1
  go_enter Tryz.func48, Tryz.ntmps48
  go_upto_region 6 with fail
  obtain ⟨W1, hW1⟩ : ∃ W1, W1 = ((w.alloc (.cells #[.int .i64 R.H, .int .i64 R.T, .int .i64 R.K, .int .i64 R.N] 114)).alloc (.cells #[.int .i64 co, .int .i64 3, .int .i64 v, .int .u64 h] 120)).alloc (.cells #[.pointer none, .pointer none, .pointer none, .pointer none, .pointer none, .pointer none] 128) := ⟨_, rfl⟩
  have t0 : W1.cell? ⟨w.heap.size, 0, none⟩ = some (.int .i64 R.H) := by rw [hW1]; exact (((Kept.refl _).alloc _ _).alloc _ _).some (cell_new w _ _ _ 0 rfl)
  have t1 : W1.cell? ⟨w.heap.size, 1, none⟩ = some (.int .i64 R.T) := by rw [hW1]; exact (((Kept.refl _).alloc _ _).alloc _ _).some (cell_new w _ _ _ 1 rfl)
  have t2 : W1.cell? ⟨w.heap.size, 2, none⟩ = some (.int .i64 R.K) := by rw [hW1]; exact (((Kept.refl _).alloc _ _).alloc _ _).some (cell_new w _ _ _ 2 rfl)
  have t3 : W1.cell? ⟨w.heap.size, 3, none⟩ = some (.int .i64 R.N) := by rw [hW1]; exact (((Kept.refl _).alloc _ _).alloc _ _).some (cell_new w _ _ _ 3 rfl)
  have a2 : W1.cell? ⟨w.heap.size + 1, 2, none⟩ = some (.int .i64 v) := by rw [hW1]; exact ((Kept.refl _).alloc _ _).some (cell_new _ _ _ _ 2 (by simp))
  have a3 : W1.cell? ⟨w.heap.size + 1, 3, none⟩ = some (.int .u64 h) := by rw [hW1]; exact ((Kept.refl _).alloc _ _).some (cell_new _ _ _ _ 3 (by simp))
  have p0 : W1.cell? ⟨w.heap.size + 1 + 1, 0, none⟩ = some (.pointer none) := by rw [hW1]; exact cell_new _ _ _ _ 0 (by simp)
  have p1 : W1.cell? ⟨w.heap.size + 1 + 1, 1, none⟩ = some (.pointer none) := by rw [hW1]; exact cell_new _ _ _ _ 1 (by simp)
  have p2 : W1.cell? ⟨w.heap.size + 1 + 1, 2, none⟩ = some (.pointer none) := by rw [hW1]; exact cell_new _ _ _ _ 2 (by simp)
  have p3 : W1.cell? ⟨w.heap.size + 1 + 1, 3, none⟩ = some (.pointer none) := by rw [hW1]; exact cell_new _ _ _ _ 3 (by simp)
  have p4 : W1.cell? ⟨w.heap.size + 1 + 1, 4, none⟩ = some (.pointer none) := by rw [hW1]; exact cell_new _ _ _ _ 4 (by simp)
  have p5 : W1.cell? ⟨w.heap.size + 1 + 1, 5, none⟩ = some (.pointer none) := by rw [hW1]; exact cell_new _ _ _ _ 5 (by simp)
  have f1 : ∀ i, W1.frozen? ⟨w.heap.size + 1 + 1, i, none⟩ = false := fun i => by rw [hW1, frozen?_alloc_cells, frozen?_alloc_cells, frozen?_alloc_cells]; exact frozen_out w _ _ (by omega)
  have k1 : Kept w W1 := by rw [hW1]; exact (((Kept.refl w).alloc _ _).alloc _ _).alloc _ _
  have z1 : W1.heap.size = w.heap.size + 3 := by rw [hW1]; simp
  rw [← hW1]
  have K1 := Lib.hid k1
  have Z1 := Lib.hid z1
  have ne1 : w.heap.size + 1 + 1 ≠ w.heap.size := by omega
  have ne2 : w.heap.size + 1 + 1 ≠ w.heap.size + 1 := by omega
  have F1 := Lib.hid f1
  clear hW1 k1 z1 f1
  go_region_held3 (fun w' => w'.cell? ⟨w.heap.size, 0, none⟩ = some (.int .i64 R.H) ∧ w'.cell? ⟨w.heap.size, 1, none⟩ = some (.int .i64 R.T) ∧ w'.cell? ⟨w.heap.size, 2, none⟩ = some (.int .i64 R.K) ∧ w'.cell? ⟨w.heap.size, 3, none⟩ = some (.int .i64 R.N) ∧ w'.cell? ⟨w.heap.size + 1, 2, none⟩ = some (.int .i64 v) ∧ w'.cell? ⟨w.heap.size + 1, 3, none⟩ = some (.int .u64 h)) (first | go_keep | (exact ⟨k3.some t0, k3.some t1, k3.some t2, k3.some t3, k3.some a2, k3.some a3⟩) | (exact ⟨e0, e1, e2, e3, e4, e5⟩) | (refine ⟨?_, ?_, ?_, ?_, ?_, ?_⟩ <;> (rw [cell_set_far _ _ _ _ _ _ (by omega), cell_set_far _ _ _ _ _ _ (by omega), cell_set_far _ _ _ _ _ _ (by omega), cell_set_far _ _ _ _ _ _ (by omega), cell_set_far _ _ _ _ _ _ (by omega), cell_set_far _ _ _ _ _ _ (by omega)]; assumption))) (first
    | (go_at_call 115; refine (PN _).out.mono ?_; rintro e u1 ⟨P, rfl, lP, gP, hp, k3⟩; have K3 : Kept W1 u1 := Kept.trans (b := _) (by first | exact Kept.refl _ | exact (Kept.refl _).drew | exact (Kept.refl _).drewN _) k3)
    | (go_at_call 116; refine (DN _).out.mono ?_; rintro e u2 ⟨Q, rfl, lQ, gQ, hq, k4⟩; have K34 : Kept u1 u2 := Kept.trans (b := _) (by first | exact Kept.refl _ | exact (Kept.refl _).drew | exact (Kept.refl _).drewN _) k4; have K4 : Kept W1 u2 := K3.trans K34; have q0 := K4.some p0; have q1 := K4.some p1; have q2 := K4.some p2; have q3 := K4.some p3; have q4 := K4.some p4; have q5 := K4.some p5; have e0 := K4.some t0; have e1 := K4.some t1; have e2 := K4.some t2; have e3 := K4.some t3; have e4 := K4.some a2; have e5 := K4.some a3; have pf : ∀ i, u2.frozen? ⟨w.heap.size + 1 + 1, i, none⟩ = false := fun i => K4.soft (by have := Z1.out; omega) (F1.out i)))
  have hPW : W1.heap.size ≤ P := lP
  have hQW : u1.heap.size ≤ Q := lQ
  have z3 := K3.size
  have zz := Z1.out
  have hp2 := hp.kept K34
  have hq2 := hq
  have KA := Lib.hid (K1.out.trans K4)
  have HP := Lib.hid hp2
  have HQ := Lib.hid hq2
  clear hp hq hp2 hq2 k3 k4 K34 K3 K4 lP lQ t0 t1 t2 t3 a2 a3 p0 p1 p2 p3 p4 p5
  go_wp2
  refine bodyPost_ret (v := .agg #[.pointer none, .pointer none, .pointer none, .pointer none, .pointer (some ⟨P, 0, none⟩), .pointer (some ⟨Q, 0, none⟩)]) (by simp [results, Tryz.results48, go_sem, cell_set, *]) rfl ?_
  go_light
  have ka := KA.out
  refine ⟨.drop xx P Q, newOwn own c P Q, rfl, newOwn_old (by omega) (by omega), ⟨HP.out.frame (T := fun k => k = w.heap.size + 1 + 1) (by repeat (first | (with_reducible exact But.refl _ _) | (with_reducible refine But.here ?_ _ _))) (by omega), HQ.out.frame (T' := fun k => k = w.heap.size + 1 + 1) (by repeat (first | (with_reducible exact But.refl _ _) | (with_reducible refine But.here ?_ _ _))) (by omega), GD.out, IX.out, newOwn_P, newOwn_Q (by omega)⟩, ?_⟩
  repeat (first | (with_reducible exact ka) | (with_reducible refine Kept.setCell ?_ (by simp; omega) _))

theorem begin_any (own : Nat → Nat) (c : Nat) (R : Rng) (n1 : 1 ≤ R.N) (n2 : R.N ≤ 4096) (co wh v h : Int) (h0 : 0 ≤ h) (hh : h < 18446744073709551616) (h1 : 1 ≤ wh) (h3 : wh ≤ 3) (w : World) : Calls Tryz.prog 48 #[.agg #[.int .i64 R.H, .int .i64 R.T, .int .i64 R.K, .int .i64 R.N], .agg #[.int .i64 co, .int .i64 wh, .int .i64 v, .int .u64 h]] w (BegunPost own c R w) := by
  have hc : wh = 1 ∨ wh = 2 ∨ wh = 3 := by omega
  rcases hc with rfl | rfl | rfl
  · exact begin_push own c R n1 n2 co v h h0 hh w
  · exact begin_front own c R n1 n2 co v h h0 hh w
  · exact begin_drop own c R n1 n2 co v h h0 hh w
end Go.Proofs.YtlfdiffbepfgbaaGreat.Ri

namespace Go.Proofs.YtlfdiffbepfgbaaGreat.Ri
set_option maxRecDepth 20000
open Go.RowKit
open Wo (St acc wordAt PMem RefIs)
open Sk (Wd p_store pmem_lt pmem_kept pmem_frame)

def fillTo (n : Nat) (R : Rng) (s : St) : Nat → St
  | 0 => acc n (acc n s 2 R.H true 0) 2 R.T true 0
  | k + 1 => acc n (fillTo n R s k) 2 (R.K + k) true 0
def fillSt (n : Nat) (R : Rng) (s : St) : St := fillTo n R s R.N.toNat
theorem fillTo_cnt (n : Nat) (R : Rng) (s : St) : ∀ k : Nat, (fillTo n R s k).cnt = s.cnt + 2 + k
  | 0 => by show (acc n (acc n s 2 R.H true 0) 2 R.T true 0).cnt = _; rw [Sk.acc_cnt, Sk.acc_cnt]; omega
  | k + 1 => by show (acc n (fillTo n R s k) 2 (R.K + k) true 0).cnt = _; rw [Sk.acc_cnt, fillTo_cnt n R s k]; omega
theorem fillTo_wd {n : Nat} {R : Rng} {s : St} (h : Wd n s) : ∀ k : Nat, Wd n (fillTo n R s k)
  | 0 => (h.acc _ _ _ _ (by omega) (by omega)).acc _ _ _ _ (by omega) (by omega)
  | k + 1 => (fillTo_wd h k).acc _ _ _ _ (by omega) (by omega)
theorem acc_zero {n : Nat} {s : St} {a : Int} (j : Nat) (h : s.ws j = 0) : (acc n s 2 a true 0).ws j = 0 := by
  unfold acc
  split
  · simp only [if_true]; split <;> first | rfl | exact h
  · exact h
theorem fillTo_zero {n : Nat} {R : Rng} {s : St} (j : Nat) (h : s.ws j = 0) : ∀ k : Nat, (fillTo n R s k).ws j = 0
  | 0 => acc_zero j (acc_zero j h)
  | k + 1 => acc_zero j (fillTo_zero j h k)

set_option maxHeartbeats 2000000 in
theorem p_fill (M B n : Nat) (R : Rng) (s : St) (w : World) (hm : PMem w M B n s) (h0 : 0 ≤ s.cnt) (h1 : s.cnt ≤ 900000) (hR : R.Ok n) :
    Calls Tryz.prog 109 #[ringV R, .pointer (some ⟨M, 0, none⟩)] w fun e w' => e = .returned (.tuple #[]) ∧ PMem w' M B n (fillSt n R s) ∧ But (fun k => k = B) w w' := by
  have N1 := hR.N1
  have N2 := hR.N2
  have K1 := hR.K1
  have K2 := hR.K2
  have n2 := hR.n2
  have hB := pmem_lt hm
  have SZ : ∀ W, Hid (Calls Tryz.prog 104 #[ringV R] W fun e w' => e = .returned (.bool true) ∧ Kept W w') := fun W => Lib.hid (by have := sized_any R W; rwa [show decide (1 ≤ R.N ∧ R.N ≤ 4096) = true from by simp; omega] at this)
  have C2 : ∀ k : Nat, k ≤ 4096 → 0 ≤ (fillTo n R s k).cnt ∧ (fillTo n R s k).cnt ≤ 1000000 := fun k hk => by rw [fillTo_cnt]; omega
  have HC2 := Lib.hid C2
  have CA : Hid (0 ≤ (acc n s 2 R.H true 0).cnt ∧ (acc n s 2 R.H true 0).cnt ≤ 1000000) := Lib.hid (by rw [Sk.acc_cnt]; omega)
  have hne : w.heap.size ≠ B := by omega
  have HM := Lib.hid hm
  clear hm hR C2
  go_enter Tryz.func109, Tryz.ntmps109
  go_wp2_with fail
  refine (SZ _).out.mono ?_
  rintro e w1 ⟨rfl, k1⟩
  have a0 : w1.cell? ⟨w.heap.size, 0, none⟩ = some (.int .i64 R.H) := k1.some (by simp)
  have a1 : w1.cell? ⟨w.heap.size, 1, none⟩ = some (.int .i64 R.T) := k1.some (by simp)
  have a2 : w1.cell? ⟨w.heap.size, 2, none⟩ = some (.int .i64 R.K) := k1.some (by simp)
  have a3 : w1.cell? ⟨w.heap.size, 3, none⟩ = some (.int .i64 R.N) := k1.some (by simp)
  have KT : Hid (Kept w w1) := Lib.hid (((Kept.refl w).alloc _ _).trans k1)
  clear k1
  go_wp2_with fail
  refine (p_store M B n s R.H 0 _ (pmem_kept HM.out KT.out) h0 (by omega)).mono ?_
  rintro e w2 ⟨rfl, m2, b2⟩
  have a0 := b2.some a0 hne
  have a1 := b2.some a1 hne
  have a2 := b2.some a2 hne
  have a3 := b2.some a3 hne
  have M2 := Lib.hid m2
  have B2 := Lib.hid ((KT.out.but (fun k => k = B)).trans b2 (fun _ _ h => h))
  clear m2 b2 KT
  go_wp2_with fail
  refine (p_store M B n _ R.T 0 _ M2.out CA.out.1 CA.out.2).mono ?_
  rintro e w3 ⟨rfl, m3, b3⟩
  have a0 := b3.some a0 hne
  have a1 := b3.some a1 hne
  have a2 := b3.some a2 hne
  have a3 := b3.some a3 hne
  have M3 : Hid (PMem w3 M B n (fillTo n R s 0)) := Lib.hid m3
  have B3 := Lib.hid (B2.out.trans b3 (fun _ _ h => h))
  obtain ⟨m, hmm⟩ : ∃ m : Nat, (m : Int) = R.N := ⟨R.N.toNat, by omega⟩
  have HMM := Lib.hid hmm
  clear m3 b3 B2 M2 hmm
  go_wp2_with fail
  go_loopw [18, 4] (fun i _ wr => ∃ k : Nat, k ≤ m ∧ i = .int .i64 k ∧ PMem wr M B n (fillTo n R s k) ∧ But (fun k => k = B) w3 wr) (fun i _ _ => m - (intOf i).toNat)
  case atStart => exact ⟨0, Nat.zero_le _, rfl, M3.out, But.refl _ _⟩
  case round =>
    obtain ⟨k, hk, rfl, mr, br⟩ := hrel
    have e0 := br.some a0 hne
    have e1 := br.some a1 hne
    have e2 := br.some a2 hne
    have e3 := br.some a3 hne
    have hmm := HMM.out
    have MR := Lib.hid mr
    have BR := Lib.hid br
    have hc := Lib.hid (HC2.out k (by omega))
    clear mr br a0 a1 a2 a3
    by_cases hlt : k < m
    · have hl : (k : Int) < R.N := by omega
      have ST : ∀ W, Hid (PMem W M B n (fillTo n R s k) → Calls Tryz.prog 78 #[.pointer (some ⟨M, 0, none⟩), .int .i64 (R.K + (k : Int)), .int .u64 0] W fun e w' => e = .returned (.tuple #[]) ∧ PMem w' M B n (fillTo n R s (k + 1)) ∧ But (fun k => k = B) W w') := fun W => Lib.hid (fun m => p_store M B n _ (R.K + (k : Int)) 0 W m hc.out.1 hc.out.2)
      clear hmm
      go_wp2_with fail
      refine ((ST _).out MR.out).mono ?_
      rintro e w7 ⟨rfl, m7, b7⟩
      have M7 := Lib.hid m7
      have B7 := Lib.hid (BR.out.trans b7 (fun _ _ h => h))
      clear m7 b7
      go_wp2
      go_roundw
      case rel => exact ⟨k + 1, by omega, by go_num, M7.out, B7.out⟩
      case measure => simp [intOf]; omega
    · have hl : R.N ≤ (k : Int) := by omega
      have hkm : k = R.N.toNat := by omega
      have HKM := Lib.hid hkm
      clear hmm hkm
      go_wp2
      go_end0
      refine ⟨rfl, ?_, B3.out.trans BR.out (fun _ _ h => h)⟩
      have := MR.out
      rw [HKM.out] at this
      exact this
end Go.Proofs.YtlfdiffbepfgbaaGreat.Ri
