/- 'begin': a core begins an operation, twice. Written by gen11b.py. -/
import Derived.Test.YtbonnfofoepjcaaGreatG26
import Derived.Test.YtbonnfofoepjcaaGreatG16
import Derived.Test.YtbonnfofoepjcaaGreatG19
import Derived.Deep.RegionHeld3
import Derived.WalkKit
set_option linter.unusedVariables false
set_option linter.unusedSimpArgs false

namespace Go.Proofs.YtbonnfofoepjcaaGreat.Sk
set_option maxRecDepth 20000
open Go.RowKit
open Wo (St acc wordAt PMem RefIs)

def ABegun (own : Nat → Nat) (c : Nat) (A : Arn) (w : World) (e : Ending) (w' : World) : Prop :=
  ∃ (p : AP) (own' : Nat → Nat), e = .returned (.agg p.cells.toArray) ∧ (∀ k, k < w.heap.size → own' k = own k) ∧ p.Is own' c A w' ∧ Kept w w'
theorem afrozen_out (w : World) (b i : Nat) (h : w.heap.size ≤ b) : w.frozen? ⟨b, i, none⟩ = false := by
  simp [World.frozen?, Array.getElem?_eq_none h]
def anewOwn (own : Nat → Nat) (c P Q R : Nat) (k : Nat) : Nat := if k = P then 10 + 2 * c else if k = Q then 11 + 2 * c else if k = R then 11 + 2 * c else own k
theorem anewOwn_old {own : Nat → Nat} {c P Q R n : Nat} (hP : n ≤ P) (hQ : n ≤ Q) (hR : n ≤ R) : ∀ k, k < n → anewOwn own c P Q R k = own k := fun k hk => by
  unfold anewOwn; rw [if_neg (by omega), if_neg (by omega), if_neg (by omega)]
theorem anewOwn_P {own : Nat → Nat} {c P Q R : Nat} : anewOwn own c P Q R P = 10 + 2 * c := by unfold anewOwn; rw [if_pos rfl]
theorem anewOwn_Q {own : Nat → Nat} {c P Q R : Nat} (h : P ≠ Q) : anewOwn own c P Q R Q = 11 + 2 * c := by unfold anewOwn; rw [if_neg (Ne.symm h), if_pos rfl]
theorem anewOwn_R {own : Nat → Nat} {c P Q R : Nat} (h : P ≠ R) : anewOwn own c P Q R R = 11 + 2 * c := by
  unfold anewOwn; rw [if_neg (Ne.symm h)]
  by_cases e : R = Q
  · rw [if_pos e]
  · rw [if_neg e, if_pos rfl]

set_option maxHeartbeats 2000000 in
theorem abegin_al (own : Nat → Nat) (c : Nat) (A : Arn) (co wh i : Int) (hwh : wh = 1) (w : World) : Calls Tryz.prog 17 #[.agg #[.int .i64 A.F.T, .int .i64 A.F.K, .int .i64 A.F.N, .int .i64 A.G, .int .i64 A.V, .int .i64 A.L], .agg #[.int .i64 co, .int .i64 1, .int .i64 i]] w (ABegun own c A w) := by
  have HN1 := fun W => Lib.hid (newAlloc_any A W)
  have HN2 := fun W => Lib.hid (dnewAlloc_any A W)
  have GG : Hid (AGood A AOp.new) := Lib.hid (new_good A)
  go_enter Tryz.func17, Tryz.ntmps17
  go_wp2_with fail
  obtain ⟨W1, hW1⟩ : ∃ W1, W1 = ((w.alloc (.cells #[.int .i64 A.F.T, .int .i64 A.F.K, .int .i64 A.F.N, .int .i64 A.G, .int .i64 A.V, .int .i64 A.L] 25)).alloc (.cells #[.int .i64 co, .int .i64 1, .int .i64 i] 38)).alloc (.cells #[.pointer none, .pointer none, .pointer none, .pointer none] 44) := ⟨_, rfl⟩
  have t0 : W1.cell? ⟨w.heap.size, 0, none⟩ = some (.int .i64 A.F.T) := by rw [hW1]; exact (((Kept.refl _).alloc _ _).alloc _ _).some (cell_new w _ _ _ 0 rfl)
  have t1 : W1.cell? ⟨w.heap.size, 1, none⟩ = some (.int .i64 A.F.K) := by rw [hW1]; exact (((Kept.refl _).alloc _ _).alloc _ _).some (cell_new w _ _ _ 1 rfl)
  have t2 : W1.cell? ⟨w.heap.size, 2, none⟩ = some (.int .i64 A.F.N) := by rw [hW1]; exact (((Kept.refl _).alloc _ _).alloc _ _).some (cell_new w _ _ _ 2 rfl)
  have t3 : W1.cell? ⟨w.heap.size, 3, none⟩ = some (.int .i64 A.G) := by rw [hW1]; exact (((Kept.refl _).alloc _ _).alloc _ _).some (cell_new w _ _ _ 3 rfl)
  have t4 : W1.cell? ⟨w.heap.size, 4, none⟩ = some (.int .i64 A.V) := by rw [hW1]; exact (((Kept.refl _).alloc _ _).alloc _ _).some (cell_new w _ _ _ 4 rfl)
  have t5 : W1.cell? ⟨w.heap.size, 5, none⟩ = some (.int .i64 A.L) := by rw [hW1]; exact (((Kept.refl _).alloc _ _).alloc _ _).some (cell_new w _ _ _ 5 rfl)
  have a2 : W1.cell? ⟨w.heap.size + 1, 2, none⟩ = some (.int .i64 i) := by rw [hW1]; exact ((Kept.refl _).alloc _ _).some (cell_new _ _ _ _ 2 (by simp))
  have p0 : W1.cell? ⟨w.heap.size + 1 + 1, 0, none⟩ = some (.pointer none) := by rw [hW1]; exact cell_new _ _ _ _ 0 (by simp)
  have p1 : W1.cell? ⟨w.heap.size + 1 + 1, 1, none⟩ = some (.pointer none) := by rw [hW1]; exact cell_new _ _ _ _ 1 (by simp)
  have p2 : W1.cell? ⟨w.heap.size + 1 + 1, 2, none⟩ = some (.pointer none) := by rw [hW1]; exact cell_new _ _ _ _ 2 (by simp)
  have p3 : W1.cell? ⟨w.heap.size + 1 + 1, 3, none⟩ = some (.pointer none) := by rw [hW1]; exact cell_new _ _ _ _ 3 (by simp)
  have f1 : ∀ i, W1.frozen? ⟨w.heap.size + 1 + 1, i, none⟩ = false := fun i => by rw [hW1, frozen?_alloc_cells, frozen?_alloc_cells, frozen?_alloc_cells]; exact afrozen_out w _ _ (by omega)
  have k1 : Kept w W1 := by rw [hW1]; exact (((Kept.refl w).alloc _ _).alloc _ _).alloc _ _
  have z1 : W1.heap.size = w.heap.size + 3 := by rw [hW1]; simp
  rw [← hW1]
  have K1 := Lib.hid k1
  have Z1 := Lib.hid z1
  have ne1 : w.heap.size + 1 + 1 ≠ w.heap.size := by omega
  have ne2 : w.heap.size + 1 + 1 ≠ w.heap.size + 1 := by omega
  have F1 := Lib.hid f1
  clear hW1 k1 z1 f1
  have KT : Kept W1 W1 := Kept.refl _
  have e0 := t0
  go_region_held3 (fun w' => w'.cell? ⟨w.heap.size, 0, none⟩ = some (.int .i64 A.F.T) ∧ w'.cell? ⟨w.heap.size, 1, none⟩ = some (.int .i64 A.F.K) ∧ w'.cell? ⟨w.heap.size, 2, none⟩ = some (.int .i64 A.F.N) ∧ w'.cell? ⟨w.heap.size, 3, none⟩ = some (.int .i64 A.G) ∧ w'.cell? ⟨w.heap.size, 4, none⟩ = some (.int .i64 A.V) ∧ w'.cell? ⟨w.heap.size, 5, none⟩ = some (.int .i64 A.L) ∧ w'.cell? ⟨w.heap.size + 1, 2, none⟩ = some (.int .i64 i)) (first | (with_reducible exact ⟨KT.some t0, KT.some t1, KT.some t2, KT.some t3, KT.some t4, KT.some t5, KT.some a2⟩) | (refine ⟨?_, ?_, ?_, ?_, ?_, ?_, ?_⟩ <;> (rw [cell_set_far _ _ _ _ _ _ (by omega), cell_set_far _ _ _ _ _ _ (by omega), cell_set_far _ _ _ _ _ _ (by omega), cell_set_far _ _ _ _ _ _ (by omega)]; first | exact KT.some t0 | exact KT.some t1 | exact KT.some t2 | exact KT.some t3 | exact KT.some t4 | exact KT.some t5 | exact KT.some a2)) | go_keep) (first
    | (go_at_call 61; refine (HN1 _).out.mono ?_; rintro e u1 ⟨P, rfl, lP, gP, hp, k3⟩; have KT : Kept W1 u1 := Kept.trans (b := _) (by first | exact KT | exact KT.drew | exact KT.drewN _) k3; have lP : W1.heap.size ≤ P := lP)
    | (go_at_call 75; refine (HN2 _).out.mono ?_; rintro e u2 ⟨Q, R, rfl, lQ, lR, hq, k4⟩; have lQ : u1.heap.size ≤ Q := lQ; have lR : u1.heap.size ≤ R := lR; have K34 : Kept u1 u2 := Kept.trans (b := _) (by first | exact Kept.refl _ | exact (Kept.refl _).drew | exact (Kept.refl _).drewN _) k4; have KT : Kept W1 u2 := KT.trans K34; have q0 := KT.some p0; have q1 := KT.some p1; have q2 := KT.some p2; have q3 := KT.some p3; have pf : ∀ i, u2.frozen? ⟨w.heap.size + 1 + 1, i, none⟩ = false := fun i => KT.soft (by have := Z1.out; omega) (F1.out i)))
  have zz := Z1.out
  have z3 := k3.size
  have KA := Lib.hid (K1.out.trans KT)
  have HP := Lib.hid (hp.kept K34)
  have HQ := Lib.hid hq
  have hl := hq.lt
  have hlP := hp.lt
  have hlP2 := K34.size
  clear hp hq k3 k4 K34 KT t0 t1 t2 t3 t4 t5 a2 p0 p1 p2 p3 e0
  go_wp2
  refine bodyPost_ret (v := .agg #[.pointer (some ⟨P, 0, none⟩), .pointer (some ⟨Q, 0, none⟩), .pointer none, .pointer none]) (by simp [results, Tryz.results17, go_sem, cell_set, *]) rfl ?_
  go_light
  have ka := KA.out
  refine ⟨.al AOp.new P Q R, anewOwn own c P Q R, rfl, anewOwn_old (by omega) (by omega) (by omega), ⟨HP.out.frame (T := fun k => k = w.heap.size + 1 + 1) (by repeat (first | (with_reducible exact But.refl _ _) | (with_reducible refine But.here ?_ _ _))) (by omega), HQ.out.frame (T := fun k => k = w.heap.size + 1 + 1) (by repeat (first | (with_reducible exact But.refl _ _) | (with_reducible refine But.here ?_ _ _))) (by omega) (by omega), GG.out, anewOwn_P, anewOwn_Q (by omega), anewOwn_R (by omega)⟩, ?_⟩
  repeat (first | (with_reducible exact ka) | (with_reducible refine Kept.setCell ?_ (by simp; omega) _))

set_option maxHeartbeats 2000000 in
theorem abegin_in (own : Nat → Nat) (c : Nat) (A : Arn) (co wh i : Int) (hwh : (wh == 1) = false) (h0 : 0 ≤ i) (h1 : i < A.F.N) (h2 : i ≤ 65534) (w : World) : Calls Tryz.prog 17 #[.agg #[.int .i64 A.F.T, .int .i64 A.F.K, .int .i64 A.F.N, .int .i64 A.G, .int .i64 A.V, .int .i64 A.L], .agg #[.int .i64 co, .int .i64 wh, .int .i64 i]] w (ABegun own c A w) := by
  have HN1 := fun W => Lib.hid (newFree_in A i h0 h1 h2 W)
  have HN2 := fun W => Lib.hid (dnewFree_in A i h0 h1 W)
  have GG : Hid (FGood A i FOp.new) := Lib.hid (fnew_good A i h0 h1)
  clear h0 h1 h2
  go_enter Tryz.func17, Tryz.ntmps17
  go_wp2_with fail
  obtain ⟨W1, hW1⟩ : ∃ W1, W1 = ((w.alloc (.cells #[.int .i64 A.F.T, .int .i64 A.F.K, .int .i64 A.F.N, .int .i64 A.G, .int .i64 A.V, .int .i64 A.L] 25)).alloc (.cells #[.int .i64 co, .int .i64 wh, .int .i64 i] 38)).alloc (.cells #[.pointer none, .pointer none, .pointer none, .pointer none] 44) := ⟨_, rfl⟩
  have t0 : W1.cell? ⟨w.heap.size, 0, none⟩ = some (.int .i64 A.F.T) := by rw [hW1]; exact (((Kept.refl _).alloc _ _).alloc _ _).some (cell_new w _ _ _ 0 rfl)
  have t1 : W1.cell? ⟨w.heap.size, 1, none⟩ = some (.int .i64 A.F.K) := by rw [hW1]; exact (((Kept.refl _).alloc _ _).alloc _ _).some (cell_new w _ _ _ 1 rfl)
  have t2 : W1.cell? ⟨w.heap.size, 2, none⟩ = some (.int .i64 A.F.N) := by rw [hW1]; exact (((Kept.refl _).alloc _ _).alloc _ _).some (cell_new w _ _ _ 2 rfl)
  have t3 : W1.cell? ⟨w.heap.size, 3, none⟩ = some (.int .i64 A.G) := by rw [hW1]; exact (((Kept.refl _).alloc _ _).alloc _ _).some (cell_new w _ _ _ 3 rfl)
  have t4 : W1.cell? ⟨w.heap.size, 4, none⟩ = some (.int .i64 A.V) := by rw [hW1]; exact (((Kept.refl _).alloc _ _).alloc _ _).some (cell_new w _ _ _ 4 rfl)
  have t5 : W1.cell? ⟨w.heap.size, 5, none⟩ = some (.int .i64 A.L) := by rw [hW1]; exact (((Kept.refl _).alloc _ _).alloc _ _).some (cell_new w _ _ _ 5 rfl)
  have a2 : W1.cell? ⟨w.heap.size + 1, 2, none⟩ = some (.int .i64 i) := by rw [hW1]; exact ((Kept.refl _).alloc _ _).some (cell_new _ _ _ _ 2 (by simp))
  have p0 : W1.cell? ⟨w.heap.size + 1 + 1, 0, none⟩ = some (.pointer none) := by rw [hW1]; exact cell_new _ _ _ _ 0 (by simp)
  have p1 : W1.cell? ⟨w.heap.size + 1 + 1, 1, none⟩ = some (.pointer none) := by rw [hW1]; exact cell_new _ _ _ _ 1 (by simp)
  have p2 : W1.cell? ⟨w.heap.size + 1 + 1, 2, none⟩ = some (.pointer none) := by rw [hW1]; exact cell_new _ _ _ _ 2 (by simp)
  have p3 : W1.cell? ⟨w.heap.size + 1 + 1, 3, none⟩ = some (.pointer none) := by rw [hW1]; exact cell_new _ _ _ _ 3 (by simp)
  have f1 : ∀ i, W1.frozen? ⟨w.heap.size + 1 + 1, i, none⟩ = false := fun i => by rw [hW1, frozen?_alloc_cells, frozen?_alloc_cells, frozen?_alloc_cells]; exact afrozen_out w _ _ (by omega)
  have k1 : Kept w W1 := by rw [hW1]; exact (((Kept.refl w).alloc _ _).alloc _ _).alloc _ _
  have z1 : W1.heap.size = w.heap.size + 3 := by rw [hW1]; simp
  rw [← hW1]
  have K1 := Lib.hid k1
  have Z1 := Lib.hid z1
  have ne1 : w.heap.size + 1 + 1 ≠ w.heap.size := by omega
  have ne2 : w.heap.size + 1 + 1 ≠ w.heap.size + 1 := by omega
  have F1 := Lib.hid f1
  clear hW1 k1 z1 f1
  have KT : Kept W1 W1 := Kept.refl _
  have e0 := t0
  go_region_held3 (fun w' => w'.cell? ⟨w.heap.size, 0, none⟩ = some (.int .i64 A.F.T) ∧ w'.cell? ⟨w.heap.size, 1, none⟩ = some (.int .i64 A.F.K) ∧ w'.cell? ⟨w.heap.size, 2, none⟩ = some (.int .i64 A.F.N) ∧ w'.cell? ⟨w.heap.size, 3, none⟩ = some (.int .i64 A.G) ∧ w'.cell? ⟨w.heap.size, 4, none⟩ = some (.int .i64 A.V) ∧ w'.cell? ⟨w.heap.size, 5, none⟩ = some (.int .i64 A.L) ∧ w'.cell? ⟨w.heap.size + 1, 2, none⟩ = some (.int .i64 i)) (first | (with_reducible exact ⟨KT.some t0, KT.some t1, KT.some t2, KT.some t3, KT.some t4, KT.some t5, KT.some a2⟩) | (refine ⟨?_, ?_, ?_, ?_, ?_, ?_, ?_⟩ <;> (rw [cell_set_far _ _ _ _ _ _ (by omega), cell_set_far _ _ _ _ _ _ (by omega), cell_set_far _ _ _ _ _ _ (by omega), cell_set_far _ _ _ _ _ _ (by omega)]; first | exact KT.some t0 | exact KT.some t1 | exact KT.some t2 | exact KT.some t3 | exact KT.some t4 | exact KT.some t5 | exact KT.some a2)) | go_keep) (first
    | (go_at_call 26; refine (HN1 _).out.mono ?_; rintro e u1 ⟨P, rfl, lP, gP, hp, k3⟩; have KT : Kept W1 u1 := Kept.trans (b := _) (by first | exact KT | exact KT.drew | exact KT.drewN _) k3; have lP : W1.heap.size ≤ P := lP)
    | (go_at_call 76; refine (HN2 _).out.mono ?_; rintro e u2 ⟨Q, R, rfl, lQ, lR, hq, k4⟩; have lQ : u1.heap.size ≤ Q := lQ; have lR : u1.heap.size ≤ R := lR; have K34 : Kept u1 u2 := Kept.trans (b := _) (by first | exact Kept.refl _ | exact (Kept.refl _).drew | exact (Kept.refl _).drewN _) k4; have KT : Kept W1 u2 := KT.trans K34; have q0 := KT.some p0; have q1 := KT.some p1; have q2 := KT.some p2; have q3 := KT.some p3; have pf : ∀ i, u2.frozen? ⟨w.heap.size + 1 + 1, i, none⟩ = false := fun i => KT.soft (by have := Z1.out; omega) (F1.out i)))
  have zz := Z1.out
  have z3 := k3.size
  have KA := Lib.hid (K1.out.trans KT)
  have HP := Lib.hid (hp.kept K34)
  have HQ := Lib.hid hq
  have hl := hq.lt
  have hlP := hp.lt
  have hlP2 := K34.size
  clear hp hq k3 k4 K34 KT t0 t1 t2 t3 t4 t5 a2 p0 p1 p2 p3 e0
  go_wp2
  refine bodyPost_ret (v := .agg #[.pointer none, .pointer none, .pointer (some ⟨P, 0, none⟩), .pointer (some ⟨Q, 0, none⟩)]) (by simp [results, Tryz.results17, go_sem, cell_set, *]) rfl ?_
  go_light
  have ka := KA.out
  refine ⟨.fr i FOp.new P Q R, anewOwn own c P Q R, rfl, anewOwn_old (by omega) (by omega) (by omega), ⟨HP.out.frame (T := fun k => k = w.heap.size + 1 + 1) (by repeat (first | (with_reducible exact But.refl _ _) | (with_reducible refine But.here ?_ _ _))) (by omega), HQ.out.frame (T := fun k => k = w.heap.size + 1 + 1) (by repeat (first | (with_reducible exact But.refl _ _) | (with_reducible refine But.here ?_ _ _))) (by omega) (by omega), GG.out, anewOwn_P, anewOwn_Q (by omega), anewOwn_R (by omega)⟩, ?_⟩
  repeat (first | (with_reducible exact ka) | (with_reducible refine Kept.setCell ?_ (by simp; omega) _))

set_option maxHeartbeats 2000000 in
theorem abegin_lo (own : Nat → Nat) (c : Nat) (A : Arn) (co wh i : Int) (hwh : (wh == 1) = false) (h0 : i < 0) (w : World) : Calls Tryz.prog 17 #[.agg #[.int .i64 A.F.T, .int .i64 A.F.K, .int .i64 A.F.N, .int .i64 A.G, .int .i64 A.V, .int .i64 A.L], .agg #[.int .i64 co, .int .i64 wh, .int .i64 i]] w (ABegun own c A w) := by
  have HN1 := fun W => Lib.hid (newFree_out A i (Or.inl h0) W)
  have HN2 := fun W => Lib.hid (dnewFree_lo A i h0 W)
  have GG : Hid (FGood A i FOp.bad) := Lib.hid (fbad_good A i)
  clear h0
  go_enter Tryz.func17, Tryz.ntmps17
  go_wp2_with fail
  obtain ⟨W1, hW1⟩ : ∃ W1, W1 = ((w.alloc (.cells #[.int .i64 A.F.T, .int .i64 A.F.K, .int .i64 A.F.N, .int .i64 A.G, .int .i64 A.V, .int .i64 A.L] 25)).alloc (.cells #[.int .i64 co, .int .i64 wh, .int .i64 i] 38)).alloc (.cells #[.pointer none, .pointer none, .pointer none, .pointer none] 44) := ⟨_, rfl⟩
  have t0 : W1.cell? ⟨w.heap.size, 0, none⟩ = some (.int .i64 A.F.T) := by rw [hW1]; exact (((Kept.refl _).alloc _ _).alloc _ _).some (cell_new w _ _ _ 0 rfl)
  have t1 : W1.cell? ⟨w.heap.size, 1, none⟩ = some (.int .i64 A.F.K) := by rw [hW1]; exact (((Kept.refl _).alloc _ _).alloc _ _).some (cell_new w _ _ _ 1 rfl)
  have t2 : W1.cell? ⟨w.heap.size, 2, none⟩ = some (.int .i64 A.F.N) := by rw [hW1]; exact (((Kept.refl _).alloc _ _).alloc _ _).some (cell_new w _ _ _ 2 rfl)
  have t3 : W1.cell? ⟨w.heap.size, 3, none⟩ = some (.int .i64 A.G) := by rw [hW1]; exact (((Kept.refl _).alloc _ _).alloc _ _).some (cell_new w _ _ _ 3 rfl)
  have t4 : W1.cell? ⟨w.heap.size, 4, none⟩ = some (.int .i64 A.V) := by rw [hW1]; exact (((Kept.refl _).alloc _ _).alloc _ _).some (cell_new w _ _ _ 4 rfl)
  have t5 : W1.cell? ⟨w.heap.size, 5, none⟩ = some (.int .i64 A.L) := by rw [hW1]; exact (((Kept.refl _).alloc _ _).alloc _ _).some (cell_new w _ _ _ 5 rfl)
  have a2 : W1.cell? ⟨w.heap.size + 1, 2, none⟩ = some (.int .i64 i) := by rw [hW1]; exact ((Kept.refl _).alloc _ _).some (cell_new _ _ _ _ 2 (by simp))
  have p0 : W1.cell? ⟨w.heap.size + 1 + 1, 0, none⟩ = some (.pointer none) := by rw [hW1]; exact cell_new _ _ _ _ 0 (by simp)
  have p1 : W1.cell? ⟨w.heap.size + 1 + 1, 1, none⟩ = some (.pointer none) := by rw [hW1]; exact cell_new _ _ _ _ 1 (by simp)
  have p2 : W1.cell? ⟨w.heap.size + 1 + 1, 2, none⟩ = some (.pointer none) := by rw [hW1]; exact cell_new _ _ _ _ 2 (by simp)
  have p3 : W1.cell? ⟨w.heap.size + 1 + 1, 3, none⟩ = some (.pointer none) := by rw [hW1]; exact cell_new _ _ _ _ 3 (by simp)
  have f1 : ∀ i, W1.frozen? ⟨w.heap.size + 1 + 1, i, none⟩ = false := fun i => by rw [hW1, frozen?_alloc_cells, frozen?_alloc_cells, frozen?_alloc_cells]; exact afrozen_out w _ _ (by omega)
  have k1 : Kept w W1 := by rw [hW1]; exact (((Kept.refl w).alloc _ _).alloc _ _).alloc _ _
  have z1 : W1.heap.size = w.heap.size + 3 := by rw [hW1]; simp
  rw [← hW1]
  have K1 := Lib.hid k1
  have Z1 := Lib.hid z1
  have ne1 : w.heap.size + 1 + 1 ≠ w.heap.size := by omega
  have ne2 : w.heap.size + 1 + 1 ≠ w.heap.size + 1 := by omega
  have F1 := Lib.hid f1
  clear hW1 k1 z1 f1
  have KT : Kept W1 W1 := Kept.refl _
  have e0 := t0
  go_region_held3 (fun w' => w'.cell? ⟨w.heap.size, 0, none⟩ = some (.int .i64 A.F.T) ∧ w'.cell? ⟨w.heap.size, 1, none⟩ = some (.int .i64 A.F.K) ∧ w'.cell? ⟨w.heap.size, 2, none⟩ = some (.int .i64 A.F.N) ∧ w'.cell? ⟨w.heap.size, 3, none⟩ = some (.int .i64 A.G) ∧ w'.cell? ⟨w.heap.size, 4, none⟩ = some (.int .i64 A.V) ∧ w'.cell? ⟨w.heap.size, 5, none⟩ = some (.int .i64 A.L) ∧ w'.cell? ⟨w.heap.size + 1, 2, none⟩ = some (.int .i64 i)) (first | (with_reducible exact ⟨KT.some t0, KT.some t1, KT.some t2, KT.some t3, KT.some t4, KT.some t5, KT.some a2⟩) | (refine ⟨?_, ?_, ?_, ?_, ?_, ?_, ?_⟩ <;> (rw [cell_set_far _ _ _ _ _ _ (by omega), cell_set_far _ _ _ _ _ _ (by omega), cell_set_far _ _ _ _ _ _ (by omega), cell_set_far _ _ _ _ _ _ (by omega)]; first | exact KT.some t0 | exact KT.some t1 | exact KT.some t2 | exact KT.some t3 | exact KT.some t4 | exact KT.some t5 | exact KT.some a2)) | go_keep) (first
    | (go_at_call 26; refine (HN1 _).out.mono ?_; rintro e u1 ⟨P, rfl, lP, gP, hp, k3⟩; have KT : Kept W1 u1 := Kept.trans (b := _) (by first | exact KT | exact KT.drew | exact KT.drewN _) k3; have lP : W1.heap.size ≤ P := lP)
    | (go_at_call 76; refine (HN2 _).out.mono ?_; rintro e u2 ⟨Q, R, rfl, lQ, lR, hq, k4⟩; have lQ : u1.heap.size ≤ Q := lQ; have lR : u1.heap.size ≤ R := lR; have K34 : Kept u1 u2 := Kept.trans (b := _) (by first | exact Kept.refl _ | exact (Kept.refl _).drew | exact (Kept.refl _).drewN _) k4; have KT : Kept W1 u2 := KT.trans K34; have q0 := KT.some p0; have q1 := KT.some p1; have q2 := KT.some p2; have q3 := KT.some p3; have pf : ∀ i, u2.frozen? ⟨w.heap.size + 1 + 1, i, none⟩ = false := fun i => KT.soft (by have := Z1.out; omega) (F1.out i)))
  have zz := Z1.out
  have z3 := k3.size
  have KA := Lib.hid (K1.out.trans KT)
  have HP := Lib.hid (hp.kept K34)
  have HQ := Lib.hid hq
  have hl := hq.lt
  have hlP := hp.lt
  have hlP2 := K34.size
  clear hp hq k3 k4 K34 KT t0 t1 t2 t3 t4 t5 a2 p0 p1 p2 p3 e0
  go_wp2
  refine bodyPost_ret (v := .agg #[.pointer none, .pointer none, .pointer (some ⟨P, 0, none⟩), .pointer (some ⟨Q, 0, none⟩)]) (by simp [results, Tryz.results17, go_sem, cell_set, *]) rfl ?_
  go_light
  have ka := KA.out
  refine ⟨.fr i FOp.bad P Q R, anewOwn own c P Q R, rfl, anewOwn_old (by omega) (by omega) (by omega), ⟨HP.out.frame (T := fun k => k = w.heap.size + 1 + 1) (by repeat (first | (with_reducible exact But.refl _ _) | (with_reducible refine But.here ?_ _ _))) (by omega), HQ.out.frame (T := fun k => k = w.heap.size + 1 + 1) (by repeat (first | (with_reducible exact But.refl _ _) | (with_reducible refine But.here ?_ _ _))) (by omega) (by omega), GG.out, anewOwn_P, anewOwn_Q (by omega), anewOwn_R (by omega)⟩, ?_⟩
  repeat (first | (with_reducible exact ka) | (with_reducible refine Kept.setCell ?_ (by simp; omega) _))

set_option maxHeartbeats 2000000 in
theorem abegin_hi (own : Nat → Nat) (c : Nat) (A : Arn) (co wh i : Int) (hwh : (wh == 1) = false) (h0 : 0 ≤ i) (h1 : A.F.N ≤ i) (w : World) : Calls Tryz.prog 17 #[.agg #[.int .i64 A.F.T, .int .i64 A.F.K, .int .i64 A.F.N, .int .i64 A.G, .int .i64 A.V, .int .i64 A.L], .agg #[.int .i64 co, .int .i64 wh, .int .i64 i]] w (ABegun own c A w) := by
  have HN1 := fun W => Lib.hid (newFree_out A i (Or.inr h1) W)
  have HN2 := fun W => Lib.hid (dnewFree_hi A i h0 h1 W)
  have GG : Hid (FGood A i FOp.bad) := Lib.hid (fbad_good A i)
  clear h0 h1
  go_enter Tryz.func17, Tryz.ntmps17
  go_wp2_with fail
  obtain ⟨W1, hW1⟩ : ∃ W1, W1 = ((w.alloc (.cells #[.int .i64 A.F.T, .int .i64 A.F.K, .int .i64 A.F.N, .int .i64 A.G, .int .i64 A.V, .int .i64 A.L] 25)).alloc (.cells #[.int .i64 co, .int .i64 wh, .int .i64 i] 38)).alloc (.cells #[.pointer none, .pointer none, .pointer none, .pointer none] 44) := ⟨_, rfl⟩
  have t0 : W1.cell? ⟨w.heap.size, 0, none⟩ = some (.int .i64 A.F.T) := by rw [hW1]; exact (((Kept.refl _).alloc _ _).alloc _ _).some (cell_new w _ _ _ 0 rfl)
  have t1 : W1.cell? ⟨w.heap.size, 1, none⟩ = some (.int .i64 A.F.K) := by rw [hW1]; exact (((Kept.refl _).alloc _ _).alloc _ _).some (cell_new w _ _ _ 1 rfl)
  have t2 : W1.cell? ⟨w.heap.size, 2, none⟩ = some (.int .i64 A.F.N) := by rw [hW1]; exact (((Kept.refl _).alloc _ _).alloc _ _).some (cell_new w _ _ _ 2 rfl)
  have t3 : W1.cell? ⟨w.heap.size, 3, none⟩ = some (.int .i64 A.G) := by rw [hW1]; exact (((Kept.refl _).alloc _ _).alloc _ _).some (cell_new w _ _ _ 3 rfl)
  have t4 : W1.cell? ⟨w.heap.size, 4, none⟩ = some (.int .i64 A.V) := by rw [hW1]; exact (((Kept.refl _).alloc _ _).alloc _ _).some (cell_new w _ _ _ 4 rfl)
  have t5 : W1.cell? ⟨w.heap.size, 5, none⟩ = some (.int .i64 A.L) := by rw [hW1]; exact (((Kept.refl _).alloc _ _).alloc _ _).some (cell_new w _ _ _ 5 rfl)
  have a2 : W1.cell? ⟨w.heap.size + 1, 2, none⟩ = some (.int .i64 i) := by rw [hW1]; exact ((Kept.refl _).alloc _ _).some (cell_new _ _ _ _ 2 (by simp))
  have p0 : W1.cell? ⟨w.heap.size + 1 + 1, 0, none⟩ = some (.pointer none) := by rw [hW1]; exact cell_new _ _ _ _ 0 (by simp)
  have p1 : W1.cell? ⟨w.heap.size + 1 + 1, 1, none⟩ = some (.pointer none) := by rw [hW1]; exact cell_new _ _ _ _ 1 (by simp)
  have p2 : W1.cell? ⟨w.heap.size + 1 + 1, 2, none⟩ = some (.pointer none) := by rw [hW1]; exact cell_new _ _ _ _ 2 (by simp)
  have p3 : W1.cell? ⟨w.heap.size + 1 + 1, 3, none⟩ = some (.pointer none) := by rw [hW1]; exact cell_new _ _ _ _ 3 (by simp)
  have f1 : ∀ i, W1.frozen? ⟨w.heap.size + 1 + 1, i, none⟩ = false := fun i => by rw [hW1, frozen?_alloc_cells, frozen?_alloc_cells, frozen?_alloc_cells]; exact afrozen_out w _ _ (by omega)
  have k1 : Kept w W1 := by rw [hW1]; exact (((Kept.refl w).alloc _ _).alloc _ _).alloc _ _
  have z1 : W1.heap.size = w.heap.size + 3 := by rw [hW1]; simp
  rw [← hW1]
  have K1 := Lib.hid k1
  have Z1 := Lib.hid z1
  have ne1 : w.heap.size + 1 + 1 ≠ w.heap.size := by omega
  have ne2 : w.heap.size + 1 + 1 ≠ w.heap.size + 1 := by omega
  have F1 := Lib.hid f1
  clear hW1 k1 z1 f1
  have KT : Kept W1 W1 := Kept.refl _
  have e0 := t0
  go_region_held3 (fun w' => w'.cell? ⟨w.heap.size, 0, none⟩ = some (.int .i64 A.F.T) ∧ w'.cell? ⟨w.heap.size, 1, none⟩ = some (.int .i64 A.F.K) ∧ w'.cell? ⟨w.heap.size, 2, none⟩ = some (.int .i64 A.F.N) ∧ w'.cell? ⟨w.heap.size, 3, none⟩ = some (.int .i64 A.G) ∧ w'.cell? ⟨w.heap.size, 4, none⟩ = some (.int .i64 A.V) ∧ w'.cell? ⟨w.heap.size, 5, none⟩ = some (.int .i64 A.L) ∧ w'.cell? ⟨w.heap.size + 1, 2, none⟩ = some (.int .i64 i)) (first | (with_reducible exact ⟨KT.some t0, KT.some t1, KT.some t2, KT.some t3, KT.some t4, KT.some t5, KT.some a2⟩) | (refine ⟨?_, ?_, ?_, ?_, ?_, ?_, ?_⟩ <;> (rw [cell_set_far _ _ _ _ _ _ (by omega), cell_set_far _ _ _ _ _ _ (by omega), cell_set_far _ _ _ _ _ _ (by omega), cell_set_far _ _ _ _ _ _ (by omega)]; first | exact KT.some t0 | exact KT.some t1 | exact KT.some t2 | exact KT.some t3 | exact KT.some t4 | exact KT.some t5 | exact KT.some a2)) | go_keep) (first
    | (go_at_call 26; refine (HN1 _).out.mono ?_; rintro e u1 ⟨P, rfl, lP, gP, hp, k3⟩; have KT : Kept W1 u1 := Kept.trans (b := _) (by first | exact KT | exact KT.drew | exact KT.drewN _) k3; have lP : W1.heap.size ≤ P := lP)
    | (go_at_call 76; refine (HN2 _).out.mono ?_; rintro e u2 ⟨Q, R, rfl, lQ, lR, hq, k4⟩; have lQ : u1.heap.size ≤ Q := lQ; have lR : u1.heap.size ≤ R := lR; have K34 : Kept u1 u2 := Kept.trans (b := _) (by first | exact Kept.refl _ | exact (Kept.refl _).drew | exact (Kept.refl _).drewN _) k4; have KT : Kept W1 u2 := KT.trans K34; have q0 := KT.some p0; have q1 := KT.some p1; have q2 := KT.some p2; have q3 := KT.some p3; have pf : ∀ i, u2.frozen? ⟨w.heap.size + 1 + 1, i, none⟩ = false := fun i => KT.soft (by have := Z1.out; omega) (F1.out i)))
  have zz := Z1.out
  have z3 := k3.size
  have KA := Lib.hid (K1.out.trans KT)
  have HP := Lib.hid (hp.kept K34)
  have HQ := Lib.hid hq
  have hl := hq.lt
  have hlP := hp.lt
  have hlP2 := K34.size
  clear hp hq k3 k4 K34 KT t0 t1 t2 t3 t4 t5 a2 p0 p1 p2 p3 e0
  go_wp2
  refine bodyPost_ret (v := .agg #[.pointer none, .pointer none, .pointer (some ⟨P, 0, none⟩), .pointer (some ⟨Q, 0, none⟩)]) (by simp [results, Tryz.results17, go_sem, cell_set, *]) rfl ?_
  go_light
  have ka := KA.out
  refine ⟨.fr i FOp.bad P Q R, anewOwn own c P Q R, rfl, anewOwn_old (by omega) (by omega) (by omega), ⟨HP.out.frame (T := fun k => k = w.heap.size + 1 + 1) (by repeat (first | (with_reducible exact But.refl _ _) | (with_reducible refine But.here ?_ _ _))) (by omega), HQ.out.frame (T := fun k => k = w.heap.size + 1 + 1) (by repeat (first | (with_reducible exact But.refl _ _) | (with_reducible refine But.here ?_ _ _))) (by omega) (by omega), GG.out, anewOwn_P, anewOwn_Q (by omega), anewOwn_R (by omega)⟩, ?_⟩
  repeat (first | (with_reducible exact ka) | (with_reducible refine Kept.setCell ?_ (by simp; omega) _))
end Go.Proofs.YtbonnfofoepjcaaGreat.Sk

namespace Go.Proofs.YtbonnfofoepjcaaGreat.Sk
set_option maxRecDepth 20000
open Go.RowKit
open Wo (St acc wordAt PMem RefIs)

def afirstOwn (M B M2 B2 : Nat) (k : Nat) : Nat := if k = M ∨ k = B then 0 else if k = M2 ∨ k = B2 then 1 else 2
def ALaid (n : Nat) (w : World) (e : Ending) (w' : World) : Prop :=
  ∃ (M B M2 B2 : Nat) (s : St), e = .returned (.tuple #[.pointer (some ⟨M, 0, none⟩), .pointer (some ⟨M2, 0, none⟩)]) ∧ TDuo (afirstOwn M B M2 B2) w' M B M2 B2 n s ∧ s.cnt ≤ 10000 ∧ Kept w w' ∧
    w.heap.size ≤ M ∧ w.heap.size ≤ B ∧ w.heap.size ≤ M2 ∧ w.heap.size ≤ B2

set_option maxHeartbeats 4000000 in
theorem alaid_any (A : Arn) (n : Nat) (hS : A.Ok n) (l : List Int) (hl : l.length ≤ 90) (a : Option Addr) (c : Nat) (w : World) (hv : Lay w (.slice a l.length c) l.length (words l)) (hr : ∀ x ∈ l, 0 ≤ x ∧ x < 18446744073709551616) :
    Calls Tryz.prog 14 #[.agg #[.int .i64 A.F.T, .int .i64 A.F.K, .int .i64 A.F.N, .int .i64 A.G, .int .i64 A.V, .int .i64 A.L], .int .i64 n, .slice a l.length c] w (ALaid n w) := by
  have n1 := hS.F.n1
  have n2 := hS.F.n2
  have N1 := hS.F.N1
  have N2 := hS.F.N2
  have HS := Lib.hid hS
  have HV := Lib.hid hv
  have HR := Lib.hid hr
  obtain ⟨m, hm⟩ : ∃ m, m = l.length := ⟨_, rfl⟩
  have HMl := Lib.hid hm
  rw [← hm] at hl ⊢
  clear hS hv hr hm
  go_enter Tryz.func14, Tryz.ntmps14
  go_wp2_with fail
  refine (p_new n n1 n2 _).mono ?_
  rintro e w1 ⟨rfl, m1, z1, k1⟩
  have M1 : Hid (PMem w1 (w.heap.size + 1 + 1) (w.heap.size + 1) n Wo.St.zero) := Lib.hid (by simpa using m1)
  have K1 : Hid (Kept w w1) := Lib.hid (Kept.trans ((Kept.refl w).alloc _ _) k1)
  have Z1 : Hid (w1.heap.size = w.heap.size + 3) := Lib.hid (by simpa using z1)
  have s0 := k1.some (cell_new w #[.int .i64 A.F.T, .int .i64 A.F.K, .int .i64 A.F.N, .int .i64 A.G, .int .i64 A.V, .int .i64 A.L] 25 w.heap.size 0 rfl)
  have s1 := k1.some (cell_new w #[.int .i64 A.F.T, .int .i64 A.F.K, .int .i64 A.F.N, .int .i64 A.G, .int .i64 A.V, .int .i64 A.L] 25 w.heap.size 1 rfl)
  have s2 := k1.some (cell_new w #[.int .i64 A.F.T, .int .i64 A.F.K, .int .i64 A.F.N, .int .i64 A.G, .int .i64 A.V, .int .i64 A.L] 25 w.heap.size 2 rfl)
  have s3 := k1.some (cell_new w #[.int .i64 A.F.T, .int .i64 A.F.K, .int .i64 A.F.N, .int .i64 A.G, .int .i64 A.V, .int .i64 A.L] 25 w.heap.size 3 rfl)
  have s4 := k1.some (cell_new w #[.int .i64 A.F.T, .int .i64 A.F.K, .int .i64 A.F.N, .int .i64 A.G, .int .i64 A.V, .int .i64 A.L] 25 w.heap.size 4 rfl)
  have s5 := k1.some (cell_new w #[.int .i64 A.F.T, .int .i64 A.F.K, .int .i64 A.F.N, .int .i64 A.G, .int .i64 A.V, .int .i64 A.L] 25 w.heap.size 5 rfl)
  clear m1 k1 z1
  go_wp2_with fail
  refine (r_new n n1 n2 _).mono ?_
  rintro e w2 ⟨M2, B2, rfl, m2, l1, l2, g1, g2, k2⟩
  have q1 : w1.heap.size ≤ M2 ∧ w1.heap.size ≤ B2 := ⟨l1, l2⟩
  have zz := Z1.out
  have R2 := Lib.hid m2
  have K2 := Lib.hid k2
  have t0 := k2.some s0
  have t1 := k2.some s1
  have t2 := k2.some s2
  have t3 := k2.some s3
  have t4 := k2.some s4
  have t5 := k2.some s5
  clear m2 k2 s0 s1 s2 s3 s4 s5 l1 l2 g1 g2
  obtain ⟨q1, q2⟩ := q1
  go_wp2_with fail
  refine (p_afill _ _ n A Wo.St.zero _ (pmem_kept M1.out K2.out) (by decide) (by decide) HS.out).mono ?_
  rintro e w3 ⟨rfl, m3, b3⟩
  have hsz : w.heap.size < w2.heap.size := by have := K2.out.size; omega
  have u0 := b3.some t0 (by omega)
  have u1 := b3.some t1 (by omega)
  have u2 := b3.some t2 (by omega)
  have u3 := b3.some t3 (by omega)
  have u4 := b3.some t4 (by omega)
  have u5 := b3.some t5 (by omega)
  have M3 := Lib.hid m3
  have R3 := Lib.hid (ref_frame R2.out n1 b3 (by omega) (by omega))
  have K3 : Hid (Kept w w3) := Lib.hid ((((K1.out.trans K2.out).but (fun k => k = w.heap.size + 1)).trans b3 (fun _ _ h => h)).kept (fun k hk h => by omega))
  clear m3 b3 t0 t1 t2 t3 t4 t5
  go_wp2_with fail
  refine (r_afill M2 B2 n A Wo.St.zero _ R3.out (by decide) (by decide) HS.out).mono ?_
  rintro e w4 ⟨rfl, r4, b4⟩
  have M4 := Lib.hid (pmem_frame M3.out b4 (by omega) (by omega))
  have R4 := Lib.hid r4
  have K4 : Hid (Kept w w4) := Lib.hid (((K3.out.but (fun k => k = M2 ∨ k = B2)).trans b4 (fun _ _ h => h)).kept (fun k hk h => by omega))
  have WD : Hid (Wd n (afillSt n A Wo.St.zero)) := Lib.hid (afillSt_wd (azero_wd n) N2)
  have CN : Hid ((afillSt n A Wo.St.zero).cnt = 2 + 2 * A.F.N) := Lib.hid (by rw [afillSt_cnt N1]; show (0 : Int) + 2 + _ = _; omega)
  clear r4 b4 u0 u1 u2 u3 u4 u5
  go_wp2_with fail
  go_loopw [12] (fun i wr => ∃ (k : Nat) (s : St), k ≤ m ∧ i = .int .i64 k ∧ PMem wr (w.heap.size + 1 + 1) (w.heap.size + 1) n s ∧ RefIs wr M2 B2 n s ∧ Wd n s ∧ s.cnt = 2 + 2 * A.F.N + k ∧ Kept w wr) (fun i _ => m - (intOf i).toNat)
  case atStart => exact ⟨0, afillSt n A Wo.St.zero, Nat.zero_le _, rfl, M4.out, R4.out, WD.out, by rw [CN.out]; omega, K4.out⟩
  case round =>
    obtain ⟨k, s, hk, rfl, mr, rr, wr', hc, kr⟩ := hrel
    have MR := Lib.hid mr
    have RR := Lib.hid rr
    have WR := Lib.hid wr'
    have KR := Lib.hid kr
    have c0 : 0 ≤ s.cnt := by omega
    have c1 : s.cnt ≤ 1000000 := by omega
    have HC := Lib.hid hc
    clear mr rr wr' kr hc
    by_cases hlt : k < m
    · obtain ⟨g, o, c', e', h1, h2, hcell⟩ := HV.out.at (by have := HMl.out; omega)
      cases e'
      have hcw0 := hcell k _ (words_at l k (by have := HMl.out; omega))
      have hg := lt_of_cell hcw0
      have hcw := KR.out.some hcw0
      have hx := HR.out (l.getD k 0) (by
        have h3 : k < l.length := by have := HMl.out; omega
        simp [h3])
      clear hcell h1 h2 hcw0
      go_wp2_with fail
      refine (p_store _ _ n s k (l.getD k 0) _ MR.out c0 c1).mono ?_
      rintro e w5 ⟨rfl, m5, b5⟩
      have hcw5 := b5.some hcw (by omega)
      have M5 := Lib.hid m5
      have R5 := Lib.hid (ref_frame RR.out n1 b5 (by omega) (by omega))
      have K5 : Hid (Kept w w5) := Lib.hid (((KR.out.but (fun k => k = w.heap.size + 1)).trans b5 (fun _ _ h => h)).kept (fun k hk h => by omega))
      clear m5 b5 hcw
      go_wp2_with fail
      refine (r_store M2 B2 n s k (l.getD k 0) _ R5.out c0 c1 n2).mono ?_
      rintro e w6 ⟨rfl, r6, b6⟩
      have M6 := Lib.hid (pmem_frame M5.out b6 (by omega) (by omega))
      have R6 := Lib.hid r6
      have K6 : Hid (Kept w w6) := Lib.hid (((K5.out.but (fun k => k = M2 ∨ k = B2)).trans b6 (fun _ _ h => h)).kept (fun k hk h => by omega))
      clear r6 b6 hcw5
      go_wp2
      go_roundw
      case rel => exact ⟨k + 1, acc n s 2 k true (l.getD k 0), by omega, by go_num, M6.out, R6.out, WR.out.acc _ _ _ _ hx.1 hx.2, by rw [acc_cnt, HC.out]; omega, K6.out⟩
      case measure => simp [intOf]; omega
    · go_wp2
      go_ret2
      have hcc := HC.out
      refine ⟨w.heap.size + 1 + 1, w.heap.size + 1, M2, B2, s, rfl, ⟨MR.out, RR.out, WR.out, c0, ?_, ?_, ?_, ?_, n1, n2⟩, by omega, KR.out, by omega, by omega, by omega, by omega⟩
      · unfold afirstOwn; rw [if_pos (.inl rfl)]
      · unfold afirstOwn; rw [if_pos (.inr rfl)]
      · unfold afirstOwn; rw [if_neg (by omega), if_pos (.inl rfl)]
      · unfold afirstOwn; rw [if_neg (by omega), if_pos (.inr rfl)]
end Go.Proofs.YtbonnfofoepjcaaGreat.Sk

namespace Go.Proofs.YtbonnfofoepjcaaGreat.Sk
open Go.RowKit
theorem three {a b c : Bool} (h : (a && b && c) = true) : a = true ∧ b = true ∧ c = true := by
  cases a <;> cases b <;> cases c <;> simp_all
section
variable {P : Program} {ops : Array Oper} {Q : Exit → Act → World → Prop} {md : Region.Mode} {S : World → Prop}
theorem take_on {i : Nat} {oi : Oper} {v : Value} {fuel : Nat} {listed : Array Bool} {a : Act} {w : World} (hi : ops[i]? = some oi)
    (h3 : (Region.noSelect ops && Region.free md ops listed i && (Region.ready md ops listed).contains i) = true)
    (hw : Region.wanted oi (yielded ops a.tmps) = true) (hv : ∀ w, S w → (execOp a.eval oi).run P w = .ok (.value v) w)
    (hQ : ∀ c a w, Q (.panic c) (a.put oi.dst v) w → Q (.panic c) a w) (hS : S w)
    (h : wpAnyH P md ops Q S fuel (listed.setIfInBounds i true) (a.put oi.dst v) w) : wpAnyH P md ops Q S (fuel + 1) listed a w :=
  wpAnyH_take hi (three h3).1 (three h3).2.1 (three h3).2.2 hQ (Or.inl ⟨hw, hv⟩) hS h
theorem take_off {i : Nat} {oi : Oper} {fuel : Nat} {listed : Array Bool} {a : Act} {w : World} (hi : ops[i]? = some oi)
    (h3 : (Region.noSelect ops && Region.free md ops listed i && (Region.ready md ops listed).contains i) = true)
    (hw : Region.wanted oi (yielded ops a.tmps) = false)
    (hQ : ∀ c a w, Q (.panic c) (a.put oi.dst undef) w → Q (.panic c) a w) (hS : S w)
    (h : wpAnyH P md ops Q S fuel (listed.setIfInBounds i true) (a.put oi.dst undef) w) : wpAnyH P md ops Q S (fuel + 1) listed a w :=
  wpAnyH_take hi (three h3).1 (three h3).2.1 (three h3).2.2 hQ (Or.inr ⟨hw, rfl⟩) hS h
theorem held_mono {S' : World → Prop} (hS : ∀ w, S' w → S w) : ∀ (fuel : Nat) (listed : Array Bool) (a : Act) (w : World), wpAnyH P md ops Q S' fuel listed a w → wpAnyH P md ops Q S fuel listed a w
  | 0, _, _, _, h => h
  | fuel + 1, _, _, _, h => ⟨h.1, fun i hi => wpOp_mono (fun _ _ h' => ⟨hS _ h'.1, held_mono hS fuel _ _ _ h'.2⟩) (h.2 i hi)⟩
end
end Go.Proofs.YtbonnfofoepjcaaGreat.Sk
