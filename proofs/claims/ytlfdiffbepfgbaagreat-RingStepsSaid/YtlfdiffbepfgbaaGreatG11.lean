/- An operation of the program's in memory: its ten cells; what it tells, how it ends, its slot's cell. Written by gen14.py. -/
import Derived.Test.YtlfdiffbepfgbaaGreatG08
import Derived.Laws.EntriesVeiled
set_option linter.unusedVariables false
set_option linter.unusedSimpArgs false

namespace Go.Proofs.YtlfdiffbepfgbaaGreat.Ri
set_option maxRecDepth 20000
open Go.RowKit
open Wo (St acc wordAt PMem RefIs)
open Sk (Wd p_load p_store p_cas pmem_kept pmem_lt pmem_frame)

structure OpAt (w : World) (P : Nat) (R : Rng) (t u v : Int) (nx : Value) (er : Int) : Prop where
  c0 : w.cell? ⟨P, 0, none⟩ = some (.bool true)
  c1 : w.cell? ⟨P, 1, none⟩ = some nx
  c2 : w.cell? ⟨P, 2, none⟩ = some (.int .i64 R.H)
  c3 : w.cell? ⟨P, 3, none⟩ = some (.int .i64 R.T)
  c4 : w.cell? ⟨P, 4, none⟩ = some (.int .i64 R.K)
  c5 : w.cell? ⟨P, 5, none⟩ = some (.int .i64 R.N)
  c6 : w.cell? ⟨P, 6, none⟩ = some (.int .u64 t)
  c7 : w.cell? ⟨P, 7, none⟩ = some (.int .u64 u)
  c8 : w.cell? ⟨P, 8, none⟩ = some (.int .i64 v)
  c9 : w.cell? ⟨P, 9, none⟩ = some (.int .i64 er)
  f : ∀ i, w.frozen? ⟨P, i, none⟩ = false
theorem OpAt.lt {w : World} {P : Nat} {R : Rng} {t u v : Int} {nx : Value} {er : Int} (h : OpAt w P R t u v nx er) : P < w.heap.size := lt_of_cell h.c0
theorem OpAt.frame {w w' : World} {P : Nat} {R : Rng} {t u v : Int} {nx : Value} {er : Int} (h : OpAt w P R t u v nx er) {T : Nat → Prop} (hb : But T w w') (hP : ¬ T P) : OpAt w' P R t u v nx er :=
  ⟨hb.some h.c0 hP, hb.some h.c1 hP, hb.some h.c2 hP, hb.some h.c3 hP, hb.some h.c4 hP, hb.some h.c5 hP, hb.some h.c6 hP, hb.some h.c7 hP, hb.some h.c8 hP, hb.some h.c9 hP, fun i => hb.soft h.lt (h.f i)⟩
theorem OpAt.kept {w w' : World} {P : Nat} {R : Rng} {t u v : Int} {nx : Value} {er : Int} (h : OpAt w P R t u v nx er) (k : Kept w w') : OpAt w' P R t u v nx er := h.frame (k.but (fun _ => False)) id
theorem OpAt.set1 {w : World} {P : Nat} {R : Rng} {t u v : Int} {nx : Value} {er : Int} (h : OpAt w P R t u v nx er) (nx' : Value) : OpAt (w.setCell ⟨P, 1, none⟩ (nx')) P R t u v nx' er :=
  ⟨by rw [cell_set, if_neg (by simp)]; exact h.c0, by rw [cell_set, if_pos rfl, h.c1]; rfl, by rw [cell_set, if_neg (by simp)]; exact h.c2, by rw [cell_set, if_neg (by simp)]; exact h.c3, by rw [cell_set, if_neg (by simp)]; exact h.c4, by rw [cell_set, if_neg (by simp)]; exact h.c5, by rw [cell_set, if_neg (by simp)]; exact h.c6, by rw [cell_set, if_neg (by simp)]; exact h.c7, by rw [cell_set, if_neg (by simp)]; exact h.c8, by rw [cell_set, if_neg (by simp)]; exact h.c9, fun i => ((But.refl (fun k => k = P) w).here _ _).soft h.lt (h.f i)⟩
theorem OpAt.set6 {w : World} {P : Nat} {R : Rng} {t u v : Int} {nx : Value} {er : Int} (h : OpAt w P R t u v nx er) (t' : Int) : OpAt (w.setCell ⟨P, 6, none⟩ (.int .u64 t')) P R t' u v nx er :=
  ⟨by rw [cell_set, if_neg (by simp)]; exact h.c0, by rw [cell_set, if_neg (by simp)]; exact h.c1, by rw [cell_set, if_neg (by simp)]; exact h.c2, by rw [cell_set, if_neg (by simp)]; exact h.c3, by rw [cell_set, if_neg (by simp)]; exact h.c4, by rw [cell_set, if_neg (by simp)]; exact h.c5, by rw [cell_set, if_pos rfl, h.c6]; rfl, by rw [cell_set, if_neg (by simp)]; exact h.c7, by rw [cell_set, if_neg (by simp)]; exact h.c8, by rw [cell_set, if_neg (by simp)]; exact h.c9, fun i => ((But.refl (fun k => k = P) w).here _ _).soft h.lt (h.f i)⟩
theorem OpAt.set7 {w : World} {P : Nat} {R : Rng} {t u v : Int} {nx : Value} {er : Int} (h : OpAt w P R t u v nx er) (u' : Int) : OpAt (w.setCell ⟨P, 7, none⟩ (.int .u64 u')) P R t u' v nx er :=
  ⟨by rw [cell_set, if_neg (by simp)]; exact h.c0, by rw [cell_set, if_neg (by simp)]; exact h.c1, by rw [cell_set, if_neg (by simp)]; exact h.c2, by rw [cell_set, if_neg (by simp)]; exact h.c3, by rw [cell_set, if_neg (by simp)]; exact h.c4, by rw [cell_set, if_neg (by simp)]; exact h.c5, by rw [cell_set, if_neg (by simp)]; exact h.c6, by rw [cell_set, if_pos rfl, h.c7]; rfl, by rw [cell_set, if_neg (by simp)]; exact h.c8, by rw [cell_set, if_neg (by simp)]; exact h.c9, fun i => ((But.refl (fun k => k = P) w).here _ _).soft h.lt (h.f i)⟩
theorem OpAt.set8 {w : World} {P : Nat} {R : Rng} {t u v : Int} {nx : Value} {er : Int} (h : OpAt w P R t u v nx er) (v' : Int) : OpAt (w.setCell ⟨P, 8, none⟩ (.int .i64 v')) P R t u v' nx er :=
  ⟨by rw [cell_set, if_neg (by simp)]; exact h.c0, by rw [cell_set, if_neg (by simp)]; exact h.c1, by rw [cell_set, if_neg (by simp)]; exact h.c2, by rw [cell_set, if_neg (by simp)]; exact h.c3, by rw [cell_set, if_neg (by simp)]; exact h.c4, by rw [cell_set, if_neg (by simp)]; exact h.c5, by rw [cell_set, if_neg (by simp)]; exact h.c6, by rw [cell_set, if_neg (by simp)]; exact h.c7, by rw [cell_set, if_pos rfl, h.c8]; rfl, by rw [cell_set, if_neg (by simp)]; exact h.c9, fun i => ((But.refl (fun k => k = P) w).here _ _).soft h.lt (h.f i)⟩
theorem OpAt.set9 {w : World} {P : Nat} {R : Rng} {t u v : Int} {nx : Value} {er : Int} (h : OpAt w P R t u v nx er) (er' : Int) : OpAt (w.setCell ⟨P, 9, none⟩ (.int .i64 er')) P R t u v nx er' :=
  ⟨by rw [cell_set, if_neg (by simp)]; exact h.c0, by rw [cell_set, if_neg (by simp)]; exact h.c1, by rw [cell_set, if_neg (by simp)]; exact h.c2, by rw [cell_set, if_neg (by simp)]; exact h.c3, by rw [cell_set, if_neg (by simp)]; exact h.c4, by rw [cell_set, if_neg (by simp)]; exact h.c5, by rw [cell_set, if_neg (by simp)]; exact h.c6, by rw [cell_set, if_neg (by simp)]; exact h.c7, by rw [cell_set, if_neg (by simp)]; exact h.c8, by rw [cell_set, if_pos rfl, h.c9]; rfl, fun i => ((But.refl (fun k => k = P) w).here _ _).soft h.lt (h.f i)⟩

theorem neq_nil (w : World) : (binOp .neq 319 .nilFunc .nilFunc).run Tryz.prog w = .ok (.bool false) w := by
  kernel_rfl
theorem neq_func (f : Fn) (x y : Array Value) (w : World) : (binOp .neq 319 (.func f x y) .nilFunc).run Tryz.prog w = .ok (.bool true) w := by
  kernel_rfl
theorem eql_nil (w : World) : (binOp .eql 319 .nilFunc .nilFunc).run Tryz.prog w = .ok (.bool true) w := by
  kernel_rfl
theorem eql_func (f : Fn) (x y : Array Value) (w : World) : (binOp .eql 319 (.func f x y) .nilFunc).run Tryz.prog w = .ok (.bool false) w := by
  kernel_rfl

set_option maxHeartbeats 400000 in
theorem outcome_any (P : Nat) (R : Rng) (t u v : Int) (nx : Value) (er : Int) (w : World) (h : OpAt w P R t u v nx er) :
    Calls Tryz.prog 221 #[.pointer (some ⟨P, 0, none⟩)] w fun e w' => e = .returned (.int .i64 er) ∧ w = w' := by
  have c0 := h.c0
  have c9 := h.c9
  clear h
  go_enter Tryz.func221, Tryz.ntmps221
  go_wp2
  go_ret
  exact ⟨rfl, rfl⟩
set_option maxHeartbeats 400000 in
theorem slot_any (P n : Nat) (R : Rng) (hR : R.Ok n) (t u v : Int) (nx : Value) (er : Int) (w : World) (h : OpAt w P R t u v nx er) (t0 : 0 ≤ t) (t1 : t < 18446744073709551616) :
    Calls Tryz.prog 289 #[.pointer (some ⟨P, 0, none⟩)] w fun e w' => e = .returned (.int .i64 (cell R t)) ∧ Kept w w' := by
  have HC : ∀ W, Hid (Calls Tryz.prog 133 #[ringV R, .int .u64 t] W fun e w' => e = .returned (.int .i64 (cell R t)) ∧ Kept W w') := fun W => Lib.hid (cell_any R n hR t W t0 t1)
  obtain ⟨c0, c1, c2, c3, c4, c5, c6, c7, c8, c9, f⟩ := h
  go_enter Tryz.func289, Tryz.ntmps289
  go_wp2_with fail
  go_region_held3 (fun w' => w'.cell? ⟨P, 2, none⟩ = some (.int .i64 R.H) ∧ w'.cell? ⟨P, 3, none⟩ = some (.int .i64 R.T) ∧ w'.cell? ⟨P, 4, none⟩ = some (.int .i64 R.K) ∧ w'.cell? ⟨P, 5, none⟩ = some (.int .i64 R.N) ∧ w'.cell? ⟨P, 6, none⟩ = some (.int .u64 t)) (first | go_keep | (exact ⟨k1.some c2, k1.some c3, k1.some c4, k1.some c5, k1.some c6⟩)) (first | (go_at_call 133; refine (HC _).out.mono ?_; rintro e w1 ⟨rfl, k1⟩))
  go_wp2
  go_ret
  exact ⟨rfl, by (go_light; repeat (first | (with_reducible exact Kept.refl _) | (with_reducible assumption) | (with_reducible refine Kept.alloc ?_ _ _) | (with_reducible refine Kept.drew ?_) | (with_reducible refine Kept.drewN ?_ _) | ((with_reducible refine Kept.setCell ?_ ?_ _); rotate_left; focus (first | (simp; done) | (simp; omega))) | refine Kept.trans ?_ (by assumption)))⟩
set_option maxHeartbeats 400000 in
theorem ovacant_any (P n : Nat) (R : Rng) (hR : R.Ok n) (t u v : Int) (nx : Value) (er : Int) (w : World) (h : OpAt w P R t u v nx er) (t0 : 0 ≤ t) (t1 : t < 18446744073709551616) :
    Calls Tryz.prog 290 #[.pointer (some ⟨P, 0, none⟩)] w fun e w' => e = .returned (.int .u64 (vac R t)) ∧ Kept w w' := by
  have HC : ∀ W, Hid (Calls Tryz.prog 225 #[ringV R, .int .u64 t] W fun e w' => e = .returned (.int .u64 (vac R t)) ∧ Kept W w') := fun W => Lib.hid (vacant_any R t W hR.N1 hR.N2 t0 t1)
  obtain ⟨c0, c1, c2, c3, c4, c5, c6, c7, c8, c9, f⟩ := h
  go_enter Tryz.func290, Tryz.ntmps290
  go_wp2_with fail
  go_region_held3 (fun w' => w'.cell? ⟨P, 2, none⟩ = some (.int .i64 R.H) ∧ w'.cell? ⟨P, 3, none⟩ = some (.int .i64 R.T) ∧ w'.cell? ⟨P, 4, none⟩ = some (.int .i64 R.K) ∧ w'.cell? ⟨P, 5, none⟩ = some (.int .i64 R.N) ∧ w'.cell? ⟨P, 6, none⟩ = some (.int .u64 t)) (first | go_keep | (exact ⟨k1.some c2, k1.some c3, k1.some c4, k1.some c5, k1.some c6⟩)) (first | (go_at_call 225; refine (HC _).out.mono ?_; rintro e w1 ⟨rfl, k1⟩))
  go_wp2
  go_ret
  exact ⟨rfl, by (go_light; repeat (first | (with_reducible exact Kept.refl _) | (with_reducible assumption) | (with_reducible refine Kept.alloc ?_ _ _) | (with_reducible refine Kept.drew ?_) | (with_reducible refine Kept.drewN ?_ _) | ((with_reducible refine Kept.setCell ?_ ?_ _); rotate_left; focus (first | (simp; done) | (simp; omega))) | refine Kept.trans ?_ (by assumption)))⟩
set_option maxHeartbeats 400000 in
theorem end_any (P : Nat) (R : Rng) (t u v : Int) (nx : Value) (er er' : Int) (w : World) (h : OpAt w P R t u v nx er) :
    Calls Tryz.prog 286 #[.pointer (some ⟨P, 0, none⟩), .int .i64 er'] w fun e w' => e = .returned (.tuple #[]) ∧ OpAt w' P R t u v .nilFunc er' ∧ But (fun k => k = P) w w' := by
  have c1 := h.c1
  have c9 := h.c9
  have f := h.f
  have hl := h.lt
  have H := Lib.hid h
  clear h
  go_enter Tryz.func286, Tryz.ntmps286
  go_wp2
  go_end0
  refine ⟨rfl, ?_, ?_⟩
  · first | exact (((H.out).set1 .nilFunc).set9 er') | exact (((H.out.kept (Kept.refl w).drew).set1 .nilFunc).set9 er') | exact ((((H.out).set1 .nilFunc).set9 er').kept ((Kept.refl _).drew)) | exact ((((H.out).set1 .nilFunc).set9 er').kept ((Kept.refl _).drewN _))
  · first | exact (((But.refl _ w).here _ _).here _ _) | exact ((((But.refl _ w).here _ _).here _ _).then (Kept.refl _).drew) | exact ((((But.refl _ w).here _ _).here _ _).then ((Kept.refl _).drewN _)) | exact ((((But.refl _ w).then (Kept.refl _).drew).here _ _).here _ _)
def Made (At : World → Nat → Prop) (w : World) (e : Ending) (w' : World) : Prop :=
  ∃ P, e = .returned (.pointer (some ⟨P, 0, none⟩)) ∧ w.heap.size ≤ P ∧ P < w'.heap.size ∧ At w' P ∧ Kept w w'
def RowP (P M B n : Nat) (R : Rng) (t u v : Int) (nx : Value) (er : Int) (s' : St) (w : World) (e : Ending) (w' : World) : Prop :=
  e = .returned (.tuple #[]) ∧ OpAt w' P R t u v nx er ∧ PMem w' M B n s' ∧ But (fun k => k = P ∨ k = B) w w'
end Go.Proofs.YtlfdiffbepfgbaaGreat.Ri
