/- step, at each row and what follows it; an operation by its row. Written by gen14.py. -/
import Derived.Test.YtlfdiffbepfgbaaGreatG12
import Derived.Test.YtlfdiffbepfgbaaGreatG05
set_option linter.unusedVariables false
set_option linter.unusedSimpArgs false

namespace Go.Proofs.YtlfdiffbepfgbaaGreat.Ri
set_option maxRecDepth 20000
open Go.RowKit
open Wo (St acc wordAt PMem RefIs)
open Sk (Wd p_load p_store p_cas pmem_kept pmem_lt pmem_frame)

set_option maxHeartbeats 1000000 in
theorem step_1_2 (P M B n : Nat) (R : Rng) (t u v er t' u' v' er' : Int) (s' : St) (w : World) (ho : OpAt w P R t u v (.func (.func 215) #[] #[]) er)
    (HC : Hid (Calls Tryz.prog 215 #[.pointer (some ⟨P, 0, none⟩), .pointer (some ⟨M, 0, none⟩)] w (RowP P M B n R t' u' v' (.func (.func 287) #[] #[]) er' s' w))) :
    Calls Tryz.prog 218 #[.pointer (some ⟨P, 0, none⟩), .pointer (some ⟨M, 0, none⟩)] w fun e w' => e = .returned (.bool false) ∧ OpAt w' P R t' u' v' (.func (.func 287) #[] #[]) er' ∧ PMem w' M B n s' ∧ But (fun k => k = P ∨ k = B) w w' := by
  have c1 := ho.c1
  have q1 := neq_nil
  have q2 := neq_func
  have q3 := eql_nil
  have q4 := eql_func
  clear ho
  go_enter Tryz.func218, Tryz.ntmps218
  go_wp2_with fail
  refine HC.out.mono ?_
  rintro e u1 ⟨rfl, h⟩
  have d1 := h.1.c1
  have H := Lib.hid h
  clear h c1
  go_wp2
  go_ret
  exact ⟨rfl, H.out⟩
set_option maxHeartbeats 1000000 in
theorem step_2_3 (P M B n : Nat) (R : Rng) (t u v er t' u' v' er' : Int) (s' : St) (w : World) (ho : OpAt w P R t u v (.func (.func 287) #[] #[]) er)
    (HC : Hid (Calls Tryz.prog 287 #[.pointer (some ⟨P, 0, none⟩), .pointer (some ⟨M, 0, none⟩)] w (RowP P M B n R t' u' v' (.func (.func 322) #[] #[]) er' s' w))) :
    Calls Tryz.prog 218 #[.pointer (some ⟨P, 0, none⟩), .pointer (some ⟨M, 0, none⟩)] w fun e w' => e = .returned (.bool false) ∧ OpAt w' P R t' u' v' (.func (.func 322) #[] #[]) er' ∧ PMem w' M B n s' ∧ But (fun k => k = P ∨ k = B) w w' := by
  have c1 := ho.c1
  have q1 := neq_nil
  have q2 := neq_func
  have q3 := eql_nil
  have q4 := eql_func
  clear ho
  go_enter Tryz.func218, Tryz.ntmps218
  go_wp2_with fail
  refine HC.out.mono ?_
  rintro e u1 ⟨rfl, h⟩
  have d1 := h.1.c1
  have H := Lib.hid h
  clear h c1
  go_wp2
  go_ret
  exact ⟨rfl, H.out⟩
set_option maxHeartbeats 1000000 in
theorem step_2_0 (P M B n : Nat) (R : Rng) (t u v er t' u' v' er' : Int) (s' : St) (w : World) (ho : OpAt w P R t u v (.func (.func 287) #[] #[]) er)
    (HC : Hid (Calls Tryz.prog 287 #[.pointer (some ⟨P, 0, none⟩), .pointer (some ⟨M, 0, none⟩)] w (RowP P M B n R t' u' v' .nilFunc er' s' w))) :
    Calls Tryz.prog 218 #[.pointer (some ⟨P, 0, none⟩), .pointer (some ⟨M, 0, none⟩)] w fun e w' => e = .returned (.bool true) ∧ OpAt w' P R t' u' v' .nilFunc er' ∧ PMem w' M B n s' ∧ But (fun k => k = P ∨ k = B) w w' := by
  have c1 := ho.c1
  have q1 := neq_nil
  have q2 := neq_func
  have q3 := eql_nil
  have q4 := eql_func
  clear ho
  go_enter Tryz.func218, Tryz.ntmps218
  go_wp2_with fail
  refine HC.out.mono ?_
  rintro e u1 ⟨rfl, h⟩
  have d1 := h.1.c1
  have H := Lib.hid h
  clear h c1
  go_wp2
  go_ret
  exact ⟨rfl, H.out⟩
set_option maxHeartbeats 1000000 in
theorem step_2_5 (P M B n : Nat) (R : Rng) (t u v er t' u' v' er' : Int) (s' : St) (w : World) (ho : OpAt w P R t u v (.func (.func 287) #[] #[]) er)
    (HC : Hid (Calls Tryz.prog 287 #[.pointer (some ⟨P, 0, none⟩), .pointer (some ⟨M, 0, none⟩)] w (RowP P M B n R t' u' v' (.func (.func 324) #[] #[]) er' s' w))) :
    Calls Tryz.prog 218 #[.pointer (some ⟨P, 0, none⟩), .pointer (some ⟨M, 0, none⟩)] w fun e w' => e = .returned (.bool false) ∧ OpAt w' P R t' u' v' (.func (.func 324) #[] #[]) er' ∧ PMem w' M B n s' ∧ But (fun k => k = P ∨ k = B) w w' := by
  have c1 := ho.c1
  have q1 := neq_nil
  have q2 := neq_func
  have q3 := eql_nil
  have q4 := eql_func
  clear ho
  go_enter Tryz.func218, Tryz.ntmps218
  go_wp2_with fail
  refine HC.out.mono ?_
  rintro e u1 ⟨rfl, h⟩
  have d1 := h.1.c1
  have H := Lib.hid h
  clear h c1
  go_wp2
  go_ret
  exact ⟨rfl, H.out⟩
set_option maxHeartbeats 1000000 in
theorem step_3_4 (P M B n : Nat) (R : Rng) (t u v er t' u' v' er' : Int) (s' : St) (w : World) (ho : OpAt w P R t u v (.func (.func 322) #[] #[]) er)
    (HC : Hid (Calls Tryz.prog 322 #[.pointer (some ⟨P, 0, none⟩), .pointer (some ⟨M, 0, none⟩)] w (RowP P M B n R t' u' v' (.func (.func 341) #[] #[]) er' s' w))) :
    Calls Tryz.prog 218 #[.pointer (some ⟨P, 0, none⟩), .pointer (some ⟨M, 0, none⟩)] w fun e w' => e = .returned (.bool false) ∧ OpAt w' P R t' u' v' (.func (.func 341) #[] #[]) er' ∧ PMem w' M B n s' ∧ But (fun k => k = P ∨ k = B) w w' := by
  have c1 := ho.c1
  have q1 := neq_nil
  have q2 := neq_func
  have q3 := eql_nil
  have q4 := eql_func
  clear ho
  go_enter Tryz.func218, Tryz.ntmps218
  go_wp2_with fail
  refine HC.out.mono ?_
  rintro e u1 ⟨rfl, h⟩
  have d1 := h.1.c1
  have H := Lib.hid h
  clear h c1
  go_wp2
  go_ret
  exact ⟨rfl, H.out⟩
set_option maxHeartbeats 1000000 in
theorem step_3_5 (P M B n : Nat) (R : Rng) (t u v er t' u' v' er' : Int) (s' : St) (w : World) (ho : OpAt w P R t u v (.func (.func 322) #[] #[]) er)
    (HC : Hid (Calls Tryz.prog 322 #[.pointer (some ⟨P, 0, none⟩), .pointer (some ⟨M, 0, none⟩)] w (RowP P M B n R t' u' v' (.func (.func 324) #[] #[]) er' s' w))) :
    Calls Tryz.prog 218 #[.pointer (some ⟨P, 0, none⟩), .pointer (some ⟨M, 0, none⟩)] w fun e w' => e = .returned (.bool false) ∧ OpAt w' P R t' u' v' (.func (.func 324) #[] #[]) er' ∧ PMem w' M B n s' ∧ But (fun k => k = P ∨ k = B) w w' := by
  have c1 := ho.c1
  have q1 := neq_nil
  have q2 := neq_func
  have q3 := eql_nil
  have q4 := eql_func
  clear ho
  go_enter Tryz.func218, Tryz.ntmps218
  go_wp2_with fail
  refine HC.out.mono ?_
  rintro e u1 ⟨rfl, h⟩
  have d1 := h.1.c1
  have H := Lib.hid h
  clear h c1
  go_wp2
  go_ret
  exact ⟨rfl, H.out⟩
set_option maxHeartbeats 1000000 in
theorem step_4_0 (P M B n : Nat) (R : Rng) (t u v er t' u' v' er' : Int) (s' : St) (w : World) (ho : OpAt w P R t u v (.func (.func 341) #[] #[]) er)
    (HC : Hid (Calls Tryz.prog 341 #[.pointer (some ⟨P, 0, none⟩), .pointer (some ⟨M, 0, none⟩)] w (RowP P M B n R t' u' v' .nilFunc er' s' w))) :
    Calls Tryz.prog 218 #[.pointer (some ⟨P, 0, none⟩), .pointer (some ⟨M, 0, none⟩)] w fun e w' => e = .returned (.bool true) ∧ OpAt w' P R t' u' v' .nilFunc er' ∧ PMem w' M B n s' ∧ But (fun k => k = P ∨ k = B) w w' := by
  have c1 := ho.c1
  have q1 := neq_nil
  have q2 := neq_func
  have q3 := eql_nil
  have q4 := eql_func
  clear ho
  go_enter Tryz.func218, Tryz.ntmps218
  go_wp2_with fail
  refine HC.out.mono ?_
  rintro e u1 ⟨rfl, h⟩
  have d1 := h.1.c1
  have H := Lib.hid h
  clear h c1
  go_wp2
  go_ret
  exact ⟨rfl, H.out⟩
set_option maxHeartbeats 1000000 in
theorem step_5_1 (P M B n : Nat) (R : Rng) (t u v er t' u' v' er' : Int) (s' : St) (w : World) (ho : OpAt w P R t u v (.func (.func 324) #[] #[]) er)
    (HC : Hid (Calls Tryz.prog 324 #[.pointer (some ⟨P, 0, none⟩), .pointer (some ⟨M, 0, none⟩)] w (RowP P M B n R t' u' v' (.func (.func 215) #[] #[]) er' s' w))) :
    Calls Tryz.prog 218 #[.pointer (some ⟨P, 0, none⟩), .pointer (some ⟨M, 0, none⟩)] w fun e w' => e = .returned (.bool false) ∧ OpAt w' P R t' u' v' (.func (.func 215) #[] #[]) er' ∧ PMem w' M B n s' ∧ But (fun k => k = P ∨ k = B) w w' := by
  have c1 := ho.c1
  have q1 := neq_nil
  have q2 := neq_func
  have q3 := eql_nil
  have q4 := eql_func
  clear ho
  go_enter Tryz.func218, Tryz.ntmps218
  go_wp2_with fail
  refine HC.out.mono ?_
  rintro e u1 ⟨rfl, h⟩
  have d1 := h.1.c1
  have H := Lib.hid h
  clear h c1
  go_wp2
  go_ret
  exact ⟨rfl, H.out⟩
set_option maxHeartbeats 1000000 in
theorem step_6_7 (P M B n : Nat) (R : Rng) (t u v er t' u' v' er' : Int) (s' : St) (w : World) (ho : OpAt w P R t u v (.func (.func 216) #[] #[]) er)
    (HC : Hid (Calls Tryz.prog 216 #[.pointer (some ⟨P, 0, none⟩), .pointer (some ⟨M, 0, none⟩)] w (RowP P M B n R t' u' v' (.func (.func 288) #[] #[]) er' s' w))) :
    Calls Tryz.prog 218 #[.pointer (some ⟨P, 0, none⟩), .pointer (some ⟨M, 0, none⟩)] w fun e w' => e = .returned (.bool false) ∧ OpAt w' P R t' u' v' (.func (.func 288) #[] #[]) er' ∧ PMem w' M B n s' ∧ But (fun k => k = P ∨ k = B) w w' := by
  have c1 := ho.c1
  have q1 := neq_nil
  have q2 := neq_func
  have q3 := eql_nil
  have q4 := eql_func
  clear ho
  go_enter Tryz.func218, Tryz.ntmps218
  go_wp2_with fail
  refine HC.out.mono ?_
  rintro e u1 ⟨rfl, h⟩
  have d1 := h.1.c1
  have H := Lib.hid h
  clear h c1
  go_wp2
  go_ret
  exact ⟨rfl, H.out⟩
set_option maxHeartbeats 1000000 in
theorem step_7_0 (P M B n : Nat) (R : Rng) (t u v er t' u' v' er' : Int) (s' : St) (w : World) (ho : OpAt w P R t u v (.func (.func 288) #[] #[]) er)
    (HC : Hid (Calls Tryz.prog 288 #[.pointer (some ⟨P, 0, none⟩), .pointer (some ⟨M, 0, none⟩)] w (RowP P M B n R t' u' v' .nilFunc er' s' w))) :
    Calls Tryz.prog 218 #[.pointer (some ⟨P, 0, none⟩), .pointer (some ⟨M, 0, none⟩)] w fun e w' => e = .returned (.bool true) ∧ OpAt w' P R t' u' v' .nilFunc er' ∧ PMem w' M B n s' ∧ But (fun k => k = P ∨ k = B) w w' := by
  have c1 := ho.c1
  have q1 := neq_nil
  have q2 := neq_func
  have q3 := eql_nil
  have q4 := eql_func
  clear ho
  go_enter Tryz.func218, Tryz.ntmps218
  go_wp2_with fail
  refine HC.out.mono ?_
  rintro e u1 ⟨rfl, h⟩
  have d1 := h.1.c1
  have H := Lib.hid h
  clear h c1
  go_wp2
  go_ret
  exact ⟨rfl, H.out⟩
set_option maxHeartbeats 1000000 in
theorem step_8_9 (P M B n : Nat) (R : Rng) (t u v er t' u' v' er' : Int) (s' : St) (w : World) (ho : OpAt w P R t u v (.func (.func 217) #[] #[]) er)
    (HC : Hid (Calls Tryz.prog 217 #[.pointer (some ⟨P, 0, none⟩), .pointer (some ⟨M, 0, none⟩)] w (RowP P M B n R t' u' v' (.func (.func 292) #[] #[]) er' s' w))) :
    Calls Tryz.prog 218 #[.pointer (some ⟨P, 0, none⟩), .pointer (some ⟨M, 0, none⟩)] w fun e w' => e = .returned (.bool false) ∧ OpAt w' P R t' u' v' (.func (.func 292) #[] #[]) er' ∧ PMem w' M B n s' ∧ But (fun k => k = P ∨ k = B) w w' := by
  have c1 := ho.c1
  have q1 := neq_nil
  have q2 := neq_func
  have q3 := eql_nil
  have q4 := eql_func
  clear ho
  go_enter Tryz.func218, Tryz.ntmps218
  go_wp2_with fail
  refine HC.out.mono ?_
  rintro e u1 ⟨rfl, h⟩
  have d1 := h.1.c1
  have H := Lib.hid h
  clear h c1
  go_wp2
  go_ret
  exact ⟨rfl, H.out⟩
set_option maxHeartbeats 1000000 in
theorem step_9_0 (P M B n : Nat) (R : Rng) (t u v er t' u' v' er' : Int) (s' : St) (w : World) (ho : OpAt w P R t u v (.func (.func 292) #[] #[]) er)
    (HC : Hid (Calls Tryz.prog 292 #[.pointer (some ⟨P, 0, none⟩), .pointer (some ⟨M, 0, none⟩)] w (RowP P M B n R t' u' v' .nilFunc er' s' w))) :
    Calls Tryz.prog 218 #[.pointer (some ⟨P, 0, none⟩), .pointer (some ⟨M, 0, none⟩)] w fun e w' => e = .returned (.bool true) ∧ OpAt w' P R t' u' v' .nilFunc er' ∧ PMem w' M B n s' ∧ But (fun k => k = P ∨ k = B) w w' := by
  have c1 := ho.c1
  have q1 := neq_nil
  have q2 := neq_func
  have q3 := eql_nil
  have q4 := eql_func
  clear ho
  go_enter Tryz.func218, Tryz.ntmps218
  go_wp2_with fail
  refine HC.out.mono ?_
  rintro e u1 ⟨rfl, h⟩
  have d1 := h.1.c1
  have H := Lib.hid h
  clear h c1
  go_wp2
  go_ret
  exact ⟨rfl, H.out⟩
theorem step_0 (P : Nat) (R : Rng) (t u v er : Int) (m : Value) (w : World) (ho : OpAt w P R t u v .nilFunc er) :
    Calls Tryz.prog 218 #[.pointer (some ⟨P, 0, none⟩), m] w fun e w' => e = .returned (.bool true) ∧ w = w' := by
  have c1 := ho.c1
  have q1 := neq_nil
  have q3 := eql_nil
  clear ho
  go_enter Tryz.func218, Tryz.ntmps218
  go_wp2
  go_ret
  exact ⟨rfl, rfl⟩
def nxV : Nat → Value
  | 1 => (.func (.func 215) #[] #[])
  | 2 => (.func (.func 287) #[] #[])
  | 3 => (.func (.func 322) #[] #[])
  | 4 => (.func (.func 341) #[] #[])
  | 5 => (.func (.func 324) #[] #[])
  | 6 => (.func (.func 216) #[] #[])
  | 7 => (.func (.func 288) #[] #[])
  | 8 => (.func (.func 217) #[] #[])
  | 9 => (.func (.func 292) #[] #[])
  | _ => .nilFunc
def RAt (w : World) (P : Nat) (R : Rng) (x : ROp) : Prop := OpAt w P R x.t x.w x.v (nxV x.line) x.er
theorem RAt.lt {w : World} {P : Nat} {R : Rng} {x : ROp} (h : RAt w P R x) : P < w.heap.size := OpAt.lt h
theorem RAt.frame {w w' : World} {P : Nat} {R : Rng} {x : ROp} (h : RAt w P R x) {T : Nat → Prop} (hb : But T w w') (hP : ¬ T P) : RAt w' P R x := OpAt.frame h hb hP
theorem RAt.kept {w w' : World} {P : Nat} {R : Rng} {x : ROp} (h : RAt w P R x) (k : Kept w w') : RAt w' P R x := OpAt.kept h k
def Went (P M B n : Nat) (R : Rng) (s' : St) (x' : ROp) (w : World) (e : Ending) (w' : World) : Prop :=
  e = .returned (.bool (x'.line == 0)) ∧ RAt w' P R x' ∧ PMem w' M B n s' ∧ But (fun k => k = P ∨ k = B) w w'
theorem step_any (P M B n : Nat) (R : Rng) (hR : R.Ok n) (x : ROp) (s : St) (w : World) (ho : RAt w P R x) (hm : PMem w M B n s) (h0 : 0 ≤ s.cnt) (h1 : s.cnt ≤ 1000000) (hP : P ≠ M ∧ P ≠ B) (hx : x.Good) (hw : Wd n s) :
    Calls Tryz.prog 218 #[.pointer (some ⟨P, 0, none⟩), .pointer (some ⟨M, 0, none⟩)] w (Went P M B n R (rSt n R s x) (rOp n R s x) w) := by
  obtain ⟨l, t, u, v, er⟩ := x
  have t0 := hx.t0
  have t1 := hx.t1
  have hl := hx.ln
  have hv := hx.v0
  dsimp only at t0 t1 hl hv
  have : l = 0 ∨ l = 1 ∨ l = 2 ∨ l = 3 ∨ l = 4 ∨ l = 5 ∨ l = 6 ∨ l = 7 ∨ l = 8 ∨ l = 9 := by omega
  rcases this with rfl | rfl | rfl | rfl | rfl | rfl | rfl | rfl | rfl | rfl
  · exact (step_0 P R t u v er _ w ho).mono fun _ _ ⟨a, k⟩ => by subst k; exact ⟨a, ho, hm, But.refl _ _⟩
  · exact step_1_2 P M B n R t u v er _ _ _ _ _ w ho (Lib.hid (row_findTail P M B n R hR t u v _ er s w ho hm h0 h1 hP t0 t1))
  · by_cases hf : free R t (wordAt n s (cell R t)) = true
    · have e : rOp n R s ⟨2, t, u, v, er⟩ = ⟨3, t, wordAt n s (cell R t), v, er⟩ := by show rLook _ _ _ = _; unfold rLook; rw [if_pos hf]
      rw [e]
      exact step_2_3 P M B n R t u v er _ _ _ _ _ w ho (Lib.hid (row_behind_free P M B n R hR t u v _ er s w ho hm h0 h1 hP t0 t1 hw hf))
    · by_cases hk : keptB R t (wordAt n s (cell R t)) = true
      · have e : rOp n R s ⟨2, t, u, v, er⟩ = ⟨0, t, wordAt n s (cell R t), v, 7⟩ := by show rLook _ _ _ = _; unfold rLook; rw [if_neg hf, if_pos hk]
        rw [e]
        exact step_2_0 P M B n R t u v er _ _ _ _ _ w ho (Lib.hid (row_behind_kept P M B n R hR t u v _ er s w ho hm h0 h1 hP t0 t1 hw ⟨by simpa using hf, hk⟩))
      · have e : rOp n R s ⟨2, t, u, v, er⟩ = ⟨5, t, wordAt n s (cell R t), v, er⟩ := by show rLook _ _ _ = _; unfold rLook; rw [if_neg hf, if_neg hk]
        rw [e]
        exact step_2_5 P M B n R t u v er _ _ _ _ _ w ho (Lib.hid (row_behind_help P M B n R hR t u v _ er s w ho hm h0 h1 hP t0 t1 hw ⟨by simpa using hf, by simpa using hk⟩))
  · have v0 := hv (by decide)
    by_cases hz : wordAt n s (cell R t) = u
    · have e : rOp n R s ⟨3, t, u, v, er⟩ = ⟨4, t, u, v, er⟩ := by show ROp.mk (if _ then _ else _) _ _ _ _ = _; rw [if_pos hz]
      have e2 : rSt n R s ⟨3, t, u, v, er⟩ = acc n s 3 (cell R t) true (fullW (lap R t) v) := by show acc _ _ _ _ (_ == _) _ = _; rw [hz]; simp
      rw [e, e2]
      exact step_3_4 P M B n R t u v er _ _ _ _ _ w ho (Lib.hid (row_fill_yes P M B n R hR t u v _ er s w ho hm h0 h1 hP t0 t1 v0.1 v0.2 (by simpa using hz)))
    · have e : rOp n R s ⟨3, t, u, v, er⟩ = ⟨5, t, u, v, er⟩ := by show ROp.mk (if _ then _ else _) _ _ _ _ = _; rw [if_neg hz]
      have hz2 : (wordAt n s (cell R t) == u) = false := by simpa using hz
      have e2 : rSt n R s ⟨3, t, u, v, er⟩ = acc n s 3 (cell R t) false (fullW (lap R t) v) := by show acc _ _ _ _ (_ == _) _ = _; rw [hz2]
      rw [e, e2]
      exact step_3_5 P M B n R t u v er _ _ _ _ _ w ho (Lib.hid (row_fill_no P M B n R hR t u v _ er s w ho hm h0 h1 hP t0 t1 v0.1 v0.2 hz2))
  · exact step_4_0 P M B n R t u v er _ _ _ _ _ w ho (Lib.hid (row_finish P M B n R hR t u v _ er s w ho hm h0 h1 hP t0 t1))
  · exact step_5_1 P M B n R t u v er _ _ _ _ _ w ho (Lib.hid (row_help P M B n R hR t u v _ er s w ho hm h0 h1 hP t0 t1))
  · exact step_6_7 P M B n R t u v er _ _ _ _ _ w ho (Lib.hid (row_findHead P M B n R hR t u v _ er s w ho hm h0 h1 hP t0 t1))
  · by_cases hf : taken R t (wordAt n s (cell R t)) = true
    · have e : rOp n R s ⟨7, t, u, v, er⟩ = ⟨0, t, wordAt n s (cell R t), wordAt n s (cell R t) % 65536, 0⟩ := by show rAhead _ _ _ = _; unfold rAhead; rw [if_pos hf]
      rw [e]
      exact step_7_0 P M B n R t u v er _ _ _ _ _ w ho (Lib.hid (row_ahead_some P M B n R hR t u v _ er s w ho hm h0 h1 hP t0 t1 hw hf))
    · have e : rOp n R s ⟨7, t, u, v, er⟩ = ⟨0, t, wordAt n s (cell R t), v, 15⟩ := by show rAhead _ _ _ = _; unfold rAhead; rw [if_neg hf]
      rw [e]
      exact step_7_0 P M B n R t u v er _ _ _ _ _ w ho (Lib.hid (row_ahead_none P M B n R hR t u v _ er s w ho hm h0 h1 hP t0 t1 hw (by simpa using hf)))
  · exact step_8_9 P M B n R t u v er _ _ _ _ _ w ho (Lib.hid (row_empty P M B n R hR t u v _ er s w ho hm h0 h1 hP t0 t1))
  · exact step_9_0 P M B n R t u v er _ _ _ _ _ w ho (Lib.hid (row_moveHead P M B n R hR t u v _ er s w ho hm h0 h1 hP t0 t1))
theorem step_Push (P M B n : Nat) (R : Rng) (hR : R.Ok n) (x : ROp) (s : St) (w : World) (ho : RAt w P R x) (hm : PMem w M B n s) (h0 : 0 ≤ s.cnt) (h1 : s.cnt ≤ 1000000) (hP : P ≠ M ∧ P ≠ B) (hx : x.Good) (hw : Wd n s) :
    Calls Tryz.prog 117 #[.pointer (some ⟨P, 0, none⟩), .pointer (some ⟨M, 0, none⟩)] w (Went P M B n R (rSt n R s x) (rOp n R s x) w) := by
  have HS := Lib.hid (step_any P M B n R hR x s w ho hm h0 h1 hP hx hw)
  have hl := ho.lt
  clear ho hm hP hx hw
  go_enter Tryz.func117, Tryz.ntmps117
  go_wp2_with fail
  refine HS.out.mono ?_
  rintro e w1 ⟨rfl, h⟩
  have H := Lib.hid h
  clear h
  go_wp2
  go_ret
  exact ⟨rfl, H.out⟩
theorem over_Push (P : Nat) (R : Rng) (x : ROp) (m : Value) (w : World) (ho : RAt w P R x) (hx : x.line = 0) :
    Calls Tryz.prog 117 #[.pointer (some ⟨P, 0, none⟩), m] w fun e w' => e = .returned (.bool true) ∧ w = w' := by
  have HS := Lib.hid (step_0 P R x.t x.w x.v x.er m w (by unfold RAt at ho; rw [hx] at ho; exact ho))
  have hl := ho.lt
  clear ho hx
  go_enter Tryz.func117, Tryz.ntmps117
  go_wp2_with fail
  refine HS.out.mono ?_
  rintro e w1 ⟨rfl, rfl⟩
  go_wp2
  go_ret
  exact ⟨rfl, rfl⟩
theorem nil_Push (m : Value) (w : World) : Calls Tryz.prog 117 #[.pointer none, m] w fun e w' => e = .returned (.bool true) ∧ w = w' := by
  go_enter Tryz.func117, Tryz.ntmps117
  go_wp2
  go_ret
  exact ⟨rfl, rfl⟩
theorem step_Front (P M B n : Nat) (R : Rng) (hR : R.Ok n) (x : ROp) (s : St) (w : World) (ho : RAt w P R x) (hm : PMem w M B n s) (h0 : 0 ≤ s.cnt) (h1 : s.cnt ≤ 1000000) (hP : P ≠ M ∧ P ≠ B) (hx : x.Good) (hw : Wd n s) :
    Calls Tryz.prog 121 #[.pointer (some ⟨P, 0, none⟩), .pointer (some ⟨M, 0, none⟩)] w (Went P M B n R (rSt n R s x) (rOp n R s x) w) := by
  have HS := Lib.hid (step_any P M B n R hR x s w ho hm h0 h1 hP hx hw)
  have hl := ho.lt
  clear ho hm hP hx hw
  go_enter Tryz.func121, Tryz.ntmps121
  go_wp2_with fail
  refine HS.out.mono ?_
  rintro e w1 ⟨rfl, h⟩
  have H := Lib.hid h
  clear h
  go_wp2
  go_ret
  exact ⟨rfl, H.out⟩
theorem over_Front (P : Nat) (R : Rng) (x : ROp) (m : Value) (w : World) (ho : RAt w P R x) (hx : x.line = 0) :
    Calls Tryz.prog 121 #[.pointer (some ⟨P, 0, none⟩), m] w fun e w' => e = .returned (.bool true) ∧ w = w' := by
  have HS := Lib.hid (step_0 P R x.t x.w x.v x.er m w (by unfold RAt at ho; rw [hx] at ho; exact ho))
  have hl := ho.lt
  clear ho hx
  go_enter Tryz.func121, Tryz.ntmps121
  go_wp2_with fail
  refine HS.out.mono ?_
  rintro e w1 ⟨rfl, rfl⟩
  go_wp2
  go_ret
  exact ⟨rfl, rfl⟩
theorem nil_Front (m : Value) (w : World) : Calls Tryz.prog 121 #[.pointer none, m] w fun e w' => e = .returned (.bool true) ∧ w = w' := by
  go_enter Tryz.func121, Tryz.ntmps121
  go_wp2
  go_ret
  exact ⟨rfl, rfl⟩
theorem step_Drop (P M B n : Nat) (R : Rng) (hR : R.Ok n) (x : ROp) (s : St) (w : World) (ho : RAt w P R x) (hm : PMem w M B n s) (h0 : 0 ≤ s.cnt) (h1 : s.cnt ≤ 1000000) (hP : P ≠ M ∧ P ≠ B) (hx : x.Good) (hw : Wd n s) :
    Calls Tryz.prog 127 #[.pointer (some ⟨P, 0, none⟩), .pointer (some ⟨M, 0, none⟩)] w (Went P M B n R (rSt n R s x) (rOp n R s x) w) := by
  have HS := Lib.hid (step_any P M B n R hR x s w ho hm h0 h1 hP hx hw)
  have hl := ho.lt
  clear ho hm hP hx hw
  go_enter Tryz.func127, Tryz.ntmps127
  go_wp2_with fail
  refine HS.out.mono ?_
  rintro e w1 ⟨rfl, h⟩
  have H := Lib.hid h
  clear h
  go_wp2
  go_ret
  exact ⟨rfl, H.out⟩
theorem over_Drop (P : Nat) (R : Rng) (x : ROp) (m : Value) (w : World) (ho : RAt w P R x) (hx : x.line = 0) :
    Calls Tryz.prog 127 #[.pointer (some ⟨P, 0, none⟩), m] w fun e w' => e = .returned (.bool true) ∧ w = w' := by
  have HS := Lib.hid (step_0 P R x.t x.w x.v x.er m w (by unfold RAt at ho; rw [hx] at ho; exact ho))
  have hl := ho.lt
  clear ho hx
  go_enter Tryz.func127, Tryz.ntmps127
  go_wp2_with fail
  refine HS.out.mono ?_
  rintro e w1 ⟨rfl, rfl⟩
  go_wp2
  go_ret
  exact ⟨rfl, rfl⟩
theorem nil_Drop (m : Value) (w : World) : Calls Tryz.prog 127 #[.pointer none, m] w fun e w' => e = .returned (.bool true) ∧ w = w' := by
  go_enter Tryz.func127, Tryz.ntmps127
  go_wp2
  go_ret
  exact ⟨rfl, rfl⟩
theorem told_Push (P : Nat) (R : Rng) (x : ROp) (w : World) (ho : RAt w P R x) : Calls Tryz.prog 119 #[.pointer (some ⟨P, 0, none⟩)] w fun e w' => e = .returned (.int .i64 x.er) ∧ w = w' := by
  have HO := Lib.hid (outcome_any P R x.t x.w x.v _ x.er w ho)
  have hl := ho.lt
  clear ho
  go_enter Tryz.func119, Tryz.ntmps119
  go_wp2_with fail
  refine HO.out.mono ?_
  rintro e w1 ⟨rfl, rfl⟩
  go_wp2
  go_ret
  exact ⟨rfl, rfl⟩
theorem told_nil_Push (w : World) : Calls Tryz.prog 119 #[.pointer none] w fun e w' => e = .returned (.int .i64 1) ∧ w = w' := by
  go_enter Tryz.func119, Tryz.ntmps119
  go_wp2
  go_ret
  exact ⟨rfl, rfl⟩
theorem told_Drop (P : Nat) (R : Rng) (x : ROp) (w : World) (ho : RAt w P R x) : Calls Tryz.prog 129 #[.pointer (some ⟨P, 0, none⟩)] w fun e w' => e = .returned (.int .i64 x.er) ∧ w = w' := by
  have HO := Lib.hid (outcome_any P R x.t x.w x.v _ x.er w ho)
  have hl := ho.lt
  clear ho
  go_enter Tryz.func129, Tryz.ntmps129
  go_wp2_with fail
  refine HO.out.mono ?_
  rintro e w1 ⟨rfl, rfl⟩
  go_wp2
  go_ret
  exact ⟨rfl, rfl⟩
theorem told_nil_Drop (w : World) : Calls Tryz.prog 129 #[.pointer none] w fun e w' => e = .returned (.int .i64 1) ∧ w = w' := by
  go_enter Tryz.func129, Tryz.ntmps129
  go_wp2
  go_ret
  exact ⟨rfl, rfl⟩
def toldV (x : ROp) : Int := if x.er = 0 then x.v else 0
theorem told_Front (P : Nat) (R : Rng) (x : ROp) (w : World) (ho : RAt w P R x) : Calls Tryz.prog 123 #[.pointer (some ⟨P, 0, none⟩)] w fun e w' => e = .returned (.tuple #[.int .i64 (toldV x), .int .i64 x.er]) ∧ w = w' := by
  have HO := Lib.hid (outcome_any P R x.t x.w x.v _ x.er w ho)
  have hl := ho.lt
  have c8 := ho.c8
  clear ho
  unfold toldV
  by_cases he : x.er = 0
  · rw [if_pos he]
    rw [he] at HO ⊢
    go_enter Tryz.func123, Tryz.ntmps123
    go_wp2_with fail
    refine HO.out.mono ?_
    rintro e w1 ⟨rfl, rfl⟩
    go_wp2
    go_ret2
    exact ⟨rfl, rfl⟩
  · rw [if_neg he]
    generalize x.er = q at *
    go_enter Tryz.func123, Tryz.ntmps123
    go_wp2_with fail
    refine HO.out.mono ?_
    rintro e w1 ⟨rfl, rfl⟩
    go_wp2
    go_ret2
    exact ⟨rfl, rfl⟩
theorem at_Front (P : Nat) (R : Rng) (x : ROp) (w : World) (ho : RAt w P R x) : Calls Tryz.prog 125 #[.pointer (some ⟨P, 0, none⟩)] w fun e w' => e = .returned (.int .u64 x.t) ∧ w = w' := by
  have hl := ho.lt
  have c6 := ho.c6
  clear ho
  go_enter Tryz.func125, Tryz.ntmps125
  go_wp2
  go_ret
  exact ⟨rfl, rfl⟩
theorem told_nil_Front (w : World) : Calls Tryz.prog 123 #[.pointer none] w fun e w' => e = .returned (.tuple #[.int .i64 0, .int .i64 1]) ∧ w = w' := by
  go_enter Tryz.func123, Tryz.ntmps123
  go_wp2
  go_ret2
  exact ⟨rfl, rfl⟩
theorem at_nil_Front (w : World) : Calls Tryz.prog 125 #[.pointer none] w fun e w' => e = .returned (.int .u64 0) ∧ w = w' := by
  go_enter Tryz.func125, Tryz.ntmps125
  go_wp2
  go_ret
  exact ⟨rfl, rfl⟩
end Go.Proofs.YtlfdiffbepfgbaaGreat.Ri

namespace Go.Proofs.YtlfdiffbepfgbaaGreat.Ri
set_option maxRecDepth 20000
open Go.RowKit
open Wo (St acc wordAt)
open Sk (Wd)

theorem lap_beq (a b : Int) : (a * 4294967296 == b * 4294967296) = (a == b) := by
  rw [Bool.eq_iff_iff, beq_iff_eq, beq_iff_eq]
  omega
theorem free_eq (R : Rng) (t w : Int) : (wlap w == t / R.N % 4294967296 && !full w) = free R t w := by
  unfold free vac lap
  rw [lap_beq, Bool.and_comm]
theorem taken_eq (R : Rng) (t w : Int) : (wlap w == t / R.N % 4294967296 && full w) = taken R t w := by
  unfold taken vac lap
  rw [lap_beq, Bool.and_comm]
theorem kept_eq (R : Rng) (t w : Int) (h0 : 0 ≤ w) (h1 : w < 18446744073709551616) : (wlap w == (t / R.N % 4294967296 + 4294967296 - 1) % 4294967296 && full w) = keptB R t w := by
  have a := wlap_lo h0
  have b := wlap_hi h1
  unfold keptB vac lap
  rw [lap_beq, Bool.and_comm]
  have : (wlap w == (t / R.N % 4294967296 + 4294967296 - 1) % 4294967296) = ((wlap w + 1) % 4294967296 == t / R.N % 4294967296) := by
    rw [Bool.eq_iff_iff, beq_iff_eq, beq_iff_eq]
    omega
  rw [this]

def isPush (x : ROp) : Prop := x.line ≤ 5
def isFront (x : ROp) : Prop := (x.line = 0 ∨ x.line = 6 ∨ x.line = 7) ∧ (x.line ≠ 0 → x.v = 0)
def isDrop (x : ROp) : Prop := x.line = 0 ∨ x.line = 8 ∨ x.line = 9
theorem isPush.next {n : Nat} {R : Rng} {s : St} {x : ROp} (h : isPush x) : isPush (rOp n R s x) := by
  unfold isPush at *
  have : x.line = 0 ∨ x.line = 1 ∨ x.line = 2 ∨ x.line = 3 ∨ x.line = 4 ∨ x.line = 5 := by omega
  unfold rOp rLook
  rcases this with e | e | e | e | e | e <;> simp only [e, ↓reduceIte, Nat.reduceEqDiff] <;> repeat' split
  all_goals (simp <;> omega)
theorem isFront.next {n : Nat} {R : Rng} {s : St} {x : ROp} (h : isFront x) : isFront (rOp n R s x) := by
  obtain ⟨h, hv⟩ := h
  unfold rOp rAhead
  rcases h with e | e | e <;> simp only [e, ↓reduceIte, Nat.reduceEqDiff]
  · exact ⟨.inl e, hv⟩
  · exact ⟨.inr (.inr rfl), fun _ => hv (by omega)⟩
  · split
    · exact ⟨.inl rfl, fun h => absurd rfl h⟩
    · exact ⟨.inl rfl, fun h => absurd rfl h⟩
theorem isDrop.next {n : Nat} {R : Rng} {s : St} {x : ROp} (h : isDrop x) : isDrop (rOp n R s x) := by
  unfold rOp
  rcases h with e | e | e <;> simp only [e, ↓reduceIte, Nat.reduceEqDiff]
  · exact .inl e
  · exact .inr (.inr rfl)
  · exact .inl rfl
def pushNew (v : Int) : ROp := ⟨1, 0, 0, v, 14⟩
def pushBad (v : Int) : ROp := ⟨0, 0, 0, v, 3⟩
def frontNew : ROp := ⟨6, 0, 0, 0, 14⟩
def dropNew (h : Int) : ROp := ⟨8, h, 0, 0, 14⟩
theorem pushNew_good {v : Int} (h0 : 0 ≤ v) (h1 : v ≤ 65535) : (pushNew v).Good := ⟨by simp [pushNew], by simp [pushNew], by simp [pushNew], by simp [pushNew], fun _ => ⟨h0, h1⟩, by simp [pushNew], .inl ⟨by simp [pushNew], rfl⟩⟩
theorem pushBad_good (v : Int) : (pushBad v).Good := ⟨by simp [pushBad], by simp [pushBad], by simp [pushBad], by simp [pushBad], fun h => absurd rfl h, by simp [pushBad], .inr ⟨rfl, by simp [pushBad]⟩⟩
theorem frontNew_good : frontNew.Good := ⟨by decide, by decide, by decide, by decide, fun _ => by decide, by decide, .inl ⟨by decide, rfl⟩⟩
theorem dropNew_good {h : Int} (h0 : 0 ≤ h) (h1 : h < 18446744073709551616) : (dropNew h).Good := ⟨h0, h1, by simp [dropNew], by simp [dropNew], fun _ => by simp [dropNew], by simp [dropNew], .inl ⟨by simp [dropNew], rfl⟩⟩
theorem push_good (v : Int) : (if 0 ≤ v ∧ v ≤ 65535 then pushNew v else pushBad v).Good ∧ isPush (if 0 ≤ v ∧ v ≤ 65535 then pushNew v else pushBad v) := by
  by_cases h : 0 ≤ v ∧ v ≤ 65535
  · rw [if_pos h]; exact ⟨pushNew_good h.1 h.2, by show (1 : Nat) ≤ 5; decide⟩
  · rw [if_neg h]; exact ⟨pushBad_good v, by show (0 : Nat) ≤ 5; decide⟩
end Go.Proofs.YtlfdiffbepfgbaaGreat.Ri
