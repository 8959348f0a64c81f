/- 'told': a core's operation, the program's and the document's, steps alike and tells alike. Written by gen14t.py. -/
import Derived.Test.YtlfdiffbepfgbaaGreatG14
import Derived.Deep.RegionHeld3
import Derived.Deep.QuietTactic
import Derived.BigQuiet
set_option linter.unusedVariables false
set_option linter.unusedSimpArgs false

namespace Go.Proofs.YtlfdiffbepfgbaaGreat.Ri
set_option maxRecDepth 20000
open Go.RowKit
open Wo (St acc wordAt PMem RefIs)
open Sk (Wd pmem_kept pmem_lt ref_frame ref_kept ref_lt)

def PushP1 (own : Nat → Nat) (c : Nat) (R : Rng) (M B M2 B2 n : Nat) (s : St) (x : ROp) (P Q : Nat) (w : World) (e : Ending) (w' : World) : Prop :=
  e = .returned (.bool ((rOp n R s x).line == 0)) ∧ RAt w' P R (rOp n R s x) ∧ DPushAt w' Q R x ∧ PMem w' M B n (rSt n R s x) ∧ RefIs w' M2 B2 n s ∧ But (mine own c) w w' ∧ But (fun k => k = P ∨ k = B) w w'
def PushP2 (own : Nat → Nat) (c : Nat) (R : Rng) (M B M2 B2 n : Nat) (s : St) (x : ROp) (P Q : Nat) (w : World) (e : Ending) (w' : World) : Prop :=
  e = .returned (.bool ((rOp n R s x).line == 0)) ∧ PS.Is own c R w' (.push (rOp n R s x) P Q) ∧ Duo own w' M B M2 B2 n (rSt n R s x) ∧ But (mine own c) w w' ∧ But (fun k => k = Q ∨ k = M2 ∨ k = B2) w w'
theorem push_first (own : Nat → Nat) (c : Nat) (R : Rng) (M B M2 B2 n : Nat) (s : St) (x : ROp) (P Q : Nat) (w : World) (h : PushIs own c R w x P Q) (hd : Duo own w M B M2 B2 n s) (hR : R.Ok n) (c1 : s.cnt ≤ 1000000) :
    Calls Tryz.prog 117 #[.pointer (some ⟨P, 0, none⟩), .pointer (some ⟨M, 0, none⟩)] w (PushP1 own c R M B M2 B2 n s x P Q w) := by
  obtain ⟨hp, hr, hx, hk, oP, oQ⟩ := h
  obtain ⟨hm0, hr0, hwd, c0, oM, oB, oM2, oB2, n1, n2⟩ := hd
  have hPM : P ≠ M := fun e => by rw [e] at oP; omega
  have hPB : P ≠ B := fun e => by rw [e] at oP; omega
  refine (step_Push P M B n R hR x s _ hp hm0 c0 c1 ⟨hPM, hPB⟩ hx hwd).mono fun e w' ⟨x1, x2, x3, x4⟩ => ⟨x1, x2, hr.frame x4 ?_, x3, ref_frame hr0 n1 x4 ?_ ?_, x4.mono fun k _ h => mine_sub (.inl oP) (.inl oB) k h, x4⟩
  · rintro (e | e)
    · rw [e] at oQ; omega
    · rw [e] at oQ; omega
  · rintro (e | e)
    · rw [e] at oM2; omega
    · rw [e] at oM2; omega
  · rintro (e | e)
    · rw [e] at oB2; omega
    · rw [e] at oB2; omega
theorem push_second (own : Nat → Nat) (c : Nat) (R : Rng) (M B M2 B2 n : Nat) (s : St) (x : ROp) (P Q : Nat) (w0 w : World) (h : PushIs own c R w0 x P Q) (hd : Duo own w0 M B M2 B2 n s) (hR : R.Ok n) (c1 : s.cnt ≤ 1000000)
    (g1 : RAt w P R (rOp n R s x)) (g2 : DPushAt w Q R x) (g3 : PMem w M B n (rSt n R s x)) (g4 : RefIs w M2 B2 n s) :
    Calls Tryz.prog 118 #[.pointer (some ⟨Q, 0, none⟩), .pointer (some ⟨M2, 0, none⟩)] w (PushP2 own c R M B M2 B2 n s x P Q w) := by
  obtain ⟨hp, hr, hx, hk, oP, oQ⟩ := h
  obtain ⟨hm0, _, hwd, c0, oM, oB, oM2, oB2, n1, n2⟩ := hd
  have hQ : ¬ (Q = M2 ∨ Q = B2) := by
    rintro (e | e)
    · rw [e] at oQ; omega
    · rw [e] at oQ; omega
  refine (rpush_step Q M2 B2 n R hR x s _ g2 g4 c0 c1 n1 hQ hx hk hwd).mono fun e w' ⟨x1, x2, x3, x4⟩ => ⟨x1, ⟨g1.frame x4 ?_, x2, rOp_good hx hwd, hk.next, oP, oQ⟩, ⟨Sk.pmem_frame g3 x4 ?_ ?_, x3, rSt_wd hx hwd, by have := (rSt_cnt n R s x).1; omega, oM, oB, oM2, oB2, n1, n2⟩, x4.mono fun k _ h => ?_, x4⟩
  · rintro (e | e | e)
    · rw [e] at oP; omega
    · rw [e] at oP; omega
    · rw [e] at oP; omega
  · rintro (e | e | e)
    · rw [e] at oM; omega
    · rw [e] at oM; omega
    · rw [e] at oM; omega
  · rintro (e | e | e)
    · rw [e] at oB; omega
    · rw [e] at oB; omega
    · rw [e] at oB; omega
  · rcases h with rfl | rfl | rfl
    · exact .inr (.inr (.inr oQ))
    · exact .inr (.inl oM2)
    · exact .inr (.inl oB2)

def FrontP1 (own : Nat → Nat) (c : Nat) (R : Rng) (M B M2 B2 n : Nat) (s : St) (x : ROp) (P Q : Nat) (w : World) (e : Ending) (w' : World) : Prop :=
  e = .returned (.bool ((rOp n R s x).line == 0)) ∧ RAt w' P R (rOp n R s x) ∧ DFrontAt w' Q R x ∧ PMem w' M B n (rSt n R s x) ∧ RefIs w' M2 B2 n s ∧ But (mine own c) w w' ∧ But (fun k => k = P ∨ k = B) w w'
def FrontP2 (own : Nat → Nat) (c : Nat) (R : Rng) (M B M2 B2 n : Nat) (s : St) (x : ROp) (P Q : Nat) (w : World) (e : Ending) (w' : World) : Prop :=
  e = .returned (.bool ((rOp n R s x).line == 0)) ∧ PS.Is own c R w' (.front (rOp n R s x) P Q) ∧ Duo own w' M B M2 B2 n (rSt n R s x) ∧ But (mine own c) w w' ∧ But (fun k => k = Q ∨ k = M2 ∨ k = B2) w w'
theorem front_first (own : Nat → Nat) (c : Nat) (R : Rng) (M B M2 B2 n : Nat) (s : St) (x : ROp) (P Q : Nat) (w : World) (h : FrontIs own c R w x P Q) (hd : Duo own w M B M2 B2 n s) (hR : R.Ok n) (c1 : s.cnt ≤ 1000000) :
    Calls Tryz.prog 121 #[.pointer (some ⟨P, 0, none⟩), .pointer (some ⟨M, 0, none⟩)] w (FrontP1 own c R M B M2 B2 n s x P Q w) := by
  obtain ⟨hp, hr, hx, hk, oP, oQ⟩ := h
  obtain ⟨hm0, hr0, hwd, c0, oM, oB, oM2, oB2, n1, n2⟩ := hd
  have hPM : P ≠ M := fun e => by rw [e] at oP; omega
  have hPB : P ≠ B := fun e => by rw [e] at oP; omega
  refine (step_Front P M B n R hR x s _ hp hm0 c0 c1 ⟨hPM, hPB⟩ hx hwd).mono fun e w' ⟨x1, x2, x3, x4⟩ => ⟨x1, x2, hr.frame x4 ?_, x3, ref_frame hr0 n1 x4 ?_ ?_, x4.mono fun k _ h => mine_sub (.inl oP) (.inl oB) k h, x4⟩
  · rintro (e | e)
    · rw [e] at oQ; omega
    · rw [e] at oQ; omega
  · rintro (e | e)
    · rw [e] at oM2; omega
    · rw [e] at oM2; omega
  · rintro (e | e)
    · rw [e] at oB2; omega
    · rw [e] at oB2; omega
theorem front_second (own : Nat → Nat) (c : Nat) (R : Rng) (M B M2 B2 n : Nat) (s : St) (x : ROp) (P Q : Nat) (w0 w : World) (h : FrontIs own c R w0 x P Q) (hd : Duo own w0 M B M2 B2 n s) (hR : R.Ok n) (c1 : s.cnt ≤ 1000000)
    (g1 : RAt w P R (rOp n R s x)) (g2 : DFrontAt w Q R x) (g3 : PMem w M B n (rSt n R s x)) (g4 : RefIs w M2 B2 n s) :
    Calls Tryz.prog 122 #[.pointer (some ⟨Q, 0, none⟩), .pointer (some ⟨M2, 0, none⟩)] w (FrontP2 own c R M B M2 B2 n s x P Q w) := by
  obtain ⟨hp, hr, hx, hk, oP, oQ⟩ := h
  obtain ⟨hm0, _, hwd, c0, oM, oB, oM2, oB2, n1, n2⟩ := hd
  have hQ : ¬ (Q = M2 ∨ Q = B2) := by
    rintro (e | e)
    · rw [e] at oQ; omega
    · rw [e] at oQ; omega
  refine (rfront_step Q M2 B2 n R hR x s _ g2 g4 c0 c1 n1 hQ hx hk hwd).mono fun e w' ⟨x1, x2, x3, x4⟩ => ⟨x1, ⟨g1.frame x4 ?_, x2, rOp_good hx hwd, hk.next, oP, oQ⟩, ⟨Sk.pmem_frame g3 x4 ?_ ?_, x3, rSt_wd hx hwd, by have := (rSt_cnt n R s x).1; omega, oM, oB, oM2, oB2, n1, n2⟩, x4.mono fun k _ h => ?_, x4⟩
  · rintro (e | e | e)
    · rw [e] at oP; omega
    · rw [e] at oP; omega
    · rw [e] at oP; omega
  · rintro (e | e | e)
    · rw [e] at oM; omega
    · rw [e] at oM; omega
    · rw [e] at oM; omega
  · rintro (e | e | e)
    · rw [e] at oB; omega
    · rw [e] at oB; omega
    · rw [e] at oB; omega
  · rcases h with rfl | rfl | rfl
    · exact .inr (.inr (.inr oQ))
    · exact .inr (.inl oM2)
    · exact .inr (.inl oB2)

def DropP1 (own : Nat → Nat) (c : Nat) (R : Rng) (M B M2 B2 n : Nat) (s : St) (x : ROp) (P Q : Nat) (w : World) (e : Ending) (w' : World) : Prop :=
  e = .returned (.bool ((rOp n R s x).line == 0)) ∧ RAt w' P R (rOp n R s x) ∧ DDropAt w' Q R x ∧ PMem w' M B n (rSt n R s x) ∧ RefIs w' M2 B2 n s ∧ But (mine own c) w w' ∧ But (fun k => k = P ∨ k = B) w w'
def DropP2 (own : Nat → Nat) (c : Nat) (R : Rng) (M B M2 B2 n : Nat) (s : St) (x : ROp) (P Q : Nat) (w : World) (e : Ending) (w' : World) : Prop :=
  e = .returned (.bool ((rOp n R s x).line == 0)) ∧ PS.Is own c R w' (.drop (rOp n R s x) P Q) ∧ Duo own w' M B M2 B2 n (rSt n R s x) ∧ But (mine own c) w w' ∧ But (fun k => k = Q ∨ k = M2 ∨ k = B2) w w'
theorem drop_first (own : Nat → Nat) (c : Nat) (R : Rng) (M B M2 B2 n : Nat) (s : St) (x : ROp) (P Q : Nat) (w : World) (h : DropIs own c R w x P Q) (hd : Duo own w M B M2 B2 n s) (hR : R.Ok n) (c1 : s.cnt ≤ 1000000) :
    Calls Tryz.prog 127 #[.pointer (some ⟨P, 0, none⟩), .pointer (some ⟨M, 0, none⟩)] w (DropP1 own c R M B M2 B2 n s x P Q w) := by
  obtain ⟨hp, hr, hx, hk, oP, oQ⟩ := h
  obtain ⟨hm0, hr0, hwd, c0, oM, oB, oM2, oB2, n1, n2⟩ := hd
  have hPM : P ≠ M := fun e => by rw [e] at oP; omega
  have hPB : P ≠ B := fun e => by rw [e] at oP; omega
  refine (step_Drop P M B n R hR x s _ hp hm0 c0 c1 ⟨hPM, hPB⟩ hx hwd).mono fun e w' ⟨x1, x2, x3, x4⟩ => ⟨x1, x2, hr.frame x4 ?_, x3, ref_frame hr0 n1 x4 ?_ ?_, x4.mono fun k _ h => mine_sub (.inl oP) (.inl oB) k h, x4⟩
  · rintro (e | e)
    · rw [e] at oQ; omega
    · rw [e] at oQ; omega
  · rintro (e | e)
    · rw [e] at oM2; omega
    · rw [e] at oM2; omega
  · rintro (e | e)
    · rw [e] at oB2; omega
    · rw [e] at oB2; omega
theorem drop_second (own : Nat → Nat) (c : Nat) (R : Rng) (M B M2 B2 n : Nat) (s : St) (x : ROp) (P Q : Nat) (w0 w : World) (h : DropIs own c R w0 x P Q) (hd : Duo own w0 M B M2 B2 n s) (hR : R.Ok n) (c1 : s.cnt ≤ 1000000)
    (g1 : RAt w P R (rOp n R s x)) (g2 : DDropAt w Q R x) (g3 : PMem w M B n (rSt n R s x)) (g4 : RefIs w M2 B2 n s) :
    Calls Tryz.prog 128 #[.pointer (some ⟨Q, 0, none⟩), .pointer (some ⟨M2, 0, none⟩)] w (DropP2 own c R M B M2 B2 n s x P Q w) := by
  obtain ⟨hp, hr, hx, hk, oP, oQ⟩ := h
  obtain ⟨hm0, _, hwd, c0, oM, oB, oM2, oB2, n1, n2⟩ := hd
  have hQ : ¬ (Q = M2 ∨ Q = B2) := by
    rintro (e | e)
    · rw [e] at oQ; omega
    · rw [e] at oQ; omega
  refine (rdrop_step Q M2 B2 n R hR x s _ g2 g4 c0 c1 n1 hQ hx hk hwd).mono fun e w' ⟨x1, x2, x3, x4⟩ => ⟨x1, ⟨g1.frame x4 ?_, x2, rOp_good hx hwd, hk.next, oP, oQ⟩, ⟨Sk.pmem_frame g3 x4 ?_ ?_, x3, rSt_wd hx hwd, by have := (rSt_cnt n R s x).1; omega, oM, oB, oM2, oB2, n1, n2⟩, x4.mono fun k _ h => ?_, x4⟩
  · rintro (e | e | e)
    · rw [e] at oP; omega
    · rw [e] at oP; omega
    · rw [e] at oP; omega
  · rintro (e | e | e)
    · rw [e] at oM; omega
    · rw [e] at oM; omega
    · rw [e] at oM; omega
  · rintro (e | e | e)
    · rw [e] at oB; omega
    · rw [e] at oB; omega
    · rw [e] at oB; omega
  · rcases h with rfl | rfl | rfl
    · exact .inr (.inr (.inr oQ))
    · exact .inr (.inl oM2)
    · exact .inr (.inl oB2)
end Go.Proofs.YtlfdiffbepfgbaaGreat.Ri

namespace Go.Proofs.YtlfdiffbepfgbaaGreat.Ri
set_option maxRecDepth 20000
open Go.RowKit
open Wo (St acc wordAt PMem RefIs)
open Sk (Wd pmem_kept pmem_lt ref_frame ref_kept ref_lt)

set_option maxHeartbeats 4000000 in
theorem same_push_step (own : Nat → Nat) (c : Nat) (R : Rng) (M B M2 B2 n : Nat) (s : St) (x : ROp) (P Q : Nat) (w : World) (h : PushIs own c R w x P Q) (hd : Duo own w M B M2 B2 n s) (hR : R.Ok n) (c1 : s.cnt ≤ 900000) :
    Calls Tryz.prog 49 #[.agg #[.pointer (some ⟨P, 0, none⟩), .pointer (some ⟨Q, 0, none⟩), .pointer none, .pointer none, .pointer none, .pointer none], .pointer (some ⟨M, 0, none⟩), .pointer (some ⟨M2, 0, none⟩), .bool true] w (ToldPost own c R M B M2 B2 n s (.push x P Q) true w) := by
  have FIRST := Lib.hid (fun W (k : Kept w W) => push_first own c R M B M2 B2 n s x P Q W (PS.Is.kept (p := .push x P Q) h k) (hd.kept k) hR (by omega))
  have SECOND := Lib.hid (push_second own c R M B M2 B2 n s x P Q w)
  have hP : P < w.heap.size := h.1.lt
  have hQ : Q < w.heap.size := h.2.1.lt
  have hB : B < w.heap.size := (pmem_lt hd.p).2
  have hB2 : B2 < w.heap.size := (ref_lt hd.r hd.n1).2
  have hM2 : M2 < w.heap.size := (ref_lt hd.r hd.n1).1
  have HH := Lib.hid h
  have HD := Lib.hid hd
  have HR := Lib.hid hR
  clear h hd hR
  go_enter Tryz.func49, Tryz.ntmps49
  go_upto_region 2 with fail
  obtain ⟨W1, hW1⟩ : ∃ W1, W1 = w.alloc (.cells #[.pointer (some ⟨P, 0, none⟩), .pointer (some ⟨Q, 0, none⟩), .pointer none, .pointer none, .pointer none, .pointer none] 128) := ⟨_, rfl⟩
  have a0 : W1.cell? ⟨w.heap.size, 0, none⟩ = some (.pointer (some ⟨P, 0, none⟩)) := by rw [hW1]; exact cell_new w _ _ _ 0 rfl
  have a1 : W1.cell? ⟨w.heap.size, 1, none⟩ = some (.pointer (some ⟨Q, 0, none⟩)) := by rw [hW1]; exact cell_new w _ _ _ 1 rfl
  have k1 : Kept w W1 := by rw [hW1]; exact (Kept.refl w).alloc _ _
  rw [← hW1]
  have z1 : w.heap.size < W1.heap.size := by rw [hW1]; simp
  have K1 := Lib.hid k1
  clear hW1 k1
  go_region_held3 (fun w' => w'.cell? ⟨w.heap.size, 0, none⟩ = some (.pointer (some ⟨P, 0, none⟩)) ∧ w'.cell? ⟨w.heap.size, 1, none⟩ = some (.pointer (some ⟨Q, 0, none⟩))) (first | go_keep | (exact ⟨d0, d1⟩) | (exact ⟨b0, b1⟩)) (first
    | (go_at_call 117; refine (FIRST.out _ (K1.out.trans (by first | exact Kept.refl _ | exact (Kept.refl _).drew | exact (Kept.refl _).drewN _))).mono ?_; rintro e u1 ⟨rfl, y1, y2, y3, y4, y5, y6⟩; have BT : But (fun k => k = P ∨ k = B) W1 u1 := (Kept.but (w' := _) (by first | exact Kept.refl _ | exact (Kept.refl _).drew | exact (Kept.refl _).drewN _) _).trans y6 (fun _ _ h => h); have B1 : But (mine own c) w u1 := ((K1.out.trans (c := _) (by first | exact Kept.refl _ | exact (Kept.refl _).drew | exact (Kept.refl _).drewN _)).but _).trans y5 (fun _ _ h => h); have b0 := BT.some a0 (by omega); have b1 := BT.some a1 (by omega))
    | (go_at_call 118; refine (SECOND.out _ HH.out HD.out HR.out (by omega) (y1.kept (by first | exact Kept.refl _ | exact (Kept.refl _).drew | exact (Kept.refl _).drewN _)) (y2.kept (by first | exact Kept.refl _ | exact (Kept.refl _).drew | exact (Kept.refl _).drewN _)) (pmem_kept y3 (by first | exact Kept.refl _ | exact (Kept.refl _).drew | exact (Kept.refl _).drewN _)) (ref_kept y4 HD.out.n1 (by first | exact Kept.refl _ | exact (Kept.refl _).drew | exact (Kept.refl _).drewN _))).mono ?_; rintro e u2 ⟨rfl, v1, v2, v3, v4⟩; have BU : But (fun k => k = Q ∨ k = M2 ∨ k = B2) u1 u2 := (Kept.but (w' := _) (by first | exact Kept.refl _ | exact (Kept.refl _).drew | exact (Kept.refl _).drewN _) _).trans v4 (fun _ _ h => h); have B2' : But (mine own c) w u2 := (B1.trans ((Kept.but (w' := _) (by first | exact Kept.refl _ | exact (Kept.refl _).drew | exact (Kept.refl _).drewN _) _).trans v3 (fun _ _ h => h)) (fun _ _ h => h)); have d0 := BU.some b0 (by omega); have d1 := BU.some b1 (by omega)))
  obtain ⟨x', hx'⟩ : ∃ x', x' = rOp n R s x := ⟨_, rfl⟩
  obtain ⟨s', hs'⟩ : ∃ s', s' = rSt n R s x := ⟨_, rfl⟩
  have hcnt : s'.cnt ≤ s.cnt + 1 := by rw [hs']; exact (rSt_cnt n R s x).2
  rw [← hx'] at v1
  rw [← hs'] at v2
  rw [← hx']
  have VI : Hid (PushIs own c R u2 x' P Q) := Lib.hid v1
  have VD := Lib.hid v2
  have VB := Lib.hid B2'
  clear hx' hs' y1 y2 y3 y4 y5 y6 BT B1 b0 b1 v1 v2 v3 v4 BU B2' a0 a1
  have a0 := d0
  have a1 := d1
  have z2 : w.heap.size < u2.heap.size := lt_of_cell d0
  clear d0 d1
  go_wp2_with fail
  go_region_held3 (fun w' => w'.cell? ⟨w.heap.size, 0, none⟩ = some (.pointer (some ⟨P, 0, none⟩)) ∧ w'.cell? ⟨w.heap.size, 1, none⟩ = some (.pointer (some ⟨Q, 0, none⟩))) (first | go_keep | (exact ⟨b0, b1⟩) | (exact ⟨d0, d1⟩)) (first
    | (go_at_call 119; refine (told_k_Push P R x' _ (VI.out.1.kept (by first | exact Kept.refl _ | exact (Kept.refl _).drew | exact (Kept.refl _).drewN _))).mono ?_; rintro e u3 ⟨rfl, k3⟩; have K3 : Kept u2 u3 := Kept.trans (b := _) (by first | exact Kept.refl _ | exact (Kept.refl _).drew | exact (Kept.refl _).drewN _) k3; have b0 := K3.some a0; have b1 := K3.some a1)
    | (go_at_call 120; refine (rtold_Push Q R x' _ (VI.out.2.1.kept (by first | exact K3 | exact K3.drew | exact K3.drewN _)) VI.out.2.2.1 VI.out.2.2.2.1).mono ?_; rintro e u4 ⟨rfl, k4⟩; have K4 : Kept u2 u4 := Kept.trans (b := _) (by first | exact K3 | exact K3.drew | exact K3.drewN _) k4; have d0 := K4.some a0; have d1 := K4.some a1))
  go_wp2
  go_ret
  have KK := K4
  exact ⟨rfl, .push x' P Q, s', rfl, fun h => absurd h (by decide), PS.Is.kept (p := .push x' P Q) VI.out KK, VD.out.kept KK, hcnt, VB.out.then KK⟩

set_option maxHeartbeats 4000000 in
theorem same_push_rest (own : Nat → Nat) (c : Nat) (R : Rng) (M B M2 B2 n : Nat) (s : St) (x : ROp) (P Q : Nat) (w : World) (h : PushIs own c R w x P Q) (hd : Duo own w M B M2 B2 n s) (hR : R.Ok n) (c1 : s.cnt ≤ 900000) :
    Calls Tryz.prog 49 #[.agg #[.pointer (some ⟨P, 0, none⟩), .pointer (some ⟨Q, 0, none⟩), .pointer none, .pointer none, .pointer none, .pointer none], .pointer (some ⟨M, 0, none⟩), .pointer (some ⟨M2, 0, none⟩), .bool false] w (ToldPost own c R M B M2 B2 n s (.push x P Q) false w) := by
  have FIRST := Lib.hid (fun W (k : Kept w W) => push_first own c R M B M2 B2 n s x P Q W (PS.Is.kept (p := .push x P Q) h k) (hd.kept k) hR (by omega))
  have SECOND := Lib.hid (push_second own c R M B M2 B2 n s x P Q w)
  have hP : P < w.heap.size := h.1.lt
  have hQ : Q < w.heap.size := h.2.1.lt
  have hB : B < w.heap.size := (pmem_lt hd.p).2
  have hB2 : B2 < w.heap.size := (ref_lt hd.r hd.n1).2
  have hM2 : M2 < w.heap.size := (ref_lt hd.r hd.n1).1
  have HH := Lib.hid h
  have HD := Lib.hid hd
  have HR := Lib.hid hR
  clear h hd hR
  go_enter Tryz.func49, Tryz.ntmps49
  go_upto_region 2 with fail
  obtain ⟨W1, hW1⟩ : ∃ W1, W1 = w.alloc (.cells #[.pointer (some ⟨P, 0, none⟩), .pointer (some ⟨Q, 0, none⟩), .pointer none, .pointer none, .pointer none, .pointer none] 128) := ⟨_, rfl⟩
  have a0 : W1.cell? ⟨w.heap.size, 0, none⟩ = some (.pointer (some ⟨P, 0, none⟩)) := by rw [hW1]; exact cell_new w _ _ _ 0 rfl
  have a1 : W1.cell? ⟨w.heap.size, 1, none⟩ = some (.pointer (some ⟨Q, 0, none⟩)) := by rw [hW1]; exact cell_new w _ _ _ 1 rfl
  have k1 : Kept w W1 := by rw [hW1]; exact (Kept.refl w).alloc _ _
  rw [← hW1]
  have z1 : w.heap.size < W1.heap.size := by rw [hW1]; simp
  have K1 := Lib.hid k1
  clear hW1 k1
  go_quiet (fail)
  have VI : Hid (PushIs own c R W1 x P Q) := Lib.hid (PS.Is.kept (p := .push x P Q) HH.out K1.out)
  go_wp2_with fail
  go_region_held3 (fun w' => w'.cell? ⟨w.heap.size, 0, none⟩ = some (.pointer (some ⟨P, 0, none⟩)) ∧ w'.cell? ⟨w.heap.size, 1, none⟩ = some (.pointer (some ⟨Q, 0, none⟩))) (first | go_keep | (exact ⟨b0, b1⟩) | (exact ⟨d0, d1⟩)) (first
    | (go_at_call 119; refine (told_k_Push P R x _ (VI.out.1.kept (by first | exact Kept.refl _ | exact (Kept.refl _).drew | exact (Kept.refl _).drewN _))).mono ?_; rintro e u3 ⟨rfl, k3⟩; have K3 : Kept W1 u3 := Kept.trans (b := _) (by first | exact Kept.refl _ | exact (Kept.refl _).drew | exact (Kept.refl _).drewN _) k3; have b0 := K3.some a0; have b1 := K3.some a1)
    | (go_at_call 120; refine (rtold_Push Q R x _ (VI.out.2.1.kept (by first | exact K3 | exact K3.drew | exact K3.drewN _)) VI.out.2.2.1 VI.out.2.2.2.1).mono ?_; rintro e u4 ⟨rfl, k4⟩; have K4 : Kept W1 u4 := Kept.trans (b := _) (by first | exact K3 | exact K3.drew | exact K3.drewN _) k4; have d0 := K4.some a0; have d1 := K4.some a1))
  go_wp2
  go_ret
  have KK := K4
  exact ⟨rfl, .push x P Q, s, rfl, fun _ => rfl, PS.Is.kept (p := .push x P Q) VI.out KK, HD.out.kept (K1.out.trans KK), by omega, ((K1.out.trans KK).but _)⟩
end Go.Proofs.YtlfdiffbepfgbaaGreat.Ri

namespace Go.Proofs.YtlfdiffbepfgbaaGreat.Ri
set_option maxRecDepth 20000
open Go.RowKit
open Wo (St acc wordAt PMem RefIs)
open Sk (Wd pmem_kept pmem_lt ref_frame ref_kept ref_lt)

set_option maxHeartbeats 4000000 in
theorem same_front_step (own : Nat → Nat) (c : Nat) (R : Rng) (M B M2 B2 n : Nat) (s : St) (x : ROp) (P Q : Nat) (w : World) (h : FrontIs own c R w x P Q) (hd : Duo own w M B M2 B2 n s) (hR : R.Ok n) (c1 : s.cnt ≤ 900000) :
    Calls Tryz.prog 49 #[.agg #[.pointer none, .pointer none, .pointer (some ⟨P, 0, none⟩), .pointer (some ⟨Q, 0, none⟩), .pointer none, .pointer none], .pointer (some ⟨M, 0, none⟩), .pointer (some ⟨M2, 0, none⟩), .bool true] w (ToldPost own c R M B M2 B2 n s (.front x P Q) true w) := by
  have FIRST := Lib.hid (fun W (k : Kept w W) => front_first own c R M B M2 B2 n s x P Q W (PS.Is.kept (p := .front x P Q) h k) (hd.kept k) hR (by omega))
  have SECOND := Lib.hid (front_second own c R M B M2 B2 n s x P Q w)
  have hP : P < w.heap.size := h.1.lt
  have hQ : Q < w.heap.size := h.2.1.lt
  have hB : B < w.heap.size := (pmem_lt hd.p).2
  have hB2 : B2 < w.heap.size := (ref_lt hd.r hd.n1).2
  have hM2 : M2 < w.heap.size := (ref_lt hd.r hd.n1).1
  have HH := Lib.hid h
  have HD := Lib.hid hd
  have HR := Lib.hid hR
  clear h hd hR
  go_enter Tryz.func49, Tryz.ntmps49
  go_upto_region 5 with fail
  obtain ⟨W1, hW1⟩ : ∃ W1, W1 = w.alloc (.cells #[.pointer none, .pointer none, .pointer (some ⟨P, 0, none⟩), .pointer (some ⟨Q, 0, none⟩), .pointer none, .pointer none] 128) := ⟨_, rfl⟩
  have a0 : W1.cell? ⟨w.heap.size, 2, none⟩ = some (.pointer (some ⟨P, 0, none⟩)) := by rw [hW1]; exact cell_new w _ _ _ 2 rfl
  have a1 : W1.cell? ⟨w.heap.size, 3, none⟩ = some (.pointer (some ⟨Q, 0, none⟩)) := by rw [hW1]; exact cell_new w _ _ _ 3 rfl
  have k1 : Kept w W1 := by rw [hW1]; exact (Kept.refl w).alloc _ _
  rw [← hW1]
  have z1 : w.heap.size < W1.heap.size := by rw [hW1]; simp
  have K1 := Lib.hid k1
  clear hW1 k1
  go_region_held3 (fun w' => w'.cell? ⟨w.heap.size, 2, none⟩ = some (.pointer (some ⟨P, 0, none⟩)) ∧ w'.cell? ⟨w.heap.size, 3, none⟩ = some (.pointer (some ⟨Q, 0, none⟩))) (first | go_keep | (exact ⟨d0, d1⟩) | (exact ⟨b0, b1⟩)) (first
    | (go_at_call 121; refine (FIRST.out _ (K1.out.trans (by first | exact Kept.refl _ | exact (Kept.refl _).drew | exact (Kept.refl _).drewN _))).mono ?_; rintro e u1 ⟨rfl, y1, y2, y3, y4, y5, y6⟩; have BT : But (fun k => k = P ∨ k = B) W1 u1 := (Kept.but (w' := _) (by first | exact Kept.refl _ | exact (Kept.refl _).drew | exact (Kept.refl _).drewN _) _).trans y6 (fun _ _ h => h); have B1 : But (mine own c) w u1 := ((K1.out.trans (c := _) (by first | exact Kept.refl _ | exact (Kept.refl _).drew | exact (Kept.refl _).drewN _)).but _).trans y5 (fun _ _ h => h); have b0 := BT.some a0 (by omega); have b1 := BT.some a1 (by omega))
    | (go_at_call 122; refine (SECOND.out _ HH.out HD.out HR.out (by omega) (y1.kept (by first | exact Kept.refl _ | exact (Kept.refl _).drew | exact (Kept.refl _).drewN _)) (y2.kept (by first | exact Kept.refl _ | exact (Kept.refl _).drew | exact (Kept.refl _).drewN _)) (pmem_kept y3 (by first | exact Kept.refl _ | exact (Kept.refl _).drew | exact (Kept.refl _).drewN _)) (ref_kept y4 HD.out.n1 (by first | exact Kept.refl _ | exact (Kept.refl _).drew | exact (Kept.refl _).drewN _))).mono ?_; rintro e u2 ⟨rfl, v1, v2, v3, v4⟩; have BU : But (fun k => k = Q ∨ k = M2 ∨ k = B2) u1 u2 := (Kept.but (w' := _) (by first | exact Kept.refl _ | exact (Kept.refl _).drew | exact (Kept.refl _).drewN _) _).trans v4 (fun _ _ h => h); have B2' : But (mine own c) w u2 := (B1.trans ((Kept.but (w' := _) (by first | exact Kept.refl _ | exact (Kept.refl _).drew | exact (Kept.refl _).drewN _) _).trans v3 (fun _ _ h => h)) (fun _ _ h => h)); have d0 := BU.some b0 (by omega); have d1 := BU.some b1 (by omega)))
  obtain ⟨x', hx'⟩ : ∃ x', x' = rOp n R s x := ⟨_, rfl⟩
  obtain ⟨s', hs'⟩ : ∃ s', s' = rSt n R s x := ⟨_, rfl⟩
  have hcnt : s'.cnt ≤ s.cnt + 1 := by rw [hs']; exact (rSt_cnt n R s x).2
  rw [← hx'] at v1
  rw [← hs'] at v2
  rw [← hx']
  have VI : Hid (FrontIs own c R u2 x' P Q) := Lib.hid v1
  have VD := Lib.hid v2
  have VB := Lib.hid B2'
  clear hx' hs' y1 y2 y3 y4 y5 y6 BT B1 b0 b1 v1 v2 v3 v4 BU B2' a0 a1
  have a0 := d0
  have a1 := d1
  have z2 : w.heap.size < u2.heap.size := lt_of_cell d0
  clear d0 d1
  go_wp2_with fail
  refine (told_k_Front P R x' _ (VI.out.1.kept (by first | exact Kept.refl _ | exact (Kept.refl _).drew | exact (Kept.refl _).drewN _))).mono ?_
  rintro e u3 ⟨rfl, k3⟩
  have K3 : Kept u2 u3 := Kept.trans (b := _) (by first | exact Kept.refl _ | exact (Kept.refl _).drew | exact (Kept.refl _).drewN _) k3
  have e0 := K3.some a0
  have e1 := K3.some a1
  have HK3 := Lib.hid K3
  clear k3 K3
  go_wp2_with fail
  refine (rtold_Front Q R x' _ (VI.out.2.1.kept HK3.out) VI.out.2.2.1 VI.out.2.2.2.1).mono ?_
  rintro e u4 ⟨rfl, k4⟩
  have f0 := k4.some e0
  have f1 := k4.some e1
  have HK4 := Lib.hid (HK3.out.trans k4)
  clear k4
  go_wp2_with fail
  go_region_held3 (fun w' => w'.cell? ⟨w.heap.size, 2, none⟩ = some (.pointer (some ⟨P, 0, none⟩)) ∧ w'.cell? ⟨w.heap.size, 3, none⟩ = some (.pointer (some ⟨Q, 0, none⟩))) (first | go_keep | (exact ⟨b0, b1⟩) | (exact ⟨d0, d1⟩)) (first
    | (go_at_call 125; refine (at_k_Front P R x' _ (VI.out.1.kept (HK4.out.trans (by first | exact Kept.refl _ | exact (Kept.refl _).drew | exact (Kept.refl _).drewN _)))).mono ?_; rintro e u5 ⟨rfl, k5⟩; have K5 : Kept u4 u5 := Kept.trans (b := _) (by first | exact Kept.refl _ | exact (Kept.refl _).drew | exact (Kept.refl _).drewN _) k5; have b0 := K5.some f0; have b1 := K5.some f1)
    | (go_at_call 126; refine (rat_k_Front Q R x' _ (VI.out.2.1.kept (HK4.out.trans (by first | exact K5 | exact K5.drew | exact K5.drewN _)))).mono ?_; rintro e u6 ⟨rfl, k6⟩; have K6 : Kept u4 u6 := Kept.trans (b := _) (by first | exact K5 | exact K5.drew | exact K5.drewN _) k6; have d0 := K6.some f0; have d1 := K6.some f1))
  go_wp2
  go_ret
  have KK := HK4.out.trans K6
  exact ⟨rfl, .front x' P Q, s', rfl, fun h => absurd h (by decide), PS.Is.kept (p := .front x' P Q) VI.out KK, VD.out.kept KK, hcnt, VB.out.then KK⟩

set_option maxHeartbeats 4000000 in
theorem same_front_rest (own : Nat → Nat) (c : Nat) (R : Rng) (M B M2 B2 n : Nat) (s : St) (x : ROp) (P Q : Nat) (w : World) (h : FrontIs own c R w x P Q) (hd : Duo own w M B M2 B2 n s) (hR : R.Ok n) (c1 : s.cnt ≤ 900000) :
    Calls Tryz.prog 49 #[.agg #[.pointer none, .pointer none, .pointer (some ⟨P, 0, none⟩), .pointer (some ⟨Q, 0, none⟩), .pointer none, .pointer none], .pointer (some ⟨M, 0, none⟩), .pointer (some ⟨M2, 0, none⟩), .bool false] w (ToldPost own c R M B M2 B2 n s (.front x P Q) false w) := by
  have FIRST := Lib.hid (fun W (k : Kept w W) => front_first own c R M B M2 B2 n s x P Q W (PS.Is.kept (p := .front x P Q) h k) (hd.kept k) hR (by omega))
  have SECOND := Lib.hid (front_second own c R M B M2 B2 n s x P Q w)
  have hP : P < w.heap.size := h.1.lt
  have hQ : Q < w.heap.size := h.2.1.lt
  have hB : B < w.heap.size := (pmem_lt hd.p).2
  have hB2 : B2 < w.heap.size := (ref_lt hd.r hd.n1).2
  have hM2 : M2 < w.heap.size := (ref_lt hd.r hd.n1).1
  have HH := Lib.hid h
  have HD := Lib.hid hd
  have HR := Lib.hid hR
  clear h hd hR
  go_enter Tryz.func49, Tryz.ntmps49
  go_upto_region 5 with fail
  obtain ⟨W1, hW1⟩ : ∃ W1, W1 = w.alloc (.cells #[.pointer none, .pointer none, .pointer (some ⟨P, 0, none⟩), .pointer (some ⟨Q, 0, none⟩), .pointer none, .pointer none] 128) := ⟨_, rfl⟩
  have a0 : W1.cell? ⟨w.heap.size, 2, none⟩ = some (.pointer (some ⟨P, 0, none⟩)) := by rw [hW1]; exact cell_new w _ _ _ 2 rfl
  have a1 : W1.cell? ⟨w.heap.size, 3, none⟩ = some (.pointer (some ⟨Q, 0, none⟩)) := by rw [hW1]; exact cell_new w _ _ _ 3 rfl
  have k1 : Kept w W1 := by rw [hW1]; exact (Kept.refl w).alloc _ _
  rw [← hW1]
  have z1 : w.heap.size < W1.heap.size := by rw [hW1]; simp
  have K1 := Lib.hid k1
  clear hW1 k1
  go_quiet (fail)
  have VI : Hid (FrontIs own c R W1 x P Q) := Lib.hid (PS.Is.kept (p := .front x P Q) HH.out K1.out)
  go_wp2_with fail
  refine (told_k_Front P R x _ (VI.out.1.kept (by first | exact Kept.refl _ | exact (Kept.refl _).drew | exact (Kept.refl _).drewN _))).mono ?_
  rintro e u3 ⟨rfl, k3⟩
  have K3 : Kept W1 u3 := Kept.trans (b := _) (by first | exact Kept.refl _ | exact (Kept.refl _).drew | exact (Kept.refl _).drewN _) k3
  have e0 := K3.some a0
  have e1 := K3.some a1
  have HK3 := Lib.hid K3
  clear k3 K3
  go_wp2_with fail
  refine (rtold_Front Q R x _ (VI.out.2.1.kept HK3.out) VI.out.2.2.1 VI.out.2.2.2.1).mono ?_
  rintro e u4 ⟨rfl, k4⟩
  have f0 := k4.some e0
  have f1 := k4.some e1
  have HK4 := Lib.hid (HK3.out.trans k4)
  clear k4
  go_wp2_with fail
  go_region_held3 (fun w' => w'.cell? ⟨w.heap.size, 2, none⟩ = some (.pointer (some ⟨P, 0, none⟩)) ∧ w'.cell? ⟨w.heap.size, 3, none⟩ = some (.pointer (some ⟨Q, 0, none⟩))) (first | go_keep | (exact ⟨b0, b1⟩) | (exact ⟨d0, d1⟩)) (first
    | (go_at_call 125; refine (at_k_Front P R x _ (VI.out.1.kept (HK4.out.trans (by first | exact Kept.refl _ | exact (Kept.refl _).drew | exact (Kept.refl _).drewN _)))).mono ?_; rintro e u5 ⟨rfl, k5⟩; have K5 : Kept u4 u5 := Kept.trans (b := _) (by first | exact Kept.refl _ | exact (Kept.refl _).drew | exact (Kept.refl _).drewN _) k5; have b0 := K5.some f0; have b1 := K5.some f1)
    | (go_at_call 126; refine (rat_k_Front Q R x _ (VI.out.2.1.kept (HK4.out.trans (by first | exact K5 | exact K5.drew | exact K5.drewN _)))).mono ?_; rintro e u6 ⟨rfl, k6⟩; have K6 : Kept u4 u6 := Kept.trans (b := _) (by first | exact K5 | exact K5.drew | exact K5.drewN _) k6; have d0 := K6.some f0; have d1 := K6.some f1))
  go_wp2
  go_ret
  have KK := HK4.out.trans K6
  exact ⟨rfl, .front x P Q, s, rfl, fun _ => rfl, PS.Is.kept (p := .front x P Q) VI.out KK, HD.out.kept (K1.out.trans KK), by omega, ((K1.out.trans KK).but _)⟩
end Go.Proofs.YtlfdiffbepfgbaaGreat.Ri

namespace Go.Proofs.YtlfdiffbepfgbaaGreat.Ri
set_option maxRecDepth 20000
open Go.RowKit
open Wo (St acc wordAt PMem RefIs)
open Sk (Wd pmem_kept pmem_lt ref_frame ref_kept ref_lt)

set_option maxHeartbeats 4000000 in
theorem same_drop_step (own : Nat → Nat) (c : Nat) (R : Rng) (M B M2 B2 n : Nat) (s : St) (x : ROp) (P Q : Nat) (w : World) (h : DropIs own c R w x P Q) (hd : Duo own w M B M2 B2 n s) (hR : R.Ok n) (c1 : s.cnt ≤ 900000) :
    Calls Tryz.prog 49 #[.agg #[.pointer none, .pointer none, .pointer none, .pointer none, .pointer (some ⟨P, 0, none⟩), .pointer (some ⟨Q, 0, none⟩)], .pointer (some ⟨M, 0, none⟩), .pointer (some ⟨M2, 0, none⟩), .bool true] w (ToldPost own c R M B M2 B2 n s (.drop x P Q) true w) := by
  have FIRST := Lib.hid (fun W (k : Kept w W) => drop_first own c R M B M2 B2 n s x P Q W (PS.Is.kept (p := .drop x P Q) h k) (hd.kept k) hR (by omega))
  have SECOND := Lib.hid (drop_second own c R M B M2 B2 n s x P Q w)
  have hP : P < w.heap.size := h.1.lt
  have hQ : Q < w.heap.size := h.2.1.lt
  have hB : B < w.heap.size := (pmem_lt hd.p).2
  have hB2 : B2 < w.heap.size := (ref_lt hd.r hd.n1).2
  have hM2 : M2 < w.heap.size := (ref_lt hd.r hd.n1).1
  have HH := Lib.hid h
  have HD := Lib.hid hd
  have HR := Lib.hid hR
  clear h hd hR
  go_enter Tryz.func49, Tryz.ntmps49
  go_upto_region 10 with fail
  obtain ⟨W1, hW1⟩ : ∃ W1, W1 = w.alloc (.cells #[.pointer none, .pointer none, .pointer none, .pointer none, .pointer (some ⟨P, 0, none⟩), .pointer (some ⟨Q, 0, none⟩)] 128) := ⟨_, rfl⟩
  have a0 : W1.cell? ⟨w.heap.size, 4, none⟩ = some (.pointer (some ⟨P, 0, none⟩)) := by rw [hW1]; exact cell_new w _ _ _ 4 rfl
  have a1 : W1.cell? ⟨w.heap.size, 5, none⟩ = some (.pointer (some ⟨Q, 0, none⟩)) := by rw [hW1]; exact cell_new w _ _ _ 5 rfl
  have k1 : Kept w W1 := by rw [hW1]; exact (Kept.refl w).alloc _ _
  rw [← hW1]
  have z1 : w.heap.size < W1.heap.size := by rw [hW1]; simp
  have K1 := Lib.hid k1
  clear hW1 k1
  go_region_held3 (fun w' => w'.cell? ⟨w.heap.size, 4, none⟩ = some (.pointer (some ⟨P, 0, none⟩)) ∧ w'.cell? ⟨w.heap.size, 5, none⟩ = some (.pointer (some ⟨Q, 0, none⟩))) (first | go_keep | (exact ⟨d0, d1⟩) | (exact ⟨b0, b1⟩)) (first
    | (go_at_call 127; refine (FIRST.out _ (K1.out.trans (by first | exact Kept.refl _ | exact (Kept.refl _).drew | exact (Kept.refl _).drewN _))).mono ?_; rintro e u1 ⟨rfl, y1, y2, y3, y4, y5, y6⟩; have BT : But (fun k => k = P ∨ k = B) W1 u1 := (Kept.but (w' := _) (by first | exact Kept.refl _ | exact (Kept.refl _).drew | exact (Kept.refl _).drewN _) _).trans y6 (fun _ _ h => h); have B1 : But (mine own c) w u1 := ((K1.out.trans (c := _) (by first | exact Kept.refl _ | exact (Kept.refl _).drew | exact (Kept.refl _).drewN _)).but _).trans y5 (fun _ _ h => h); have b0 := BT.some a0 (by omega); have b1 := BT.some a1 (by omega))
    | (go_at_call 128; refine (SECOND.out _ HH.out HD.out HR.out (by omega) (y1.kept (by first | exact Kept.refl _ | exact (Kept.refl _).drew | exact (Kept.refl _).drewN _)) (y2.kept (by first | exact Kept.refl _ | exact (Kept.refl _).drew | exact (Kept.refl _).drewN _)) (pmem_kept y3 (by first | exact Kept.refl _ | exact (Kept.refl _).drew | exact (Kept.refl _).drewN _)) (ref_kept y4 HD.out.n1 (by first | exact Kept.refl _ | exact (Kept.refl _).drew | exact (Kept.refl _).drewN _))).mono ?_; rintro e u2 ⟨rfl, v1, v2, v3, v4⟩; have BU : But (fun k => k = Q ∨ k = M2 ∨ k = B2) u1 u2 := (Kept.but (w' := _) (by first | exact Kept.refl _ | exact (Kept.refl _).drew | exact (Kept.refl _).drewN _) _).trans v4 (fun _ _ h => h); have B2' : But (mine own c) w u2 := (B1.trans ((Kept.but (w' := _) (by first | exact Kept.refl _ | exact (Kept.refl _).drew | exact (Kept.refl _).drewN _) _).trans v3 (fun _ _ h => h)) (fun _ _ h => h)); have d0 := BU.some b0 (by omega); have d1 := BU.some b1 (by omega)))
  obtain ⟨x', hx'⟩ : ∃ x', x' = rOp n R s x := ⟨_, rfl⟩
  obtain ⟨s', hs'⟩ : ∃ s', s' = rSt n R s x := ⟨_, rfl⟩
  have hcnt : s'.cnt ≤ s.cnt + 1 := by rw [hs']; exact (rSt_cnt n R s x).2
  rw [← hx'] at v1
  rw [← hs'] at v2
  rw [← hx']
  have VI : Hid (DropIs own c R u2 x' P Q) := Lib.hid v1
  have VD := Lib.hid v2
  have VB := Lib.hid B2'
  clear hx' hs' y1 y2 y3 y4 y5 y6 BT B1 b0 b1 v1 v2 v3 v4 BU B2' a0 a1
  have a0 := d0
  have a1 := d1
  have z2 : w.heap.size < u2.heap.size := lt_of_cell d0
  clear d0 d1
  go_wp2_with fail
  go_region_held3 (fun w' => w'.cell? ⟨w.heap.size, 4, none⟩ = some (.pointer (some ⟨P, 0, none⟩)) ∧ w'.cell? ⟨w.heap.size, 5, none⟩ = some (.pointer (some ⟨Q, 0, none⟩))) (first | go_keep | (exact ⟨b0, b1⟩) | (exact ⟨d0, d1⟩)) (first
    | (go_at_call 129; refine (told_k_Drop P R x' _ (VI.out.1.kept (by first | exact Kept.refl _ | exact (Kept.refl _).drew | exact (Kept.refl _).drewN _))).mono ?_; rintro e u3 ⟨rfl, k3⟩; have K3 : Kept u2 u3 := Kept.trans (b := _) (by first | exact Kept.refl _ | exact (Kept.refl _).drew | exact (Kept.refl _).drewN _) k3; have b0 := K3.some a0; have b1 := K3.some a1)
    | (go_at_call 130; refine (rtold_Drop Q R x' _ (VI.out.2.1.kept (by first | exact K3 | exact K3.drew | exact K3.drewN _)) VI.out.2.2.1 VI.out.2.2.2.1).mono ?_; rintro e u4 ⟨rfl, k4⟩; have K4 : Kept u2 u4 := Kept.trans (b := _) (by first | exact K3 | exact K3.drew | exact K3.drewN _) k4; have d0 := K4.some a0; have d1 := K4.some a1))
  go_wp2
  go_ret
  have KK := K4
  exact ⟨rfl, .drop x' P Q, s', rfl, fun h => absurd h (by decide), PS.Is.kept (p := .drop x' P Q) VI.out KK, VD.out.kept KK, hcnt, VB.out.then KK⟩

set_option maxHeartbeats 4000000 in
theorem same_drop_rest (own : Nat → Nat) (c : Nat) (R : Rng) (M B M2 B2 n : Nat) (s : St) (x : ROp) (P Q : Nat) (w : World) (h : DropIs own c R w x P Q) (hd : Duo own w M B M2 B2 n s) (hR : R.Ok n) (c1 : s.cnt ≤ 900000) :
    Calls Tryz.prog 49 #[.agg #[.pointer none, .pointer none, .pointer none, .pointer none, .pointer (some ⟨P, 0, none⟩), .pointer (some ⟨Q, 0, none⟩)], .pointer (some ⟨M, 0, none⟩), .pointer (some ⟨M2, 0, none⟩), .bool false] w (ToldPost own c R M B M2 B2 n s (.drop x P Q) false w) := by
  have FIRST := Lib.hid (fun W (k : Kept w W) => drop_first own c R M B M2 B2 n s x P Q W (PS.Is.kept (p := .drop x P Q) h k) (hd.kept k) hR (by omega))
  have SECOND := Lib.hid (drop_second own c R M B M2 B2 n s x P Q w)
  have hP : P < w.heap.size := h.1.lt
  have hQ : Q < w.heap.size := h.2.1.lt
  have hB : B < w.heap.size := (pmem_lt hd.p).2
  have hB2 : B2 < w.heap.size := (ref_lt hd.r hd.n1).2
  have hM2 : M2 < w.heap.size := (ref_lt hd.r hd.n1).1
  have HH := Lib.hid h
  have HD := Lib.hid hd
  have HR := Lib.hid hR
  clear h hd hR
  go_enter Tryz.func49, Tryz.ntmps49
  go_upto_region 10 with fail
  obtain ⟨W1, hW1⟩ : ∃ W1, W1 = w.alloc (.cells #[.pointer none, .pointer none, .pointer none, .pointer none, .pointer (some ⟨P, 0, none⟩), .pointer (some ⟨Q, 0, none⟩)] 128) := ⟨_, rfl⟩
  have a0 : W1.cell? ⟨w.heap.size, 4, none⟩ = some (.pointer (some ⟨P, 0, none⟩)) := by rw [hW1]; exact cell_new w _ _ _ 4 rfl
  have a1 : W1.cell? ⟨w.heap.size, 5, none⟩ = some (.pointer (some ⟨Q, 0, none⟩)) := by rw [hW1]; exact cell_new w _ _ _ 5 rfl
  have k1 : Kept w W1 := by rw [hW1]; exact (Kept.refl w).alloc _ _
  rw [← hW1]
  have z1 : w.heap.size < W1.heap.size := by rw [hW1]; simp
  have K1 := Lib.hid k1
  clear hW1 k1
  go_quiet (fail)
  have VI : Hid (DropIs own c R W1 x P Q) := Lib.hid (PS.Is.kept (p := .drop x P Q) HH.out K1.out)
  go_wp2_with fail
  go_region_held3 (fun w' => w'.cell? ⟨w.heap.size, 4, none⟩ = some (.pointer (some ⟨P, 0, none⟩)) ∧ w'.cell? ⟨w.heap.size, 5, none⟩ = some (.pointer (some ⟨Q, 0, none⟩))) (first | go_keep | (exact ⟨b0, b1⟩) | (exact ⟨d0, d1⟩)) (first
    | (go_at_call 129; refine (told_k_Drop P R x _ (VI.out.1.kept (by first | exact Kept.refl _ | exact (Kept.refl _).drew | exact (Kept.refl _).drewN _))).mono ?_; rintro e u3 ⟨rfl, k3⟩; have K3 : Kept W1 u3 := Kept.trans (b := _) (by first | exact Kept.refl _ | exact (Kept.refl _).drew | exact (Kept.refl _).drewN _) k3; have b0 := K3.some a0; have b1 := K3.some a1)
    | (go_at_call 130; refine (rtold_Drop Q R x _ (VI.out.2.1.kept (by first | exact K3 | exact K3.drew | exact K3.drewN _)) VI.out.2.2.1 VI.out.2.2.2.1).mono ?_; rintro e u4 ⟨rfl, k4⟩; have K4 : Kept W1 u4 := Kept.trans (b := _) (by first | exact K3 | exact K3.drew | exact K3.drewN _) k4; have d0 := K4.some a0; have d1 := K4.some a1))
  go_wp2
  go_ret
  have KK := K4
  exact ⟨rfl, .drop x P Q, s, rfl, fun _ => rfl, PS.Is.kept (p := .drop x P Q) VI.out KK, HD.out.kept (K1.out.trans KK), by omega, ((K1.out.trans KK).but _)⟩
end Go.Proofs.YtlfdiffbepfgbaaGreat.Ri
