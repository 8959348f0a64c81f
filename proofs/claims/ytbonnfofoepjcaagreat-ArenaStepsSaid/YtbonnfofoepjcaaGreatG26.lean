/- A core's operation twice: the program's and the document's, side by side. Blocks have owners: 0 the program's memory, 1 the document's, 10 + 2 c and 11 + 2 c core c's operations. -/
import Derived.Test.YtbonnfofoepjcaaGreatG25
import Derived.Test.YtbonnfofoepjcaaGreatG14
import Derived.Test.YtbonnfofoepjcaaGreatG15
import Derived.Deep.RegionHeld3
set_option linter.unusedVariables false
set_option linter.unusedSimpArgs false

namespace Go.Proofs.YtbonnfofoepjcaaGreat.Sk
set_option maxRecDepth 20000
open Go.RowKit
open Wo (St acc wordAt PMem RefIs)

structure TDuo (own : Nat → Nat) (w : World) (M B M2 B2 n : Nat) (s : St) : Prop where
  p : PMem w M B n s
  r : RefIs w M2 B2 n s
  wd : Wd n s
  c0 : 0 ≤ s.cnt
  oM : own M = 0
  oB : own B = 0
  oM2 : own M2 = 1
  oB2 : own B2 = 1
  n1 : 1 ≤ n
  n2 : n ≤ 4096
theorem TDuo.frame {own : Nat → Nat} {w w' : World} {M B M2 B2 n : Nat} {s : St} (h : TDuo own w M B M2 B2 n s) {T : Nat → Prop} (hb : But T w w') (hT : ∀ k, T k → own k ≠ 0 ∧ own k ≠ 1) : TDuo own w' M B M2 B2 n s :=
  ⟨pmem_frame h.p hb (fun t => (hT _ t).1 h.oM) (fun t => (hT _ t).1 h.oB), ref_frame h.r h.n1 hb (fun t => (hT _ t).2 h.oM2) (fun t => (hT _ t).2 h.oB2), h.wd, h.c0, h.oM, h.oB, h.oM2, h.oB2, h.n1, h.n2⟩
theorem TDuo.kept {own : Nat → Nat} {w w' : World} {M B M2 B2 n : Nat} {s : St} (h : TDuo own w M B M2 B2 n s) (k : Kept w w') : TDuo own w' M B M2 B2 n s := h.frame (k.but (fun _ => False)) (fun _ h => h.elim)
theorem TDuo.owns {own own' : Nat → Nat} {w : World} {M B M2 B2 n : Nat} {s : St} (h : TDuo own w M B M2 B2 n s) (ho : ∀ k, k < w.heap.size → own' k = own k) : TDuo own' w M B M2 B2 n s :=
  ⟨h.p, h.r, h.wd, h.c0, (ho _ (pmem_lt h.p).1).trans h.oM, (ho _ (pmem_lt h.p).2).trans h.oB, (ho _ (ref_lt h.r h.n1).1).trans h.oM2, (ho _ (ref_lt h.r h.n1).2).trans h.oB2, h.n1, h.n2⟩
def tmine (own : Nat → Nat) (c : Nat) (k : Nat) : Prop := own k = 0 ∨ own k = 1 ∨ own k = 10 + 2 * c ∨ own k = 11 + 2 * c

inductive AP where
  | idle : AP
  | al (x : AOp) (P Q R : Nat) : AP
  | fr (i : Int) (x : FOp) (P Q R : Nat) : AP
def AP.cells : AP → List Value
  | .idle => [.pointer none, .pointer none, .pointer none, .pointer none]
  | .al _ P Q _ => [.pointer (some ⟨P, 0, none⟩), .pointer (some ⟨Q, 0, none⟩), .pointer none, .pointer none]
  | .fr _ _ P Q _ => [.pointer none, .pointer none, .pointer (some ⟨P, 0, none⟩), .pointer (some ⟨Q, 0, none⟩)]
theorem AP.cells_len (p : AP) : p.cells.length = 4 := by cases p <;> rfl
theorem AP.cells_one (p : AP) : ∀ v ∈ p.cells, v.oneCell' = true := by
  cases p <;> (intro v hv; simp [AP.cells] at hv; rcases hv with rfl | rfl | rfl | rfl <;> rfl)
structure AlIs (own : Nat → Nat) (c : Nat) (A : Arn) (w : World) (x : AOp) (P Q R : Nat) : Prop where
  a : AllocAt w P A x
  d : DAllocAt w Q R A x
  g : AGood A x
  oP : own P = 10 + 2 * c
  oQ : own Q = 11 + 2 * c
  oR : own R = 11 + 2 * c
structure FrIs (own : Nat → Nat) (c : Nat) (A : Arn) (w : World) (i : Int) (x : FOp) (P Q R : Nat) : Prop where
  a : FreeAt w P A i x
  d : DFreeAt w Q R A i x
  g : FGood A i x
  oP : own P = 10 + 2 * c
  oQ : own Q = 11 + 2 * c
  oR : own R = 11 + 2 * c
def AP.Is (own : Nat → Nat) (c : Nat) (A : Arn) (w : World) : AP → Prop
  | .idle => True
  | .al x P Q R => AlIs own c A w x P Q R
  | .fr i x P Q R => FrIs own c A w i x P Q R
theorem AP.Is.frame {own : Nat → Nat} {c : Nat} {A : Arn} {w w' : World} {p : AP} (h : p.Is own c A w) {T : Nat → Prop} (hb : But T w w') (hT : ∀ k, T k → own k ≠ 10 + 2 * c ∧ own k ≠ 11 + 2 * c) : p.Is own c A w' := by
  cases p with
  | idle => trivial
  | al x P Q R => exact ⟨h.a.frame hb (fun t => (hT _ t).1 h.oP), h.d.frame hb (fun t => (hT _ t).2 h.oQ) (fun t => (hT _ t).2 h.oR), h.g, h.oP, h.oQ, h.oR⟩
  | fr i x P Q R => exact ⟨h.a.frame hb (fun t => (hT _ t).1 h.oP), h.d.frame hb (fun t => (hT _ t).2 h.oQ) (fun t => (hT _ t).2 h.oR), h.g, h.oP, h.oQ, h.oR⟩
theorem AP.Is.kept {own : Nat → Nat} {c : Nat} {A : Arn} {w w' : World} {p : AP} (h : p.Is own c A w) (k : Kept w w') : p.Is own c A w' := h.frame (k.but (fun _ => False)) (fun _ h => h.elim)
theorem AP.Is.owns {own own' : Nat → Nat} {c : Nat} {A : Arn} {w : World} {p : AP} (h : p.Is own c A w) (ho : ∀ k, k < w.heap.size → own' k = own k) : p.Is own' c A w := by
  cases p with
  | idle => trivial
  | al x P Q R => exact ⟨h.a, h.d, h.g, (ho _ h.a.lt).trans h.oP, (ho _ h.d.lt.1).trans h.oQ, (ho _ h.d.lt.2).trans h.oR⟩
  | fr i x P Q R => exact ⟨h.a, h.d, h.g, (ho _ h.a.lt).trans h.oP, (ho _ h.d.lt.1).trans h.oQ, (ho _ h.d.lt.2).trans h.oR⟩

def TStep (own : Nat → Nat) (c : Nat) (A : Arn) (M B M2 B2 n : Nat) (s : St) (p : AP) (w : World) (e : Ending) (w' : World) : Prop :=
  e = .returned (.bool true) ∧ ∃ (p' : AP) (s' : St), p'.cells = p.cells ∧ p'.Is own c A w' ∧ TDuo own w' M B M2 B2 n s' ∧ s'.cnt ≤ s.cnt + 1 ∧ But (tmine own c) w w'

structure Half (own : Nat → Nat) (c : Nat) (w w' : World) : Prop where
  but : But (tmine own c) w w'
theorem al_first (own : Nat → Nat) (c : Nat) (A : Arn) (M B M2 B2 n : Nat) (s : St) (x : AOp) (P Q R : Nat) (w : World) (h : AlIs own c A w x P Q R) (hd : TDuo own w M B M2 B2 n s) (hA : A.Ok n) (c1 : s.cnt ≤ 900000) :
    Calls Tryz.prog 70 #[.pointer (some ⟨P, 0, none⟩), .pointer (some ⟨M, 0, none⟩)] w fun e w' => e = .returned (.bool ((alOp n A s x).line == 9)) ∧ AllocAt w' P A (alOp n A s x) ∧ DAllocAt w' Q R A x ∧ PMem w' M B n (alSt n A s x) ∧ RefIs w' M2 B2 n s ∧ But (fun k => k = P ∨ k = B) w w' := by
  have oP := h.oP; have oQ := h.oQ; have oR := h.oR; have oM := hd.oM; have oB := hd.oB; have oM2 := hd.oM2; have oB2 := hd.oB2
  refine (alloc_step P M B n A s x w h.a hd.p hd.c0 (by omega) (fun e => by rw [e] at oP; omega) (fun e => by rw [e] at oP; omega) h.g hA hd.wd).mono fun e w' ⟨x1, x2, x3, x4⟩ => ⟨x1, x2, h.d.frame x4.but ?_ ?_, x3, ref_frame hd.r hd.n1 x4.but ?_ ?_, x4.but⟩
  all_goals (rintro (e | e) <;> (first | (rw [e] at oQ; omega) | (rw [e] at oR; omega) | (rw [e] at oM2; omega) | (rw [e] at oB2; omega)))
theorem al_second (own : Nat → Nat) (c : Nat) (A : Arn) (M B M2 B2 n : Nat) (s : St) (x : AOp) (P Q R : Nat) (w w1 : World) (h : AlIs own c A w x P Q R) (hd : TDuo own w M B M2 B2 n s) (hA : A.Ok n) (c1 : s.cnt ≤ 900000)
    (y1 : AllocAt w1 P A (alOp n A s x)) (y2 : DAllocAt w1 Q R A x) (y3 : PMem w1 M B n (alSt n A s x)) (y4 : RefIs w1 M2 B2 n s) :
    Calls Tryz.prog 71 #[.pointer (some ⟨Q, 0, none⟩), .pointer (some ⟨M2, 0, none⟩)] w1 fun e w' => e = .returned (.bool ((alOp n A s x).line == 9)) ∧ AlIs own c A w' (alOp n A s x) P Q R ∧ TDuo own w' M B M2 B2 n (alSt n A s x) ∧ But (fun k => k = Q ∨ k = R ∨ k = M2 ∨ k = B2) w1 w' := by
  have oP := h.oP; have oQ := h.oQ; have oR := h.oR; have oM := hd.oM; have oB := hd.oB; have oM2 := hd.oM2; have oB2 := hd.oB2
  have hc := alSt_cnt n A s x
  have c0 := hd.c0
  refine (dalloc_step Q R M2 B2 n A s x w1 y2 y4 hd.c0 (by omega) ?_ ?_ h.g hA hd.wd).mono fun e w' ⟨x1, x2, x3, x4⟩ => ⟨x1, ⟨y1.frame x4 ?_, x2, alOp_good h.g hd.wd, oP, oQ, oR⟩, ⟨pmem_frame y3 x4 ?_ ?_, x3, alSt_wd hd.wd, by omega, oM, oB, oM2, oB2, hd.n1, hd.n2⟩, x4⟩
  all_goals
    intro hh
    first
    | (rcases hh with e | e | e | e <;> first | (rw [e] at oP; omega) | (rw [e] at oM; omega) | (rw [e] at oB; omega))
    | (rcases hh with e | e <;> first | (rw [e] at oQ; omega) | (rw [e] at oR; omega))
theorem fr_first (own : Nat → Nat) (c : Nat) (A : Arn) (M B M2 B2 n : Nat) (s : St) (i : Int) (x : FOp) (P Q R : Nat) (w : World) (h : FrIs own c A w i x P Q R) (hd : TDuo own w M B M2 B2 n s) (hA : A.Ok n) (c1 : s.cnt ≤ 900000) :
    Calls Tryz.prog 27 #[.pointer (some ⟨P, 0, none⟩), .pointer (some ⟨M, 0, none⟩)] w fun e w' => e = .returned (.bool ((frOp n A i s x).line == 9)) ∧ FreeAt w' P A i (frOp n A i s x) ∧ DFreeAt w' Q R A i x ∧ PMem w' M B n (frSt n A i s x) ∧ RefIs w' M2 B2 n s ∧ But (fun k => k = P ∨ k = B) w w' := by
  have oP := h.oP; have oQ := h.oQ; have oR := h.oR; have oM := hd.oM; have oB := hd.oB; have oM2 := hd.oM2; have oB2 := hd.oB2
  refine (free_step P M B n A i s x w h.a hd.p hd.c0 (by omega) (fun e => by rw [e] at oP; omega) (fun e => by rw [e] at oP; omega) h.g hA hd.wd).mono fun e w' ⟨x1, x2, x3, x4⟩ => ⟨x1, x2, h.d.frame x4.but ?_ ?_, x3, ref_frame hd.r hd.n1 x4.but ?_ ?_, x4.but⟩
  all_goals (rintro (e | e) <;> (first | (rw [e] at oQ; omega) | (rw [e] at oR; omega) | (rw [e] at oM2; omega) | (rw [e] at oB2; omega)))
theorem fr_second (own : Nat → Nat) (c : Nat) (A : Arn) (M B M2 B2 n : Nat) (s : St) (i : Int) (x : FOp) (P Q R : Nat) (w w1 : World) (h : FrIs own c A w i x P Q R) (hd : TDuo own w M B M2 B2 n s) (hA : A.Ok n) (c1 : s.cnt ≤ 900000)
    (y1 : FreeAt w1 P A i (frOp n A i s x)) (y2 : DFreeAt w1 Q R A i x) (y3 : PMem w1 M B n (frSt n A i s x)) (y4 : RefIs w1 M2 B2 n s) :
    Calls Tryz.prog 73 #[.pointer (some ⟨Q, 0, none⟩), .pointer (some ⟨M2, 0, none⟩)] w1 fun e w' => e = .returned (.bool ((frOp n A i s x).line == 9)) ∧ FrIs own c A w' i (frOp n A i s x) P Q R ∧ TDuo own w' M B M2 B2 n (frSt n A i s x) ∧ But (fun k => k = Q ∨ k = R ∨ k = M2 ∨ k = B2) w1 w' := by
  have oP := h.oP; have oQ := h.oQ; have oR := h.oR; have oM := hd.oM; have oB := hd.oB; have oM2 := hd.oM2; have oB2 := hd.oB2
  have hc := frSt_cnt n A i s x
  have c0 := hd.c0
  refine (dfree_step Q R M2 B2 n A i s x w1 y2 y4 hd.c0 (by omega) ?_ ?_ h.g hA hd.wd).mono fun e w' ⟨x1, x2, x3, x4⟩ => ⟨x1, ⟨y1.frame x4 ?_, x2, frOp_good h.g hd.wd, oP, oQ, oR⟩, ⟨pmem_frame y3 x4 ?_ ?_, x3, frSt_wd hd.wd h.g hA.F.N2, by omega, oM, oB, oM2, oB2, hd.n1, hd.n2⟩, x4⟩
  all_goals
    intro hh
    first
    | (rcases hh with e | e | e | e <;> first | (rw [e] at oP; omega) | (rw [e] at oM; omega) | (rw [e] at oB; omega))
    | (rcases hh with e | e <;> first | (rw [e] at oQ; omega) | (rw [e] at oR; omega))
theorem tmine_p {own : Nat → Nat} {c P B : Nat} (hP : own P = 10 + 2 * c) (hB : own B = 0) : ∀ k, k = P ∨ k = B → tmine own c k := by
  rintro k (rfl | rfl)
  · exact .inr (.inr (.inl hP))
  · exact .inl hB
theorem tmine_d {own : Nat → Nat} {c Q R M B : Nat} (hQ : own Q = 11 + 2 * c) (hR : own R = 11 + 2 * c) (hM : own M = 1) (hB : own B = 1) : ∀ k, k = Q ∨ k = R ∨ k = M ∨ k = B → tmine own c k := by
  rintro k (rfl | rfl | rfl | rfl)
  · exact .inr (.inr (.inr hQ))
  · exact .inr (.inr (.inr hR))
  · exact .inr (.inl hM)
  · exact .inr (.inl hB)
end Go.Proofs.YtbonnfofoepjcaaGreat.Sk

namespace Go.Proofs.YtbonnfofoepjcaaGreat.Sk
set_option maxRecDepth 20000
open Go.RowKit
open Wo (St acc wordAt PMem RefIs)
set_option maxHeartbeats 1000000 in
theorem same_idle (own : Nat → Nat) (c : Nat) (A : Arn) (M B M2 B2 n : Nat) (s : St) (w : World) (hd : TDuo own w M B M2 B2 n s) :
    Calls Tryz.prog 16 #[.agg #[.pointer none, .pointer none, .pointer none, .pointer none], .pointer (some ⟨M, 0, none⟩), .pointer (some ⟨M2, 0, none⟩)] w (TStep own c A M B M2 B2 n s .idle w) := by
  have HD := Lib.hid hd
  clear hd
  go_enter Tryz.func16, Tryz.ntmps16
  go_wp2
  go_ret
  have k : Kept w (w.alloc (.cells #[.pointer none, .pointer none, .pointer none, .pointer none] 44)) := (Kept.refl w).alloc _ _
  exact ⟨rfl, .idle, s, rfl, trivial, HD.out.kept k, by omega, k.but _⟩

set_option maxHeartbeats 2000000 in
theorem same_al (own : Nat → Nat) (c : Nat) (A : Arn) (M B M2 B2 n : Nat) (s : St) (x : AOp) (P Q R : Nat) (w : World) (h : AlIs own c A w x P Q R) (hd : TDuo own w M B M2 B2 n s) (hA : A.Ok n) (c1 : s.cnt ≤ 900000) :
    Calls Tryz.prog 16 #[.agg #[.pointer (some ⟨P, 0, none⟩), .pointer (some ⟨Q, 0, none⟩), .pointer none, .pointer none], .pointer (some ⟨M, 0, none⟩), .pointer (some ⟨M2, 0, none⟩)] w (TStep own c A M B M2 B2 n s (.al x P Q R) w) := by
  have FIRST := Lib.hid (fun W (k : Kept w W) => al_first own c A M B M2 B2 n s x P Q R W (AP.Is.kept (p := .al x P Q R) h k) (hd.kept k) hA c1)
  have SECOND := Lib.hid (fun w1 y1 y2 y3 y4 => al_second own c A M B M2 B2 n s x P Q R w w1 h hd hA c1 y1 y2 y3 y4)
  have MP := Lib.hid (tmine_p h.oP hd.oB)
  have MD := Lib.hid (tmine_d h.oQ h.oR hd.oM2 hd.oB2)
  have hP : P < w.heap.size := h.a.lt
  have hQ := h.d.lt
  have hB := pmem_lt hd.p
  have hB2 := ref_lt hd.r hd.n1
  have n1 := hd.n1
  have HCN := Lib.hid ((alSt_cnt n A s x).2)
  obtain ⟨x', hx'⟩ : ∃ x', x' = alOp n A s x := ⟨_, rfl⟩
  obtain ⟨s', hs'⟩ : ∃ s', s' = alSt n A s x := ⟨_, rfl⟩
  rw [← hx', ← hs'] at FIRST SECOND
  rw [← hs'] at HCN
  clear h hd hA hx' hs'
  go_enter Tryz.func16, Tryz.ntmps16
  go_wp2_with fail
  obtain ⟨W1, hW1⟩ : ∃ W1, W1 = w.alloc (.cells #[.pointer (some ⟨P, 0, none⟩), .pointer (some ⟨Q, 0, none⟩), .pointer none, .pointer none] 44) := ⟨_, rfl⟩
  have a0 : W1.cell? ⟨w.heap.size, 0, none⟩ = some (.pointer (some ⟨P, 0, none⟩)) := by rw [hW1]; exact cell_new w _ _ _ 0 rfl
  have a1 : W1.cell? ⟨w.heap.size, 1, none⟩ = some (.pointer (some ⟨Q, 0, none⟩)) := by rw [hW1]; exact cell_new w _ _ _ 1 rfl
  have k1 : Kept w W1 := by rw [hW1]; exact (Kept.refl w).alloc _ _
  rw [← hW1]
  have z1 : w.heap.size < W1.heap.size := by rw [hW1]; simp
  have K1 := Lib.hid k1
  clear hW1 k1
  go_region_held3 (fun w' => w'.cell? ⟨w.heap.size, 0, none⟩ = some (.pointer (some ⟨P, 0, none⟩)) ∧ w'.cell? ⟨w.heap.size, 1, none⟩ = some (.pointer (some ⟨Q, 0, none⟩))) (first | (with_reducible exact ⟨d0, d1⟩) | (with_reducible exact ⟨b0, b1⟩) | go_keep) (first
    | (go_at_call 70; refine (FIRST.out _ (K1.out.trans (by first | exact Kept.refl _ | exact (Kept.refl _).drew | exact (Kept.refl _).drewN _))).mono ?_; rintro e u1 ⟨rfl, y1, y2, y3, y4, y6⟩; have BT : But (fun k => k = P ∨ k = B) W1 u1 := (Kept.but (w' := _) (by first | exact Kept.refl _ | exact (Kept.refl _).drew | exact (Kept.refl _).drewN _) _).trans y6 (fun _ _ h => h); have B1 : But (tmine own c) w u1 := ((K1.out.trans (c := _) (by first | exact Kept.refl _ | exact (Kept.refl _).drew | exact (Kept.refl _).drewN _)).but _).trans (y6.mono (fun k _ h => MP.out k h)) (fun _ _ h => h); have b0 := BT.some a0 (by omega); have b1 := BT.some a1 (by omega))
    | (go_at_call 71; refine (SECOND.out _ (y1.kept (by first | exact Kept.refl _ | exact (Kept.refl _).drew | exact (Kept.refl _).drewN _)) (y2.frame (Kept.but (w' := _) (by first | exact Kept.refl _ | exact (Kept.refl _).drew | exact (Kept.refl _).drewN _) (fun _ => False)) id id) (pmem_kept y3 (by first | exact Kept.refl _ | exact (Kept.refl _).drew | exact (Kept.refl _).drewN _)) (ref_kept y4 n1 (by first | exact Kept.refl _ | exact (Kept.refl _).drew | exact (Kept.refl _).drewN _))).mono ?_; rintro e u2 ⟨rfl, v1, v2, v4⟩; have BU : But (fun k => k = Q ∨ k = R ∨ k = M2 ∨ k = B2) u1 u2 := (Kept.but (w' := _) (by first | exact Kept.refl _ | exact (Kept.refl _).drew | exact (Kept.refl _).drewN _) _).trans v4 (fun _ _ h => h); have B2' : But (tmine own c) w u2 := B1.trans (BU.mono (fun k _ h => MD.out k h)) (fun _ _ h => h); have d0 := BU.some b0 (by omega); have d1 := BU.some b1 (by omega)))
  have VI := Lib.hid v1
  have VD := Lib.hid v2
  have VB := Lib.hid B2'
  clear y1 y2 y3 y4 y6 BT B1 b0 b1 v1 v2 v4 BU B2' a0 a1
  have a0 := d0
  have a1 := d1
  have z2 : w.heap.size < u2.heap.size := lt_of_cell d0
  clear d0 d1
  have HT1 : Hid (Calls Tryz.prog 62 #[.pointer (some ⟨P, 0, none⟩)] u2 fun e w' => e = .returned (.tuple #[.int .u64 x'.r, .int .i64 x'.er]) ∧ Kept u2 w') := Lib.hid (alloc_told P A x' u2 VI.out.a)
  have HT2 : ∀ W, Kept u2 W → Hid (Calls Tryz.prog 72 #[.pointer (some ⟨Q, 0, none⟩)] W fun e w' => e = .returned (.tuple #[.int .u64 x'.r, .int .i64 x'.er]) ∧ Kept W w') := fun W k => Lib.hid (dalloc_told Q R A x' W (VI.out.d.frame (k.but (fun _ => False)) id id))
  go_wp2_with fail
  refine HT1.out.mono ?_
  rintro e u3 ⟨rfl, k3⟩
  have e0 := k3.some a0
  have e1 := k3.some a1
  have HK3 := Lib.hid k3
  clear k3
  go_wp2_with fail
  refine (HT2 _ HK3.out).out.mono ?_
  rintro e u4 ⟨rfl, k4⟩
  have HK4 := Lib.hid (HK3.out.trans k4)
  clear k4
  go_wp2
  go_ret
  have KK := HK4.out
  exact ⟨rfl, .al x' P Q R, s', rfl, AP.Is.kept (p := .al x' P Q R) VI.out KK, VD.out.kept KK, HCN.out, VB.out.then KK⟩

set_option maxHeartbeats 2000000 in
theorem same_fr (own : Nat → Nat) (c : Nat) (A : Arn) (M B M2 B2 n : Nat) (s : St) (i : Int) (x : FOp) (P Q R : Nat) (w : World) (h : FrIs own c A w i x P Q R) (hd : TDuo own w M B M2 B2 n s) (hA : A.Ok n) (c1 : s.cnt ≤ 900000) :
    Calls Tryz.prog 16 #[.agg #[.pointer none, .pointer none, .pointer (some ⟨P, 0, none⟩), .pointer (some ⟨Q, 0, none⟩)], .pointer (some ⟨M, 0, none⟩), .pointer (some ⟨M2, 0, none⟩)] w (TStep own c A M B M2 B2 n s (.fr i x P Q R) w) := by
  have FIRST := Lib.hid (fun W (k : Kept w W) => fr_first own c A M B M2 B2 n s i x P Q R W (AP.Is.kept (p := .fr i x P Q R) h k) (hd.kept k) hA c1)
  have SECOND := Lib.hid (fun w1 y1 y2 y3 y4 => fr_second own c A M B M2 B2 n s i x P Q R w w1 h hd hA c1 y1 y2 y3 y4)
  have MP := Lib.hid (tmine_p h.oP hd.oB)
  have MD := Lib.hid (tmine_d h.oQ h.oR hd.oM2 hd.oB2)
  have hP : P < w.heap.size := h.a.lt
  have hQ := h.d.lt
  have hB := pmem_lt hd.p
  have hB2 := ref_lt hd.r hd.n1
  have n1 := hd.n1
  have HCN := Lib.hid ((frSt_cnt n A i s x).2)
  obtain ⟨x', hx'⟩ : ∃ x', x' = frOp n A i s x := ⟨_, rfl⟩
  obtain ⟨s', hs'⟩ : ∃ s', s' = frSt n A i s x := ⟨_, rfl⟩
  rw [← hx', ← hs'] at FIRST SECOND
  rw [← hs'] at HCN
  obtain ⟨bb, hbb⟩ : ∃ bb, bb = (x'.line == 9) := ⟨_, rfl⟩
  rw [← hbb] at FIRST SECOND
  clear hbb
  have hb1 : (bb == bb) = true := by simp
  clear h hd hA hx' hs'
  go_enter Tryz.func16, Tryz.ntmps16
  go_wp2_with fail
  obtain ⟨W1, hW1⟩ : ∃ W1, W1 = w.alloc (.cells #[.pointer none, .pointer none, .pointer (some ⟨P, 0, none⟩), .pointer (some ⟨Q, 0, none⟩)] 44) := ⟨_, rfl⟩
  have a0 : W1.cell? ⟨w.heap.size, 2, none⟩ = some (.pointer (some ⟨P, 0, none⟩)) := by rw [hW1]; exact cell_new w _ _ _ 2 rfl
  have a1 : W1.cell? ⟨w.heap.size, 3, none⟩ = some (.pointer (some ⟨Q, 0, none⟩)) := by rw [hW1]; exact cell_new w _ _ _ 3 rfl
  have k1 : Kept w W1 := by rw [hW1]; exact (Kept.refl w).alloc _ _
  rw [← hW1]
  have z1 : w.heap.size < W1.heap.size := by rw [hW1]; simp
  have K1 := Lib.hid k1
  clear hW1 k1
  go_region_held3 (fun w' => w'.cell? ⟨w.heap.size, 2, none⟩ = some (.pointer (some ⟨P, 0, none⟩)) ∧ w'.cell? ⟨w.heap.size, 3, none⟩ = some (.pointer (some ⟨Q, 0, none⟩))) (first | (with_reducible exact ⟨d0, d1⟩) | (with_reducible exact ⟨b0, b1⟩) | go_keep) (first
    | (go_at_call 27; refine (FIRST.out _ (K1.out.trans (by first | exact Kept.refl _ | exact (Kept.refl _).drew | exact (Kept.refl _).drewN _))).mono ?_; rintro e u1 ⟨rfl, y1, y2, y3, y4, y6⟩; have BT : But (fun k => k = P ∨ k = B) W1 u1 := (Kept.but (w' := _) (by first | exact Kept.refl _ | exact (Kept.refl _).drew | exact (Kept.refl _).drewN _) _).trans y6 (fun _ _ h => h); have B1 : But (tmine own c) w u1 := ((K1.out.trans (c := _) (by first | exact Kept.refl _ | exact (Kept.refl _).drew | exact (Kept.refl _).drewN _)).but _).trans (y6.mono (fun k _ h => MP.out k h)) (fun _ _ h => h); have b0 := BT.some a0 (by omega); have b1 := BT.some a1 (by omega))
    | (go_at_call 73; refine (SECOND.out _ (y1.kept (by first | exact Kept.refl _ | exact (Kept.refl _).drew | exact (Kept.refl _).drewN _)) (y2.frame (Kept.but (w' := _) (by first | exact Kept.refl _ | exact (Kept.refl _).drew | exact (Kept.refl _).drewN _) (fun _ => False)) id id) (pmem_kept y3 (by first | exact Kept.refl _ | exact (Kept.refl _).drew | exact (Kept.refl _).drewN _)) (ref_kept y4 n1 (by first | exact Kept.refl _ | exact (Kept.refl _).drew | exact (Kept.refl _).drewN _))).mono ?_; rintro e u2 ⟨rfl, v1, v2, v4⟩; have BU : But (fun k => k = Q ∨ k = R ∨ k = M2 ∨ k = B2) u1 u2 := (Kept.but (w' := _) (by first | exact Kept.refl _ | exact (Kept.refl _).drew | exact (Kept.refl _).drewN _) _).trans v4 (fun _ _ h => h); have B2' : But (tmine own c) w u2 := B1.trans (BU.mono (fun k _ h => MD.out k h)) (fun _ _ h => h); have d0 := BU.some b0 (by omega); have d1 := BU.some b1 (by omega)))
  have VI := Lib.hid v1
  have VD := Lib.hid v2
  have VB := Lib.hid B2'
  clear y1 y2 y3 y4 y6 BT B1 b0 b1 v1 v2 v4 BU B2' a0 a1
  have a0 := d0
  have a1 := d1
  have z2 : w.heap.size < u2.heap.size := lt_of_cell d0
  clear d0 d1
  have HT1 : ∀ W, Kept u2 W → Hid (Calls Tryz.prog 28 #[.pointer (some ⟨P, 0, none⟩)] W fun e w' => e = .returned (.int .i64 x'.er) ∧ W = w') := fun W k => Lib.hid (free_told P A i x' W (VI.out.a.kept k))
  have HT2 : ∀ W, Kept u2 W → Hid (Calls Tryz.prog 74 #[.pointer (some ⟨Q, 0, none⟩)] W fun e w' => e = .returned (.int .i64 x'.er) ∧ Kept W w') := fun W k => Lib.hid (dfree_told Q R A i x' W (VI.out.d.frame (k.but (fun _ => False)) id id))
  go_wp2_with fail
  have KT : Kept u2 u2 := Kept.refl _
  go_region_held3 (fun w' => w'.cell? ⟨w.heap.size, 2, none⟩ = some (.pointer (some ⟨P, 0, none⟩)) ∧ w'.cell? ⟨w.heap.size, 3, none⟩ = some (.pointer (some ⟨Q, 0, none⟩))) (first | (with_reducible exact ⟨KT.some a0, KT.some a1⟩) | (with_reducible exact ⟨a0, a1⟩) | go_keep) (first
    | (go_at_call 28; refine (HT1 _ (by first | exact KT | exact KT.drew | exact KT.drewN _)).out.mono ?_; rintro e u3 ⟨rfl, rfl⟩)
    | (go_at_call 74; refine (HT2 _ (by first | exact KT | exact KT.drew | exact KT.drewN _)).out.mono ?_; rintro e u4 ⟨rfl, k4⟩; have KT : Kept u2 u4 := Kept.trans (b := _) (by first | exact KT | exact KT.drew | exact KT.drewN _) k4))
  have HK4 : Hid (Kept u2 u4) := Lib.hid KT
  go_wp2
  go_ret
  have KK := HK4.out
  exact ⟨rfl, .fr i x' P Q R, s', rfl, AP.Is.kept (p := .fr i x' P Q R) VI.out KK, VD.out.kept KK, HCN.out, VB.out.then KK⟩
end Go.Proofs.YtbonnfofoepjcaaGreat.Sk
