/- 'told': a core's operation, the program's and the document's, steps alike and tells alike. Written by gen10t.py. -/
import Derived.Test.YtfcompikbeebaaaGreatG13
import Derived.Deep.RegionHeld3
import Derived.Deep.QuietTactic
import Derived.BigQuiet
set_option linter.unusedVariables false
set_option linter.unusedSimpArgs false

namespace Go.Proofs.YtfcompikbeebaaaGreat.Sk
set_option maxRecDepth 20000
open Go.RowKit
open Wo (St acc wordAt PMem RefIs)

theorem mine_sub {own : Nat → Nat} {c P B : Nat} (hP : own P = 10 + 2 * c ∨ own P = 11 + 2 * c) (hB : own B = 0 ∨ own B = 1) : ∀ k, k = P ∨ k = B → mine own c k := by
  rintro k (rfl | rfl)
  · rcases hP with h | h
    · exact .inr (.inr (.inl h))
    · exact .inr (.inr (.inr h))
  · rcases hB with h | h
    · exact .inl h
    · exact .inr (.inl h)
theorem PushAt.kept {w w' : World} {P o : Nat} {S : Stk} {i e0 : Int} {x : Op} (h : PushAt w P o S i e0 x) (k : Kept w w') : PushAt w' P o S i e0 x := h.frame (k.but (fun _ => False)) id

def PopP1 (own : Nat → Nat) (c : Nat) (S : Stk) (M B M2 B2 n : Nat) (s : St) (x : Op) (P Q : Nat) (w : World) (e : Ending) (w' : World) : Prop :=
  e = .returned (.bool ((popOp n S s x).line == 9)) ∧ PopAt w' P 0 S (popOp n S s x) ∧ RPopAt w' Q S x ∧ PMem w' M B n (popSt n S s x) ∧ RefIs w' M2 B2 n s ∧ But (mine own c) w w' ∧ But (fun k => k = P ∨ k = B) w w'
def PopP2 (own : Nat → Nat) (c : Nat) (S : Stk) (M B M2 B2 n : Nat) (s : St) (x : Op) (P Q : Nat) (w : World) (e : Ending) (w' : World) : Prop :=
  e = .returned (.bool ((popOp n S s x).line == 9)) ∧ PS.Is own c S w' (.pop (popOp n S s x) P Q) ∧ Duo own w' M B M2 B2 n (popSt n S s x) ∧ But (mine own c) w w' ∧ But (fun k => k = Q ∨ k = M2 ∨ k = B2) w w'
theorem pop_first (own : Nat → Nat) (c : Nat) (S : Stk) (M B M2 B2 n : Nat) (s : St) (x : Op) (P Q : Nat) (w : World) (h : PopIs own c S w x P Q) (hd : Duo own w M B M2 B2 n s) (hS : S.Ok n) (c1 : s.cnt ≤ 1000000) :
    Calls Tryz.prog 36 #[.pointer (some ⟨P, 0, none⟩), .pointer (some ⟨M, 0, none⟩)] w (PopP1 own c S M B M2 B2 n s x P Q w) := by
  obtain ⟨hp, hr, hg, hl, ht, oP, oQ⟩ := h
  obtain ⟨hm0, hr0, hwd, c0, oM, oB, oM2, oB2, n1, n2⟩ := hd
  have hPM : P ≠ M := fun e => by rw [e] at oP; omega
  have hPB : P ≠ B := fun e => by rw [e] at oP; omega
  have HA := hp
  refine (pop_step P 0 M B n S s x _ HA hm0 c0 c1 hPM hPB hg hl ht hS hwd).mono fun e w' ⟨x1, x2, x3, x4⟩ => ⟨x1, x2, hr.frame x4.but ?_, x3, ref_frame hr0 n1 x4.but ?_ ?_, x4.but.mono fun k _ h => mine_sub (.inl oP) (.inl oB) k h, x4.but⟩
  · rintro (e | e)
    · rw [e] at oQ; omega
    · rw [e] at oQ; omega
  · rintro (e | e)
    · rw [e] at oM2; omega
    · rw [e] at oM2; omega
  · rintro (e | e)
    · rw [e] at oB2; omega
    · rw [e] at oB2; omega
theorem pop_second (own : Nat → Nat) (c : Nat) (S : Stk) (M B M2 B2 n : Nat) (s : St) (x : Op) (P Q : Nat) (w0 w : World) (h : PopIs own c S w0 x P Q) (hd : Duo own w0 M B M2 B2 n s) (hS : S.Ok n) (c1 : s.cnt ≤ 1000000)
    (g1 : PopAt w P 0 S (popOp n S s x)) (g2 : RPopAt w Q S x) (g3 : PMem w M B n (popSt n S s x)) (g4 : RefIs w M2 B2 n s) :
    Calls Tryz.prog 37 #[.pointer (some ⟨Q, 0, none⟩), .pointer (some ⟨M2, 0, none⟩)] w (PopP2 own c S M B M2 B2 n s x P Q w) := by
  obtain ⟨hp, hr, hg, hl, ht, oP, oQ⟩ := h
  obtain ⟨hm0, _, hwd, c0, oM, oB, oM2, oB2, n1, n2⟩ := hd
  have hQ : ¬ (Q = M2 ∨ Q = B2) := by
    rintro (e | e)
    · rw [e] at oQ; omega
    · rw [e] at oQ; omega
  have HB := g2
  have hr0 := g4
  obtain ⟨hg', hl', ht'⟩ := popOp_good hg hl ht hwd
  refine (rpop_step Q M2 B2 n S s x _ HB hr0 c0 c1 hQ hg hl hS hwd).mono fun e w' ⟨x1, x2, x3, x4⟩ => ⟨x1, ⟨OpAt.frame g1 x4 ?_, x2, hg', hl', ht', oP, oQ⟩, ⟨pmem_frame g3 x4 ?_ ?_, x3, popSt_wd hwd, by have := popSt_cnt n S s x; omega, oM, oB, oM2, oB2, n1, n2⟩, x4.mono fun k _ h => ?_, x4⟩
  · rintro (e | e | e)
    · rw [e] at oP; omega
    · rw [e] at oP; omega
    · rw [e] at oP; omega
  · rintro (e | e | e)
    · rw [e] at oM; omega
    · rw [e] at oM; omega
    · rw [e] at oM; omega
  · rintro (e | e | e)
    · rw [e] at oB; omega
    · rw [e] at oB; omega
    · rw [e] at oB; omega
  · rcases h with rfl | rfl | rfl
    · exact .inr (.inr (.inr oQ))
    · exact .inr (.inl oM2)
    · exact .inr (.inl oB2)

def PushP1 (own : Nat → Nat) (c : Nat) (S : Stk) (M B M2 B2 n : Nat) (s : St) (i i' e0 : Int) (x : Op) (P Q : Nat) (w : World) (e : Ending) (w' : World) : Prop :=
  e = .returned (.bool ((pushOp n S s x).line == 9)) ∧ PushAt w' P 0 S i e0 (pushOp n S s x) ∧ RPushAt w' Q S i' e0 x ∧ PMem w' M B n (pushSt n S i s x) ∧ RefIs w' M2 B2 n s ∧ But (mine own c) w w' ∧ But (fun k => k = P ∨ k = B) w w'
def PushP2 (own : Nat → Nat) (c : Nat) (S : Stk) (M B M2 B2 n : Nat) (s : St) (i i' e0 : Int) (x : Op) (P Q : Nat) (w : World) (e : Ending) (w' : World) : Prop :=
  e = .returned (.bool ((pushOp n S s x).line == 9)) ∧ PS.Is own c S w' (.push i i' e0 (pushOp n S s x) P Q) ∧ Duo own w' M B M2 B2 n (pushSt n S i s x) ∧ But (mine own c) w w' ∧ But (fun k => k = Q ∨ k = M2 ∨ k = B2) w w'
theorem push_first (own : Nat → Nat) (c : Nat) (S : Stk) (M B M2 B2 n : Nat) (s : St) (i i' e0 : Int) (x : Op) (P Q : Nat) (w : World) (h : PushIs own c S w i i' e0 x P Q) (hd : Duo own w M B M2 B2 n s) (hS : S.Ok n) (c1 : s.cnt ≤ 1000000) :
    Calls Tryz.prog 40 #[.pointer (some ⟨P, 0, none⟩), .pointer (some ⟨M, 0, none⟩)] w (PushP1 own c S M B M2 B2 n s i i' e0 x P Q w) := by
  obtain ⟨hp, hr, hg, hl, hi, oP, oQ⟩ := h
  obtain ⟨hm0, hr0, hwd, c0, oM, oB, oM2, oB2, n1, n2⟩ := hd
  have hPM : P ≠ M := fun e => by rw [e] at oP; omega
  have hPB : P ≠ B := fun e => by rw [e] at oP; omega
  have HA := hp
  refine (push_step P 0 M B n S i e0 s x _ HA hm0 c0 c1 hPM hPB hg hl hS hwd (fun h => (hi h).2)).mono fun e w' ⟨x1, x2, x3, x4⟩ => ⟨x1, x2, hr.frame x4.but ?_, x3, ref_frame hr0 n1 x4.but ?_ ?_, x4.but.mono fun k _ h => mine_sub (.inl oP) (.inl oB) k h, x4.but⟩
  · rintro (e | e)
    · rw [e] at oQ; omega
    · rw [e] at oQ; omega
  · rintro (e | e)
    · rw [e] at oM2; omega
    · rw [e] at oM2; omega
  · rintro (e | e)
    · rw [e] at oB2; omega
    · rw [e] at oB2; omega
theorem push_second (own : Nat → Nat) (c : Nat) (S : Stk) (M B M2 B2 n : Nat) (s : St) (i i' e0 : Int) (x : Op) (P Q : Nat) (w0 w : World) (h : PushIs own c S w0 i i' e0 x P Q) (hd : Duo own w0 M B M2 B2 n s) (hS : S.Ok n) (c1 : s.cnt ≤ 1000000)
    (g1 : PushAt w P 0 S i e0 (pushOp n S s x)) (g2 : RPushAt w Q S i' e0 x) (g3 : PMem w M B n (pushSt n S i s x)) (g4 : RefIs w M2 B2 n s) :
    Calls Tryz.prog 41 #[.pointer (some ⟨Q, 0, none⟩), .pointer (some ⟨M2, 0, none⟩)] w (PushP2 own c S M B M2 B2 n s i i' e0 x P Q w) := by
  obtain ⟨hp, hr, hg, hl, hi, oP, oQ⟩ := h
  obtain ⟨hm0, _, hwd, c0, oM, oB, oM2, oB2, n1, n2⟩ := hd
  have hQ : ¬ (Q = M2 ∨ Q = B2) := by
    rintro (e | e)
    · rw [e] at oQ; omega
    · rw [e] at oQ; omega
  have HB := g2
  have hr0 := g4
  obtain ⟨hg', hl'⟩ := pushOp_good hg hl hwd
  have hi' : (pushOp n S s x).line ≠ 9 → i' = i ∧ 0 ≤ i ∧ i < S.N ∧ e0 = 0 := fun h => hi (fun h9 => h (by unfold pushOp; rw [if_neg (by omega), if_neg (by omega), if_neg (by omega)]; exact h9))
  have e3 : pushSt n S i' s x = pushSt n S i s x := by
    by_cases h9 : x.line = 9
    · unfold pushSt
      rw [if_neg (by omega), if_neg (by omega), if_neg (by omega), if_neg (by omega), if_neg (by omega), if_neg (by omega)]
    · rw [(hi h9).1]
  refine (rpush_step Q M2 B2 n S i' e0 s x _ HB hr0 c0 c1 hQ hg hl hS hwd (fun h => ⟨by rw [(hi h).1]; exact (hi h).2.1, by rw [(hi h).1]; exact (hi h).2.2.1, (hi h).2.2.2⟩)).mono fun e w' ⟨x1, x2, x3, x4⟩ => ⟨x1, ⟨g1.frame x4 ?_, x2, hg', hl', hi', oP, oQ⟩, ⟨pmem_frame g3 x4 ?_ ?_, e3 ▸ x3, pushSt_wd hwd (fun h => by have := hi (by rw [h]; decide); have := hS.N2; omega), by have := pushSt_cnt n S i s x; omega, oM, oB, oM2, oB2, n1, n2⟩, x4.mono fun k _ h => ?_, x4⟩
  · rintro (e | e | e)
    · rw [e] at oP; omega
    · rw [e] at oP; omega
    · rw [e] at oP; omega
  · rintro (e | e | e)
    · rw [e] at oM; omega
    · rw [e] at oM; omega
    · rw [e] at oM; omega
  · rintro (e | e | e)
    · rw [e] at oB; omega
    · rw [e] at oB; omega
    · rw [e] at oB; omega
  · rcases h with rfl | rfl | rfl
    · exact .inr (.inr (.inr oQ))
    · exact .inr (.inl oM2)
    · exact .inr (.inl oB2)

def AllP1 (own : Nat → Nat) (c : Nat) (S : Stk) (M B M2 B2 n : Nat) (s : St) (x : Op) (P Q : Nat) (w : World) (e : Ending) (w' : World) : Prop :=
  e = .returned (.bool ((allOp n S s x).line == 9)) ∧ AllAt w' P 0 S (allOp n S s x) ∧ RAllAt w' Q S x ∧ PMem w' M B n (allSt n S s x) ∧ RefIs w' M2 B2 n s ∧ But (mine own c) w w' ∧ But (fun k => k = P ∨ k = B) w w'
def AllP2 (own : Nat → Nat) (c : Nat) (S : Stk) (M B M2 B2 n : Nat) (s : St) (x : Op) (P Q : Nat) (w : World) (e : Ending) (w' : World) : Prop :=
  e = .returned (.bool ((allOp n S s x).line == 9)) ∧ PS.Is own c S w' (.all (allOp n S s x) P Q) ∧ Duo own w' M B M2 B2 n (allSt n S s x) ∧ But (mine own c) w w' ∧ But (fun k => k = Q ∨ k = M2 ∨ k = B2) w w'
theorem all_first (own : Nat → Nat) (c : Nat) (S : Stk) (M B M2 B2 n : Nat) (s : St) (x : Op) (P Q : Nat) (w : World) (h : AllIs own c S w x P Q) (hd : Duo own w M B M2 B2 n s) (hS : S.Ok n) (c1 : s.cnt ≤ 1000000) :
    Calls Tryz.prog 44 #[.pointer (some ⟨P, 0, none⟩), .pointer (some ⟨M, 0, none⟩)] w (AllP1 own c S M B M2 B2 n s x P Q w) := by
  obtain ⟨hp, hr, hg, hl, h3, ht, oP, oQ⟩ := h
  obtain ⟨hm0, hr0, hwd, c0, oM, oB, oM2, oB2, n1, n2⟩ := hd
  have hPM : P ≠ M := fun e => by rw [e] at oP; omega
  have hPB : P ≠ B := fun e => by rw [e] at oP; omega
  have HA := hp
  refine (all_step P 0 M B n S s x _ HA hm0 c0 c1 hPM hPB hg hl h3 ht hS hwd).mono fun e w' ⟨x1, x2, x3, x4⟩ => ⟨x1, x2, hr.frame x4.but ?_, x3, ref_frame hr0 n1 x4.but ?_ ?_, x4.but.mono fun k _ h => mine_sub (.inl oP) (.inl oB) k h, x4.but⟩
  · rintro (e | e)
    · rw [e] at oQ; omega
    · rw [e] at oQ; omega
  · rintro (e | e)
    · rw [e] at oM2; omega
    · rw [e] at oM2; omega
  · rintro (e | e)
    · rw [e] at oB2; omega
    · rw [e] at oB2; omega
theorem all_second (own : Nat → Nat) (c : Nat) (S : Stk) (M B M2 B2 n : Nat) (s : St) (x : Op) (P Q : Nat) (w0 w : World) (h : AllIs own c S w0 x P Q) (hd : Duo own w0 M B M2 B2 n s) (hS : S.Ok n) (c1 : s.cnt ≤ 1000000)
    (g1 : AllAt w P 0 S (allOp n S s x)) (g2 : RAllAt w Q S x) (g3 : PMem w M B n (allSt n S s x)) (g4 : RefIs w M2 B2 n s) :
    Calls Tryz.prog 45 #[.pointer (some ⟨Q, 0, none⟩), .pointer (some ⟨M2, 0, none⟩)] w (AllP2 own c S M B M2 B2 n s x P Q w) := by
  obtain ⟨hp, hr, hg, hl, h3, ht, oP, oQ⟩ := h
  obtain ⟨hm0, _, hwd, c0, oM, oB, oM2, oB2, n1, n2⟩ := hd
  have hQ : ¬ (Q = M2 ∨ Q = B2) := by
    rintro (e | e)
    · rw [e] at oQ; omega
    · rw [e] at oQ; omega
  have HB := g2
  have hr0 := g4
  obtain ⟨hg', hl', h3', ht'⟩ := allOp_good hg hl h3 ht hwd
  refine (rall_step Q M2 B2 n S s x _ HB hr0 c0 c1 hQ hg hl h3 hS hwd).mono fun e w' ⟨x1, x2, x3, x4⟩ => ⟨x1, ⟨OpAt.frame g1 x4 ?_, x2, hg', hl', h3', ht', oP, oQ⟩, ⟨pmem_frame g3 x4 ?_ ?_, x3, allSt_wd hwd, by have := allSt_cnt n S s x; omega, oM, oB, oM2, oB2, n1, n2⟩, x4.mono fun k _ h => ?_, x4⟩
  · rintro (e | e | e)
    · rw [e] at oP; omega
    · rw [e] at oP; omega
    · rw [e] at oP; omega
  · rintro (e | e | e)
    · rw [e] at oM; omega
    · rw [e] at oM; omega
    · rw [e] at oM; omega
  · rintro (e | e | e)
    · rw [e] at oB; omega
    · rw [e] at oB; omega
    · rw [e] at oB; omega
  · rcases h with rfl | rfl | rfl
    · exact .inr (.inr (.inr oQ))
    · exact .inr (.inl oM2)
    · exact .inr (.inl oB2)
end Go.Proofs.YtfcompikbeebaaaGreat.Sk

namespace Go.Proofs.YtfcompikbeebaaaGreat.Sk
set_option maxRecDepth 20000
open Go.RowKit
open Wo (St acc wordAt PMem RefIs)

set_option maxHeartbeats 4000000 in
theorem told_pop_step (own : Nat → Nat) (c : Nat) (S : Stk) (M B M2 B2 n : Nat) (s : St) (x : Op) (P Q : Nat) (w : World) (h : PopIs own c S w x P Q) (hd : Duo own w M B M2 B2 n s) (hS : S.Ok n) (c1 : s.cnt ≤ 900000) :
    Calls Tryz.prog 12 #[.agg #[.pointer (some ⟨P, 0, none⟩), .pointer (some ⟨Q, 0, none⟩), .pointer none, .pointer none, .pointer none, .pointer none], .pointer (some ⟨M, 0, none⟩), .pointer (some ⟨M2, 0, none⟩), .bool true] w (ToldPost own c S M B M2 B2 n s (.pop x P Q) true w) := by
  have FIRST := Lib.hid (fun W (k : Kept w W) => pop_first own c S M B M2 B2 n s x P Q W (PS.Is.kept (p := .pop x P Q) h k) (hd.kept k) hS (by omega))
  have SECOND := Lib.hid (pop_second own c S M B M2 B2 n s x P Q w)
  have hP : P < w.heap.size := OpAt.lt h.1
  have hQ : Q < w.heap.size := h.2.1.lt
  have hB : B < w.heap.size := (pmem_lt hd.p).2
  have hB2 : B2 < w.heap.size := (ref_lt hd.r hd.n1).2
  have hM2 : M2 < w.heap.size := (ref_lt hd.r hd.n1).1
  have HH := Lib.hid h
  have HD := Lib.hid hd
  have HS := Lib.hid hS
  clear h hd hS
  go_enter Tryz.func12, Tryz.ntmps12
  go_upto_region 2 with fail
  obtain ⟨W1, hW1⟩ : ∃ W1, W1 = w.alloc (.cells #[.pointer (some ⟨P, 0, none⟩), .pointer (some ⟨Q, 0, none⟩), .pointer none, .pointer none, .pointer none, .pointer none] 50) := ⟨_, rfl⟩
  have a0 : W1.cell? ⟨w.heap.size, 0, none⟩ = some (.pointer (some ⟨P, 0, none⟩)) := by rw [hW1]; exact cell_new w _ _ _ 0 rfl
  have a1 : W1.cell? ⟨w.heap.size, 1, none⟩ = some (.pointer (some ⟨Q, 0, none⟩)) := by rw [hW1]; exact cell_new w _ _ _ 1 rfl
  have k1 : Kept w W1 := by rw [hW1]; exact (Kept.refl w).alloc _ _
  rw [← hW1]
  have z1 : w.heap.size < W1.heap.size := by rw [hW1]; simp
  have K1 := Lib.hid k1
  clear hW1 k1
  go_region_held3 (fun w' => w'.cell? ⟨w.heap.size, 0, none⟩ = some (.pointer (some ⟨P, 0, none⟩)) ∧ w'.cell? ⟨w.heap.size, 1, none⟩ = some (.pointer (some ⟨Q, 0, none⟩))) (first | go_keep | (exact ⟨d0, d1⟩) | (exact ⟨b0, b1⟩)) (first
    | (go_at_call 36; refine (FIRST.out _ (K1.out.trans (by first | exact Kept.refl _ | exact (Kept.refl _).drew | exact (Kept.refl _).drewN _))).mono ?_; rintro e u1 ⟨rfl, y1, y2, y3, y4, y5, y6⟩; have BT : But (fun k => k = P ∨ k = B) W1 u1 := (Kept.but (w' := _) (by first | exact Kept.refl _ | exact (Kept.refl _).drew | exact (Kept.refl _).drewN _) _).trans y6 (fun _ _ h => h); have B1 : But (mine own c) w u1 := ((K1.out.trans (c := _) (by first | exact Kept.refl _ | exact (Kept.refl _).drew | exact (Kept.refl _).drewN _)).but _).trans y5 (fun _ _ h => h); have b0 := BT.some a0 (by omega); have b1 := BT.some a1 (by omega))
    | (go_at_call 37; refine (SECOND.out _ HH.out HD.out HS.out (by omega) (OpAt.kept y1 (by first | exact Kept.refl _ | exact (Kept.refl _).drew | exact (Kept.refl _).drewN _)) (y2.frame (Kept.but (by first | exact Kept.refl _ | exact (Kept.refl _).drew | exact (Kept.refl _).drewN _) (fun _ => False)) id) (pmem_kept y3 (by first | exact Kept.refl _ | exact (Kept.refl _).drew | exact (Kept.refl _).drewN _)) (ref_kept y4 HS.out.n1 (by first | exact Kept.refl _ | exact (Kept.refl _).drew | exact (Kept.refl _).drewN _))).mono ?_; rintro e u2 ⟨rfl, v1, v2, v3, v4⟩; have BU : But (fun k => k = Q ∨ k = M2 ∨ k = B2) u1 u2 := (Kept.but (w' := _) (by first | exact Kept.refl _ | exact (Kept.refl _).drew | exact (Kept.refl _).drewN _) _).trans v4 (fun _ _ h => h); have B2' : But (mine own c) w u2 := (B1.trans ((Kept.but (w' := _) (by first | exact Kept.refl _ | exact (Kept.refl _).drew | exact (Kept.refl _).drewN _) _).trans v3 (fun _ _ h => h)) (fun _ _ h => h)); have d0 := BU.some b0 (by omega); have d1 := BU.some b1 (by omega)))
  obtain ⟨x', hx'⟩ : ∃ x', x' = popOp n S s x := ⟨_, rfl⟩
  obtain ⟨s', hs'⟩ : ∃ s', s' = popSt n S s x := ⟨_, rfl⟩
  have hcnt : s'.cnt ≤ s.cnt + 1 := by rw [hs']; exact (popSt_cnt n S s x).2
  rw [← hx'] at v1
  rw [← hs'] at v2
  rw [← hx']
  have VI : Hid (PopIs own c S u2 x' P Q) := Lib.hid v1
  have VD := Lib.hid v2
  have VB := Lib.hid B2'
  clear hx' hs' y1 y2 y3 y4 y5 y6 BT B1 b0 b1 v1 v2 v3 v4 BU B2' a0 a1
  have a0 := d0
  have a1 := d1
  have z2 : w.heap.size < u2.heap.size := lt_of_cell d0
  clear d0 d1
  go_wp2_with fail
  refine (pop_told P 0 S x' _ (OpAt.kept VI.out.1 (by first | exact Kept.refl _ | exact (Kept.refl _).drew | exact (Kept.refl _).drewN _)) VI.out.2.2.1).mono ?_
  rintro e u3 ⟨rfl, k3⟩
  have K3 : Kept u2 u3 := Kept.trans (b := _) (by first | exact Kept.refl _ | exact (Kept.refl _).drew | exact (Kept.refl _).drewN _) k3
  have e0 := K3.some a0
  have e1 := K3.some a1
  have HK3 := Lib.hid K3
  clear k3 K3
  go_wp2_with fail
  refine (rpop_told Q S x' _ (RPopAt.frame VI.out.2.1 (HK3.out.but (fun _ => False)) id) VI.out.2.2.2.1).mono ?_
  rintro e u4 ⟨rfl, k4⟩
  have HK4 := Lib.hid (HK3.out.trans k4)
  clear k4
  go_wp2
  go_ret
  have KK := HK4.out
  exact ⟨rfl, .pop x' P Q, s', rfl, fun h => absurd h (by decide), PS.Is.kept (p := .pop x' P Q) VI.out KK, VD.out.kept KK, hcnt, VB.out.then KK⟩

set_option maxHeartbeats 4000000 in
theorem told_pop_rest (own : Nat → Nat) (c : Nat) (S : Stk) (M B M2 B2 n : Nat) (s : St) (x : Op) (P Q : Nat) (w : World) (h : PopIs own c S w x P Q) (hd : Duo own w M B M2 B2 n s) (hS : S.Ok n) (c1 : s.cnt ≤ 900000) :
    Calls Tryz.prog 12 #[.agg #[.pointer (some ⟨P, 0, none⟩), .pointer (some ⟨Q, 0, none⟩), .pointer none, .pointer none, .pointer none, .pointer none], .pointer (some ⟨M, 0, none⟩), .pointer (some ⟨M2, 0, none⟩), .bool false] w (ToldPost own c S M B M2 B2 n s (.pop x P Q) false w) := by
  have FIRST := Lib.hid (fun W (k : Kept w W) => pop_first own c S M B M2 B2 n s x P Q W (PS.Is.kept (p := .pop x P Q) h k) (hd.kept k) hS (by omega))
  have SECOND := Lib.hid (pop_second own c S M B M2 B2 n s x P Q w)
  have hP : P < w.heap.size := OpAt.lt h.1
  have hQ : Q < w.heap.size := h.2.1.lt
  have hB : B < w.heap.size := (pmem_lt hd.p).2
  have hB2 : B2 < w.heap.size := (ref_lt hd.r hd.n1).2
  have hM2 : M2 < w.heap.size := (ref_lt hd.r hd.n1).1
  have HH := Lib.hid h
  have HD := Lib.hid hd
  have HS := Lib.hid hS
  clear h hd hS
  go_enter Tryz.func12, Tryz.ntmps12
  go_upto_region 2 with fail
  obtain ⟨W1, hW1⟩ : ∃ W1, W1 = w.alloc (.cells #[.pointer (some ⟨P, 0, none⟩), .pointer (some ⟨Q, 0, none⟩), .pointer none, .pointer none, .pointer none, .pointer none] 50) := ⟨_, rfl⟩
  have a0 : W1.cell? ⟨w.heap.size, 0, none⟩ = some (.pointer (some ⟨P, 0, none⟩)) := by rw [hW1]; exact cell_new w _ _ _ 0 rfl
  have a1 : W1.cell? ⟨w.heap.size, 1, none⟩ = some (.pointer (some ⟨Q, 0, none⟩)) := by rw [hW1]; exact cell_new w _ _ _ 1 rfl
  have k1 : Kept w W1 := by rw [hW1]; exact (Kept.refl w).alloc _ _
  rw [← hW1]
  have z1 : w.heap.size < W1.heap.size := by rw [hW1]; simp
  have K1 := Lib.hid k1
  clear hW1 k1
  go_quiet (fail)
  have VI : Hid (PopIs own c S W1 x P Q) := Lib.hid (PS.Is.kept (p := .pop x P Q) HH.out K1.out)
  go_wp2_with fail
  refine (pop_told P 0 S x _ (OpAt.kept VI.out.1 (by first | exact Kept.refl _ | exact (Kept.refl _).drew | exact (Kept.refl _).drewN _)) VI.out.2.2.1).mono ?_
  rintro e u3 ⟨rfl, k3⟩
  have K3 : Kept W1 u3 := Kept.trans (b := _) (by first | exact Kept.refl _ | exact (Kept.refl _).drew | exact (Kept.refl _).drewN _) k3
  have e0 := K3.some a0
  have e1 := K3.some a1
  have HK3 := Lib.hid K3
  clear k3 K3
  go_wp2_with fail
  refine (rpop_told Q S x _ (RPopAt.frame VI.out.2.1 (HK3.out.but (fun _ => False)) id) VI.out.2.2.2.1).mono ?_
  rintro e u4 ⟨rfl, k4⟩
  have HK4 := Lib.hid (HK3.out.trans k4)
  clear k4
  go_wp2
  go_ret
  have KK := HK4.out
  exact ⟨rfl, .pop x P Q, s, rfl, fun _ => rfl, PS.Is.kept (p := .pop x P Q) VI.out KK, HD.out.kept (K1.out.trans KK), by omega, ((K1.out.trans KK).but _)⟩
end Go.Proofs.YtfcompikbeebaaaGreat.Sk

namespace Go.Proofs.YtfcompikbeebaaaGreat.Sk
set_option maxRecDepth 20000
open Go.RowKit
open Wo (St acc wordAt PMem RefIs)

set_option maxHeartbeats 4000000 in
theorem told_push_step (own : Nat → Nat) (c : Nat) (S : Stk) (M B M2 B2 n : Nat) (s : St) (i i' e0 : Int) (x : Op) (P Q : Nat) (w : World) (h : PushIs own c S w i i' e0 x P Q) (hd : Duo own w M B M2 B2 n s) (hS : S.Ok n) (c1 : s.cnt ≤ 900000) :
    Calls Tryz.prog 12 #[.agg #[.pointer none, .pointer none, .pointer (some ⟨P, 0, none⟩), .pointer (some ⟨Q, 0, none⟩), .pointer none, .pointer none], .pointer (some ⟨M, 0, none⟩), .pointer (some ⟨M2, 0, none⟩), .bool true] w (ToldPost own c S M B M2 B2 n s (.push i i' e0 x P Q) true w) := by
  have FIRST := Lib.hid (fun W (k : Kept w W) => push_first own c S M B M2 B2 n s i i' e0 x P Q W (PS.Is.kept (p := .push i i' e0 x P Q) h k) (hd.kept k) hS (by omega))
  have SECOND := Lib.hid (push_second own c S M B M2 B2 n s i i' e0 x P Q w)
  have hP : P < w.heap.size := h.1.lt
  have hQ : Q < w.heap.size := h.2.1.lt
  have hB : B < w.heap.size := (pmem_lt hd.p).2
  have hB2 : B2 < w.heap.size := (ref_lt hd.r hd.n1).2
  have hM2 : M2 < w.heap.size := (ref_lt hd.r hd.n1).1
  have HH := Lib.hid h
  have HD := Lib.hid hd
  have HS := Lib.hid hS
  clear h hd hS
  go_enter Tryz.func12, Tryz.ntmps12
  go_upto_region 7 with fail
  obtain ⟨W1, hW1⟩ : ∃ W1, W1 = w.alloc (.cells #[.pointer none, .pointer none, .pointer (some ⟨P, 0, none⟩), .pointer (some ⟨Q, 0, none⟩), .pointer none, .pointer none] 50) := ⟨_, rfl⟩
  have a0 : W1.cell? ⟨w.heap.size, 2, none⟩ = some (.pointer (some ⟨P, 0, none⟩)) := by rw [hW1]; exact cell_new w _ _ _ 2 rfl
  have a1 : W1.cell? ⟨w.heap.size, 3, none⟩ = some (.pointer (some ⟨Q, 0, none⟩)) := by rw [hW1]; exact cell_new w _ _ _ 3 rfl
  have k1 : Kept w W1 := by rw [hW1]; exact (Kept.refl w).alloc _ _
  rw [← hW1]
  have z1 : w.heap.size < W1.heap.size := by rw [hW1]; simp
  have K1 := Lib.hid k1
  clear hW1 k1
  go_region_held3 (fun w' => w'.cell? ⟨w.heap.size, 2, none⟩ = some (.pointer (some ⟨P, 0, none⟩)) ∧ w'.cell? ⟨w.heap.size, 3, none⟩ = some (.pointer (some ⟨Q, 0, none⟩))) (first | go_keep | (exact ⟨d0, d1⟩) | (exact ⟨b0, b1⟩)) (first
    | (go_at_call 40; refine (FIRST.out _ (K1.out.trans (by first | exact Kept.refl _ | exact (Kept.refl _).drew | exact (Kept.refl _).drewN _))).mono ?_; rintro e u1 ⟨rfl, y1, y2, y3, y4, y5, y6⟩; have BT : But (fun k => k = P ∨ k = B) W1 u1 := (Kept.but (w' := _) (by first | exact Kept.refl _ | exact (Kept.refl _).drew | exact (Kept.refl _).drewN _) _).trans y6 (fun _ _ h => h); have B1 : But (mine own c) w u1 := ((K1.out.trans (c := _) (by first | exact Kept.refl _ | exact (Kept.refl _).drew | exact (Kept.refl _).drewN _)).but _).trans y5 (fun _ _ h => h); have b0 := BT.some a0 (by omega); have b1 := BT.some a1 (by omega))
    | (go_at_call 41; refine (SECOND.out _ HH.out HD.out HS.out (by omega) (PushAt.kept y1 (by first | exact Kept.refl _ | exact (Kept.refl _).drew | exact (Kept.refl _).drewN _)) (y2.frame (Kept.but (by first | exact Kept.refl _ | exact (Kept.refl _).drew | exact (Kept.refl _).drewN _) (fun _ => False)) id) (pmem_kept y3 (by first | exact Kept.refl _ | exact (Kept.refl _).drew | exact (Kept.refl _).drewN _)) (ref_kept y4 HS.out.n1 (by first | exact Kept.refl _ | exact (Kept.refl _).drew | exact (Kept.refl _).drewN _))).mono ?_; rintro e u2 ⟨rfl, v1, v2, v3, v4⟩; have BU : But (fun k => k = Q ∨ k = M2 ∨ k = B2) u1 u2 := (Kept.but (w' := _) (by first | exact Kept.refl _ | exact (Kept.refl _).drew | exact (Kept.refl _).drewN _) _).trans v4 (fun _ _ h => h); have B2' : But (mine own c) w u2 := (B1.trans ((Kept.but (w' := _) (by first | exact Kept.refl _ | exact (Kept.refl _).drew | exact (Kept.refl _).drewN _) _).trans v3 (fun _ _ h => h)) (fun _ _ h => h)); have d0 := BU.some b0 (by omega); have d1 := BU.some b1 (by omega)))
  obtain ⟨x', hx'⟩ : ∃ x', x' = pushOp n S s x := ⟨_, rfl⟩
  obtain ⟨s', hs'⟩ : ∃ s', s' = pushSt n S i s x := ⟨_, rfl⟩
  have hcnt : s'.cnt ≤ s.cnt + 1 := by rw [hs']; exact (pushSt_cnt n S i s x).2
  rw [← hx'] at v1
  rw [← hs'] at v2
  rw [← hx']
  have VI : Hid (PushIs own c S u2 i i' e0 x' P Q) := Lib.hid v1
  have VD := Lib.hid v2
  have VB := Lib.hid B2'
  clear hx' hs' y1 y2 y3 y4 y5 y6 BT B1 b0 b1 v1 v2 v3 v4 BU B2' a0 a1
  have a0 := d0
  have a1 := d1
  have z2 : w.heap.size < u2.heap.size := lt_of_cell d0
  clear d0 d1
  go_wp2_with fail
  go_region_held3 (fun w' => w'.cell? ⟨w.heap.size, 2, none⟩ = some (.pointer (some ⟨P, 0, none⟩)) ∧ w'.cell? ⟨w.heap.size, 3, none⟩ = some (.pointer (some ⟨Q, 0, none⟩))) (first | go_keep | (exact ⟨b0, b1⟩) | (exact ⟨d0, d1⟩)) (first
    | (go_at_call 42; refine (push_told P 0 S i e0 x' _ (PushAt.kept VI.out.1 (by first | exact Kept.refl _ | exact (Kept.refl _).drew | exact (Kept.refl _).drewN _))).mono ?_; rintro e u3 ⟨rfl, rfl⟩)
    | (go_at_call 43; refine (rpush_told Q S i' e0 x' _ (RPushAt.frame VI.out.2.1 (Kept.but (by first | exact Kept.refl _ | exact (Kept.refl _).drew | exact (Kept.refl _).drewN _) (fun _ => False)) id)).mono ?_; rintro e u4 ⟨rfl, k4⟩; have K4 : Kept u2 u4 := Kept.trans (b := _) (by first | exact Kept.refl _ | exact (Kept.refl _).drew | exact (Kept.refl _).drewN _) k4; have d0 := K4.some a0; have d1 := K4.some a1))
  go_wp2
  go_ret
  have KK := K4
  exact ⟨rfl, .push i i' e0 x' P Q, s', rfl, fun h => absurd h (by decide), PS.Is.kept (p := .push i i' e0 x' P Q) VI.out KK, VD.out.kept KK, hcnt, VB.out.then KK⟩

set_option maxHeartbeats 4000000 in
theorem told_push_rest (own : Nat → Nat) (c : Nat) (S : Stk) (M B M2 B2 n : Nat) (s : St) (i i' e0 : Int) (x : Op) (P Q : Nat) (w : World) (h : PushIs own c S w i i' e0 x P Q) (hd : Duo own w M B M2 B2 n s) (hS : S.Ok n) (c1 : s.cnt ≤ 900000) :
    Calls Tryz.prog 12 #[.agg #[.pointer none, .pointer none, .pointer (some ⟨P, 0, none⟩), .pointer (some ⟨Q, 0, none⟩), .pointer none, .pointer none], .pointer (some ⟨M, 0, none⟩), .pointer (some ⟨M2, 0, none⟩), .bool false] w (ToldPost own c S M B M2 B2 n s (.push i i' e0 x P Q) false w) := by
  have FIRST := Lib.hid (fun W (k : Kept w W) => push_first own c S M B M2 B2 n s i i' e0 x P Q W (PS.Is.kept (p := .push i i' e0 x P Q) h k) (hd.kept k) hS (by omega))
  have SECOND := Lib.hid (push_second own c S M B M2 B2 n s i i' e0 x P Q w)
  have hP : P < w.heap.size := h.1.lt
  have hQ : Q < w.heap.size := h.2.1.lt
  have hB : B < w.heap.size := (pmem_lt hd.p).2
  have hB2 : B2 < w.heap.size := (ref_lt hd.r hd.n1).2
  have hM2 : M2 < w.heap.size := (ref_lt hd.r hd.n1).1
  have HH := Lib.hid h
  have HD := Lib.hid hd
  have HS := Lib.hid hS
  clear h hd hS
  go_enter Tryz.func12, Tryz.ntmps12
  go_upto_region 7 with fail
  obtain ⟨W1, hW1⟩ : ∃ W1, W1 = w.alloc (.cells #[.pointer none, .pointer none, .pointer (some ⟨P, 0, none⟩), .pointer (some ⟨Q, 0, none⟩), .pointer none, .pointer none] 50) := ⟨_, rfl⟩
  have a0 : W1.cell? ⟨w.heap.size, 2, none⟩ = some (.pointer (some ⟨P, 0, none⟩)) := by rw [hW1]; exact cell_new w _ _ _ 2 rfl
  have a1 : W1.cell? ⟨w.heap.size, 3, none⟩ = some (.pointer (some ⟨Q, 0, none⟩)) := by rw [hW1]; exact cell_new w _ _ _ 3 rfl
  have k1 : Kept w W1 := by rw [hW1]; exact (Kept.refl w).alloc _ _
  rw [← hW1]
  have z1 : w.heap.size < W1.heap.size := by rw [hW1]; simp
  have K1 := Lib.hid k1
  clear hW1 k1
  go_quiet (fail)
  have VI : Hid (PushIs own c S W1 i i' e0 x P Q) := Lib.hid (PS.Is.kept (p := .push i i' e0 x P Q) HH.out K1.out)
  go_wp2_with fail
  go_region_held3 (fun w' => w'.cell? ⟨w.heap.size, 2, none⟩ = some (.pointer (some ⟨P, 0, none⟩)) ∧ w'.cell? ⟨w.heap.size, 3, none⟩ = some (.pointer (some ⟨Q, 0, none⟩))) (first | go_keep | (exact ⟨b0, b1⟩) | (exact ⟨d0, d1⟩)) (first
    | (go_at_call 42; refine (push_told P 0 S i e0 x _ (PushAt.kept VI.out.1 (by first | exact Kept.refl _ | exact (Kept.refl _).drew | exact (Kept.refl _).drewN _))).mono ?_; rintro e u3 ⟨rfl, rfl⟩)
    | (go_at_call 43; refine (rpush_told Q S i' e0 x _ (RPushAt.frame VI.out.2.1 (Kept.but (by first | exact Kept.refl _ | exact (Kept.refl _).drew | exact (Kept.refl _).drewN _) (fun _ => False)) id)).mono ?_; rintro e u4 ⟨rfl, k4⟩; have K4 : Kept W1 u4 := Kept.trans (b := _) (by first | exact Kept.refl _ | exact (Kept.refl _).drew | exact (Kept.refl _).drewN _) k4; have d0 := K4.some a0; have d1 := K4.some a1))
  go_wp2
  go_ret
  have KK := K4
  exact ⟨rfl, .push i i' e0 x P Q, s, rfl, fun _ => rfl, PS.Is.kept (p := .push i i' e0 x P Q) VI.out KK, HD.out.kept (K1.out.trans KK), by omega, ((K1.out.trans KK).but _)⟩
end Go.Proofs.YtfcompikbeebaaaGreat.Sk

namespace Go.Proofs.YtfcompikbeebaaaGreat.Sk
set_option maxRecDepth 20000
open Go.RowKit
open Wo (St acc wordAt PMem RefIs)

set_option maxHeartbeats 4000000 in
theorem told_all_step (own : Nat → Nat) (c : Nat) (S : Stk) (M B M2 B2 n : Nat) (s : St) (x : Op) (P Q : Nat) (w : World) (h : AllIs own c S w x P Q) (hd : Duo own w M B M2 B2 n s) (hS : S.Ok n) (c1 : s.cnt ≤ 900000) :
    Calls Tryz.prog 12 #[.agg #[.pointer none, .pointer none, .pointer none, .pointer none, .pointer (some ⟨P, 0, none⟩), .pointer (some ⟨Q, 0, none⟩)], .pointer (some ⟨M, 0, none⟩), .pointer (some ⟨M2, 0, none⟩), .bool true] w (ToldPost own c S M B M2 B2 n s (.all x P Q) true w) := by
  have FIRST := Lib.hid (fun W (k : Kept w W) => all_first own c S M B M2 B2 n s x P Q W (PS.Is.kept (p := .all x P Q) h k) (hd.kept k) hS (by omega))
  have SECOND := Lib.hid (all_second own c S M B M2 B2 n s x P Q w)
  have hP : P < w.heap.size := OpAt.lt h.1
  have hQ : Q < w.heap.size := h.2.1.lt
  have hB : B < w.heap.size := (pmem_lt hd.p).2
  have hB2 : B2 < w.heap.size := (ref_lt hd.r hd.n1).2
  have hM2 : M2 < w.heap.size := (ref_lt hd.r hd.n1).1
  have HH := Lib.hid h
  have HD := Lib.hid hd
  have HS := Lib.hid hS
  clear h hd hS
  go_enter Tryz.func12, Tryz.ntmps12
  go_upto_region 10 with fail
  obtain ⟨W1, hW1⟩ : ∃ W1, W1 = w.alloc (.cells #[.pointer none, .pointer none, .pointer none, .pointer none, .pointer (some ⟨P, 0, none⟩), .pointer (some ⟨Q, 0, none⟩)] 50) := ⟨_, rfl⟩
  have a0 : W1.cell? ⟨w.heap.size, 4, none⟩ = some (.pointer (some ⟨P, 0, none⟩)) := by rw [hW1]; exact cell_new w _ _ _ 4 rfl
  have a1 : W1.cell? ⟨w.heap.size, 5, none⟩ = some (.pointer (some ⟨Q, 0, none⟩)) := by rw [hW1]; exact cell_new w _ _ _ 5 rfl
  have k1 : Kept w W1 := by rw [hW1]; exact (Kept.refl w).alloc _ _
  rw [← hW1]
  have z1 : w.heap.size < W1.heap.size := by rw [hW1]; simp
  have K1 := Lib.hid k1
  clear hW1 k1
  go_region_held3 (fun w' => w'.cell? ⟨w.heap.size, 4, none⟩ = some (.pointer (some ⟨P, 0, none⟩)) ∧ w'.cell? ⟨w.heap.size, 5, none⟩ = some (.pointer (some ⟨Q, 0, none⟩))) (first | go_keep | (exact ⟨d0, d1⟩) | (exact ⟨b0, b1⟩)) (first
    | (go_at_call 44; refine (FIRST.out _ (K1.out.trans (by first | exact Kept.refl _ | exact (Kept.refl _).drew | exact (Kept.refl _).drewN _))).mono ?_; rintro e u1 ⟨rfl, y1, y2, y3, y4, y5, y6⟩; have BT : But (fun k => k = P ∨ k = B) W1 u1 := (Kept.but (w' := _) (by first | exact Kept.refl _ | exact (Kept.refl _).drew | exact (Kept.refl _).drewN _) _).trans y6 (fun _ _ h => h); have B1 : But (mine own c) w u1 := ((K1.out.trans (c := _) (by first | exact Kept.refl _ | exact (Kept.refl _).drew | exact (Kept.refl _).drewN _)).but _).trans y5 (fun _ _ h => h); have b0 := BT.some a0 (by omega); have b1 := BT.some a1 (by omega))
    | (go_at_call 45; refine (SECOND.out _ HH.out HD.out HS.out (by omega) (OpAt.kept y1 (by first | exact Kept.refl _ | exact (Kept.refl _).drew | exact (Kept.refl _).drewN _)) (y2.frame (Kept.but (by first | exact Kept.refl _ | exact (Kept.refl _).drew | exact (Kept.refl _).drewN _) (fun _ => False)) id) (pmem_kept y3 (by first | exact Kept.refl _ | exact (Kept.refl _).drew | exact (Kept.refl _).drewN _)) (ref_kept y4 HS.out.n1 (by first | exact Kept.refl _ | exact (Kept.refl _).drew | exact (Kept.refl _).drewN _))).mono ?_; rintro e u2 ⟨rfl, v1, v2, v3, v4⟩; have BU : But (fun k => k = Q ∨ k = M2 ∨ k = B2) u1 u2 := (Kept.but (w' := _) (by first | exact Kept.refl _ | exact (Kept.refl _).drew | exact (Kept.refl _).drewN _) _).trans v4 (fun _ _ h => h); have B2' : But (mine own c) w u2 := (B1.trans ((Kept.but (w' := _) (by first | exact Kept.refl _ | exact (Kept.refl _).drew | exact (Kept.refl _).drewN _) _).trans v3 (fun _ _ h => h)) (fun _ _ h => h)); have d0 := BU.some b0 (by omega); have d1 := BU.some b1 (by omega)))
  obtain ⟨x', hx'⟩ : ∃ x', x' = allOp n S s x := ⟨_, rfl⟩
  obtain ⟨s', hs'⟩ : ∃ s', s' = allSt n S s x := ⟨_, rfl⟩
  have hcnt : s'.cnt ≤ s.cnt + 1 := by rw [hs']; exact (allSt_cnt n S s x).2
  rw [← hx'] at v1
  rw [← hs'] at v2
  rw [← hx']
  have VI : Hid (AllIs own c S u2 x' P Q) := Lib.hid v1
  have VD := Lib.hid v2
  have VB := Lib.hid B2'
  clear hx' hs' y1 y2 y3 y4 y5 y6 BT B1 b0 b1 v1 v2 v3 v4 BU B2' a0 a1
  have a0 := d0
  have a1 := d1
  have z2 : w.heap.size < u2.heap.size := lt_of_cell d0
  clear d0 d1
  go_wp2_with fail
  refine (all_told P 0 S x' _ (OpAt.kept VI.out.1 (by first | exact Kept.refl _ | exact (Kept.refl _).drew | exact (Kept.refl _).drewN _)) VI.out.2.2.1).mono ?_
  rintro e u3 ⟨rfl, k3⟩
  have K3 : Kept u2 u3 := Kept.trans (b := _) (by first | exact Kept.refl _ | exact (Kept.refl _).drew | exact (Kept.refl _).drewN _) k3
  have e0 := K3.some a0
  have e1 := K3.some a1
  have HK3 := Lib.hid K3
  clear k3 K3
  go_wp2_with fail
  refine (rall_told Q S x' _ (RAllAt.frame VI.out.2.1 (HK3.out.but (fun _ => False)) id) VI.out.2.2.2.1).mono ?_
  rintro e u4 ⟨rfl, k4⟩
  have HK4 := Lib.hid (HK3.out.trans k4)
  clear k4
  go_wp2
  go_ret
  have KK := HK4.out
  exact ⟨rfl, .all x' P Q, s', rfl, fun h => absurd h (by decide), PS.Is.kept (p := .all x' P Q) VI.out KK, VD.out.kept KK, hcnt, VB.out.then KK⟩

set_option maxHeartbeats 4000000 in
theorem told_all_rest (own : Nat → Nat) (c : Nat) (S : Stk) (M B M2 B2 n : Nat) (s : St) (x : Op) (P Q : Nat) (w : World) (h : AllIs own c S w x P Q) (hd : Duo own w M B M2 B2 n s) (hS : S.Ok n) (c1 : s.cnt ≤ 900000) :
    Calls Tryz.prog 12 #[.agg #[.pointer none, .pointer none, .pointer none, .pointer none, .pointer (some ⟨P, 0, none⟩), .pointer (some ⟨Q, 0, none⟩)], .pointer (some ⟨M, 0, none⟩), .pointer (some ⟨M2, 0, none⟩), .bool false] w (ToldPost own c S M B M2 B2 n s (.all x P Q) false w) := by
  have FIRST := Lib.hid (fun W (k : Kept w W) => all_first own c S M B M2 B2 n s x P Q W (PS.Is.kept (p := .all x P Q) h k) (hd.kept k) hS (by omega))
  have SECOND := Lib.hid (all_second own c S M B M2 B2 n s x P Q w)
  have hP : P < w.heap.size := OpAt.lt h.1
  have hQ : Q < w.heap.size := h.2.1.lt
  have hB : B < w.heap.size := (pmem_lt hd.p).2
  have hB2 : B2 < w.heap.size := (ref_lt hd.r hd.n1).2
  have hM2 : M2 < w.heap.size := (ref_lt hd.r hd.n1).1
  have HH := Lib.hid h
  have HD := Lib.hid hd
  have HS := Lib.hid hS
  clear h hd hS
  go_enter Tryz.func12, Tryz.ntmps12
  go_upto_region 10 with fail
  obtain ⟨W1, hW1⟩ : ∃ W1, W1 = w.alloc (.cells #[.pointer none, .pointer none, .pointer none, .pointer none, .pointer (some ⟨P, 0, none⟩), .pointer (some ⟨Q, 0, none⟩)] 50) := ⟨_, rfl⟩
  have a0 : W1.cell? ⟨w.heap.size, 4, none⟩ = some (.pointer (some ⟨P, 0, none⟩)) := by rw [hW1]; exact cell_new w _ _ _ 4 rfl
  have a1 : W1.cell? ⟨w.heap.size, 5, none⟩ = some (.pointer (some ⟨Q, 0, none⟩)) := by rw [hW1]; exact cell_new w _ _ _ 5 rfl
  have k1 : Kept w W1 := by rw [hW1]; exact (Kept.refl w).alloc _ _
  rw [← hW1]
  have z1 : w.heap.size < W1.heap.size := by rw [hW1]; simp
  have K1 := Lib.hid k1
  clear hW1 k1
  go_quiet (fail)
  have VI : Hid (AllIs own c S W1 x P Q) := Lib.hid (PS.Is.kept (p := .all x P Q) HH.out K1.out)
  go_wp2_with fail
  refine (all_told P 0 S x _ (OpAt.kept VI.out.1 (by first | exact Kept.refl _ | exact (Kept.refl _).drew | exact (Kept.refl _).drewN _)) VI.out.2.2.1).mono ?_
  rintro e u3 ⟨rfl, k3⟩
  have K3 : Kept W1 u3 := Kept.trans (b := _) (by first | exact Kept.refl _ | exact (Kept.refl _).drew | exact (Kept.refl _).drewN _) k3
  have e0 := K3.some a0
  have e1 := K3.some a1
  have HK3 := Lib.hid K3
  clear k3 K3
  go_wp2_with fail
  refine (rall_told Q S x _ (RAllAt.frame VI.out.2.1 (HK3.out.but (fun _ => False)) id) VI.out.2.2.2.1).mono ?_
  rintro e u4 ⟨rfl, k4⟩
  have HK4 := Lib.hid (HK3.out.trans k4)
  clear k4
  go_wp2
  go_ret
  have KK := HK4.out
  exact ⟨rfl, .all x P Q, s, rfl, fun _ => rfl, PS.Is.kept (p := .all x P Q) VI.out KK, HD.out.kept (K1.out.trans KK), by omega, ((K1.out.trans KK).but _)⟩
end Go.Proofs.YtfcompikbeebaaaGreat.Sk
