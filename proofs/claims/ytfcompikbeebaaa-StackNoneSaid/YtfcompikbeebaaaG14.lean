/- The chapter's examples: a Push, an All, a Pop that finds nothing, what is refused. Written by gen10k.py. -/
import Derived.Test.YtfcompikbeebaaaG13
import Derived.Test.YtfcompikbeebaaaG03
set_option linter.unusedVariables false
set_option linter.unusedSimpArgs false

namespace Go.Proofs.Ytfcompikbeebaaa.Sk
set_option maxRecDepth 20000
open Go.RowKit
open Wo (St acc wordAt PMem RefIs)

def y1 : Op := pushOp 4 S3 s3 Op.new
def t1 : St := pushSt 4 S3 0 s3 Op.new
def y2 : Op := pushOp 4 S3 t1 y1
def t2 : St := pushSt 4 S3 0 t1 y1
def y3 : Op := pushOp 4 S3 t2 y2
def t3 : St := pushSt 4 S3 0 t2 y2
def a1 : Op := allOp 4 S3 t3 Op.new
def u1 : St := allSt 4 S3 t3 Op.new
def a2 : Op := allOp 4 S3 u1 a1
def u2 : St := allSt 4 S3 u1 a1
def q1 : Op := popOp 4 S3 u2 Op.new
def v1 : St := popSt 4 S3 u2 Op.new
theorem knows : laidE 0 y1 = 14 ∧ laidE 0 y3 = 0 ∧ tookI S3 a2 = 0 ∧ tookE S3 a2 = 0 ∧ tookI S3 q1 = 0 ∧ tookE S3 q1 = 15 ∧ laidE 3 Op.over = 3 := by decide +kernel
theorem wordsT3 : (List.range 4).map t3.ws = [131073, 2, 3, 0] := by decide +kernel
theorem chainT3 : chn 4 t3.ws S3 = [0, 1, 2] := by decide +kernel
theorem wdT1 : Wd 4 t1 := pushSt_wd wd3 (fun _ => ⟨by decide, by decide⟩)
theorem wdT2 : Wd 4 t2 := pushSt_wd wdT1 (fun _ => ⟨by decide, by decide⟩)
theorem wdT3 : Wd 4 t3 := pushSt_wd wdT2 (fun _ => ⟨by decide, by decide⟩)
theorem wdU1 : Wd 4 u1 := allSt_wd wdT3
theorem wdU2 : Wd 4 u2 := allSt_wd wdU1
theorem invY1 : y1.Good ∧ lines y1 := pushOp_good good_new3 (.inl rfl) wd3
theorem invY2 : y2.Good ∧ lines y2 := pushOp_good invY1.1 invY1.2 wdT1
theorem invA1 : a1.Good ∧ lines a1 ∧ a1.line ≠ 3 ∧ took S3 a1 := allOp_good good_new3 (.inl rfl) (by decide) (fun h => absurd h (by decide)) wdT3
theorem invA2 : a2.Good ∧ lines a2 ∧ a2.line ≠ 3 ∧ took S3 a2 := allOp_good invA1.1 invA1.2.1 invA1.2.2.1 invA1.2.2.2 wdU1
theorem invQ1 : q1.Good ∧ lines q1 ∧ took S3 q1 := popOp_good good_new3 (.inl rfl) (fun h => absurd h (by decide)) wdU2

structure In (w0 : World) (M B : Nat) (s : St) (w : World) : Prop where
  mem : PMem w M B 4 s
  kept : Kept w0 w
  lM : w0.heap.size ≤ M
  lB : w0.heap.size ≤ B
  hM : M < w.heap.size
  hB : B < w.heap.size
theorem In.grow {w0 w w' : World} {M B : Nat} {s : St} (h : In w0 M B s w) (k : Kept w w') : In w0 M B s w' := ⟨pmem_kept h.mem k, h.kept.trans k, h.lM, h.lB, Nat.lt_of_lt_of_le h.hM k.size, Nat.lt_of_lt_of_le h.hB k.size⟩
structure Bk (w0 : World) (M B P : Nat) : Prop where
  l : w0.heap.size ≤ P
  m : P ≠ M
  b : P ≠ B
theorem In.bk {w0 w : World} {M B P : Nat} {s : St} (h : In w0 M B s w) (hP : w.heap.size ≤ P) : Bk w0 M B P :=
  ⟨Nat.le_trans h.kept.size hP, fun e => by have := h.hM; omega, fun e => by have := h.hB; omega⟩
theorem In.step {w0 w w' : World} {M B P : Nat} {s s' : St} (h : In w0 M B s w) (hP : Bk w0 M B P) (m : PMem w' M B 4 s') (g : Chg P 0 8 B w w') : In w0 M B s' w' :=
  ⟨m, ((h.kept.but (fun k => k = P ∨ k = B)).trans g.but (fun _ _ h => h)).kept (fun k hk e => by have := hP.l; have := h.lB; rcases e with e | e <;> omega), h.lM, h.lB, Nat.lt_of_lt_of_le h.hM g.but.size, Nat.lt_of_lt_of_le h.hB g.but.size⟩
def Does (At : World → Prop) (w0 : World) (M B : Nat) (s : St) (b : Bool) (e : Ending) (w' : World) : Prop := e = .returned (.bool b) ∧ At w' ∧ In w0 M B s w'
theorem stepY1 {w0 w : World} {P M B : Nat} (ho : PushAt w P 0 S3 0 0 Op.new) (h : In w0 M B s3 w) (hP : Bk w0 M B P) :
    Calls Try.prog 12 #[.pointer (some ⟨P, 0, none⟩), .pointer (some ⟨M, 0, none⟩)] w (Does (fun w' => PushAt w' P 0 S3 0 0 y1) w0 M B t1 false) := by
  have k := push_step P 0 M B 4 S3 0 0 s3 Op.new w ho h.mem (by decide +kernel) (by decide +kernel) hP.m hP.b good_new3 (.inl rfl) ok3 wd3 (fun _ => ⟨by decide, by decide, rfl⟩)
  rw [show ((pushOp 4 S3 s3 Op.new).line == 9) = false from by decide +kernel] at k
  exact k.mono fun e w' ⟨h1, h2, h3, h4⟩ => ⟨h1, h2, h.step hP h3 h4⟩
theorem stepY2 {w0 w : World} {P M B : Nat} (ho : PushAt w P 0 S3 0 0 y1) (h : In w0 M B t1 w) (hP : Bk w0 M B P) :
    Calls Try.prog 12 #[.pointer (some ⟨P, 0, none⟩), .pointer (some ⟨M, 0, none⟩)] w (Does (fun w' => PushAt w' P 0 S3 0 0 y2) w0 M B t2 false) := by
  have k := push_step P 0 M B 4 S3 0 0 t1 y1 w ho h.mem (by decide +kernel) (by decide +kernel) hP.m hP.b invY1.1 invY1.2 ok3 wdT1 (fun _ => ⟨by decide, by decide, rfl⟩)
  rw [show ((pushOp 4 S3 t1 y1).line == 9) = false from by decide +kernel] at k
  exact k.mono fun e w' ⟨h1, h2, h3, h4⟩ => ⟨h1, h2, h.step hP h3 h4⟩
theorem stepY3 {w0 w : World} {P M B : Nat} (ho : PushAt w P 0 S3 0 0 y2) (h : In w0 M B t2 w) (hP : Bk w0 M B P) :
    Calls Try.prog 12 #[.pointer (some ⟨P, 0, none⟩), .pointer (some ⟨M, 0, none⟩)] w (Does (fun w' => PushAt w' P 0 S3 0 0 y3) w0 M B t3 true) := by
  have k := push_step P 0 M B 4 S3 0 0 t2 y2 w ho h.mem (by decide +kernel) (by decide +kernel) hP.m hP.b invY2.1 invY2.2 ok3 wdT2 (fun _ => ⟨by decide, by decide, rfl⟩)
  rw [show ((pushOp 4 S3 t2 y2).line == 9) = true from by decide +kernel] at k
  exact k.mono fun e w' ⟨h1, h2, h3, h4⟩ => ⟨h1, h2, h.step hP h3 h4⟩
theorem stepA1 {w0 w : World} {P M B : Nat} (ho : AllAt w P 0 S3 Op.new) (h : In w0 M B t3 w) (hP : Bk w0 M B P) :
    Calls Try.prog 13 #[.pointer (some ⟨P, 0, none⟩), .pointer (some ⟨M, 0, none⟩)] w (Does (fun w' => AllAt w' P 0 S3 a1) w0 M B u1 false) := by
  have k := all_step P 0 M B 4 S3 t3 Op.new w ho h.mem (by decide +kernel) (by decide +kernel) hP.m hP.b good_new3 (.inl rfl) (by decide) (fun h => absurd h (by decide)) ok3 wdT3
  rw [show ((allOp 4 S3 t3 Op.new).line == 9) = false from by decide +kernel] at k
  exact k.mono fun e w' ⟨h1, h2, h3, h4⟩ => ⟨h1, h2, h.step hP h3 h4⟩
theorem stepA2 {w0 w : World} {P M B : Nat} (ho : AllAt w P 0 S3 a1) (h : In w0 M B u1 w) (hP : Bk w0 M B P) :
    Calls Try.prog 13 #[.pointer (some ⟨P, 0, none⟩), .pointer (some ⟨M, 0, none⟩)] w (Does (fun w' => AllAt w' P 0 S3 a2) w0 M B u2 true) := by
  have k := all_step P 0 M B 4 S3 u1 a1 w ho h.mem (by decide +kernel) (by decide +kernel) hP.m hP.b invA1.1 invA1.2.1 invA1.2.2.1 invA1.2.2.2 ok3 wdU1
  rw [show ((allOp 4 S3 u1 a1).line == 9) = true from by decide +kernel] at k
  exact k.mono fun e w' ⟨h1, h2, h3, h4⟩ => ⟨h1, h2, h.step hP h3 h4⟩
theorem stepQ {w0 w : World} {P M B : Nat} (ho : PopAt w P 0 S3 Op.new) (h : In w0 M B u2 w) (hP : Bk w0 M B P) :
    Calls Try.prog 11 #[.pointer (some ⟨P, 0, none⟩), .pointer (some ⟨M, 0, none⟩)] w (Does (fun w' => PopAt w' P 0 S3 q1) w0 M B v1 true) := by
  have k := pop_step P 0 M B 4 S3 u2 Op.new w ho h.mem (by decide +kernel) (by decide +kernel) hP.m hP.b good_new3 (.inl rfl) (fun h => absurd h (by decide)) ok3 wdU2
  rw [show ((popOp 4 S3 u2 Op.new).line == 9) = true from by decide +kernel] at k
  exact k.mono fun e w' ⟨h1, h2, h3, h4⟩ => ⟨h1, h2, h.step hP h3 h4⟩
theorem toldY1 {w : World} {P : Nat} (ho : PushAt w P 0 S3 0 0 y1) : Calls Try.prog 14 #[.pointer (some ⟨P, 0, none⟩)] w fun e w' => e = .returned (.int .i64 14) ∧ w = w' := by
  have h := push_told P 0 S3 0 0 y1 w ho
  rw [knows.1] at h
  exact h
theorem toldY3 {w : World} {P : Nat} (ho : PushAt w P 0 S3 0 0 y3) : Calls Try.prog 14 #[.pointer (some ⟨P, 0, none⟩)] w fun e w' => e = .returned (.int .i64 0) ∧ w = w' := by
  have h := push_told P 0 S3 0 0 y3 w ho
  rw [knows.2.1] at h
  exact h
theorem toldO {w : World} {P : Nat} (ho : PushAt w P 0 S3 3 3 Op.over) : Calls Try.prog 14 #[.pointer (some ⟨P, 0, none⟩)] w fun e w' => e = .returned (.int .i64 3) ∧ w = w' := by
  have h := push_told P 0 S3 3 3 Op.over w ho
  rw [knows.2.2.2.2.2.2] at h
  exact h
theorem toldA {w : World} {P : Nat} (ho : AllAt w P 0 S3 a2) : Calls Try.prog 10 #[.pointer (some ⟨P, 0, none⟩)] w fun e w' => e = .returned (.tuple #[.int .i64 0, .int .i64 0]) ∧ Kept w w' := by
  have h := all_told P 0 S3 a2 w ho invA2.1
  rw [knows.2.2.1, knows.2.2.2.1] at h
  exact h
theorem toldQ {w : World} {P : Nat} (ho : PopAt w P 0 S3 q1) : Calls Try.prog 9 #[.pointer (some ⟨P, 0, none⟩)] w fun e w' => e = .returned (.tuple #[.int .i64 0, .int .i64 15]) ∧ Kept w w' := by
  have h := pop_told P 0 S3 q1 w ho invQ1.1
  rw [knows.2.2.2.2.1, knows.2.2.2.2.2.1] at h
  exact h
theorem chainT {w : World} {M B : Nat} (hm : PMem w M B 4 t3) : Calls Try.prog 19 #[.agg #[.int .i64 S3.T, .int .i64 S3.K, .int .i64 S3.N], .pointer (some ⟨M, 0, none⟩)] w (Told3 w) := by
  refine (p_chain S3 hm wdT3 ok3).mono ?_
  rw [chainT3]
  rintro e w' ⟨a, c, rfl, k, h⟩
  exact ⟨a, c, rfl, k, reads_own h⟩
theorem newO (w : World) : Calls Try.prog 15 #[.agg #[.int .i64 0, .int .i64 1, .int .i64 3], .int .i64 3] w (Made (fun w P => PushAt w P 0 S3 3 3 Op.over) w) := newPush_out S3 3 (.inr (by decide)) w
theorem fitsA (w : World) : Calls Try.prog 26 #[.agg #[.int .i64 2, .int .i64 1, .int .i64 3], .int .i64 9] w fun e w' => e = .returned (.int .i64 2) ∧ Kept w w' := pfits_any ⟨2, 1, 3⟩ 9 w
theorem fitsB (w : World) : Calls Try.prog 26 #[.agg #[.int .i64 0, .int .i64 1, .int .i64 0], .int .i64 9] w fun e w' => e = .returned (.int .i64 2) ∧ Kept w w' := pfits_any ⟨0, 1, 0⟩ 9 w
theorem fitsC (w : World) : Calls Try.prog 26 #[.agg #[.int .i64 0, .int .i64 1, .int .i64 3], .int .i64 0] w fun e w' => e = .returned (.int .i64 3) ∧ Kept w w' := pfits_any ⟨0, 1, 3⟩ 0 w

set_option maxHeartbeats 8000000 in
theorem known_any (w : World) : Calls Try.prog 4 #[] w fun e w' => e = .returned (.bool true) ∧ Kept w w' := by
  go_enter Try.func4, Try.ntmps4
  go_wp2_with fail
  refine (popped_any _).mono ?_
  rintro e w1 ⟨M, B, rfl, m1, k1, lM, lB⟩
  have I1 : Hid (In w M B s3 w1) := Lib.hid ⟨m1, k1, lM, lB, pmem_lt m1 |>.1, pmem_lt m1 |>.2⟩
  clear m1 k1 lM lB
  go_wp2_with fail
  refine (three_any _).mono ?_
  rintro e w2 ⟨rfl, k2⟩
  have I2 := Lib.hid (I1.out.grow k2)
  clear k2
  go_wp2_with fail
  refine (newPush_in S3 0 (by decide) (by decide) (by decide) _).mono ?_
  rintro e w3 ⟨P, rfl, lP, gP, oP, k3⟩
  have bP := I2.out.bk lP
  have I3 := Lib.hid (I2.out.grow k3)
  have OP3 := Lib.hid oP
  clear k3 oP lP gP
  go_wp2_with fail
  refine (stepY1 OP3.out I3.out bP).mono ?_
  rintro e w4 ⟨rfl, o4, i4⟩
  have I4 := Lib.hid i4
  have OP4 := Lib.hid o4
  clear o4 i4
  go_wp2_with fail
  refine (toldY1 OP4.out).mono ?_
  rintro e _ ⟨rfl, rfl⟩
  go_wp2_with fail
  refine (stepY2 OP4.out I4.out bP).mono ?_
  rintro e w5 ⟨rfl, o5, i5⟩
  have I5 := Lib.hid i5
  have OP5 := Lib.hid o5
  clear o5 i5
  go_wp2_with fail
  refine (stepY3 OP5.out I5.out bP).mono ?_
  rintro e w6 ⟨rfl, o6, i6⟩
  have I6 := Lib.hid i6
  have OP6 := Lib.hid o6
  clear o6 i6
  go_wp2_with fail
  refine (toldY3 OP6.out).mono ?_
  rintro e _ ⟨rfl, rfl⟩
  go_wp2_with fail
  refine (three_any _).mono ?_
  rintro e w7 ⟨rfl, k7⟩
  have I7 := Lib.hid (I6.out.grow k7)
  clear k7
  go_wp2_with fail
  refine (chainT I7.out.mem).mono ?_
  rintro e w8 ⟨a8, c8, rfl, k8, r8⟩
  have I8 := Lib.hid (I7.out.grow k8)
  have R8 := Lib.hid r8
  clear k8 r8
  go_wp2_with fail
  refine (sameInts_yes _ _ 3 _ _ f3 _ (by decide) (R8.out.kept ((Kept.refl _).alloc _ _)) (ints3 rfl)).mono ?_
  rintro e w9 ⟨rfl, k9⟩
  have I9 := Lib.hid (I8.out.grow (((Kept.refl _).alloc _ _).trans k9))
  clear k9
  go_wp2_with fail
  refine (p_words _ _ 4 t3 _ I9.out.mem).mono ?_
  rintro e w10 ⟨b, c, rfl, hb1, hb2, hw, hf, k10⟩
  have I10 := Lib.hid (I9.out.grow k10)
  have HW := Lib.hid hw
  clear k10 hw hf hb1 hb2
  go_wp2_with fail
  refine (sameWords (f := t3.ws) (by decide) (fun i hi => ?_) (fun i hi => cells4 wordsT3 rfl i hi)).mono ?_
  · rw [Nat.zero_add]; exact ((Kept.refl _).alloc _ _).some (HW.out i hi)
  rintro e w11 ⟨rfl, k11⟩
  clear HW
  have I11 := Lib.hid (I10.out.grow (((Kept.refl _).alloc _ _).trans k11))
  clear k11
  go_wp2_with fail
  refine (three_any _).mono ?_
  rintro e w12 ⟨rfl, k12⟩
  have I12 := Lib.hid (I11.out.grow k12)
  clear k12
  go_wp2_with fail
  refine (newAll_any S3 _).mono ?_
  rintro e w13 ⟨A, rfl, lA, gA, oA, k13⟩
  have bA := I12.out.bk lA
  have I13 := Lib.hid (I12.out.grow k13)
  have OA13 := Lib.hid oA
  clear k13 oA lA gA
  go_wp2_with fail
  refine (stepA1 OA13.out I13.out bA).mono ?_
  rintro e w14 ⟨rfl, o14, i14⟩
  have I14 := Lib.hid i14
  have OA14 := Lib.hid o14
  clear o14 i14
  go_wp2_with fail
  refine (stepA2 OA14.out I14.out bA).mono ?_
  rintro e w15 ⟨rfl, o15, i15⟩
  have I15 := Lib.hid i15
  have OA15 := Lib.hid o15
  clear o15 i15
  go_wp2_with fail
  refine (toldA OA15.out).mono ?_
  rintro e w16 ⟨rfl, k16⟩
  have I16 := Lib.hid (I15.out.grow k16)
  have OA16 : Hid (AllAt w16 A 0 S3 a2) := Lib.hid (OpAt.frame OA15.out ((k16).but (fun _ => False)) id)
  clear k16
  go_wp2_with fail
  refine (three_any _).mono ?_
  rintro e w17 ⟨rfl, k17⟩
  have I17 := Lib.hid (I16.out.grow k17)
  clear k17
  go_wp2_with fail
  refine (newPop_any S3 _).mono ?_
  rintro e w18 ⟨Q, rfl, lQ, gQ, oQ, k18⟩
  have bQ := I17.out.bk lQ
  have I18 := Lib.hid (I17.out.grow k18)
  have OQ18 := Lib.hid oQ
  clear k18 oQ lQ gQ
  go_wp2_with fail
  refine (stepQ OQ18.out I18.out bQ).mono ?_
  rintro e w19 ⟨rfl, o19, i19⟩
  have I19 := Lib.hid i19
  have OQ19 := Lib.hid o19
  clear o19 i19
  go_wp2_with fail
  refine (toldQ OQ19.out).mono ?_
  rintro e w20 ⟨rfl, k20⟩
  have I20 := Lib.hid (I19.out.grow k20)
  have OQ20 : Hid (PopAt w20 Q 0 S3 q1) := Lib.hid (OpAt.frame OQ19.out ((k20).but (fun _ => False)) id)
  clear k20
  go_wp2_with fail
  refine (newO _).mono ?_
  rintro e w21 ⟨Z, rfl, lZ, gZ, oZ, k21⟩
  have bZ := I20.out.bk lZ
  have I21 := Lib.hid (I20.out.grow k21)
  have OZ21 := Lib.hid oZ
  clear k21 oZ lZ gZ
  go_wp2_with fail
  refine (toldO OZ21.out).mono ?_
  rintro e _ ⟨rfl, rfl⟩
  go_wp2_with fail
  refine (fitsA _).mono ?_
  rintro e w22 ⟨rfl, k22⟩
  have I22 := Lib.hid (I21.out.grow k22)
  clear k22
  go_wp2_with fail
  refine (fitsB _).mono ?_
  rintro e w23 ⟨rfl, k23⟩
  have I23 := Lib.hid (I22.out.grow k23)
  clear k23
  go_wp2_with fail
  refine (fitsC _).mono ?_
  rintro e w24 ⟨rfl, k24⟩
  have I24 := Lib.hid (I23.out.grow k24)
  clear k24
  go_wp2_with fail
  refine (awake_any _).mono ?_
  rintro e w25 ⟨rfl, k25⟩
  have I25 := Lib.hid (I24.out.grow k25)
  clear k25
  go_wp2
  go_ret
  exact ⟨rfl, I25.out.kept⟩
end Go.Proofs.Ytfcompikbeebaaa.Sk

namespace Go.Proofs.Ytfcompikbeebaaa.Wo
set_option maxRecDepth 20000
open Go.RowKit

set_option maxHeartbeats 1000000 in
theorem valid_nil (w : World) : Calls Try.prog 43 #[.pointer none] w fun e w' => e = .returned (.bool false) ∧ w = w' := by
  go_enter Try.func43, Try.ntmps43
  go_wp2
  go_ret
  exact ⟨rfl, rfl⟩
set_option maxHeartbeats 1000000 in
theorem no_size_nil (w : World) : Calls Try.prog 76 #[.pointer none] w fun e w' => e = .returned (.int .i64 0) ∧ w = w' := by
  go_enter Try.func76, Try.ntmps76
  go_wp2_with fail
  refine (valid_nil _).mono ?_
  rintro e w' ⟨rfl, rfl⟩
  go_wp2
  go_ret
  exact ⟨rfl, rfl⟩
set_option maxHeartbeats 1000000 in
theorem no_count_nil (w : World) : Calls Try.prog 16 #[.pointer none] w fun e w' => e = .returned (.int .i64 0) ∧ w = w' := by
  go_enter Try.func16, Try.ntmps16
  go_wp2_with fail
  refine (valid_nil _).mono ?_
  rintro e w' ⟨rfl, rfl⟩
  go_wp2
  go_ret
  exact ⟨rfl, rfl⟩
set_option maxHeartbeats 1000000 in
theorem no_words_nil (w : World) : Calls Try.prog 24 #[.pointer none] w fun e w' => e = .returned (.slice none 0 0) ∧ w = w' := by
  go_enter Try.func24, Try.ntmps24
  go_wp2_with fail
  refine (valid_nil _).mono ?_
  rintro e w' ⟨rfl, rfl⟩
  go_wp2
  go_ret
  exact ⟨rfl, rfl⟩
set_option maxHeartbeats 1000000 in
theorem cell_nil (i : Int) (w : World) : Calls Try.prog 62 #[.pointer none, .int .i64 i] w fun e w' => e = .returned (.pointer none) ∧ w = w' := by
  by_cases h : i < 0
  · go_enter Try.func62, Try.ntmps62
    go_wp2
    go_ret
    exact ⟨rfl, rfl⟩
  · have h' : 0 ≤ i := by omega
    go_enter Try.func62, Try.ntmps62
    go_wp2_with fail
    refine (no_size_nil _).mono ?_
    rintro e w' ⟨rfl, rfl⟩
    go_wp2
    go_ret
    exact ⟨rfl, rfl⟩
set_option maxHeartbeats 1000000 in
theorem access_nil (k i : Int) (F : Value) (w : World) : Calls Try.prog 61 #[.pointer none, .int .i64 k, .int .i64 i, F] w fun e w' => e = .returned (.agg #[.int .i64 0, .int .i64 0, .int .u64 0, .int .u64 0, .bool false]) ∧ Kept w w' := by
  go_enter Try.func61, Try.ntmps61
  go_wp2_with fail
  refine (valid_nil _).mono ?_
  rintro e w' ⟨rfl, rfl⟩
  go_wp2
  refine bodyPost_ret (v := (.agg #[.int .i64 0, .int .i64 0, .int .u64 0, .int .u64 0, .bool false])) (by simp [results, Try.results61, go_sem]) rfl ⟨rfl, ?_⟩
  (go_light; repeat (first | (with_reducible exact Kept.refl _) | (with_reducible assumption) | (with_reducible refine Kept.alloc ?_ _ _) | (with_reducible refine Kept.drew ?_) | (with_reducible refine Kept.drewN ?_ _) | ((with_reducible refine Kept.setCell ?_ ?_ _); rotate_left; focus (first | (simp; done) | (simp; omega))) | refine Kept.trans ?_ (by assumption)))
set_option maxHeartbeats 1000000 in
theorem no_last_nil (w : World) : Calls Try.prog 32 #[.pointer none] w fun e w' => e = .returned (.agg #[.int .i64 0, .int .i64 0, .int .u64 0, .int .u64 0, .bool false]) ∧ Kept w w' := by
  go_enter Try.func32, Try.ntmps32
  go_wp2_with fail
  refine (valid_nil _).mono ?_
  rintro e w' ⟨rfl, rfl⟩
  go_wp2
  refine bodyPost_ret (v := (.agg #[.int .i64 0, .int .i64 0, .int .u64 0, .int .u64 0, .bool false])) (by simp [results, Try.results32, go_sem]) rfl ⟨rfl, ?_⟩
  (go_light; repeat (first | (with_reducible exact Kept.refl _) | (with_reducible assumption) | (with_reducible refine Kept.alloc ?_ _ _) | (with_reducible refine Kept.drew ?_) | (with_reducible refine Kept.drewN ?_ _) | ((with_reducible refine Kept.setCell ?_ ?_ _); rotate_left; focus (first | (simp; done) | (simp; omega))) | refine Kept.trans ?_ (by assumption)))
set_option maxHeartbeats 1000000 in
theorem no_load_nil (i : Int) (w : World) : Calls Try.prog 73 #[.pointer none, .int .i64 i] w fun e w' => e = .returned (.int .u64 0) ∧ Kept w w' := by
  have hfn := field_new
  have hfh := field_held
  go_enter Try.func73, Try.ntmps73
  go_wp2_with fail
  refine (cell_nil _ _).mono ?_
  rintro e w' ⟨rfl, rfl⟩
  go_wp2_with fail
  refine (access_nil _ _ _ _).mono ?_
  rintro e w' ⟨rfl, k⟩
  go_wp2
  go_ret
  exact ⟨rfl, k⟩
set_option maxHeartbeats 1000000 in
theorem no_store_nil (i x : Int) (w : World) : Calls Try.prog 45 #[.pointer none, .int .i64 i, .int .u64 x] w fun e w' => e = .returned (.tuple #[]) ∧ Kept w w' := by
  have hfn := field_new
  have hfh := field_held
  go_enter Try.func45, Try.ntmps45
  go_wp2_with fail
  refine (cell_nil _ _).mono ?_
  rintro e w' ⟨rfl, rfl⟩
  go_wp2_with fail
  refine (access_nil _ _ _ _).mono ?_
  rintro e w' ⟨rfl, k⟩
  go_wp2
  go_end0
  exact ⟨rfl, k⟩
set_option maxHeartbeats 1000000 in
theorem no_cas_nil (i x y : Int) (w : World) : Calls Try.prog 95 #[.pointer none, .int .i64 i, .int .u64 x, .int .u64 y] w fun e w' => e = .returned (.bool false) ∧ Kept w w' := by
  have hfn := field_new
  have hfh := field_held
  go_enter Try.func95, Try.ntmps95
  go_wp2_with fail
  refine (cell_nil _ _).mono ?_
  rintro e w' ⟨rfl, rfl⟩
  go_wp2_with fail
  refine (access_nil _ _ _ _).mono ?_
  rintro e w' ⟨rfl, k⟩
  go_wp2
  go_ret
  exact ⟨rfl, k⟩
end Go.Proofs.Ytfcompikbeebaaa.Wo

namespace Go.Proofs.Ytfcompikbeebaaa.Sk
set_option maxRecDepth 20000
open Go.RowKit
open Wo (St acc wordAt PMem RefIs)

theorem stepz_Pop (P : Nat) (m : Value) (w : World) (c6 : w.cell? ⟨P, 6, none⟩ = some .nilFunc) : Calls Try.prog 35 #[.pointer (some ⟨P, 0, none⟩), .pointer (some ⟨P, 0, none⟩), m] w fun e w' => e = .returned (.bool true) ∧ w = w' := by
  have q1 := neq_nil_Pop
  have q3 := eql_nil_Pop
  go_enter Try.func35, Try.ntmps35
  go_wp2
  go_ret
  exact ⟨rfl, rfl⟩
theorem Stepz_Pop (P : Nat) (m : Value) (w : World) (c6 : w.cell? ⟨P, 6, none⟩ = some .nilFunc) : Calls Try.prog 11 #[.pointer (some ⟨P, 0, none⟩), m] w fun e w' => e = .returned (.bool true) ∧ w = w' :=
  Step_Pop P 0 m true (fun w' => w = w') w (Lib.hid (stepz_Pop P m w c6))
theorem outz_Pop (P : Nat) (w : World) (c0 : w.cell? ⟨P, 0, none⟩ = some (.bool false)) : Calls Try.prog 55 #[.pointer (some ⟨P, 0, none⟩)] w fun e w' => e = .returned (.int .i64 1) ∧ w = w' := by
  go_enter Try.func55, Try.ntmps55
  go_wp2
  go_ret
  exact ⟨rfl, rfl⟩
theorem takenz_Pop (P : Nat) (w : World) (c0 : w.cell? ⟨P, 0, none⟩ = some (.bool false)) : Calls Try.prog 33 #[.pointer (some ⟨P, 0, none⟩)] w fun e w' => e = .returned (.tuple #[.int .i64 0, .int .i64 1]) ∧ Kept w w' := by
  go_enter Try.func33, Try.ntmps33
  go_wp2_with fail
  refine (outz_Pop P _ c0).mono ?_
  rintro e _ ⟨rfl, rfl⟩
  go_wp2
  go_ret2
  exact ⟨rfl, by (go_light; repeat (first | (with_reducible exact Kept.refl _) | (with_reducible assumption) | (with_reducible refine Kept.alloc ?_ _ _) | (with_reducible refine Kept.drew ?_) | (with_reducible refine Kept.drewN ?_ _) | ((with_reducible refine Kept.setCell ?_ ?_ _); rotate_left; focus (first | (simp; done) | (simp; omega))) | refine Kept.trans ?_ (by assumption)))⟩
theorem Indexz_Pop (P : Nat) (w : World) (c0 : w.cell? ⟨P, 0, none⟩ = some (.bool false)) : Calls Try.prog 9 #[.pointer (some ⟨P, 0, none⟩)] w fun e w' => e = .returned (.tuple #[.int .i64 0, .int .i64 1]) ∧ Kept w w' := by
  go_enter Try.func9, Try.ntmps9
  go_wp2_with fail
  refine (takenz_Pop P _ c0).mono ?_
  rintro e w' ⟨rfl, k⟩
  go_wp2
  go_ret2
  exact ⟨rfl, k⟩
theorem Index_nil_Pop (w : World) : Calls Try.prog 9 #[.pointer none] w fun e w' => e = .returned (.tuple #[.int .i64 0, .int .i64 1]) ∧ w = w' := by
  go_enter Try.func9, Try.ntmps9
  go_wp2
  go_ret2
  exact ⟨rfl, rfl⟩
theorem stepz_Push (P : Nat) (m : Value) (w : World) (c6 : w.cell? ⟨P, 6, none⟩ = some .nilFunc) : Calls Try.prog 36 #[.pointer (some ⟨P, 0, none⟩), .pointer (some ⟨P, 0, none⟩), m] w fun e w' => e = .returned (.bool true) ∧ w = w' := by
  have q1 := neq_nil_Push
  have q3 := eql_nil_Push
  go_enter Try.func36, Try.ntmps36
  go_wp2
  go_ret
  exact ⟨rfl, rfl⟩
theorem Stepz_Push (P : Nat) (m : Value) (w : World) (c6 : w.cell? ⟨P, 6, none⟩ = some .nilFunc) : Calls Try.prog 12 #[.pointer (some ⟨P, 0, none⟩), m] w fun e w' => e = .returned (.bool true) ∧ w = w' :=
  Step_Push P 0 m true (fun w' => w = w') w (Lib.hid (stepz_Push P m w c6))
theorem outz_Push (P : Nat) (w : World) (c0 : w.cell? ⟨P, 0, none⟩ = some (.bool false)) : Calls Try.prog 38 #[.pointer (some ⟨P, 0, none⟩)] w fun e w' => e = .returned (.int .i64 1) ∧ w = w' := by
  go_enter Try.func38, Try.ntmps38
  go_wp2
  go_ret
  exact ⟨rfl, rfl⟩
theorem Errz (P : Nat) (w : World) (c0 : w.cell? ⟨P, 0, none⟩ = some (.bool false)) : Calls Try.prog 14 #[.pointer (some ⟨P, 0, none⟩)] w fun e w' => e = .returned (.int .i64 1) ∧ w = w' := by
  go_enter Try.func14, Try.ntmps14
  go_wp2_with fail
  refine (outz_Push P _ c0).mono ?_
  rintro e _ ⟨rfl, rfl⟩
  go_wp2
  go_ret
  exact ⟨rfl, rfl⟩
theorem Err_nil (w : World) : Calls Try.prog 14 #[.pointer none] w fun e w' => e = .returned (.int .i64 1) ∧ w = w' := by
  go_enter Try.func14, Try.ntmps14
  go_wp2
  go_ret
  exact ⟨rfl, rfl⟩
theorem stepz_All (P : Nat) (m : Value) (w : World) (c6 : w.cell? ⟨P, 6, none⟩ = some .nilFunc) : Calls Try.prog 37 #[.pointer (some ⟨P, 0, none⟩), .pointer (some ⟨P, 0, none⟩), m] w fun e w' => e = .returned (.bool true) ∧ w = w' := by
  have q1 := neq_nil_All
  have q3 := eql_nil_All
  go_enter Try.func37, Try.ntmps37
  go_wp2
  go_ret
  exact ⟨rfl, rfl⟩
theorem Stepz_All (P : Nat) (m : Value) (w : World) (c6 : w.cell? ⟨P, 6, none⟩ = some .nilFunc) : Calls Try.prog 13 #[.pointer (some ⟨P, 0, none⟩), m] w fun e w' => e = .returned (.bool true) ∧ w = w' :=
  Step_All P 0 m true (fun w' => w = w') w (Lib.hid (stepz_All P m w c6))
theorem outz_All (P : Nat) (w : World) (c0 : w.cell? ⟨P, 0, none⟩ = some (.bool false)) : Calls Try.prog 57 #[.pointer (some ⟨P, 0, none⟩)] w fun e w' => e = .returned (.int .i64 1) ∧ w = w' := by
  go_enter Try.func57, Try.ntmps57
  go_wp2
  go_ret
  exact ⟨rfl, rfl⟩
theorem takenz_All (P : Nat) (w : World) (c0 : w.cell? ⟨P, 0, none⟩ = some (.bool false)) : Calls Try.prog 34 #[.pointer (some ⟨P, 0, none⟩)] w fun e w' => e = .returned (.tuple #[.int .i64 0, .int .i64 1]) ∧ Kept w w' := by
  go_enter Try.func34, Try.ntmps34
  go_wp2_with fail
  refine (outz_All P _ c0).mono ?_
  rintro e _ ⟨rfl, rfl⟩
  go_wp2
  go_ret2
  exact ⟨rfl, by (go_light; repeat (first | (with_reducible exact Kept.refl _) | (with_reducible assumption) | (with_reducible refine Kept.alloc ?_ _ _) | (with_reducible refine Kept.drew ?_) | (with_reducible refine Kept.drewN ?_ _) | ((with_reducible refine Kept.setCell ?_ ?_ _); rotate_left; focus (first | (simp; done) | (simp; omega))) | refine Kept.trans ?_ (by assumption)))⟩
theorem Indexz_All (P : Nat) (w : World) (c0 : w.cell? ⟨P, 0, none⟩ = some (.bool false)) : Calls Try.prog 10 #[.pointer (some ⟨P, 0, none⟩)] w fun e w' => e = .returned (.tuple #[.int .i64 0, .int .i64 1]) ∧ Kept w w' := by
  go_enter Try.func10, Try.ntmps10
  go_wp2_with fail
  refine (takenz_All P _ c0).mono ?_
  rintro e w' ⟨rfl, k⟩
  go_wp2
  go_ret2
  exact ⟨rfl, k⟩
theorem Index_nil_All (w : World) : Calls Try.prog 10 #[.pointer none] w fun e w' => e = .returned (.tuple #[.int .i64 0, .int .i64 1]) ∧ w = w' := by
  go_enter Try.func10, Try.ntmps10
  go_wp2
  go_ret2
  exact ⟨rfl, rfl⟩

set_option maxHeartbeats 1000000 in
theorem loadTop_no (P k : Nat) (S : Stk) (W L : Int) (nx : Value) (er : Int) (w : World) (ho : OpAt w P 0 S W L nx er) :
    Calls Try.prog 82 #[.pointer (some ⟨P, 0, none⟩), .pointer none, .func (.func k) #[] #[]] w
      fun e w' => e = .returned (.tuple #[]) ∧ OpAt w' P 0 S 0 L (.func (.func k) #[] #[]) er ∧ But (fun k => k = P) w w' := by
  obtain ⟨c0, c1, c2, c3, c4, c5, c6, c7, f⟩ := ho
  have hP := lt_of_cell c0
  go_enter Try.func82, Try.ntmps82
  go_wp2_with fail
  refine (Wo.no_load_nil S.T _).mono ?_
  rintro e w1 ⟨rfl, k0⟩
  have k1 := kept_of k0
  have d0 := k1.some c0
  have d1 := k1.some c1
  have d2 := k1.some c2
  have d3 := k1.some c3
  have d4 := k1.some c4
  have d5 := k1.some c5
  have d6 := k1.some c6
  have d7 := k1.some c7
  have df : ∀ i, w1.frozen? ⟨P, i, none⟩ = false := fun i => k1.soft (lt_of_cell c0) (f i)
  have K1 := Lib.hid k1
  clear k0 k1 c0 c1 c2 c3 c4 c5 c6 c7 f
  go_wp2
  go_end0
  exact ⟨rfl, (by go_light; refine ⟨?_, ?_, ?_, ?_, ?_, ?_, ?_, ?_, fun i => ?_⟩ <;> (simp [cell_set, *]; done)), ((K1.out.but _).here _ _).here _ _⟩
set_option maxHeartbeats 1000000 in
theorem loadFirst_no (P k : Nat) (S : Stk) (W L : Int) (nx : Value) (er : Int) (w : World) (ho : OpAt w P 0 S W L nx er) :
    Calls Try.prog 65 #[.pointer (some ⟨P, 0, none⟩), .pointer none, .func (.func k) #[] #[]] w
      fun e w' => e = .returned (.tuple #[]) ∧ OpAt w' P 0 S 0 L .nilFunc 15 ∧ But (fun k => k = P) w w' := by
  have hi : idx S.N 0 = -1 := by unfold idx; split <;> omega
  have HO := Lib.hid ho
  clear ho
  go_enter Try.func65, Try.ntmps65
  go_wp2_with fail
  refine (loadTop_no P k S W L nx er _ HO.out).mono ?_
  rintro e u1 ⟨rfl, o1, b1⟩
  have O1 := Lib.hid o1
  have B1 := Lib.hid b1
  clear o1 b1
  have hf : ∀ u, Hid (OpAt u P 0 S 0 L (.func (.func k) #[] #[]) er → Calls Try.prog 56 #[.pointer (some ⟨P, 0, none⟩)] u fun e w' => e = .returned (.int .i64 (-1)) ∧ Kept u w') := fun u => Lib.hid (fun h => by
    have := first_Pop P 0 S 0 L _ er u h (by decide) (by decide)
    rw [hi] at this
    exact this)
  go_wp2_with fail
  refine ((hf _).out O1.out).mono ?_
  rintro e u2 ⟨rfl, k2⟩
  have K2 := Lib.hid k2
  clear k2
  go_wp2_with fail
  refine (end_Pop P 0 S _ L _ er 15 _ (O1.out.kept K2.out)).mono ?_
  rintro e u3 ⟨rfl, o3, g3⟩
  have O3 := Lib.hid o3
  have G3 := Lib.hid g3
  clear o3 g3
  go_wp2
  go_end0
  exact ⟨rfl, O3.out, (B1.out.then K2.out).trans G3.out.own (fun _ _ h => h)⟩
set_option maxHeartbeats 1000000 in
theorem step_no (P : Nat) (S : Stk) (w : World) (ho : PopAt w P 0 S Op.new) :
    Calls Try.prog 11 #[.pointer (some ⟨P, 0, none⟩), .pointer none] w fun e w' => e = .returned (.bool true) ∧ PopAt w' P 0 S ⟨9, 0, 0⟩ ∧ But (fun k => k = P) w w' := by
  have hc : Calls Try.prog 49 #[.pointer (some ⟨P, 0, none⟩), .pointer none] w fun e w' => e = .returned (.tuple #[]) ∧ OpAt w' P 0 S 0 0 .nilFunc 15 ∧ But (fun k => k = P) w w' := by
    have HC := Lib.hid (loadFirst_no P 66 S 0 0 _ _ w ho)
    clear ho
    go_enter Try.func49, Try.ntmps49
    go_wp2_with fail
    refine HC.out.mono ?_
    rintro e u1 ⟨rfl, h⟩
    have H := Lib.hid h
    clear h
    go_wp2
    go_end0
    exact ⟨rfl, H.out⟩
  have HC := Lib.hid hc
  have c6 : w.cell? ⟨P, 6, none⟩ = some (.func (.func 49) #[] #[]) := by have := OpAt.c6 ho; simpa [nxPop, Op.new] using this
  clear hc ho
  have hs : Calls Try.prog 35 #[.pointer (some ⟨P, 0, none⟩), .pointer (some ⟨P, 0, none⟩), .pointer none] w fun e w' => e = .returned (.bool true) ∧ OpAt w' P 0 S 0 0 .nilFunc 15 ∧ But (fun k => k = P) w w' := by
    have q1 := neq_nil_Pop
    have q2 := neq_func_Pop
    have q3 := eql_nil_Pop
    have q4 := eql_func_Pop
    go_enter Try.func35, Try.ntmps35
    go_wp2_with fail
    refine HC.out.mono ?_
    rintro e u1 ⟨rfl, h⟩
    have d6 := h.1.c6
    have H := Lib.hid h
    clear h c6
    go_wp2
    go_ret
    exact ⟨rfl, H.out⟩
  refine (Step_Pop P 0 _ true _ w (Lib.hid hs)).mono fun e w' ⟨a, b, c⟩ => ⟨a, ?_, c⟩
  have hi : idx S.N 0 = -1 := by unfold idx; split <;> omega
  have e2 : tookE S ⟨9, 0, 0⟩ = 15 := by unfold tookE; rw [if_pos rfl, if_pos (by show idx S.N 0 < 0; omega)]
  unfold PopAt
  rw [e2]
  exact b
theorem told_no (P : Nat) (S : Stk) (w : World) (ho : PopAt w P 0 S ⟨9, 0, 0⟩) : Calls Try.prog 9 #[.pointer (some ⟨P, 0, none⟩)] w fun e w' => e = .returned (.tuple #[.int .i64 0, .int .i64 15]) ∧ Kept w w' := by
  have h := pop_told P 0 S ⟨9, 0, 0⟩ w ho ⟨by decide, by decide, by decide, by decide⟩
  have hi : idx S.N 0 = -1 := by unfold idx; split <;> omega
  have e1 : tookI S ⟨9, 0, 0⟩ = 0 := by unfold tookI; rw [if_neg (by show ¬ (9 = 9 ∧ 0 ≤ idx S.N 0); omega)]
  have e2 : tookE S ⟨9, 0, 0⟩ = 15 := by unfold tookE; rw [if_pos rfl, if_pos (by show idx S.N 0 < 0; omega)]
  rw [e1, e2] at h
  exact h
theorem chain_no (S : Stk) (w : World) (hN : S.N ≤ 4096) : Calls Try.prog 19 #[.agg #[.int .i64 S.T, .int .i64 S.K, .int .i64 S.N], .pointer none] w fun e w' => (∃ a c, e = .returned (.slice a 0 c)) ∧ Kept w w' := by
  have hg : GivesWords (.pointer none) 0 (fun _ => 0) w := fun W _ => (Wo.no_words_nil W).mono fun e w' ⟨h1, h2⟩ => by
    subst h2
    exact ⟨_, h1, .inl ⟨rfl, rfl⟩, fun g hg => by simp [Value.ownBlock] at hg, Kept.refl _⟩
  refine (chain_any S (.pointer none) 0 (fun _ => 0) (fun i hi => absurd hi (Nat.not_lt_zero i)) w hg hN).mono ?_
  have hc : chn 0 (fun _ => 0) S = [] := (chn_eq (k := 0) (Nat.zero_le _) (fun i h => absurd h (Nat.not_lt_zero i)) (.inl (by show atV 0 _ S.N S.T < 0; unfold atV; rw [if_neg (by omega)]; decide))).trans (by simp [sqs])
  rw [hc]
  rintro e w' ⟨a, c, rfl, k, h⟩
  exact ⟨⟨a, c, rfl⟩, k⟩
set_option maxHeartbeats 2000000 in
theorem fill_no (S : Stk) (w : World) (N1 : 1 ≤ S.N) (N2 : S.N ≤ 4096) :
    Calls Try.prog 17 #[.agg #[.int .i64 S.T, .int .i64 S.K, .int .i64 S.N], .pointer none] w fun e w' => e = .returned (.tuple #[]) ∧ Kept w w' := by
  go_enter Try.func17, Try.ntmps17
  go_wp2_with fail
  refine (sized_yes S _ N1 N2).mono ?_
  rintro e w1 ⟨rfl, k1⟩
  have a0 : w1.cell? ⟨w.heap.size, 0, none⟩ = some (.int .i64 S.T) := k1.some (by simp)
  have a1 : w1.cell? ⟨w.heap.size, 1, none⟩ = some (.int .i64 S.K) := k1.some (by simp)
  have a2 : w1.cell? ⟨w.heap.size, 2, none⟩ = some (.int .i64 S.N) := k1.some (by simp)
  have K : Hid (Kept w w1) := Lib.hid (by (go_light; repeat (first | (with_reducible exact Kept.refl _) | (with_reducible assumption) | (with_reducible refine Kept.alloc ?_ _ _) | (with_reducible refine Kept.drew ?_) | (with_reducible refine Kept.drewN ?_ _) | ((with_reducible refine Kept.setCell ?_ ?_ _); rotate_left; focus (first | (simp; done) | (simp; omega))) | refine Kept.trans ?_ (by assumption))))
  clear k1
  go_wp2_with fail
  go_region_held3 (fun w' => w'.cell? ⟨w.heap.size, 0, none⟩ = some (.int .i64 S.T) ∧ w'.cell? ⟨w.heap.size, 1, none⟩ = some (.int .i64 S.K) ∧ w'.cell? ⟨w.heap.size, 2, none⟩ = some (.int .i64 S.N)) (first | go_keep | (exact ⟨k2.some a0, k2.some a1, k2.some a2⟩) | (exact ⟨d0, d1, d2⟩)) (first
    | (go_at_call 46; refine (untagged_any 0 _ (by omega) (by omega)).mono ?_; rintro e w2 ⟨rfl, k2⟩; have KT : Kept w1 w2 := Kept.trans (b := _) (by first | exact Kept.refl _ | exact (Kept.refl _).drew | exact (Kept.refl _).drewN _) k2)
    | (go_at_call 45; refine (Wo.no_store_nil S.T 1 _).mono ?_; rintro e w3 ⟨rfl, k3'⟩; have KU : Kept w1 w3 := Kept.trans (b := _) (by first | exact KT | exact KT.drew | exact KT.drewN _) (kept_of k3'); have d0 := KU.some a0; have d1 := KU.some a1; have d2 := KU.some a2))
  have BW := Lib.hid (K.out.trans KU)
  have D0 := Lib.hid d0
  have D1 := Lib.hid d1
  have D2 := Lib.hid d2
  clear a0 a1 k2 KT KU k3' d0 d1
  obtain ⟨m, hmm⟩ : ∃ m : Nat, (m : Int) = S.N - 1 := ⟨(S.N - 1).toNat, by omega⟩
  have HMM := Lib.hid hmm
  clear hmm
  go_wp2_with fail
  go_loopw [18, 5] (fun i _ wr => ∃ k : Nat, k ≤ m ∧ i = .int .i64 k ∧ Kept w3 wr) (fun i _ _ => m - (intOf i).toNat)
  case atStart => exact ⟨0, Nat.zero_le _, rfl, Kept.refl _⟩
  case round =>
    obtain ⟨k, hk, rfl, br⟩ := hrel
    have e0 := br.some D0.out
    have e1 := br.some D1.out
    have e2 := br.some D2.out
    have hmm := HMM.out
    have BR := Lib.hid br
    clear br
    by_cases hlt : k < m
    · have hl : (k : Int) < S.N - 1 := by omega
      clear hmm
      go_wp2_with fail
      refine (link_any S.T S.K S.N k _).mono ?_
      rintro e w4 ⟨rfl, k4⟩
      go_wp2_with fail
      refine (untagged_any (k + 1) _ (by omega) (by omega)).mono ?_
      rintro e w5 ⟨rfl, k5⟩
      go_wp2_with fail
      refine (Wo.no_store_nil _ (k + 1 + 1) _).mono ?_
      rintro e w6 ⟨rfl, k6'⟩
      have B6 := Lib.hid (BR.out.trans (k4.trans (k5.trans (kept_of k6'))))
      clear k4 k5 k6'
      go_wp2
      go_roundw
      case rel => exact ⟨k + 1, by omega, by go_num, B6.out⟩
      case measure => simp [intOf]; omega
    · have hl : S.N - 1 ≤ (k : Int) := by omega
      clear hmm
      go_wp2_with fail
      refine (link_any S.T S.K S.N (S.N - 1) _).mono ?_
      rintro e w4 ⟨rfl, k4⟩
      go_wp2_with fail
      refine (untagged_any (-1) _ (by omega) (by omega)).mono ?_
      rintro e w5 ⟨rfl, k5⟩
      go_wp2_with fail
      refine (Wo.no_store_nil _ 0 _).mono ?_
      rintro e w6 ⟨rfl, k6'⟩
      have B6 := Lib.hid (BR.out.trans (k4.trans (k5.trans (kept_of k6'))))
      clear k4 k5 k6'
      go_wp2
      go_end0
      exact ⟨rfl, BW.out.trans B6.out⟩
end Go.Proofs.Ytfcompikbeebaaa.Sk
