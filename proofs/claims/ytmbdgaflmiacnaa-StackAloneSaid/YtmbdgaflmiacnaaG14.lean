/- The chapter's examples: a Push, an All, a Pop that finds nothing, what is refused. Written by gen10k.py. -/
import Derived.Test.YtmbdgaflmiacnaaG13
import Derived.Test.YtmbdgaflmiacnaaG11
import Derived.Test.YtmbdgaflmiacnaaG09
import Derived.Deep.RegionHeld3
import Derived.WalkKit
set_option linter.unusedVariables false
set_option linter.unusedSimpArgs false

namespace Go.Proofs.Ytmbdgaflmiacnaa.Sk
set_option maxRecDepth 20000
open Go.RowKit
open Wo (St acc wordAt PMem RefIs)

def y1 : Op := pushOp 4 S3 s3 Op.new
def t1 : St := pushSt 4 S3 0 s3 Op.new
def y2 : Op := pushOp 4 S3 t1 y1
def t2 : St := pushSt 4 S3 0 t1 y1
def y3 : Op := pushOp 4 S3 t2 y2
def t3 : St := pushSt 4 S3 0 t2 y2
def a1 : Op := allOp 4 S3 t3 Op.new
def u1 : St := allSt 4 S3 t3 Op.new
def a2 : Op := allOp 4 S3 u1 a1
def u2 : St := allSt 4 S3 u1 a1
def q1 : Op := popOp 4 S3 u2 Op.new
def v1 : St := popSt 4 S3 u2 Op.new
theorem knows : laidE 0 y1 = 14 ∧ laidE 0 y3 = 0 ∧ tookI S3 a2 = 0 ∧ tookE S3 a2 = 0 ∧ tookI S3 q1 = 0 ∧ tookE S3 q1 = 15 ∧ laidE 3 Op.over = 3 := by decide +kernel
theorem wordsT3 : (List.range 4).map t3.ws = [131073, 2, 3, 0] := by decide +kernel
theorem chainT3 : chn 4 t3.ws S3 = [0, 1, 2] := by decide +kernel
theorem wdT1 : Wd 4 t1 := pushSt_wd wd3 (fun _ => ⟨by decide, by decide⟩)
theorem wdT2 : Wd 4 t2 := pushSt_wd wdT1 (fun _ => ⟨by decide, by decide⟩)
theorem wdT3 : Wd 4 t3 := pushSt_wd wdT2 (fun _ => ⟨by decide, by decide⟩)
theorem wdU1 : Wd 4 u1 := allSt_wd wdT3
theorem wdU2 : Wd 4 u2 := allSt_wd wdU1
theorem invY1 : y1.Good ∧ lines y1 := pushOp_good good_new3 (.inl rfl) wd3
theorem invY2 : y2.Good ∧ lines y2 := pushOp_good invY1.1 invY1.2 wdT1
theorem invA1 : a1.Good ∧ lines a1 ∧ a1.line ≠ 3 ∧ took S3 a1 := allOp_good good_new3 (.inl rfl) (by decide) (fun h => absurd h (by decide)) wdT3
theorem invA2 : a2.Good ∧ lines a2 ∧ a2.line ≠ 3 ∧ took S3 a2 := allOp_good invA1.1 invA1.2.1 invA1.2.2.1 invA1.2.2.2 wdU1
theorem invQ1 : q1.Good ∧ lines q1 ∧ took S3 q1 := popOp_good good_new3 (.inl rfl) (fun h => absurd h (by decide)) wdU2

structure In (w0 : World) (M B : Nat) (s : St) (w : World) : Prop where
  mem : PMem w M B 4 s
  kept : Kept w0 w
  lM : w0.heap.size ≤ M
  lB : w0.heap.size ≤ B
  hM : M < w.heap.size
  hB : B < w.heap.size
theorem In.grow {w0 w w' : World} {M B : Nat} {s : St} (h : In w0 M B s w) (k : Kept w w') : In w0 M B s w' := ⟨pmem_kept h.mem k, h.kept.trans k, h.lM, h.lB, Nat.lt_of_lt_of_le h.hM k.size, Nat.lt_of_lt_of_le h.hB k.size⟩
structure Bk (w0 : World) (M B P : Nat) : Prop where
  l : w0.heap.size ≤ P
  m : P ≠ M
  b : P ≠ B
theorem In.bk {w0 w : World} {M B P : Nat} {s : St} (h : In w0 M B s w) (hP : w.heap.size ≤ P) : Bk w0 M B P :=
  ⟨Nat.le_trans h.kept.size hP, fun e => by have := h.hM; omega, fun e => by have := h.hB; omega⟩
theorem In.step {w0 w w' : World} {M B P : Nat} {s s' : St} (h : In w0 M B s w) (hP : Bk w0 M B P) (m : PMem w' M B 4 s') (g : Chg P 0 8 B w w') : In w0 M B s' w' :=
  ⟨m, ((h.kept.but (fun k => k = P ∨ k = B)).trans g.but (fun _ _ h => h)).kept (fun k hk e => by have := hP.l; have := h.lB; rcases e with e | e <;> omega), h.lM, h.lB, Nat.lt_of_lt_of_le h.hM g.but.size, Nat.lt_of_lt_of_le h.hB g.but.size⟩
def Does (At : World → Prop) (w0 : World) (M B : Nat) (s : St) (b : Bool) (e : Ending) (w' : World) : Prop := e = .returned (.bool b) ∧ At w' ∧ In w0 M B s w'
theorem stepY1 {w0 w : World} {P M B : Nat} (ho : PushAt w P 0 S3 0 0 Op.new) (h : In w0 M B s3 w) (hP : Bk w0 M B P) :
    Calls Try.prog 12 #[.pointer (some ⟨P, 0, none⟩), .pointer (some ⟨M, 0, none⟩)] w (Does (fun w' => PushAt w' P 0 S3 0 0 y1) w0 M B t1 false) := by
  have k := push_step P 0 M B 4 S3 0 0 s3 Op.new w ho h.mem (by decide +kernel) (by decide +kernel) hP.m hP.b good_new3 (.inl rfl) ok3 wd3 (fun _ => ⟨by decide, by decide, rfl⟩)
  rw [show ((pushOp 4 S3 s3 Op.new).line == 9) = false from by decide +kernel] at k
  exact k.mono fun e w' ⟨h1, h2, h3, h4⟩ => ⟨h1, h2, h.step hP h3 h4⟩
theorem stepY2 {w0 w : World} {P M B : Nat} (ho : PushAt w P 0 S3 0 0 y1) (h : In w0 M B t1 w) (hP : Bk w0 M B P) :
    Calls Try.prog 12 #[.pointer (some ⟨P, 0, none⟩), .pointer (some ⟨M, 0, none⟩)] w (Does (fun w' => PushAt w' P 0 S3 0 0 y2) w0 M B t2 false) := by
  have k := push_step P 0 M B 4 S3 0 0 t1 y1 w ho h.mem (by decide +kernel) (by decide +kernel) hP.m hP.b invY1.1 invY1.2 ok3 wdT1 (fun _ => ⟨by decide, by decide, rfl⟩)
  rw [show ((pushOp 4 S3 t1 y1).line == 9) = false from by decide +kernel] at k
  exact k.mono fun e w' ⟨h1, h2, h3, h4⟩ => ⟨h1, h2, h.step hP h3 h4⟩
theorem stepY3 {w0 w : World} {P M B : Nat} (ho : PushAt w P 0 S3 0 0 y2) (h : In w0 M B t2 w) (hP : Bk w0 M B P) :
    Calls Try.prog 12 #[.pointer (some ⟨P, 0, none⟩), .pointer (some ⟨M, 0, none⟩)] w (Does (fun w' => PushAt w' P 0 S3 0 0 y3) w0 M B t3 true) := by
  have k := push_step P 0 M B 4 S3 0 0 t2 y2 w ho h.mem (by decide +kernel) (by decide +kernel) hP.m hP.b invY2.1 invY2.2 ok3 wdT2 (fun _ => ⟨by decide, by decide, rfl⟩)
  rw [show ((pushOp 4 S3 t2 y2).line == 9) = true from by decide +kernel] at k
  exact k.mono fun e w' ⟨h1, h2, h3, h4⟩ => ⟨h1, h2, h.step hP h3 h4⟩
theorem stepA1 {w0 w : World} {P M B : Nat} (ho : AllAt w P 0 S3 Op.new) (h : In w0 M B t3 w) (hP : Bk w0 M B P) :
    Calls Try.prog 13 #[.pointer (some ⟨P, 0, none⟩), .pointer (some ⟨M, 0, none⟩)] w (Does (fun w' => AllAt w' P 0 S3 a1) w0 M B u1 false) := by
  have k := all_step P 0 M B 4 S3 t3 Op.new w ho h.mem (by decide +kernel) (by decide +kernel) hP.m hP.b good_new3 (.inl rfl) (by decide) (fun h => absurd h (by decide)) ok3 wdT3
  rw [show ((allOp 4 S3 t3 Op.new).line == 9) = false from by decide +kernel] at k
  exact k.mono fun e w' ⟨h1, h2, h3, h4⟩ => ⟨h1, h2, h.step hP h3 h4⟩
theorem stepA2 {w0 w : World} {P M B : Nat} (ho : AllAt w P 0 S3 a1) (h : In w0 M B u1 w) (hP : Bk w0 M B P) :
    Calls Try.prog 13 #[.pointer (some ⟨P, 0, none⟩), .pointer (some ⟨M, 0, none⟩)] w (Does (fun w' => AllAt w' P 0 S3 a2) w0 M B u2 true) := by
  have k := all_step P 0 M B 4 S3 u1 a1 w ho h.mem (by decide +kernel) (by decide +kernel) hP.m hP.b invA1.1 invA1.2.1 invA1.2.2.1 invA1.2.2.2 ok3 wdU1
  rw [show ((allOp 4 S3 u1 a1).line == 9) = true from by decide +kernel] at k
  exact k.mono fun e w' ⟨h1, h2, h3, h4⟩ => ⟨h1, h2, h.step hP h3 h4⟩
theorem stepQ {w0 w : World} {P M B : Nat} (ho : PopAt w P 0 S3 Op.new) (h : In w0 M B u2 w) (hP : Bk w0 M B P) :
    Calls Try.prog 11 #[.pointer (some ⟨P, 0, none⟩), .pointer (some ⟨M, 0, none⟩)] w (Does (fun w' => PopAt w' P 0 S3 q1) w0 M B v1 true) := by
  have k := pop_step P 0 M B 4 S3 u2 Op.new w ho h.mem (by decide +kernel) (by decide +kernel) hP.m hP.b good_new3 (.inl rfl) (fun h => absurd h (by decide)) ok3 wdU2
  rw [show ((popOp 4 S3 u2 Op.new).line == 9) = true from by decide +kernel] at k
  exact k.mono fun e w' ⟨h1, h2, h3, h4⟩ => ⟨h1, h2, h.step hP h3 h4⟩
theorem toldY1 {w : World} {P : Nat} (ho : PushAt w P 0 S3 0 0 y1) : Calls Try.prog 14 #[.pointer (some ⟨P, 0, none⟩)] w fun e w' => e = .returned (.int .i64 14) ∧ w = w' := by
  have h := push_told P 0 S3 0 0 y1 w ho
  rw [knows.1] at h
  exact h
theorem toldY3 {w : World} {P : Nat} (ho : PushAt w P 0 S3 0 0 y3) : Calls Try.prog 14 #[.pointer (some ⟨P, 0, none⟩)] w fun e w' => e = .returned (.int .i64 0) ∧ w = w' := by
  have h := push_told P 0 S3 0 0 y3 w ho
  rw [knows.2.1] at h
  exact h
theorem toldO {w : World} {P : Nat} (ho : PushAt w P 0 S3 3 3 Op.over) : Calls Try.prog 14 #[.pointer (some ⟨P, 0, none⟩)] w fun e w' => e = .returned (.int .i64 3) ∧ w = w' := by
  have h := push_told P 0 S3 3 3 Op.over w ho
  rw [knows.2.2.2.2.2.2] at h
  exact h
theorem toldA {w : World} {P : Nat} (ho : AllAt w P 0 S3 a2) : Calls Try.prog 10 #[.pointer (some ⟨P, 0, none⟩)] w fun e w' => e = .returned (.tuple #[.int .i64 0, .int .i64 0]) ∧ Kept w w' := by
  have h := all_told P 0 S3 a2 w ho invA2.1
  rw [knows.2.2.1, knows.2.2.2.1] at h
  exact h
theorem toldQ {w : World} {P : Nat} (ho : PopAt w P 0 S3 q1) : Calls Try.prog 9 #[.pointer (some ⟨P, 0, none⟩)] w fun e w' => e = .returned (.tuple #[.int .i64 0, .int .i64 15]) ∧ Kept w w' := by
  have h := pop_told P 0 S3 q1 w ho invQ1.1
  rw [knows.2.2.2.2.1, knows.2.2.2.2.2.1] at h
  exact h
theorem chainT {w : World} {M B : Nat} (hm : PMem w M B 4 t3) : Calls Try.prog 19 #[.agg #[.int .i64 S3.T, .int .i64 S3.K, .int .i64 S3.N], .pointer (some ⟨M, 0, none⟩)] w (Told3 w) := by
  refine (p_chain S3 hm wdT3 ok3).mono ?_
  rw [chainT3]
  rintro e w' ⟨a, c, rfl, k, h⟩
  exact ⟨a, c, rfl, k, reads_own h⟩
theorem newO (w : World) : Calls Try.prog 15 #[.agg #[.int .i64 0, .int .i64 1, .int .i64 3], .int .i64 3] w (Made (fun w P => PushAt w P 0 S3 3 3 Op.over) w) := newPush_out S3 3 (.inr (by decide)) w
theorem fitsA (w : World) : Calls Try.prog 26 #[.agg #[.int .i64 2, .int .i64 1, .int .i64 3], .int .i64 9] w fun e w' => e = .returned (.int .i64 2) ∧ Kept w w' := pfits_any ⟨2, 1, 3⟩ 9 w
theorem fitsB (w : World) : Calls Try.prog 26 #[.agg #[.int .i64 0, .int .i64 1, .int .i64 0], .int .i64 9] w fun e w' => e = .returned (.int .i64 2) ∧ Kept w w' := pfits_any ⟨0, 1, 0⟩ 9 w
theorem fitsC (w : World) : Calls Try.prog 26 #[.agg #[.int .i64 0, .int .i64 1, .int .i64 3], .int .i64 0] w fun e w' => e = .returned (.int .i64 3) ∧ Kept w w' := pfits_any ⟨0, 1, 3⟩ 0 w

set_option maxHeartbeats 8000000 in
theorem known_any (w : World) : Calls Try.prog 4 #[] w fun e w' => e = .returned (.bool true) ∧ Kept w w' := by
  go_enter Try.func4, Try.ntmps4
  go_wp2_with fail
  refine (popped_any _).mono ?_
  rintro e w1 ⟨M, B, rfl, m1, k1, lM, lB⟩
  have I1 : Hid (In w M B s3 w1) := Lib.hid ⟨m1, k1, lM, lB, pmem_lt m1 |>.1, pmem_lt m1 |>.2⟩
  clear m1 k1 lM lB
  go_wp2_with fail
  refine (three_any _).mono ?_
  rintro e w2 ⟨rfl, k2⟩
  have I2 := Lib.hid (I1.out.grow k2)
  clear k2
  go_wp2_with fail
  refine (newPush_in S3 0 (by decide) (by decide) (by decide) _).mono ?_
  rintro e w3 ⟨P, rfl, lP, gP, oP, k3⟩
  have bP := I2.out.bk lP
  have I3 := Lib.hid (I2.out.grow k3)
  have OP3 := Lib.hid oP
  clear k3 oP lP gP
  go_wp2_with fail
  refine (stepY1 OP3.out I3.out bP).mono ?_
  rintro e w4 ⟨rfl, o4, i4⟩
  have I4 := Lib.hid i4
  have OP4 := Lib.hid o4
  clear o4 i4
  go_wp2_with fail
  refine (toldY1 OP4.out).mono ?_
  rintro e _ ⟨rfl, rfl⟩
  go_wp2_with fail
  refine (stepY2 OP4.out I4.out bP).mono ?_
  rintro e w5 ⟨rfl, o5, i5⟩
  have I5 := Lib.hid i5
  have OP5 := Lib.hid o5
  clear o5 i5
  go_wp2_with fail
  refine (stepY3 OP5.out I5.out bP).mono ?_
  rintro e w6 ⟨rfl, o6, i6⟩
  have I6 := Lib.hid i6
  have OP6 := Lib.hid o6
  clear o6 i6
  go_wp2_with fail
  refine (toldY3 OP6.out).mono ?_
  rintro e _ ⟨rfl, rfl⟩
  go_wp2_with fail
  refine (three_any _).mono ?_
  rintro e w7 ⟨rfl, k7⟩
  have I7 := Lib.hid (I6.out.grow k7)
  clear k7
  go_wp2_with fail
  refine (chainT I7.out.mem).mono ?_
  rintro e w8 ⟨a8, c8, rfl, k8, r8⟩
  have I8 := Lib.hid (I7.out.grow k8)
  have R8 := Lib.hid r8
  clear k8 r8
  go_wp2_with fail
  refine (sameInts_yes _ _ 3 _ _ f3 _ (by decide) (R8.out.kept ((Kept.refl _).alloc _ _)) (ints3 rfl)).mono ?_
  rintro e w9 ⟨rfl, k9⟩
  have I9 := Lib.hid (I8.out.grow (((Kept.refl _).alloc _ _).trans k9))
  clear k9
  go_wp2_with fail
  refine (p_words _ _ 4 t3 _ I9.out.mem).mono ?_
  rintro e w10 ⟨b, c, rfl, hb1, hb2, hw, hf, k10⟩
  have I10 := Lib.hid (I9.out.grow k10)
  have HW := Lib.hid hw
  clear k10 hw hf hb1 hb2
  go_wp2_with fail
  refine (sameWords (f := t3.ws) (by decide) (fun i hi => ?_) (fun i hi => cells4 wordsT3 rfl i hi)).mono ?_
  · rw [Nat.zero_add]; exact ((Kept.refl _).alloc _ _).some (HW.out i hi)
  rintro e w11 ⟨rfl, k11⟩
  clear HW
  have I11 := Lib.hid (I10.out.grow (((Kept.refl _).alloc _ _).trans k11))
  clear k11
  go_wp2_with fail
  refine (three_any _).mono ?_
  rintro e w12 ⟨rfl, k12⟩
  have I12 := Lib.hid (I11.out.grow k12)
  clear k12
  go_wp2_with fail
  refine (newAll_any S3 _).mono ?_
  rintro e w13 ⟨A, rfl, lA, gA, oA, k13⟩
  have bA := I12.out.bk lA
  have I13 := Lib.hid (I12.out.grow k13)
  have OA13 := Lib.hid oA
  clear k13 oA lA gA
  go_wp2_with fail
  refine (stepA1 OA13.out I13.out bA).mono ?_
  rintro e w14 ⟨rfl, o14, i14⟩
  have I14 := Lib.hid i14
  have OA14 := Lib.hid o14
  clear o14 i14
  go_wp2_with fail
  refine (stepA2 OA14.out I14.out bA).mono ?_
  rintro e w15 ⟨rfl, o15, i15⟩
  have I15 := Lib.hid i15
  have OA15 := Lib.hid o15
  clear o15 i15
  go_wp2_with fail
  refine (toldA OA15.out).mono ?_
  rintro e w16 ⟨rfl, k16⟩
  have I16 := Lib.hid (I15.out.grow k16)
  have OA16 : Hid (AllAt w16 A 0 S3 a2) := Lib.hid (OpAt.frame OA15.out ((k16).but (fun _ => False)) id)
  clear k16
  go_wp2_with fail
  refine (three_any _).mono ?_
  rintro e w17 ⟨rfl, k17⟩
  have I17 := Lib.hid (I16.out.grow k17)
  clear k17
  go_wp2_with fail
  refine (newPop_any S3 _).mono ?_
  rintro e w18 ⟨Q, rfl, lQ, gQ, oQ, k18⟩
  have bQ := I17.out.bk lQ
  have I18 := Lib.hid (I17.out.grow k18)
  have OQ18 := Lib.hid oQ
  clear k18 oQ lQ gQ
  go_wp2_with fail
  refine (stepQ OQ18.out I18.out bQ).mono ?_
  rintro e w19 ⟨rfl, o19, i19⟩
  have I19 := Lib.hid i19
  have OQ19 := Lib.hid o19
  clear o19 i19
  go_wp2_with fail
  refine (toldQ OQ19.out).mono ?_
  rintro e w20 ⟨rfl, k20⟩
  have I20 := Lib.hid (I19.out.grow k20)
  have OQ20 : Hid (PopAt w20 Q 0 S3 q1) := Lib.hid (OpAt.frame OQ19.out ((k20).but (fun _ => False)) id)
  clear k20
  go_wp2_with fail
  refine (newO _).mono ?_
  rintro e w21 ⟨Z, rfl, lZ, gZ, oZ, k21⟩
  have bZ := I20.out.bk lZ
  have I21 := Lib.hid (I20.out.grow k21)
  have OZ21 := Lib.hid oZ
  clear k21 oZ lZ gZ
  go_wp2_with fail
  refine (toldO OZ21.out).mono ?_
  rintro e _ ⟨rfl, rfl⟩
  go_wp2_with fail
  refine (fitsA _).mono ?_
  rintro e w22 ⟨rfl, k22⟩
  have I22 := Lib.hid (I21.out.grow k22)
  clear k22
  go_wp2_with fail
  refine (fitsB _).mono ?_
  rintro e w23 ⟨rfl, k23⟩
  have I23 := Lib.hid (I22.out.grow k23)
  clear k23
  go_wp2_with fail
  refine (fitsC _).mono ?_
  rintro e w24 ⟨rfl, k24⟩
  have I24 := Lib.hid (I23.out.grow k24)
  clear k24
  go_wp2_with fail
  refine (awake_any _).mono ?_
  rintro e w25 ⟨rfl, k25⟩
  have I25 := Lib.hid (I24.out.grow k25)
  clear k25
  go_wp2
  go_ret
  exact ⟨rfl, I25.out.kept⟩
end Go.Proofs.Ytmbdgaflmiacnaa.Sk

namespace Go.Proofs.Ytmbdgaflmiacnaa.Sk
set_option maxRecDepth 20000
open Go.RowKit
open Wo (St acc wordAt PMem RefIs)

theorem pastc {w : World} {b o : Nat} {v : Value} (h : w.cell? ⟨b, o, none⟩ = some v) (c : Array Value) (t : TypeId) : (w.alloc (.cells c t)).cell? ⟨b, o, none⟩ = some v := ((Kept.refl w).alloc c t).some h
def Kd.p0 (k : Kd) (P : Nat) : Value := match k with
  | .pop _ => .pointer (some ⟨P, 0, none⟩)
  | _ => .pointer none
def Kd.p1 (k : Kd) (P : Nat) : Value := match k with
  | .push _ => .pointer (some ⟨P, 0, none⟩)
  | _ => .pointer none
def Kd.p2 (k : Kd) (P : Nat) : Value := match k with
  | .all _ => .pointer (some ⟨P, 0, none⟩)
  | _ => .pointer none
def Kd.At (k : Kd) (S : Stk) (lays : Int) (w : World) (P : Nat) : Prop := match k with
  | .idle => True
  | .pop x => PopAt w P 0 S x
  | .push x => PushAt w P 0 S lays 0 x
  | .all x => AllAt w P 0 S x
def Kd.busy (k : Kd) : Bool := match k with
  | .idle => false
  | _ => true
structure Cells5 (w : World) (R o : Nat) (v0 v1 v2 v3 : Value) (lays : Int) : Prop where
  c0 : w.cell? ⟨R, o, none⟩ = some v0
  c1 : w.cell? ⟨R, o + 1, none⟩ = some v1
  c2 : w.cell? ⟨R, o + 2, none⟩ = some v2
  c3 : w.cell? ⟨R, o + 3, none⟩ = some v3
  c4 : w.cell? ⟨R, o + 4, none⟩ = some (.int .i64 lays)
theorem Cells5.frame {w w' : World} {R o : Nat} {v0 v1 v2 v3 : Value} {lays : Int} (h : Cells5 w R o v0 v1 v2 v3 lays) {T : Nat → Prop} (hb : But T w w') (hR : ¬ T R) : Cells5 w' R o v0 v1 v2 v3 lays :=
  ⟨hb.some h.c0 hR, hb.some h.c1 hR, hb.some h.c2 hR, hb.some h.c3 hR, hb.some h.c4 hR⟩
def Rest (R c : Nat) (w w' : World) : Prop := ∀ i, (i < 5 * c ∨ 5 * c + 5 ≤ i) → w'.cell? ⟨R, i, none⟩ = w.cell? ⟨R, i, none⟩
theorem Rest.refl (R c : Nat) (w : World) : Rest R c w w := fun _ _ => rfl
theorem Rest.set {R c : Nat} {w w' : World} (h : Rest R c w w') {o : Nat} (h0 : 5 * c ≤ o) (h1 : o < 5 * c + 5) (v : Value) : Rest R c w (w'.setCell ⟨R, o, none⟩ v) := fun i hi => by
  rw [cell_set, if_neg (by omega)]
  exact h i hi
theorem Rest.but {R c : Nat} {w w' w'' : World} (h : Rest R c w w') {T : Nat → Prop} (k : But T w' w'') (hT : ¬ T R) (hl : R < w'.heap.size) : Rest R c w w'' := fun i hi => (k.cell R i hl hT).trans (h i hi)
theorem Rest.kept {R c : Nat} {w w' w'' : World} (h : Rest R c w w') (k : Kept w' w'') (hl : R < w'.heap.size) : Rest R c w w'' := fun i hi => (k.cell R i hl).trans (h i hi)
structure CoreAt (own : Nat → Nat) (c : Nat) (w : World) (R : Nat) (S : Stk) (cr : Cr) (P : Nat) (a : Option Addr) (cap : Nat) : Prop where
  five : Cells5 w R (5 * c) (cr.k.p0 P) (cr.k.p1 P) (cr.k.p2 P) (.slice a cr.has.length cap) cr.lays
  op : cr.k.At S cr.lays w P
  oP : cr.k.busy = true → own P = 10 + c ∧ P < w.heap.size
  row : w.ownsRow 0 3 1 (.slice a cr.has.length cap) cr.has.length (ints cr.has)
  oR : ∀ g, (Value.slice a cr.has.length cap).ownBlock = some g → own g = 20 + c
theorem Kd.At.frame {k : Kd} {S : Stk} {lays : Int} {w w' : World} {P : Nat} (h : k.At S lays w P) {T : Nat → Prop} (hb : But T w w') (hP : k.busy = true → ¬ T P) : k.At S lays w' P := by
  cases k with
  | idle => trivial
  | pop x => exact OpAt.frame h hb (hP rfl)
  | push x => exact PushAt.frame h hb (hP rfl)
  | all x => exact OpAt.frame h hb (hP rfl)
theorem own_lt {w : World} {e : TypeId} {n size : Nat} {v : Value} {xs : List Value} (h : w.ownsRow 0 e size v n xs) (g : Nat) (hg : v.ownBlock = some g) : g < w.heap.size := by
  rcases h.2 with ⟨rfl, _⟩ | ⟨g', cap, cur, rfl, _, hh, _⟩
  · cases hg
  · have e' : g' = g := by simpa [Value.ownBlock] using hg
    subst e'
    exact (Array.getElem?_eq_some_iff.1 hh).1
theorem CoreAt.frame {own : Nat → Nat} {c : Nat} {w w' : World} {R : Nat} {S : Stk} {cr : Cr} {P : Nat} {a : Option Addr} {cap : Nat} (h : CoreAt own c w R S cr P a cap) {T : Nat → Prop} (hb : But T w w')
    (h5 : Cells5 w' R (5 * c) (cr.k.p0 P) (cr.k.p1 P) (cr.k.p2 P) (.slice a cr.has.length cap) cr.lays) (hT : ∀ k, T k → own k ≠ 10 + c ∧ own k ≠ 20 + c) {own' : Nat → Nat} (ho : ∀ k, k < w.heap.size → own' k = own k) : CoreAt own' c w' R S cr P a cap := by
  refine ⟨h5, h.op.frame hb (fun hk ht => (hT _ ht).1 (h.oP hk).1), fun hk => ?_, own_same h.row (fun g hg => hb.block g (own_lt h.row g hg) (fun ht => (hT _ ht).2 (h.oR g hg))), fun g hg => ?_⟩
  · have := h.oP hk
    exact ⟨(ho _ this.2).trans this.1, Nat.lt_of_lt_of_le this.2 hb.size⟩
  · rw [ho _ (own_lt h.row g hg)]; exact h.oR g hg
theorem own_prefix {w : World} {a : Option Addr} {n cap : Nat} {xs : List Int} {x : Int} {e : TypeId} (h : w.ownsRow 0 e 1 (.slice a (n + 1) cap) (n + 1) (ints (xs ++ [x]))) (hn : xs.length = n) : w.ownsRow 0 e 1 (.slice a n cap) n (ints xs) := by
  refine ⟨by simp [ints, hn], ?_⟩
  rcases h.2 with ⟨_, h0⟩ | ⟨g, cap', cur, hv, hb, hg, h1, h2, h3, h4⟩
  · exact absurd h0 (Nat.succ_ne_zero _)
  · cases hv
    refine .inr ⟨g, cap, cur, rfl, hb, hg, by omega, h2, h3, ?_⟩
    have : cur.toList.take (n * 1) = (cur.toList.take ((n + 1) * 1)).take (n * 1) := by rw [List.take_take]; congr 1; omega
    rw [this, h4, ints_append]
    have hl : (ints xs).length = n * 1 := by simp [ints, hn]
    rw [← hl, List.take_left']
    rfl

set_option maxHeartbeats 1000000 in
theorem busy_idle (P R o : Nat) (w : World) (c0 : w.cell? ⟨R, o, none⟩ = some (.pointer none)) (c1 : w.cell? ⟨R, o + 1, none⟩ = some (.pointer none)) (c2 : w.cell? ⟨R, o + 2, none⟩ = some (.pointer none)) :
    Calls Try.prog 28 #[.pointer (some ⟨R, o, none⟩)] w fun e w' => e = .returned (.bool false) ∧ w = w' := by
  go_enter Try.func28, Try.ntmps28
  go_wp2
  go_ret
  exact ⟨rfl, rfl⟩
set_option maxHeartbeats 1000000 in
theorem busy_pop (P R o : Nat) (w : World) (c0 : w.cell? ⟨R, o, none⟩ = some (.pointer (some ⟨P, 0, none⟩))) (c1 : w.cell? ⟨R, o + 1, none⟩ = some (.pointer none)) (c2 : w.cell? ⟨R, o + 2, none⟩ = some (.pointer none)) :
    Calls Try.prog 28 #[.pointer (some ⟨R, o, none⟩)] w fun e w' => e = .returned (.bool true) ∧ w = w' := by
  go_enter Try.func28, Try.ntmps28
  go_wp2
  go_ret
  exact ⟨rfl, rfl⟩
set_option maxHeartbeats 1000000 in
theorem busy_push (P R o : Nat) (w : World) (c0 : w.cell? ⟨R, o, none⟩ = some (.pointer none)) (c1 : w.cell? ⟨R, o + 1, none⟩ = some (.pointer (some ⟨P, 0, none⟩))) (c2 : w.cell? ⟨R, o + 2, none⟩ = some (.pointer none)) :
    Calls Try.prog 28 #[.pointer (some ⟨R, o, none⟩)] w fun e w' => e = .returned (.bool true) ∧ w = w' := by
  go_enter Try.func28, Try.ntmps28
  go_wp2
  go_ret
  exact ⟨rfl, rfl⟩
set_option maxHeartbeats 1000000 in
theorem busy_all (P R o : Nat) (w : World) (c0 : w.cell? ⟨R, o, none⟩ = some (.pointer none)) (c1 : w.cell? ⟨R, o + 1, none⟩ = some (.pointer none)) (c2 : w.cell? ⟨R, o + 2, none⟩ = some (.pointer (some ⟨P, 0, none⟩))) :
    Calls Try.prog 28 #[.pointer (some ⟨R, o, none⟩)] w fun e w' => e = .returned (.bool true) ∧ w = w' := by
  go_enter Try.func28, Try.ntmps28
  go_wp2
  go_ret
  exact ⟨rfl, rfl⟩
theorem busy_any {own : Nat → Nat} {c : Nat} {w : World} {R : Nat} {S : Stk} {cr : Cr} {P : Nat} {a : Option Addr} {cap : Nat} (h : CoreAt own c w R S cr P a cap) :
    Calls Try.prog 28 #[.pointer (some ⟨R, 5 * c, none⟩)] w fun e w' => e = .returned (.bool cr.k.busy) ∧ w = w' := by
  obtain ⟨k, has, lays⟩ := cr
  obtain ⟨⟨c0, c1, c2, _, _⟩, _⟩ := h
  cases k with
  | idle => exact busy_idle P R (5 * c) w c0 c1 c2
  | pop x => exact busy_pop P R (5 * c) w c0 c1 c2
  | push x => exact busy_push P R (5 * c) w c0 c1 c2
  | all x => exact busy_all P R (5 * c) w c0 c1 c2
end Go.Proofs.Ytmbdgaflmiacnaa.Sk

namespace Go.Proofs.Ytmbdgaflmiacnaa.Sk
open Go.RowKit
theorem three {a b c : Bool} (h : (a && b && c) = true) : a = true ∧ b = true ∧ c = true := by
  cases a <;> cases b <;> cases c <;> simp_all
section
variable {P : Program} {ops : Array Oper} {Q : Exit → Act → World → Prop} {md : Region.Mode} {S : World → Prop}
theorem take_on {i : Nat} {oi : Oper} {v : Value} {fuel : Nat} {listed : Array Bool} {a : Act} {w : World} (hi : ops[i]? = some oi)
    (h3 : (Region.noSelect ops && Region.free md ops listed i && (Region.ready md ops listed).contains i) = true)
    (hw : Region.wanted oi (yielded ops a.tmps) = true) (hv : ∀ w, S w → (execOp a.eval oi).run P w = .ok (.value v) w)
    (hQ : ∀ c a w, Q (.panic c) (a.put oi.dst v) w → Q (.panic c) a w) (hS : S w)
    (h : wpAnyH P md ops Q S fuel (listed.setIfInBounds i true) (a.put oi.dst v) w) : wpAnyH P md ops Q S (fuel + 1) listed a w :=
  wpAnyH_take hi (three h3).1 (three h3).2.1 (three h3).2.2 hQ (Or.inl ⟨hw, hv⟩) hS h
theorem take_off {i : Nat} {oi : Oper} {fuel : Nat} {listed : Array Bool} {a : Act} {w : World} (hi : ops[i]? = some oi)
    (h3 : (Region.noSelect ops && Region.free md ops listed i && (Region.ready md ops listed).contains i) = true)
    (hw : Region.wanted oi (yielded ops a.tmps) = false)
    (hQ : ∀ c a w, Q (.panic c) (a.put oi.dst undef) w → Q (.panic c) a w) (hS : S w)
    (h : wpAnyH P md ops Q S fuel (listed.setIfInBounds i true) (a.put oi.dst undef) w) : wpAnyH P md ops Q S (fuel + 1) listed a w :=
  wpAnyH_take hi (three h3).1 (three h3).2.1 (three h3).2.2 hQ (Or.inr ⟨hw, rfl⟩) hS h
theorem held_mono {S' : World → Prop} (hS : ∀ w, S' w → S w) : ∀ (fuel : Nat) (listed : Array Bool) (a : Act) (w : World), wpAnyH P md ops Q S' fuel listed a w → wpAnyH P md ops Q S fuel listed a w
  | 0, _, _, _, h => h
  | fuel + 1, _, _, _, h => ⟨h.1, fun i hi => wpOp_mono (fun _ _ h' => ⟨hS _ h'.1, held_mono hS fuel _ _ _ h'.2⟩) (h.2 i hi)⟩
end
end Go.Proofs.Ytmbdgaflmiacnaa.Sk

namespace Go.Proofs.Ytmbdgaflmiacnaa.Sk
set_option maxRecDepth 20000
open Go.RowKit
open Wo (St acc wordAt PMem RefIs)

def ownN (own : Nat → Nat) (w : World) (o : Nat) : Nat → Nat := fun k => if k < w.heap.size then own k else o
theorem ownN_old {own : Nat → Nat} {w : World} {o k : Nat} (h : k < w.heap.size) : ownN own w o k = own k := if_pos h
theorem ownN_new {own : Nat → Nat} {w : World} {o k : Nat} (h : w.heap.size ≤ k) : ownN own w o k = o := if_neg (by omega)
def Begun (own : Nat → Nat) (c : Nat) (w : World) (R : Nat) (S : Stk) (cr : Cr) (a : Option Addr) (cap : Nat) (e : Ending) (w' : World) : Prop :=
  ∃ P, e = .returned (.tuple #[]) ∧ CoreAt (ownN own w (10 + c)) c w' R S cr P a cap ∧ But (fun k => k = R) w w' ∧ Rest R c w w'
theorem begun_mk {own : Nat → Nat} {c : Nat} {w w' : World} {R : Nat} {S : Stk} {cr : Cr} {P : Nat} {a : Option Addr} {cap : Nat} (hb : But (fun k => k = R) w w')
    (five : Cells5 w' R (5 * c) (cr.k.p0 P) (cr.k.p1 P) (cr.k.p2 P) (.slice a cr.has.length cap) cr.lays) (op : cr.k.At S cr.lays w' P) (hP : w.heap.size ≤ P) (hP2 : P < w'.heap.size)
    (hrow : w.ownsRow 0 3 1 (.slice a cr.has.length cap) cr.has.length (ints cr.has)) (hown : ∀ g, (Value.slice a cr.has.length cap).ownBlock = some g → own g = 20 + c) (hR : own R = 1) : CoreAt (ownN own w (10 + c)) c w' R S cr P a cap :=
  ⟨five, op, fun _ => ⟨ownN_new hP, hP2⟩, own_same hrow (fun g hg => hb.block g (own_lt hrow g hg) (fun e => by have := hown g hg; have e : g = R := e; subst e; omega)), fun g hg => (ownN_old (own_lt hrow g hg)).trans (hown g hg)⟩

set_option maxHeartbeats 4000000 in
theorem begins_pop {own : Nat → Nat} {c : Nat} {w : World} {R : Nat} {S : Stk} {has : List Int} {lays n : Int} {P : Nat} {a : Option Addr} {cap : Nat} (h : CoreAt own c w R S ⟨.idle, has, lays⟩ P a cap) (hf : ∀ i, w.frozen? ⟨R, i, none⟩ = false) (hR : own R = 1)
    (n0 : 0 ≤ n) (n1 : n < 300) (hA : ¬ (n % 3 = 1 ∧ 0 < has.length)) (hB : ¬ n % 5 = 4) :
    Calls Try.prog 29 #[.pointer (some ⟨R, 5 * c, none⟩), .agg #[.int .i64 S.T, .int .i64 S.K, .int .i64 S.N], .int .i64 n] w (Begun own c w R S ⟨.pop Op.new, has, lays⟩ a cap) := by
  obtain ⟨⟨c0, c1, c2, c3, c4⟩, _, _, hrow, hown⟩ := h
  have hlt := lt_of_cell c0
  have t3 : Int.tmod n 3 = n % 3 := Int.tmod_eq_emod_of_nonneg n0
  have t5 : Int.tmod n 5 = n % 5 := Int.tmod_eq_emod_of_nonneg n0
  go_enter Try.func29, Try.ntmps29
  go_wp2_with fail
  all_goals
    refine (newPop_any S _).mono ?_
    rintro e w2 ⟨P', rfl, lP, gP, o2, k2⟩
    have d0 : w2.cell? ⟨R, 5 * c, none⟩ = some (.pointer none) := k2.some (pastc c0 _ _)
    have d1 : w2.cell? ⟨R, 5 * c + 1, none⟩ = some (.pointer none) := k2.some (pastc c1 _ _)
    have d2 : w2.cell? ⟨R, 5 * c + 2, none⟩ = some (.pointer none) := k2.some (pastc c2 _ _)
    have d3 := k2.some (pastc c3 _ _)
    have d4 := k2.some (pastc c4 _ _)
    have df : ∀ i, w2.frozen? ⟨R, i, none⟩ = false := fun i => (Kept.trans ((Kept.refl _).alloc _ _) k2).soft hlt (hf i)
    have K2 : Hid (Kept w w2) := Lib.hid (Kept.trans ((Kept.refl _).alloc _ _) k2)
    have O2 := Lib.hid o2
    have hw : w.heap.size ≤ P' := by have := ((Kept.refl w).alloc #[.int .i64 S.T, .int .i64 S.K, .int .i64 S.N] 23).size; omega
    have HR := Lib.hid hrow
    clear k2 o2 c0 c1 c2 c3 c4 hf hrow
    go_wp2
    go_end0
    refine ⟨P', rfl, begun_mk ?_ ?_ ?_ hw ?_ HR.out hown hR, ?_, ((Rest.refl R c w).kept K2.out hlt).set (by omega) (by omega) _⟩
    · exact (K2.out.but _).here _ _
    · refine ⟨?_, ?_, ?_, ?_, ?_⟩ <;> simp [cell_set, *, Kd.p0, Kd.p1, Kd.p2]
    · exact Kd.At.frame (k := .pop Op.new) (w := w2) O2.out ((But.refl (fun k => k = R) w2).here _ _) (fun _ e => by have e : P' = R := e; omega)
    · simpa using gP
    · exact (K2.out.but _).here _ _
set_option maxHeartbeats 4000000 in
theorem begins_all {own : Nat → Nat} {c : Nat} {w : World} {R : Nat} {S : Stk} {has : List Int} {lays n : Int} {P : Nat} {a : Option Addr} {cap : Nat} (h : CoreAt own c w R S ⟨.idle, has, lays⟩ P a cap) (hf : ∀ i, w.frozen? ⟨R, i, none⟩ = false) (hR : own R = 1)
    (n0 : 0 ≤ n) (n1 : n < 300) (hA : ¬ (n % 3 = 1 ∧ 0 < has.length)) (hB : n % 5 = 4) :
    Calls Try.prog 29 #[.pointer (some ⟨R, 5 * c, none⟩), .agg #[.int .i64 S.T, .int .i64 S.K, .int .i64 S.N], .int .i64 n] w (Begun own c w R S ⟨.all Op.new, has, lays⟩ a cap) := by
  obtain ⟨⟨c0, c1, c2, c3, c4⟩, _, _, hrow, hown⟩ := h
  have hlt := lt_of_cell c0
  have t3 : Int.tmod n 3 = n % 3 := Int.tmod_eq_emod_of_nonneg n0
  have t5 : Int.tmod n 5 = n % 5 := Int.tmod_eq_emod_of_nonneg n0
  go_enter Try.func29, Try.ntmps29
  go_wp2_with fail
  all_goals
    refine (newAll_any S _).mono ?_
    rintro e w2 ⟨P', rfl, lP, gP, o2, k2⟩
    have d0 : w2.cell? ⟨R, 5 * c, none⟩ = some (.pointer none) := k2.some (pastc c0 _ _)
    have d1 : w2.cell? ⟨R, 5 * c + 1, none⟩ = some (.pointer none) := k2.some (pastc c1 _ _)
    have d2 : w2.cell? ⟨R, 5 * c + 2, none⟩ = some (.pointer none) := k2.some (pastc c2 _ _)
    have d3 := k2.some (pastc c3 _ _)
    have d4 := k2.some (pastc c4 _ _)
    have df : ∀ i, w2.frozen? ⟨R, i, none⟩ = false := fun i => (Kept.trans ((Kept.refl _).alloc _ _) k2).soft hlt (hf i)
    have K2 : Hid (Kept w w2) := Lib.hid (Kept.trans ((Kept.refl _).alloc _ _) k2)
    have O2 := Lib.hid o2
    have hw : w.heap.size ≤ P' := by have := ((Kept.refl w).alloc #[.int .i64 S.T, .int .i64 S.K, .int .i64 S.N] 23).size; omega
    have HR := Lib.hid hrow
    clear k2 o2 c0 c1 c2 c3 c4 hf hrow
    go_wp2
    go_end0
    refine ⟨P', rfl, begun_mk ?_ ?_ ?_ hw ?_ HR.out hown hR, ?_, ((Rest.refl R c w).kept K2.out hlt).set (by omega) (by omega) _⟩
    · exact (K2.out.but _).here _ _
    · refine ⟨?_, ?_, ?_, ?_, ?_⟩ <;> simp [cell_set, *, Kd.p0, Kd.p1, Kd.p2]
    · exact Kd.At.frame (k := .all Op.new) (w := w2) O2.out ((But.refl (fun k => k = R) w2).here _ _) (fun _ e => by have e : P' = R := e; omega)
    · simpa using gP
    · exact (K2.out.but _).here _ _
end Go.Proofs.Ytmbdgaflmiacnaa.Sk
