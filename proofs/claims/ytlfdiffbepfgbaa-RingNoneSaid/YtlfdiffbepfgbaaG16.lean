/- RingKnown. Written by gen14k.py. -/
import Derived.Test.YtlfdiffbepfgbaaG15
import Derived.Test.YtlfdiffbepfgbaaG03
set_option linter.unusedVariables false
set_option linter.unusedSimpArgs false

namespace Go.Proofs.Ytlfdiffbepfgbaa.Ri
set_option maxRecDepth 20000
open Go.RowKit
open Wo (St acc wordAt PMem RefIs)
open Sk (Wd pmem_kept pmem_lt pmem_frame p_new p_words p_load kept_of)

theorem In.load {w0 w : World} {M B : Nat} {s : St} (h : In w0 M B s w) (hc : s.cnt ≤ 800000) (a : Int) : Calls Try.prog 24 #[.pointer (some ⟨M, 0, none⟩), .int .i64 a] w fun e w' => e = .returned (.int .u64 (wordAt 5 s a)) ∧ In w0 M B (acc 5 s 1 a false 0) w' ∧ But (fun k => k = B) w w' :=
  (p_load M B 5 s a w h.mem h.c0 (by omega)).mono fun _ _ ⟨x, m, b⟩ => ⟨x, ⟨m, ((h.kept.but (fun k => k = B)).trans b (fun _ _ h => h)).kept (fun k hk e => by have := h.lB; omega), h.lM, h.lB, Nat.lt_of_lt_of_le h.hM b.size, Nat.lt_of_lt_of_le h.hB b.size, h.wd.acc _ _ _ _ (by omega) (by omega), by rw [Sk.acc_cnt]; have := h.c0; omega, by rw [Sk.acc_cnt]; omega⟩, b⟩
theorem run6 : Runs sK5 (pushNew 9) 4 0 := ⟨by decide +kernel, by decide +kernel, by decide +kernel⟩
theorem wor6 : (List.range 5).map (rPl 5 T2 sK5 (pushNew 9) 4).1.ws = [1, 3, 4295032841, 65543, 0] := by decide +kernel
def sK6 : St := litS (rPl 5 T2 sK5 (pushNew 9) 4).1 [1, 3, 4295032841, 65543, 0]
theorem cntK6 : sK6.cnt ≤ 800000 := by decide +kernel
def sL1 : St := litS (acc 5 sK6 1 1 false 0) [1, 3, 4295032841, 65543, 0]
theorem worL1 : (List.range 5).map (acc 5 sK6 1 1 false 0).ws = [1, 3, 4295032841, 65543, 0] := by decide +kernel
theorem cntL1 : sL1.cnt ≤ 800000 := by decide +kernel
def sL2 : St := litS (acc 5 sL1 1 2 false 0) [1, 3, 4295032841, 65543, 0]
theorem worL2 : (List.range 5).map (acc 5 sL1 1 2 false 0).ws = [1, 3, 4295032841, 65543, 0] := by decide +kernel
theorem cnt6' : sL2.cnt ≤ 800000 := by decide +kernel
theorem ld1 : wordAt 5 sK6 1 = 3 := by decide +kernel
theorem ld2 : wordAt 5 sL1 2 = 4295032841 := by decide +kernel
theorem cnt6 : sL2.cnt ≤ 800000 := cnt6'
theorem run7 : Runs sL2 frontNew 2 0 := ⟨by decide +kernel, by decide +kernel, by decide +kernel⟩
theorem wor7 : (List.range 5).map (rPl 5 T2 sL2 frontNew 2).1.ws = [1, 3, 4295032841, 65543, 0] := by decide +kernel
theorem fro7 : (rPl 5 T2 sL2 frontNew 2).2.v = 7 ∧ (rPl 5 T2 sL2 frontNew 2).2.t = 1 := by decide +kernel
def sK7 : St := litS (rPl 5 T2 sL2 frontNew 2).1 [1, 3, 4295032841, 65543, 0]
theorem cnt7 : sK7.cnt ≤ 800000 := by decide +kernel
theorem run8 : Runs sK7 (dropNew 1) 2 0 := ⟨by decide +kernel, by decide +kernel, by decide +kernel⟩
theorem wor8 : (List.range 5).map (rPl 5 T2 sK7 (dropNew 1) 2).1.ws = [2, 3, 4295032841, 4294967296, 0] := by decide +kernel
def sK8 : St := litS (rPl 5 T2 sK7 (dropNew 1) 2).1 [2, 3, 4295032841, 4294967296, 0]
theorem cnt8 : sK8.cnt ≤ 800000 := by decide +kernel
theorem run9 : Runs sK8 frontNew 2 0 := ⟨by decide +kernel, by decide +kernel, by decide +kernel⟩
theorem wor9 : (List.range 5).map (rPl 5 T2 sK8 frontNew 2).1.ws = [2, 3, 4295032841, 4294967296, 0] := by decide +kernel
theorem fro9 : (rPl 5 T2 sK8 frontNew 2).2.v = 9 ∧ (rPl 5 T2 sK8 frontNew 2).2.t = 2 := by decide +kernel
def sK9 : St := litS (rPl 5 T2 sK8 frontNew 2).1 [2, 3, 4295032841, 4294967296, 0]
theorem cnt9 : sK9.cnt ≤ 800000 := by decide +kernel
def sN1 : St := litS (rPl 5 T2 s0 (pushNew 5) 3).1 [0, 0, 65541, 0, 0]
theorem worN1 : (List.range 5).map (rPl 5 T2 s0 (pushNew 5) 3).1.ws = [0, 0, 65541, 0, 0] := by decide +kernel
theorem cntN1 : sN1.cnt ≤ 800000 := by decide +kernel
theorem late3 : (rPl 5 T2 s0 (pushNew 5) 3).2 = (⟨4, 0, 0, 5, 14⟩ : ROp) := by kernel_rfl
theorem lateOn : ∀ k, k ≤ 3 → (rPl 5 T2 s0 (pushNew 5) k).2.line ≠ 0 := by decide +kernel
theorem runN : Runs sN1 (pushNew 7) 7 0 := ⟨by decide +kernel, by decide +kernel, by decide +kernel⟩
def sN2 : St := litS (rPl 5 T2 sN1 (pushNew 7) 7).1 [0, 2, 65541, 65543, 0]
theorem worN2 : (List.range 5).map (rPl 5 T2 sN1 (pushNew 7) 7).1.ws = [0, 2, 65541, 65543, 0] := by decide +kernel
theorem cntN2 : sN2.cnt ≤ 800000 := by decide +kernel
theorem lateEnd : (rOp 5 T2 sN2 (⟨4, 0, 0, 5, 14⟩ : ROp)).line = 0 ∧ (rOp 5 T2 sN2 (⟨4, 0, 0, 5, 14⟩ : ROp)).er = 0 := by decide +kernel
theorem lateGood : (⟨4, 0, 0, 5, 14⟩ : ROp).Good := ⟨by decide, by decide, by decide, by decide, fun _ => by decide, by decide, .inl ⟨by decide, rfl⟩⟩
theorem allN : allL 5 (rSt 5 T2 sN2 (⟨4, 0, 0, 5, 14⟩ : ROp)).ws T2 = [5, 7] := by decide +kernel
set_option maxHeartbeats 8000000 in
theorem known_any (w : World) : Calls Try.prog 4 #[] w fun e w' => e = .returned (.bool true) ∧ Kept w w' := by
  have aw := Lib.hid awake_any
  go_enter Try.func4, Try.ntmps4
  go_wp2_with fail
  refine (first_any _).mono ?_
  rintro e w1 ⟨M, B, rfl, i1⟩
  have I1 := Lib.hid i1
  clear i1
  have eqn : ∀ W, (binOp .eql 25 (.pointer (some ⟨M, 0, none⟩)) (.pointer none)).run Try.prog W = .ok (.bool false) W := fun W => by kernel_rfl
  go_wp2_with fail
  refine (two_any _).mono ?_
  rintro e w2 ⟨rfl, k2⟩
  have I2 := Lib.hid (I1.out.grow k2)
  clear k2
  go_wp2_with fail
  refine (newPush_yes T2 9 (by decide) (by decide) (by decide) (by decide) _).mono ?_
  rintro e w3 ⟨P3, rfl, lP, gP, o3, k3⟩
  have hP3 := Lib.hid (I2.out.bk lP)
  have I3 := Lib.hid (I2.out.grow k3)
  have O3 := Lib.hid o3
  clear k3 lP gP o3
  go_wp2_with fail
  refine (lpush_any (m := 3) (er := 0) I3.out O3.out hP3.out (pushNew_good (by decide) (by decide)) cnt5 (by decide) run6).mono ?_
  rintro e w4 ⟨rfl, _, i4, _⟩
  have I4 : Hid (In w M B sK6 w4) := Lib.hid (i4.lit wor6 (by decide))
  clear i4 hP3 O3
  have LD1 : Hid (Calls Try.prog 24 #[.pointer (some ⟨M, 0, none⟩), .int .i64 1] w4 fun e w' => e = .returned (.int .u64 3) ∧ In w M B (acc 5 sK6 1 1 false 0) w' ∧ But (fun k => k = B) w4 w') := Lib.hid (by have := I4.out.load cntK6 1; rwa [ld1] at this)
  go_wp2_with fail
  refine LD1.out.mono ?_
  rintro e w5 ⟨rfl, i5, _⟩
  have I5 : Hid (In w M B sL1 w5) := Lib.hid (i5.lit worL1 (by decide))
  clear i5 LD1
  have LD2 : Hid (Calls Try.prog 24 #[.pointer (some ⟨M, 0, none⟩), .int .i64 2] w5 fun e w' => e = .returned (.int .u64 4295032841) ∧ In w M B (acc 5 sL1 1 2 false 0) w' ∧ But (fun k => k = B) w5 w') := Lib.hid (by have := I5.out.load cntL1 2; rwa [ld2] at this)
  go_wp2_with fail
  refine LD2.out.mono ?_
  rintro e w6 ⟨rfl, i6, _⟩
  have I6 : Hid (In w M B sL2 w6) := Lib.hid (i6.lit worL2 (by decide))
  clear i6 LD2
  go_wp2_with fail
  refine (lfront_any (want := 7) (at_ := 1) I6.out cnt6 run7 fro7.1 fro7.2).mono ?_
  rintro e w7 ⟨rfl, i7⟩
  have I7 : Hid (In w M B sK7 w7) := Lib.hid (i7.lit wor7 (by decide))
  clear i7
  go_wp2_with fail
  refine (ldrop_any (at_ := 1) (by decide) (by decide) I7.out cnt7 run8).mono ?_
  rintro e w8 ⟨rfl, i8⟩
  have I8 : Hid (In w M B sK8 w8) := Lib.hid (i8.lit wor8 (by decide))
  clear i8
  go_wp2_with fail
  refine (lfront_any (want := 9) (at_ := 2) I8.out cnt8 run9 fro9.1 fro9.2).mono ?_
  rintro e w9 ⟨rfl, i9⟩
  have I9 : Hid (In w M B sK9 w9) := Lib.hid (i9.lit wor9 (by decide))
  clear i9
  have KW : Hid (Kept w w9) := Lib.hid I9.out.kept
  clear I9 eqn
  go_wp2_with fail
  refine (lfilled_any _).mono ?_
  rintro e u1 ⟨N, C, rfl, j1⟩
  have J1 := Lib.hid j1
  clear j1
  have nqn : ∀ W, (binOp .neq 25 (.pointer (some ⟨N, 0, none⟩)) (.pointer none)).run Try.prog W = .ok (.bool true) W := fun W => by kernel_rfl
  go_wp2_with fail
  refine (two_any _).mono ?_
  rintro e u2 ⟨rfl, l2⟩
  have J2 := Lib.hid (J1.out.grow l2)
  clear l2
  go_wp2_with fail
  refine (newPush_yes T2 5 (by decide) (by decide) (by decide) (by decide) _).mono ?_
  rintro e u3 ⟨P, rfl, lP, gP, o3, l3⟩
  have hP := Lib.hid (J2.out.bk lP)
  have J3 := Lib.hid (J2.out.grow l3)
  have O3 := Lib.hid o3
  clear l3 lP gP o3
  have STP : ∀ q W, q < 3 → In w9 N C (rPl 5 T2 s0 (pushNew 5) q).1 W → RAt W P T2 (rPl 5 T2 s0 (pushNew 5) q).2 → Hid (Calls Try.prog 8 #[.pointer (some ⟨P, 0, none⟩), .pointer (some ⟨N, 0, none⟩)] W (Does (rPl 5 T2 s0 (pushNew 5) (q + 1)).2 w9 N C (rPl 5 T2 s0 (pushNew 5) (q + 1)).1 P false W)) := fun q W hq i a => Lib.hid (by
    have g := rPl_good (s := s0) (R := T2) (show Wd 5 s0 from fillTo_wd (wd_zero 5) _) (pushNew_good (v := 5) (by decide) (by decide)) q
    have := step2_Push i a hP.out g.1 (by have := g.2.2.2; have := cnt0; omega)
    have e : ((rOp 5 T2 (rPl 5 T2 s0 (pushNew 5) q).1 (rPl 5 T2 s0 (pushNew 5) q).2).line == 0) = false := by
      have := lateOn (q + 1) (by omega)
      show ((rPl 5 T2 s0 (pushNew 5) (q + 1)).2.line == 0) = false
      simpa using this
    rw [e] at this
    exact this)
  have ST0 := STP 0 _ (by decide) J3.out O3.out
  go_wp2_with fail
  refine ST0.out.mono ?_
  rintro e u4 ⟨rfl, o4, j4, _⟩
  have ST1 := STP 1 _ (by decide) j4 o4
  clear o4 j4 ST0 O3 J3
  go_wp2_with fail
  refine ST1.out.mono ?_
  rintro e u5 ⟨rfl, o5, j5, _⟩
  have ST2 := STP 2 _ (by decide) j5 o5
  clear o5 j5 ST1
  go_wp2_with fail
  refine ST2.out.mono ?_
  rintro e u6 ⟨rfl, o6, j6, _⟩
  have O6 : Hid (RAt u6 P T2 (⟨4, 0, 0, 5, 14⟩ : ROp)) := Lib.hid (by have := o6; rwa [late3] at this)
  have J6 : Hid (In w9 N C sN1 u6) := Lib.hid (j6.lit worN1 (by decide))
  clear o6 j6 ST2 STP
  go_wp2_with fail
  refine (two_any _).mono ?_
  rintro e u7 ⟨rfl, l7⟩
  have J7 := Lib.hid (J6.out.grow l7)
  have O7 := Lib.hid (O6.out.kept l7)
  clear l7 J6 O6
  go_wp2_with fail
  refine (newPush_yes T2 7 (by decide) (by decide) (by decide) (by decide) _).mono ?_
  rintro e u8 ⟨P2, rfl, lP2, gP2, o8, l8⟩
  have hP2 := Lib.hid (J7.out.bk lP2)
  have J8 := Lib.hid (J7.out.grow l8)
  have nP : P ≠ P2 := by have := O7.out.lt; omega
  have O8 := Lib.hid (O7.out.kept l8)
  have Q8 := Lib.hid o8
  clear l8 lP2 gP2 o8 O7
  go_wp2_with fail
  refine (lpush_any (m := 6) (er := 0) J8.out Q8.out hP2.out (pushNew_good (by decide) (by decide)) cntN1 (by decide) runN).mono ?_
  rintro e u9 ⟨rfl, _, j9, b9⟩
  have O9 := Lib.hid (O8.out.frame b9 (fun e => e.elim nP hP.out.b))
  have J9 : Hid (In w9 N C sN2 u9) := Lib.hid (j9.lit worN2 (by decide))
  clear j9 b9 O8 Q8 hP2
  have STL : Hid (Calls Try.prog 8 #[.pointer (some ⟨P, 0, none⟩), .pointer (some ⟨N, 0, none⟩)] u9 (Does (rOp 5 T2 sN2 (⟨4, 0, 0, 5, 14⟩ : ROp)) w9 N C (rSt 5 T2 sN2 (⟨4, 0, 0, 5, 14⟩ : ROp)) P true u9)) := Lib.hid (by
    have := step2_Push J9.out O9.out hP.out lateGood (by have := cntN2; omega)
    have e : ((rOp 5 T2 sN2 (⟨4, 0, 0, 5, 14⟩ : ROp)).line == 0) = true := by simpa using lateEnd.1
    rw [e] at this
    exact this)
  go_wp2_with fail
  refine STL.out.mono ?_
  rintro e u10 ⟨rfl, o10, j10, _⟩
  have O10 := Lib.hid o10
  have J10 := Lib.hid j10
  clear o10 j10 STL J9 O9
  have TL : Hid (Calls Try.prog 12 #[.pointer (some ⟨P, 0, none⟩)] u10 fun e w' => e = .returned (.int .i64 0) ∧ u10 = w') := Lib.hid (by have := told_Push P T2 _ u10 O10.out; rwa [lateEnd.2] at this)
  go_wp2_with fail
  refine TL.out.mono ?_
  rintro e u11 ⟨rfl, rfl⟩
  go_wp2_with fail
  refine (two_any _).mono ?_
  rintro e u12 ⟨rfl, l12⟩
  have J12 := Lib.hid (J10.out.grow l12)
  clear l12 TL O10
  go_wp2_with fail
  refine (all2 J12.out allN).mono ?_
  rintro e u13 ⟨a13, c13, rfl, l13, r13⟩
  have CG := Lib.hid r13
  have J13 := Lib.hid (J12.out.grow l13)
  clear l13 r13
  go_wp2_with fail
  refine (sameInts_yes _ _ 2 _ _ (fun i => [5, 7].getD i 0) _ (by decide) (CG.out.kept ((Kept.refl _).alloc _ _)) (ints2 rfl)).mono ?_
  rintro e u14 ⟨rfl, l14⟩
  have KX : Hid (Kept w u14) := Lib.hid (KW.out.trans (J13.out.grow (Kept.trans ((Kept.refl _).alloc _ _) l14)).kept)
  clear l14 CG J13 hP
  have nf : ∀ W, Hid (Calls Try.prog 16 #[.agg #[.int .i64 0, .int .i64 1, .int .i64 2, .int .i64 0]] W (Made (fun w' P => RAt w' P ⟨0, 1, 2, 0⟩ ⟨0, 0, 0, 0, 2⟩) W)) := fun W => Lib.hid (newFront_arg ⟨0, 1, 2, 0⟩ (by decide) W)
  go_wp2_with fail
  refine (nf _).out.mono ?_
  rintro e u15 ⟨P5, rfl, _, _, o15, l15⟩
  have TV : Hid (Calls Try.prog 7 #[.pointer (some ⟨P5, 0, none⟩)] u15 fun e w' => e = .returned (.tuple #[.int .i64 0, .int .i64 2]) ∧ u15 = w') := Lib.hid (told_Front P5 _ _ u15 o15)
  have KY := Lib.hid (KX.out.trans (Kept.trans (b := _) (by first | exact Kept.refl _ | exact (Kept.refl _).alloc _ _) l15))
  clear o15 l15
  go_wp2_with fail
  refine TV.out.mono ?_
  rintro e u16 ⟨rfl, rfl⟩
  go_wp2_with fail
  refine (two_any _).mono ?_
  rintro e u17 ⟨rfl, l17⟩
  go_wp2_with fail
  refine (newPush_hi T2 65536 (by decide) (by decide) (by decide) (by decide) _).mono ?_
  rintro e u18 ⟨P6, rfl, _, _, o18, l18⟩
  have TE : Hid (Calls Try.prog 12 #[.pointer (some ⟨P6, 0, none⟩)] u18 fun e w' => e = .returned (.int .i64 3) ∧ u18 = w') := Lib.hid (told_Push P6 _ _ u18 o18)
  have KZ := Lib.hid ((KY.out.trans l17).trans l18)
  clear o18 l18 l17 TV
  go_wp2_with fail
  refine TE.out.mono ?_
  rintro e u19 ⟨rfl, rfl⟩
  have FA : ∀ W, Hid (Calls Try.prog 29 #[.agg #[.int .i64 0, .int .i64 1, .int .i64 2, .int .i64 0], .int .i64 9] W fun e w' => e = .returned (.int .i64 2) ∧ Kept W w') := fun W => Lib.hid (by have := pfits_any ⟨0, 1, 2, 0⟩ 9 W; rwa [show fitsR ⟨0, 1, 2, 0⟩ 9 = 2 by decide] at this)
  have FB : ∀ W, Hid (Calls Try.prog 29 #[.agg #[.int .i64 3, .int .i64 1, .int .i64 2, .int .i64 2], .int .i64 9] W fun e w' => e = .returned (.int .i64 2) ∧ Kept W w') := fun W => Lib.hid (by have := pfits_any ⟨3, 1, 2, 2⟩ 9 W; rwa [show fitsR ⟨3, 1, 2, 2⟩ 9 = 2 by decide] at this)
  have FC : ∀ W, Hid (Calls Try.prog 29 #[ringV T2, .int .i64 0] W fun e w' => e = .returned (.int .i64 3) ∧ Kept W w') := fun W => Lib.hid (by have := pfits_any T2 0 W; rwa [show fitsR T2 0 = 3 by decide] at this)
  go_wp2_with fail
  refine (FA _).out.mono ?_
  rintro e u20 ⟨rfl, l20⟩
  have KA : Kept u18 u20 := Kept.trans (b := _) (by first | exact Kept.refl _ | exact (Kept.refl _).alloc _ _) l20
  go_wp2_with fail
  refine (FB _).out.mono ?_
  rintro e u21 ⟨rfl, l21⟩
  have KB : Kept u18 u21 := Kept.trans (b := _) (by first | exact KA | exact KA.alloc _ _) l21
  go_wp2_with fail
  refine (two_any _).mono ?_
  rintro e u22 ⟨rfl, l22⟩
  have KC : Kept u18 u22 := Kept.trans (b := _) (by first | exact KB | exact KB.alloc _ _) l22
  go_wp2_with fail
  refine (FC _).out.mono ?_
  rintro e u23 ⟨rfl, l23⟩
  have KD : Kept u18 u23 := Kept.trans (b := _) (by first | exact KC | exact KC.alloc _ _) l23
  go_wp2_with fail
  refine (aw.out _).mono ?_
  rintro e u24 ⟨rfl, l24⟩
  go_wp2
  go_ret
  exact ⟨rfl, (KZ.out.trans KD).trans l24⟩
end Go.Proofs.Ytlfdiffbepfgbaa.Ri

namespace Go.Proofs.Ytlfdiffbepfgbaa.Wo
set_option maxRecDepth 20000
open Go.RowKit

set_option maxHeartbeats 1000000 in
theorem valid_nil (w : World) : Calls Try.prog 46 #[.pointer none] w fun e w' => e = .returned (.bool false) ∧ w = w' := by
  go_enter Try.func46, Try.ntmps46
  go_wp2
  go_ret
  exact ⟨rfl, rfl⟩
set_option maxHeartbeats 1000000 in
theorem no_size_nil (w : World) : Calls Try.prog 68 #[.pointer none] w fun e w' => e = .returned (.int .i64 0) ∧ w = w' := by
  go_enter Try.func68, Try.ntmps68
  go_wp2_with fail
  refine (valid_nil _).mono ?_
  rintro e w' ⟨rfl, rfl⟩
  go_wp2
  go_ret
  exact ⟨rfl, rfl⟩
set_option maxHeartbeats 1000000 in
theorem no_count_nil (w : World) : Calls Try.prog 20 #[.pointer none] w fun e w' => e = .returned (.int .i64 0) ∧ w = w' := by
  go_enter Try.func20, Try.ntmps20
  go_wp2_with fail
  refine (valid_nil _).mono ?_
  rintro e w' ⟨rfl, rfl⟩
  go_wp2
  go_ret
  exact ⟨rfl, rfl⟩
set_option maxHeartbeats 1000000 in
theorem no_words_nil (w : World) : Calls Try.prog 41 #[.pointer none] w fun e w' => e = .returned (.slice none 0 0) ∧ w = w' := by
  go_enter Try.func41, Try.ntmps41
  go_wp2_with fail
  refine (valid_nil _).mono ?_
  rintro e w' ⟨rfl, rfl⟩
  go_wp2
  go_ret
  exact ⟨rfl, rfl⟩
set_option maxHeartbeats 1000000 in
theorem cell_nil (i : Int) (w : World) : Calls Try.prog 49 #[.pointer none, .int .i64 i] w fun e w' => e = .returned (.pointer none) ∧ w = w' := by
  by_cases h : i < 0
  · go_enter Try.func49, Try.ntmps49
    go_wp2
    go_ret
    exact ⟨rfl, rfl⟩
  · have h' : 0 ≤ i := by omega
    go_enter Try.func49, Try.ntmps49
    go_wp2_with fail
    refine (no_size_nil _).mono ?_
    rintro e w' ⟨rfl, rfl⟩
    go_wp2
    go_ret
    exact ⟨rfl, rfl⟩
set_option maxHeartbeats 1000000 in
theorem access_nil (k i : Int) (F : Value) (w : World) : Calls Try.prog 48 #[.pointer none, .int .i64 k, .int .i64 i, F] w fun e w' => e = .returned (.agg #[.int .i64 0, .int .i64 0, .int .u64 0, .int .u64 0, .bool false]) ∧ Kept w w' := by
  go_enter Try.func48, Try.ntmps48
  go_wp2_with fail
  refine (valid_nil _).mono ?_
  rintro e w' ⟨rfl, rfl⟩
  go_wp2
  refine bodyPost_ret (v := (.agg #[.int .i64 0, .int .i64 0, .int .u64 0, .int .u64 0, .bool false])) (by simp [results, Try.results48, go_sem]) rfl ⟨rfl, ?_⟩
  (go_light; repeat (first | (with_reducible exact Kept.refl _) | (with_reducible assumption) | (with_reducible refine Kept.alloc ?_ _ _) | (with_reducible refine Kept.drew ?_) | (with_reducible refine Kept.drewN ?_ _) | ((with_reducible refine Kept.setCell ?_ ?_ _); rotate_left; focus (first | (simp; done) | (simp; omega))) | refine Kept.trans ?_ (by assumption)))
set_option maxHeartbeats 1000000 in
theorem no_last_nil (w : World) : Calls Try.prog 83 #[.pointer none] w fun e w' => e = .returned (.agg #[.int .i64 0, .int .i64 0, .int .u64 0, .int .u64 0, .bool false]) ∧ Kept w w' := by
  go_enter Try.func83, Try.ntmps83
  go_wp2_with fail
  refine (valid_nil _).mono ?_
  rintro e w' ⟨rfl, rfl⟩
  go_wp2
  refine bodyPost_ret (v := (.agg #[.int .i64 0, .int .i64 0, .int .u64 0, .int .u64 0, .bool false])) (by simp [results, Try.results83, go_sem]) rfl ⟨rfl, ?_⟩
  (go_light; repeat (first | (with_reducible exact Kept.refl _) | (with_reducible assumption) | (with_reducible refine Kept.alloc ?_ _ _) | (with_reducible refine Kept.drew ?_) | (with_reducible refine Kept.drewN ?_ _) | ((with_reducible refine Kept.setCell ?_ ?_ _); rotate_left; focus (first | (simp; done) | (simp; omega))) | refine Kept.trans ?_ (by assumption)))
set_option maxHeartbeats 1000000 in
theorem no_load_nil (i : Int) (w : World) : Calls Try.prog 24 #[.pointer none, .int .i64 i] w fun e w' => e = .returned (.int .u64 0) ∧ Kept w w' := by
  have hfn := field_new
  have hfh := field_held
  go_enter Try.func24, Try.ntmps24
  go_wp2_with fail
  refine (cell_nil _ _).mono ?_
  rintro e w' ⟨rfl, rfl⟩
  go_wp2_with fail
  refine (access_nil _ _ _ _).mono ?_
  rintro e w' ⟨rfl, k⟩
  go_wp2
  go_ret
  exact ⟨rfl, k⟩
set_option maxHeartbeats 1000000 in
theorem no_store_nil (i x : Int) (w : World) : Calls Try.prog 40 #[.pointer none, .int .i64 i, .int .u64 x] w fun e w' => e = .returned (.tuple #[]) ∧ Kept w w' := by
  have hfn := field_new
  have hfh := field_held
  go_enter Try.func40, Try.ntmps40
  go_wp2_with fail
  refine (cell_nil _ _).mono ?_
  rintro e w' ⟨rfl, rfl⟩
  go_wp2_with fail
  refine (access_nil _ _ _ _).mono ?_
  rintro e w' ⟨rfl, k⟩
  go_wp2
  go_end0
  exact ⟨rfl, k⟩
set_option maxHeartbeats 1000000 in
theorem no_cas_nil (i x y : Int) (w : World) : Calls Try.prog 87 #[.pointer none, .int .i64 i, .int .u64 x, .int .u64 y] w fun e w' => e = .returned (.bool false) ∧ Kept w w' := by
  have hfn := field_new
  have hfh := field_held
  go_enter Try.func87, Try.ntmps87
  go_wp2_with fail
  refine (cell_nil _ _).mono ?_
  rintro e w' ⟨rfl, rfl⟩
  go_wp2_with fail
  refine (access_nil _ _ _ _).mono ?_
  rintro e w' ⟨rfl, k⟩
  go_wp2
  go_ret
  exact ⟨rfl, k⟩
end Go.Proofs.Ytlfdiffbepfgbaa.Wo
