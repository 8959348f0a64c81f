/- The program's Push: its step, whatever is next. Written by gen10.py. -/
import Derived.Test.YtbonnfofoepjcaaG05
import Derived.Lib.Hide
import Derived.Deep.Light
import Derived.Deep.RegionHeld3
import Derived.Laws.EntriesVeiled
import Derived.Test.YtbonnfofoepjcaaG06
import Derived.Test.YtbonnfofoepjcaaG07
set_option linter.unusedVariables false
set_option linter.unusedSimpArgs false

namespace Go.Proofs.Ytbonnfofoepjcaa.Sk
set_option maxRecDepth 20000
open Go.RowKit
open Wo (St acc wordAt PMem RefIs)
theorem neq_nil_Push (w : World) : (binOp .neq 47 .nilFunc .nilFunc).run Try.prog w = .ok (.bool false) w := by
  kernel_rfl
theorem neq_func_Push (f : Fn) (x y : Array Value) (w : World) : (binOp .neq 47 (.func f x y) .nilFunc).run Try.prog w = .ok (.bool true) w := by
  kernel_rfl
theorem eql_nil_Push (w : World) : (binOp .eql 47 .nilFunc .nilFunc).run Try.prog w = .ok (.bool true) w := by
  kernel_rfl
theorem eql_func_Push (f : Fn) (x y : Array Value) (w : World) : (binOp .eql 47 (.func f x y) .nilFunc).run Try.prog w = .ok (.bool false) w := by
  kernel_rfl
set_option maxHeartbeats 1000000 in
theorem step_Push_find_tie (P o M B n : Nat) (S : Stk) (s' : St) (W L W' L' : Int) (er er' : Int) (w : World) (ho : OpAt w P o S W L (.func (.func 38) #[] #[]) er)
    (HC : Hid (Calls Try.prog 38 #[.pointer (some ⟨P, o, none⟩), .pointer (some ⟨M, 0, none⟩)] w fun e w' => e = .returned (.tuple #[]) ∧ OpAt w' P o S W' L' (.func (.func 58) #[] #[]) er' ∧ PMem w' M B n s' ∧ Chg P o 8 B w w')) :
    Calls Try.prog 35 #[.pointer (some ⟨P, o, none⟩), .pointer (some ⟨P, o, none⟩), .pointer (some ⟨M, 0, none⟩)] w fun e w' => e = .returned (.bool false) ∧ OpAt w' P o S W' L' (.func (.func 58) #[] #[]) er' ∧ PMem w' M B n s' ∧ Chg P o 8 B w w' := by
  have c6 := ho.c6
  have q1 := neq_nil_Push
  have q2 := neq_func_Push
  have q3 := eql_nil_Push
  have q4 := eql_func_Push
  clear ho
  go_enter Try.func35, Try.ntmps35
  go_wp2_with fail
  refine HC.out.mono ?_
  rintro e u1 ⟨rfl, h⟩
  have d6 := h.1.c6
  have H := Lib.hid h
  clear h c6
  go_wp2
  go_ret
  exact ⟨rfl, H.out⟩
set_option maxHeartbeats 1000000 in
theorem step_Push_tie_lay (P o M B n : Nat) (S : Stk) (s' : St) (W L W' L' : Int) (er er' : Int) (w : World) (ho : OpAt w P o S W L (.func (.func 58) #[] #[]) er)
    (HC : Hid (Calls Try.prog 58 #[.pointer (some ⟨P, o, none⟩), .pointer (some ⟨M, 0, none⟩)] w fun e w' => e = .returned (.tuple #[]) ∧ OpAt w' P o S W' L' (.func (.func 77) #[] #[]) er' ∧ PMem w' M B n s' ∧ Chg P o 8 B w w')) :
    Calls Try.prog 35 #[.pointer (some ⟨P, o, none⟩), .pointer (some ⟨P, o, none⟩), .pointer (some ⟨M, 0, none⟩)] w fun e w' => e = .returned (.bool false) ∧ OpAt w' P o S W' L' (.func (.func 77) #[] #[]) er' ∧ PMem w' M B n s' ∧ Chg P o 8 B w w' := by
  have c6 := ho.c6
  have q1 := neq_nil_Push
  have q2 := neq_func_Push
  have q3 := eql_nil_Push
  have q4 := eql_func_Push
  clear ho
  go_enter Try.func35, Try.ntmps35
  go_wp2_with fail
  refine HC.out.mono ?_
  rintro e u1 ⟨rfl, h⟩
  have d6 := h.1.c6
  have H := Lib.hid h
  clear h c6
  go_wp2
  go_ret
  exact ⟨rfl, H.out⟩
set_option maxHeartbeats 1000000 in
theorem step_Push_lay_find (P o M B n : Nat) (S : Stk) (s' : St) (W L W' L' : Int) (er er' : Int) (w : World) (ho : OpAt w P o S W L (.func (.func 77) #[] #[]) er)
    (HC : Hid (Calls Try.prog 77 #[.pointer (some ⟨P, o, none⟩), .pointer (some ⟨M, 0, none⟩)] w fun e w' => e = .returned (.tuple #[]) ∧ OpAt w' P o S W' L' (.func (.func 38) #[] #[]) er' ∧ PMem w' M B n s' ∧ Chg P o 8 B w w')) :
    Calls Try.prog 35 #[.pointer (some ⟨P, o, none⟩), .pointer (some ⟨P, o, none⟩), .pointer (some ⟨M, 0, none⟩)] w fun e w' => e = .returned (.bool false) ∧ OpAt w' P o S W' L' (.func (.func 38) #[] #[]) er' ∧ PMem w' M B n s' ∧ Chg P o 8 B w w' := by
  have c6 := ho.c6
  have q1 := neq_nil_Push
  have q2 := neq_func_Push
  have q3 := eql_nil_Push
  have q4 := eql_func_Push
  clear ho
  go_enter Try.func35, Try.ntmps35
  go_wp2_with fail
  refine HC.out.mono ?_
  rintro e u1 ⟨rfl, h⟩
  have d6 := h.1.c6
  have H := Lib.hid h
  clear h c6
  go_wp2
  go_ret
  exact ⟨rfl, H.out⟩
set_option maxHeartbeats 1000000 in
theorem step_Push_lay_end (P o M B n : Nat) (S : Stk) (s' : St) (W L W' L' : Int) (er er' : Int) (w : World) (ho : OpAt w P o S W L (.func (.func 77) #[] #[]) er)
    (HC : Hid (Calls Try.prog 77 #[.pointer (some ⟨P, o, none⟩), .pointer (some ⟨M, 0, none⟩)] w fun e w' => e = .returned (.tuple #[]) ∧ OpAt w' P o S W' L' .nilFunc er' ∧ PMem w' M B n s' ∧ Chg P o 8 B w w')) :
    Calls Try.prog 35 #[.pointer (some ⟨P, o, none⟩), .pointer (some ⟨P, o, none⟩), .pointer (some ⟨M, 0, none⟩)] w fun e w' => e = .returned (.bool true) ∧ OpAt w' P o S W' L' .nilFunc er' ∧ PMem w' M B n s' ∧ Chg P o 8 B w w' := by
  have c6 := ho.c6
  have q1 := neq_nil_Push
  have q2 := neq_func_Push
  have q3 := eql_nil_Push
  have q4 := eql_func_Push
  clear ho
  go_enter Try.func35, Try.ntmps35
  go_wp2_with fail
  refine HC.out.mono ?_
  rintro e u1 ⟨rfl, h⟩
  have d6 := h.1.c6
  have H := Lib.hid h
  clear h c6
  go_wp2
  go_ret
  exact ⟨rfl, H.out⟩
set_option maxHeartbeats 1000000 in
theorem step_Push_over (P o M : Nat) (S : Stk) (W L : Int) (er : Int) (w : World) (ho : OpAt w P o S W L .nilFunc er) :
    Calls Try.prog 35 #[.pointer (some ⟨P, o, none⟩), .pointer (some ⟨P, o, none⟩), .pointer (some ⟨M, 0, none⟩)] w fun e w' => e = .returned (.bool true) ∧ w = w' := by
  have c6 := ho.c6
  have q1 := neq_nil_Push
  have q2 := neq_func_Push
  have q3 := eql_nil_Push
  have q4 := eql_func_Push
  clear ho
  go_enter Try.func35, Try.ntmps35
  go_wp2
  go_ret
  exact ⟨rfl, rfl⟩
set_option maxHeartbeats 1000000 in
theorem Step_Push (P o : Nat) (V : Value) (b : Bool) (Q : World → Prop) (w : World)
    (HC : Hid (Calls Try.prog 35 #[.pointer (some ⟨P, o, none⟩), .pointer (some ⟨P, o, none⟩), V] w fun e w' => e = .returned (.bool b) ∧ Q w')) :
    Calls Try.prog 18 #[.pointer (some ⟨P, o, none⟩), V] w fun e w' => e = .returned (.bool b) ∧ Q w' := by
  go_enter Try.func18, Try.ntmps18
  go_wp2_with fail
  refine HC.out.mono ?_
  rintro e u1 ⟨rfl, h⟩
  have H := Lib.hid h
  clear h
  cases b
  · go_wp2
    go_ret
    exact ⟨rfl, H.out⟩
  · go_wp2
    go_ret
    exact ⟨rfl, H.out⟩
set_option maxHeartbeats 1000000 in
theorem Step_Push_nil (V : Value) (w : World) : Calls Try.prog 18 #[.pointer none, V] w fun e w' => e = .returned (.bool true) ∧ w = w' := by
  go_enter Try.func18, Try.ntmps18
  go_wp2
  go_ret
  exact ⟨rfl, rfl⟩
end Go.Proofs.Ytbonnfofoepjcaa.Sk

namespace Go.Proofs.Ytbonnfofoepjcaa.Sk
set_option maxRecDepth 20000
open Go.RowKit
open Wo (St acc wordAt PMem RefIs)
end Go.Proofs.Ytbonnfofoepjcaa.Sk

namespace Go.Proofs.Ytbonnfofoepjcaa.Sk
set_option maxRecDepth 20000
open Go.RowKit
open Wo (St acc wordAt PMem RefIs)

structure Op.Good (x : Op) : Prop where
  w0 : 0 ≤ x.W
  w1 : x.W < 18446744073709551616
  l0 : 0 ≤ x.L
  l1 : x.L < 18446744073709551616

def nxPop (l : Nat) : Value := if l = 1 then .func (.func 66) #[] #[] else if l = 2 then .func (.func 82) #[] #[] else if l = 3 then .func (.func 90) #[] #[] else .nilFunc
def nxPush (l : Nat) : Value := if l = 1 then .func (.func 38) #[] #[] else if l = 2 then .func (.func 58) #[] #[] else if l = 3 then .func (.func 77) #[] #[] else .nilFunc
def PopAt (w : World) (P o : Nat) (S : Stk) (x : Op) : Prop := OpAt w P o S x.W x.L (nxPop x.line) (tookE S x)
structure PushAt (w : World) (P o : Nat) (S : Stk) (i e0 : Int) (x : Op) : Prop where
  op : OpAt w P o S x.W x.L (nxPush x.line) (laidE e0 x)
  i : w.cell? ⟨P, o + 8, none⟩ = some (.int .i64 i)
def Stepped (At : World → Prop) (M B n : Nat) (s' : St) (P o : Nat) (b : Bool) (w : World) (e : Ending) (w' : World) : Prop :=
  e = .returned (.bool b) ∧ At w' ∧ PMem w' M B n s' ∧ Chg P o 8 B w w'

def lines (x : Op) : Prop := x.line = 1 ∨ x.line = 2 ∨ x.line = 3 ∨ x.line = 9

def took (S : Stk) (x : Op) : Prop := (x.line = 2 ∨ x.line = 3) → 0 ≤ idx S.N x.W
theorem no31 : ¬ (3 : Nat) = 1 := by decide
theorem no32 : ¬ (3 : Nat) = 2 := by decide
theorem no91 : ¬ (9 : Nat) = 1 := by decide
theorem no92 : ¬ (9 : Nat) = 2 := by decide
theorem no93 : ¬ (9 : Nat) = 3 := by decide
theorem no21 : ¬ (2 : Nat) = 1 := by decide

theorem popOp_good {n : Nat} {S : Stk} {s : St} {x : Op} (hx : x.Good) (hl : lines x) (ht : took S x) (hs : Wd n s) : (popOp n S s x).Good ∧ lines (popOp n S s x) ∧ took S (popOp n S s x) := by
  obtain ⟨l, W, L⟩ := x
  have w1 := hs.word S.T
  have w2 := hs.word (S.K + idx S.N W)
  unfold popOp
  rcases hl with h | h | h | h
  · obtain rfl : l = 1 := h
    rw [if_pos rfl]
    refine ⟨⟨w1.1, w1.2, hx.l0, hx.l1⟩, ?_, fun h => ?_⟩
    · unfold lines; dsimp only; split <;> simp
    · dsimp only at h ⊢
      split at h
      · omega
      · omega
  · obtain rfl : l = 2 := h
    rw [if_neg no21, if_pos rfl]
    exact ⟨⟨hx.w0, hx.w1, w2.1, w2.2⟩, Or.inr (Or.inr (Or.inl rfl)), fun _ => ht (Or.inl rfl)⟩
  · obtain rfl : l = 3 := h
    rw [if_neg no31, if_neg no32, if_pos rfl]
    refine ⟨⟨hx.w0, hx.w1, hx.l0, hx.l1⟩, ?_, fun _ => ht (Or.inr rfl)⟩
    unfold lines; dsimp only; split <;> simp
  · obtain rfl : l = 9 := h
    rw [if_neg no91, if_neg no92, if_neg no93]
    exact ⟨hx, Or.inr (Or.inr (Or.inr rfl)), ht⟩
theorem allOp_good {n : Nat} {S : Stk} {s : St} {x : Op} (hx : x.Good) (hl : lines x) (h3 : x.line ≠ 3) (ht : took S x) (hs : Wd n s) : (allOp n S s x).Good ∧ lines (allOp n S s x) ∧ (allOp n S s x).line ≠ 3 ∧ took S (allOp n S s x) := by
  obtain ⟨l, W, L⟩ := x
  have w1 := hs.word S.T
  unfold allOp
  rcases hl with h | h | h | h
  · obtain rfl : l = 1 := h
    rw [if_pos rfl]
    refine ⟨⟨w1.1, w1.2, hx.l0, hx.l1⟩, ?_, ?_, fun h => ?_⟩
    · unfold lines; dsimp only; split <;> simp
    · dsimp only; split <;> decide
    · dsimp only at h ⊢
      split at h
      · omega
      · omega
  · obtain rfl : l = 2 := h
    rw [if_neg no21, if_pos rfl]
    refine ⟨⟨hx.w0, hx.w1, hx.l0, hx.l1⟩, ?_, ?_, fun _ => ht (Or.inl rfl)⟩
    · unfold lines; dsimp only; split <;> simp
    · dsimp only; split <;> decide
  · exact absurd h h3
  · obtain rfl : l = 9 := h
    rw [if_neg no91, if_neg no92]
    exact ⟨hx, Or.inr (Or.inr (Or.inr rfl)), h3, ht⟩
theorem pushOp_good {n : Nat} {S : Stk} {s : St} {x : Op} (hx : x.Good) (hl : lines x) (hs : Wd n s) : (pushOp n S s x).Good ∧ lines (pushOp n S s x) := by
  obtain ⟨l, W, L⟩ := x
  have w1 := hs.word S.T
  unfold pushOp
  rcases hl with h | h | h | h
  · obtain rfl : l = 1 := h
    rw [if_pos rfl]
    exact ⟨⟨w1.1, w1.2, hx.l0, hx.l1⟩, Or.inr (Or.inl rfl)⟩
  · obtain rfl : l = 2 := h
    rw [if_neg no21, if_pos rfl]
    exact ⟨⟨hx.w0, hx.w1, hx.l0, hx.l1⟩, Or.inr (Or.inr (Or.inl rfl))⟩
  · obtain rfl : l = 3 := h
    rw [if_neg no31, if_neg no32, if_pos rfl]
    refine ⟨⟨hx.w0, hx.w1, hx.l0, hx.l1⟩, ?_⟩
    unfold lines; dsimp only; split <;> simp
  · obtain rfl : l = 9 := h
    rw [if_neg no91, if_neg no92, if_neg no93]
    exact ⟨hx, Or.inr (Or.inr (Or.inr rfl))⟩

theorem pop_step (P o M B n : Nat) (S : Stk) (s : St) (x : Op) (w : World) (ho : PopAt w P o S x) (hm : PMem w M B n s) (h0 : 0 ≤ s.cnt) (h1 : s.cnt ≤ 1000000) (hPM : P ≠ M) (hPB : P ≠ B) (hx : x.Good) (hl : lines x) (ht : took S x) (hS : S.Ok n) (hs : Wd n s) :
    Calls Try.prog 15 #[.pointer (some ⟨P, o, none⟩), .pointer (some ⟨M, 0, none⟩)] w (Stepped (fun w' => PopAt w' P o S (popOp n S s x)) M B n (popSt n S s x) P o ((popOp n S s x).line == 9) w) := by
  obtain ⟨l, W, L⟩ := x
  have wb := hs.word S.T
  rcases hl with h | h | h | h
  · obtain rfl : l = 1 := h
    rcases Int.lt_or_le (idx S.N (wordAt n s S.T)) 0 with hi | hi
    · have e1 : popOp n S s ⟨1, W, L⟩ = ⟨9, wordAt n s S.T, L⟩ := by unfold popOp; rw [if_pos rfl, if_pos hi]
      rw [e1]
      have e2 : tookE S ⟨9, wordAt n s S.T, L⟩ = 15 := by unfold tookE; rw [if_pos rfl, if_pos hi]
      refine (Step_Pop P o _ true _ w (Lib.hid (step_Pop_find_end P o M B n S _ _ _ _ _ _ _ w ho (Lib.hid (find_Pop_none P o M B n S s W L _ w ho hm h0 h1 hPM hPB wb.1 wb.2 hi))))).mono fun e w' ⟨a, b, c, d⟩ => ⟨a, ?_, c, d⟩
      unfold PopAt; rw [e2]; exact b
    · have e1 : popOp n S s ⟨1, W, L⟩ = ⟨2, wordAt n s S.T, L⟩ := by unfold popOp; rw [if_pos rfl, if_neg (by omega)]
      rw [e1]
      exact (Step_Pop P o _ false _ w (Lib.hid (step_Pop_find_look P o M B n S _ _ _ _ _ _ _ w ho (Lib.hid (find_Pop_some P o M B n S s W L _ w ho hm h0 h1 hPM hPB wb.1 wb.2 hi))))).mono fun e w' h => h
  · obtain rfl : l = 2 := h
    exact (Step_Pop P o _ false _ w (Lib.hid (step_Pop_look_take P o M B n S _ _ _ _ _ _ _ w ho (Lib.hid (look_Pop P o M B n S s W L _ w ho hm h0 h1 hPM hPB hx.w0 hx.w1 hS.K1 (by have := hS.K2; have := hS.n2; have := hS.N1; omega)))))).mono fun e w' h => h
  · obtain rfl : l = 3 := h
    cases hq : (wordAt n s S.T == W)
    · have hne : ¬ wordAt n s S.T = W := by simpa using hq
      have e1 : popOp n S s ⟨3, W, L⟩ = ⟨1, W, L⟩ := by unfold popOp; rw [if_neg no31, if_neg no32, if_pos rfl, if_neg hne]
      rw [e1]
      exact (Step_Pop P o _ false _ w (Lib.hid (step_Pop_take_find P o M B n S _ _ _ _ _ _ _ w ho (Lib.hid (take_Pop_no P o M B n S s W L _ w ho hm h0 h1 hPM hPB hx.w0 hx.w1 hS.T1 hS.T2 hx.l0 hx.l1 hq))))).mono fun e w' h => h
    · have he : wordAt n s S.T = W := by simpa using hq
      have e1 : popOp n S s ⟨3, W, L⟩ = ⟨9, W, L⟩ := by unfold popOp; rw [if_neg no31, if_neg no32, if_pos rfl, if_pos he]
      rw [e1]
      refine (Step_Pop P o _ true _ w (Lib.hid (step_Pop_take_end P o M B n S _ _ _ _ _ _ _ w ho (Lib.hid (take_Pop_yes P o M B n S s W L _ w ho hm h0 h1 hPM hPB hx.w0 hx.w1 hS.T1 hS.T2 hx.l0 hx.l1 hq))))).mono fun e w' ⟨a, b, c, d⟩ => ⟨a, ?_, c, d⟩
      have e2 : tookE S ⟨9, W, L⟩ = 0 := by unfold tookE; rw [if_pos rfl, if_neg (by have := ht (Or.inr rfl); dsimp only at this ⊢; omega)]
      unfold PopAt; rw [e2]; exact b
  · obtain rfl : l = 9 := h
    have e1 : popOp n S s ⟨9, W, L⟩ = ⟨9, W, L⟩ := by unfold popOp; rw [if_neg no91, if_neg no92, if_neg no93]
    have e3 : popSt n S s ⟨9, W, L⟩ = s := by unfold popSt; rw [if_neg no91, if_neg no92, if_neg no93]
    rw [e1, e3]
    refine (Step_Pop P o _ true _ w (Lib.hid ((step_Pop_over P o M S W L _ w ho).mono fun e w' h => h))).mono fun e w' ⟨a, b⟩ => ?_
    subst b
    exact ⟨a, ho, hm, Chg.refl _ _ _ _ _⟩

theorem push_step (P o M B n : Nat) (S : Stk) (i e0 : Int) (s : St) (x : Op) (w : World) (ho : PushAt w P o S i e0 x) (hm : PMem w M B n s) (h0 : 0 ≤ s.cnt) (h1 : s.cnt ≤ 1000000) (hPM : P ≠ M) (hPB : P ≠ B) (hx : x.Good) (hl : lines x) (hS : S.Ok n) (hs : Wd n s)
    (hi : x.line ≠ 9 → 0 ≤ i ∧ i < S.N ∧ e0 = 0) :
    Calls Try.prog 18 #[.pointer (some ⟨P, o, none⟩), .pointer (some ⟨M, 0, none⟩)] w (Stepped (fun w' => PushAt w' P o S i e0 (pushOp n S s x)) M B n (pushSt n S i s x) P o ((pushOp n S s x).line == 9) w) := by
  obtain ⟨l, W, L⟩ := x
  obtain ⟨ho, c8⟩ := ho
  have n2 := hS.N2
  rcases hl with h | h | h | h
  · obtain rfl : l = 1 := h
    exact (Step_Push P o _ false _ w (Lib.hid (step_Push_find_tie P o M B n S _ _ _ _ _ _ _ w ho (Lib.hid (find_Push P o M B n S s W L _ w ho hm h0 h1 hPM hPB))))).mono fun e w' ⟨a, b, c, d⟩ => ⟨a, ⟨b, d.some c8 (by omega)⟩, c, d⟩
  · obtain rfl : l = 2 := h
    obtain ⟨i0, i1, _⟩ := hi (by simp)
    exact (Step_Push P o _ false _ w (Lib.hid (step_Push_tie_lay P o M B n S _ _ _ _ _ _ _ w ho (Lib.hid (tie_Push P o M B n S s W L _ w ho hm h0 h1 hPM hPB hx.w0 hx.w1 i c8 i0 (by omega) hS.K1 (by have := hS.K2; have := hS.n2; have := hS.N1; omega)))))).mono fun e w' ⟨a, b, c, d⟩ => ⟨a, ⟨b, d.some c8 (by omega)⟩, c, d⟩
  · obtain rfl : l = 3 := h
    obtain ⟨i0, i1, rfl⟩ := hi (by simp)
    cases hq : (wordAt n s S.T == W)
    · have hne : ¬ wordAt n s S.T = W := by simpa using hq
      have e1 : pushOp n S s ⟨3, W, L⟩ = ⟨1, W, L⟩ := by unfold pushOp; rw [if_neg no31, if_neg no32, if_pos rfl, if_neg hne]
      rw [e1]
      exact (Step_Push P o _ false _ w (Lib.hid (step_Push_lay_find P o M B n S _ _ _ _ _ _ _ w ho (Lib.hid (lay_Push_no P o M B n S s W L _ w ho hm h0 h1 hPM hPB hx.w0 hx.w1 hS.T1 hS.T2 i c8 i0 (by omega) hq))))).mono fun e w' ⟨a, b, c, d⟩ => ⟨a, ⟨b, d.some c8 (by omega)⟩, c, d⟩
    · have he : wordAt n s S.T = W := by simpa using hq
      have e1 : pushOp n S s ⟨3, W, L⟩ = ⟨9, W, L⟩ := by unfold pushOp; rw [if_neg no31, if_neg no32, if_pos rfl, if_pos he]
      rw [e1]
      exact (Step_Push P o _ true _ w (Lib.hid (step_Push_lay_end P o M B n S _ _ _ _ _ _ _ w ho (Lib.hid (lay_Push_yes P o M B n S s W L _ w ho hm h0 h1 hPM hPB hx.w0 hx.w1 hS.T1 hS.T2 i c8 i0 (by omega) hq))))).mono fun e w' ⟨a, b, c, d⟩ => ⟨a, ⟨b, d.some c8 (by omega)⟩, c, d⟩
  · obtain rfl : l = 9 := h
    have e1 : pushOp n S s ⟨9, W, L⟩ = ⟨9, W, L⟩ := by unfold pushOp; rw [if_neg no91, if_neg no92, if_neg no93]
    have e3 : pushSt n S i s ⟨9, W, L⟩ = s := by unfold pushSt; rw [if_neg no91, if_neg no92, if_neg no93]
    rw [e1, e3]
    refine (Step_Push P o _ true _ w (Lib.hid ((step_Push_over P o M S W L _ w ho).mono fun e w' h => h))).mono fun e w' ⟨a, b⟩ => ?_
    subst b
    exact ⟨a, ⟨ho, c8⟩, hm, Chg.refl _ _ _ _ _⟩

theorem pop_told (P o : Nat) (S : Stk) (x : Op) (w : World) (ho : PopAt w P o S x) (hx : x.Good) : Calls Try.prog 32 #[.pointer (some ⟨P, o, none⟩)] w fun e w' => e = .returned (.tuple #[.int .i64 (tookI S x), .int .i64 (tookE S x)]) ∧ Kept w w' := by
  have hc : Calls Try.prog 53 #[.pointer (some ⟨P, o, none⟩)] w fun e w' => e = .returned (.tuple #[.int .i64 (tookI S x), .int .i64 (tookE S x)]) ∧ Kept w w' := by
    by_cases he : tookE S x = 0
    · have hl : x.line = 9 ∧ 0 ≤ idx S.N x.W := by
        unfold tookE at he
        split at he
        · rename_i h9
          refine ⟨h9, ?_⟩
          split at he
          · exact absurd he (by decide)
          · omega
        · exact absurd he (by decide)
      have ei : tookI S x = idx S.N x.W := by unfold tookI; rw [if_pos hl]
      rw [ei, he]
      unfold PopAt at ho
      rw [he] at ho
      exact taken_Pop_ok P o S _ _ _ w ho hx.w0 hx.w1
    · have ei : tookI S x = 0 := by
        unfold tookI
        split
        · rename_i h
          exact absurd (by unfold tookE; rw [if_pos h.1, if_neg (by omega)]) he
        · rfl
      rw [ei]
      exact taken_Pop_err P o S _ _ _ _ w ho (by simpa using he)
  have HC := Lib.hid hc
  clear hc ho
  go_enter Try.func32, Try.ntmps32
  go_wp2_with fail
  refine HC.out.mono ?_
  rintro e w' ⟨rfl, k⟩
  go_wp2
  go_ret2
  exact ⟨rfl, k⟩

theorem push_told (P o : Nat) (S : Stk) (i e0 : Int) (x : Op) (w : World) (ho : PushAt w P o S i e0 x) : Calls Try.prog 19 #[.pointer (some ⟨P, o, none⟩)] w fun e w' => e = .returned (.int .i64 (laidE e0 x)) ∧ w = w' := by
  have HC := Lib.hid (outcome_Push P o S x.W x.L _ _ w ho.op)
  clear ho
  go_enter Try.func19, Try.ntmps19
  go_wp2_with fail
  refine HC.out.mono ?_
  rintro e w' ⟨rfl, rfl⟩
  go_wp2
  go_ret
  exact ⟨rfl, rfl⟩

theorem begun_Pop (S : Stk) (w : World) : Calls Try.prog 65 #[.agg #[.int .i64 S.T, .int .i64 S.K, .int .i64 S.N], .func (.func 66) #[] #[]] w
    fun e w' => e = .returned (.agg #[.bool true, .int .i64 S.T, .int .i64 S.K, .int .i64 S.N, .int .u64 0, .int .u64 0, .func (.func 66) #[] #[], .int .i64 14]) ∧ Kept w w' := by
  go_enter Try.func65, Try.ntmps65
  go_wp2
  refine bodyPost_ret (v := .agg #[.bool true, .int .i64 S.T, .int .i64 S.K, .int .i64 S.N, .int .u64 0, .int .u64 0, .func (.func 66) #[] #[], .int .i64 14]) (by simp [results, Try.results65, go_sem]) rfl ⟨rfl, ?_⟩
  (go_light; repeat (first | (with_reducible exact Kept.refl _) | (with_reducible assumption) | (with_reducible refine Kept.alloc ?_ _ _) | (with_reducible refine Kept.drew ?_) | (with_reducible refine Kept.drewN ?_ _) | ((with_reducible refine Kept.setCell ?_ ?_ _); rotate_left; focus (first | (simp; done) | (simp; omega))) | refine Kept.trans ?_ (by assumption)))

theorem begun_Push (S : Stk) (w : World) : Calls Try.prog 37 #[.agg #[.int .i64 S.T, .int .i64 S.K, .int .i64 S.N], .func (.func 38) #[] #[]] w
    fun e w' => e = .returned (.agg #[.bool true, .int .i64 S.T, .int .i64 S.K, .int .i64 S.N, .int .u64 0, .int .u64 0, .func (.func 38) #[] #[], .int .i64 14]) ∧ Kept w w' := by
  go_enter Try.func37, Try.ntmps37
  go_wp2
  refine bodyPost_ret (v := .agg #[.bool true, .int .i64 S.T, .int .i64 S.K, .int .i64 S.N, .int .u64 0, .int .u64 0, .func (.func 38) #[] #[], .int .i64 14]) (by simp [results, Try.results37, go_sem]) rfl ⟨rfl, ?_⟩
  (go_light; repeat (first | (with_reducible exact Kept.refl _) | (with_reducible assumption) | (with_reducible refine Kept.alloc ?_ _ _) | (with_reducible refine Kept.drew ?_) | (with_reducible refine Kept.drewN ?_ _) | ((with_reducible refine Kept.setCell ?_ ?_ _); rotate_left; focus (first | (simp; done) | (simp; omega))) | refine Kept.trans ?_ (by assumption)))

def Made (At : World → Nat → Prop) (w : World) (e : Ending) (w' : World) : Prop :=
  ∃ P, e = .returned (.pointer (some ⟨P, 0, none⟩)) ∧ w.heap.size ≤ P ∧ P < w'.heap.size ∧ At w' P ∧ Kept w w'
theorem newPop_any (S : Stk) (w : World) : Calls Try.prog 48 #[.agg #[.int .i64 S.T, .int .i64 S.K, .int .i64 S.N]] w (Made (fun w P => PopAt w P 0 S Op.new) w) := by
  go_enter Try.func48, Try.ntmps48
  go_wp2_with fail
  refine (begun_Pop S _).mono ?_
  rintro e w1 ⟨rfl, k1⟩
  go_wp2
  go_ret
  go_light
  have hz := k1.size
  simp at hz
  refine ⟨w1.heap.size, rfl, by omega, by simp, ?_, by (go_light; repeat (first | (with_reducible exact Kept.refl _) | (with_reducible assumption) | (with_reducible refine Kept.alloc ?_ _ _) | (with_reducible refine Kept.drew ?_) | (with_reducible refine Kept.drewN ?_ _) | ((with_reducible refine Kept.setCell ?_ ?_ _); rotate_left; focus (first | (simp; done) | (simp; omega))) | refine Kept.trans ?_ (by assumption)))⟩
  refine ⟨?_, ?_, ?_, ?_, ?_, ?_, ?_, ?_, fun i => ?_⟩ <;> (simp [Op.new, nxPop, tookE]; done)
theorem newPush_in (S : Stk) (i : Int) (h0 : 0 ≤ i) (h1 : i < S.N) (h2 : i ≤ 65534) (w : World) : Calls Try.prog 21 #[.agg #[.int .i64 S.T, .int .i64 S.K, .int .i64 S.N], .int .i64 i] w (Made (fun w P => PushAt w P 0 S i 0 Op.new) w) := by
  go_enter Try.func21, Try.ntmps21
  go_wp2_with fail
  refine (begun_Push S _).mono ?_
  rintro e w1 ⟨rfl, k1⟩
  have hz := k1.size
  simp at hz
  have a0 : w1.cell? ⟨w.heap.size, 0, none⟩ = some (.int .i64 S.T) := k1.some (by simp)
  have a1 : w1.cell? ⟨w.heap.size, 1, none⟩ = some (.int .i64 S.K) := k1.some (by simp)
  have a2 : w1.cell? ⟨w.heap.size, 2, none⟩ = some (.int .i64 S.N) := k1.some (by simp)
  have z1 : w.heap.size < w1.heap.size := by omega
  have K1 : Hid (Kept w w1) := Lib.hid (by (go_light; repeat (first | (with_reducible exact Kept.refl _) | (with_reducible assumption) | (with_reducible refine Kept.alloc ?_ _ _) | (with_reducible refine Kept.drew ?_) | (with_reducible refine Kept.drewN ?_ _) | ((with_reducible refine Kept.setCell ?_ ?_ _); rotate_left; focus (first | (simp; done) | (simp; omega))) | refine Kept.trans ?_ (by assumption))))
  clear k1 hz
  go_wp2_with fail
  refine (place_yes S.T S.K S.N i _ h0 h1 h2).mono ?_
  rintro e w2 ⟨rfl, k2⟩
  have K2 := Lib.hid k2
  clear k2
  go_wp2
  go_ret
  have k1 := K1.out
  have k2 := K2.out
  have hz := k2.size
  simp at hz
  refine ⟨w1.heap.size, rfl, by omega, by omega, ⟨OpAt.kept (w := w1.alloc _) (by refine ⟨?_, ?_, ?_, ?_, ?_, ?_, ?_, ?_, fun i => ?_⟩ <;> (simp [Op.new, nxPush, laidE]; done)) k2, k2.some (by simp)⟩, by (go_light; repeat (first | (with_reducible exact Kept.refl _) | (with_reducible assumption) | (with_reducible refine Kept.alloc ?_ _ _) | (with_reducible refine Kept.drew ?_) | (with_reducible refine Kept.drewN ?_ _) | ((with_reducible refine Kept.setCell ?_ ?_ _); rotate_left; focus (first | (simp; done) | (simp; omega))) | refine Kept.trans ?_ (by assumption)))⟩
theorem newPush_out (S : Stk) (i : Int) (h : i < 0 ∨ S.N ≤ i) (w : World) : Calls Try.prog 21 #[.agg #[.int .i64 S.T, .int .i64 S.K, .int .i64 S.N], .int .i64 i] w (Made (fun w P => PushAt w P 0 S i 3 Op.over) w) := by
  go_enter Try.func21, Try.ntmps21
  go_wp2_with fail
  refine (begun_Push S _).mono ?_
  rintro e w1 ⟨rfl, k1⟩
  have hz := k1.size
  simp at hz
  have a0 : w1.cell? ⟨w.heap.size, 0, none⟩ = some (.int .i64 S.T) := k1.some (by simp)
  have a1 : w1.cell? ⟨w.heap.size, 1, none⟩ = some (.int .i64 S.K) := k1.some (by simp)
  have a2 : w1.cell? ⟨w.heap.size, 2, none⟩ = some (.int .i64 S.N) := k1.some (by simp)
  have z1 : w.heap.size < w1.heap.size := by omega
  have K1 : Hid (Kept w w1) := Lib.hid (by (go_light; repeat (first | (with_reducible exact Kept.refl _) | (with_reducible assumption) | (with_reducible refine Kept.alloc ?_ _ _) | (with_reducible refine Kept.drew ?_) | (with_reducible refine Kept.drewN ?_ _) | ((with_reducible refine Kept.setCell ?_ ?_ _); rotate_left; focus (first | (simp; done) | (simp; omega))) | refine Kept.trans ?_ (by assumption))))
  clear k1 hz
  go_wp2_with fail
  refine (place_no S.T S.K S.N i _ h).mono ?_
  rintro e w2 ⟨rfl, k2⟩
  have hz := k2.size
  simp at hz
  have o2 : OpAt w2 w1.heap.size 0 S 0 0 (nxPush 1) 14 := OpAt.kept (w := w1.alloc _) (by refine ⟨?_, ?_, ?_, ?_, ?_, ?_, ?_, ?_, fun i => ?_⟩ <;> (simp [nxPush]; done)) k2
  have c8 : w2.cell? ⟨w1.heap.size, 8, none⟩ = some (.int .i64 i) := k2.some (by simp)
  have K2 : Hid (Kept w w2) := Lib.hid (by have k1 := K1.out; (go_light; repeat (first | (with_reducible exact Kept.refl _) | (with_reducible assumption) | (with_reducible refine Kept.alloc ?_ _ _) | (with_reducible refine Kept.drew ?_) | (with_reducible refine Kept.drewN ?_ _) | ((with_reducible refine Kept.setCell ?_ ?_ _); rotate_left; focus (first | (simp; done) | (simp; omega))) | refine Kept.trans ?_ (by assumption))))
  have z2 : w1.heap.size < w2.heap.size := by omega
  clear k2 hz
  go_wp2_with fail
  refine (end_Push w1.heap.size 0 S 0 0 _ 14 3 _ o2).mono ?_
  rintro e w3 ⟨rfl, o3, g3⟩
  have O3 := Lib.hid o3
  have G3 := Lib.hid g3
  clear o3 g3 o2
  go_wp2
  go_ret
  exact ⟨w1.heap.size, rfl, by omega, O3.out.lt, ⟨O3.out, G3.out.some c8 (by omega)⟩, But.kept ((K2.out.but (fun k => k = w1.heap.size)).trans G3.out.own (fun _ _ h => h)) (fun k hk h => by omega)⟩
end Go.Proofs.Ytbonnfofoepjcaa.Sk

namespace Go.Proofs.Ytbonnfofoepjcaa.Sk
open Go.RowKit
open Wo (St acc wordAt)

structure Arn where
  F : Stk
  G : Int
  V : Int
  L : Int

def gen (w : Int) : Int := w % 4294967296
def refW (i g : Int) : Int := i + 1 + g * 65536

structure AOp where
  line : Nat
  q : Op
  r : Int
  er : Int
def AOp.new : AOp := ⟨0, Op.new, 0, 14⟩

def alSt (n : Nat) (A : Arn) (s : St) (x : AOp) : St :=
  if x.line = 0 then popSt n A.F s x.q
  else if x.line = 1 then acc n s 1 (A.G + idx A.F.N x.q.W) false 0
  else if x.line = 2 then acc n s 1 A.V false 0
  else s
def alPop (A : Arn) (q : Op) : AOp := ⟨if q.line = 9 then (if idx A.F.N q.W < 0 then 2 else 1) else 0, q, 0, 14⟩
def alOp (n : Nat) (A : Arn) (s : St) (x : AOp) : AOp :=
  if x.line = 0 then alPop A (popOp n A.F s x.q)
  else if x.line = 1 then ⟨9, x.q, refW (idx A.F.N x.q.W) (gen (wordAt n s (A.G + idx A.F.N x.q.W))), 0⟩
  else if x.line = 2 then ⟨9, x.q, 0, if A.F.N ≤ wordAt n s A.V then 12 else 7⟩
  else x

structure FOp where
  line : Nat
  q : Op
  g : Int
  er : Int
def FOp.new : FOp := ⟨0, Op.new, 0, 14⟩
def FOp.bad : FOp := ⟨9, Op.over, 0, 3⟩

def frSt (n : Nat) (A : Arn) (i : Int) (s : St) (x : FOp) : St :=
  if x.line = 0 then acc n s 1 (A.G + i) false 0
  else if x.line = 1 then acc n s 2 (A.G + i) true ((x.g + 1) % 18446744073709551616)
  else if x.line = 2 then pushSt n A.F i s x.q
  else if x.line = 3 then acc n s 4 A.V true (IntKind.u64.wrap (wordAt n s A.V + 1))
  else s
def frPush (q : Op) (g : Int) : FOp := ⟨if q.line = 9 then 9 else 2, q, g, if q.line = 9 then 0 else 14⟩
def frOp (n : Nat) (A : Arn) (i : Int) (s : St) (x : FOp) : FOp :=
  if x.line = 0 then ⟨if A.L ≤ gen (wordAt n s (A.G + i)) then 3 else 1, x.q, wordAt n s (A.G + i), 14⟩
  else if x.line = 1 then ⟨2, x.q, x.g, 14⟩
  else if x.line = 2 then frPush (pushOp n A.F s x.q) x.g
  else if x.line = 3 then ⟨9, x.q, x.g, 0⟩
  else x

structure Arn.Ok (A : Arn) (n : Nat) : Prop where
  F : A.F.Ok n
  L1 : 1 ≤ A.L
  L2 : A.L ≤ 4294967295
  G1 : 0 ≤ A.G
  G2 : A.G + A.F.N ≤ n
  V1 : 0 ≤ A.V
  V2 : A.V < n

structure AGood (A : Arn) (x : AOp) : Prop where
  q : x.q.Good
  l : lines x.q
  t : took A.F x.q
  c : (x.line = 0 ∧ x.q.line ≠ 9 ∧ x.r = 0 ∧ x.er = 14) ∨ (x.line = 1 ∧ x.q.line = 9 ∧ 0 ≤ idx A.F.N x.q.W ∧ x.r = 0 ∧ x.er = 14) ∨ (x.line = 2 ∧ x.q.line = 9 ∧ idx A.F.N x.q.W < 0 ∧ x.r = 0 ∧ x.er = 14) ∨ (x.line = 9 ∧ x.er ≠ 14)
structure FGood (A : Arn) (i : Int) (x : FOp) : Prop where
  q : x.q.Good
  l : lines x.q
  g0 : 0 ≤ x.g
  g1 : x.g < 18446744073709551616
  c : ((x.line = 0 ∨ x.line = 1 ∨ x.line = 2 ∨ x.line = 3) ∧ x.q.line ≠ 9 ∧ x.er = 14 ∧ 0 ≤ i ∧ i < A.F.N) ∨ (x.line = 9 ∧ x.er ≠ 14)

theorem gen_lo (w : Int) : 0 ≤ gen w := by unfold gen; omega
theorem gen_hi (w : Int) : gen w < 4294967296 := by unfold gen; omega
theorem refW_lo (i g : Int) (hi : 0 ≤ i) (hg : 0 ≤ g) : 0 ≤ refW i g := by unfold refW; omega
theorem refW_hi (i g : Int) (hi : i ≤ 65534) (hg : g < 4294967296) : refW i g < 18446744073709551616 := by unfold refW; omega

theorem new_good (A : Arn) : AGood A AOp.new := ⟨⟨by decide, by decide, by decide, by decide⟩, Or.inl rfl, fun h => by rcases h with h | h <;> exact absurd h (by decide), Or.inl ⟨rfl, by decide, rfl, rfl⟩⟩
theorem fnew_good (A : Arn) (i : Int) (h0 : 0 ≤ i) (h1 : i < A.F.N) : FGood A i FOp.new := ⟨⟨by decide, by decide, by decide, by decide⟩, Or.inl rfl, by decide, by decide, Or.inl ⟨Or.inl rfl, by decide, rfl, h0, h1⟩⟩
theorem fbad_good (A : Arn) (i : Int) : FGood A i FOp.bad := ⟨⟨by decide, by decide, by decide, by decide⟩, Or.inr (Or.inr (Or.inr rfl)), by decide, by decide, Or.inr ⟨rfl, by decide⟩⟩

theorem alOp_good {n : Nat} {A : Arn} {s : St} {x : AOp} (hx : AGood A x) (hs : Wd n s) : AGood A (alOp n A s x) := by
  have hq := popOp_good hx.q hx.l hx.t hs
  unfold alOp
  rcases hx.c with ⟨h, h9, hr, he⟩ | ⟨h, h9, hi, hr, he⟩ | ⟨h, h9, hi, hr, he⟩ | ⟨h, he⟩
  · rw [if_pos h]
    refine ⟨hq.1, hq.2.1, hq.2.2, ?_⟩
    unfold alPop
    dsimp only
    by_cases k : (popOp n A.F s x.q).line = 9
    · by_cases j : idx A.F.N (popOp n A.F s x.q).W < 0
      · rw [if_pos k, if_pos j]; exact Or.inr (Or.inr (Or.inl ⟨rfl, k, j, rfl, rfl⟩))
      · rw [if_pos k, if_neg j]; exact Or.inr (Or.inl ⟨rfl, k, by omega, rfl, rfl⟩)
    · rw [if_neg k]; exact Or.inl ⟨rfl, k, rfl, rfl⟩
  · rw [if_neg (by omega), if_pos h]
    exact ⟨hx.q, hx.l, hx.t, Or.inr (Or.inr (Or.inr ⟨rfl, by dsimp only; decide⟩))⟩
  · rw [if_neg (by omega), if_neg (by omega), if_pos h]
    refine ⟨hx.q, hx.l, hx.t, Or.inr (Or.inr (Or.inr ⟨rfl, ?_⟩))⟩
    dsimp only
    split <;> decide
  · rw [if_neg (by omega), if_neg (by omega), if_neg (by omega)]
    exact hx
theorem frOp_good {n : Nat} {A : Arn} {i : Int} {s : St} {x : FOp} (hx : FGood A i x) (hs : Wd n s) : FGood A i (frOp n A i s x) := by
  have hq := pushOp_good (S := A.F) hx.q hx.l hs
  have hw := hs.word (A.G + i)
  unfold frOp
  rcases hx.c with ⟨h, h9, he, i0, i1⟩ | ⟨h, he⟩
  · rcases h with h | h | h | h
    · rw [if_pos h]
      refine ⟨hx.q, hx.l, hw.1, hw.2, Or.inl ⟨?_, h9, rfl, i0, i1⟩⟩
      dsimp only
      split
      · exact Or.inr (Or.inr (Or.inr rfl))
      · exact Or.inr (Or.inl rfl)
    · rw [if_neg (by omega), if_pos h]
      exact ⟨hx.q, hx.l, hx.g0, hx.g1, Or.inl ⟨Or.inr (Or.inr (Or.inl rfl)), h9, rfl, i0, i1⟩⟩
    · rw [if_neg (by omega), if_neg (by omega), if_pos h]
      unfold frPush
      by_cases k : (pushOp n A.F s x.q).line = 9
      · exact ⟨hq.1, hq.2, hx.g0, hx.g1, Or.inr ⟨if_pos k, by dsimp only; rw [if_pos k]; decide⟩⟩
      · exact ⟨hq.1, hq.2, hx.g0, hx.g1, Or.inl ⟨Or.inr (Or.inr (Or.inl (if_neg k))), k, if_neg k, i0, i1⟩⟩
    · rw [if_neg (by omega), if_neg (by omega), if_neg (by omega), if_pos h]
      exact ⟨hx.q, hx.l, hx.g0, hx.g1, Or.inr ⟨rfl, by dsimp only; decide⟩⟩
  · rw [if_neg (by omega), if_neg (by omega), if_neg (by omega), if_neg (by omega)]
    exact hx

theorem apopSt_wd {n : Nat} {S : Stk} {s : St} {x : Op} (h : Wd n s) : Wd n (popSt n S s x) := by
  unfold popSt casSt
  split
  · exact h.acc _ _ _ _ (by omega) (by omega)
  · split
    · exact h.acc _ _ _ _ (by omega) (by omega)
    · split
      · exact h.acc _ _ _ _ (topW_lo _ _ (idx_lo _ _)) (topW_hi _ _ (idx_le _ _))
      · exact h
theorem apushSt_wd {n : Nat} {S : Stk} {s : St} {x : Op} {i : Int} (h : Wd n s) (h0 : -1 ≤ i) (h1 : i ≤ 65534) : Wd n (pushSt n S i s x) := by
  have l := idx_lo S.N x.W
  have l' := idx_le S.N x.W
  unfold pushSt casSt
  split
  · exact h.acc _ _ _ _ (by omega) (by omega)
  · split
    · exact h.acc _ _ _ _ (by omega) (by omega)
    · split
      · exact h.acc _ _ _ _ (topW_lo _ _ h0) (topW_hi _ _ h1)
      · exact h
theorem alSt_wd {n : Nat} {A : Arn} {s : St} {x : AOp} (h : Wd n s) : Wd n (alSt n A s x) := by
  unfold alSt
  split
  · exact apopSt_wd h
  · split
    · exact h.acc _ _ _ _ (by omega) (by omega)
    · split
      · exact h.acc _ _ _ _ (by omega) (by omega)
      · exact h
theorem frSt_wd {n : Nat} {A : Arn} {s : St} {x : FOp} {i : Int} (h : Wd n s) (hx : FGood A i x) (hN : A.F.N ≤ 4096) : Wd n (frSt n A i s x) := by
  unfold frSt
  split
  · exact h.acc _ _ _ _ (by omega) (by omega)
  · split
    · exact h.acc _ _ _ _ (by omega) (by omega)
    · split
      · rename_i h2
        rcases hx.c with ⟨_, _, _, i0, i1⟩ | ⟨h9, _⟩
        · exact apushSt_wd h (by omega) (by omega)
        · omega
      · split
        · exact h.acc _ _ _ _ (by rw [IntKind.wrap_u64]; omega) (by rw [IntKind.wrap_u64]; omega)
        · exact h
theorem apopSt_cnt (n : Nat) (S : Stk) (s : St) (x : Op) : s.cnt ≤ (popSt n S s x).cnt ∧ (popSt n S s x).cnt ≤ s.cnt + 1 := by
  unfold popSt casSt
  repeat' split
  all_goals first | (rw [acc_cnt]; omega) | omega
theorem apushSt_cnt (n : Nat) (S : Stk) (i : Int) (s : St) (x : Op) : s.cnt ≤ (pushSt n S i s x).cnt ∧ (pushSt n S i s x).cnt ≤ s.cnt + 1 := by
  unfold pushSt casSt
  repeat' split
  all_goals first | (rw [acc_cnt]; omega) | omega
theorem alSt_cnt (n : Nat) (A : Arn) (s : St) (x : AOp) : s.cnt ≤ (alSt n A s x).cnt ∧ (alSt n A s x).cnt ≤ s.cnt + 1 := by
  have := apopSt_cnt n A.F s x.q
  unfold alSt
  repeat' split
  all_goals first | (rw [acc_cnt]; omega) | omega
theorem frSt_cnt (n : Nat) (A : Arn) (i : Int) (s : St) (x : FOp) : s.cnt ≤ (frSt n A i s x).cnt ∧ (frSt n A i s x).cnt ≤ s.cnt + 1 := by
  have := apushSt_cnt n A.F i s x.q
  unfold frSt
  repeat' split
  all_goals first | (rw [acc_cnt]; omega) | omega
end Go.Proofs.Ytbonnfofoepjcaa.Sk

namespace Go.Proofs.Ytbonnfofoepjcaa.Sk
open Go.RowKit
open Wo (St acc wordAt)

def alPl (n : Nat) (A : Arn) (s : St) : Nat → St × AOp
  | 0 => (s, AOp.new)
  | k + 1 => (alSt n A (alPl n A s k).1 (alPl n A s k).2, alOp n A (alPl n A s k).1 (alPl n A s k).2)
def frPl (n : Nat) (A : Arn) (i : Int) (s : St) : Nat → St × FOp
  | 0 => (s, FOp.new)
  | k + 1 => (frSt n A i (frPl n A i s k).1 (frPl n A i s k).2, frOp n A i (frPl n A i s k).1 (frPl n A i s k).2)
theorem alPl_good {n : Nat} {A : Arn} {s : St} (hs : Wd n s) : ∀ k, AGood A (alPl n A s k).2 ∧ Wd n (alPl n A s k).1 ∧ s.cnt ≤ (alPl n A s k).1.cnt ∧ (alPl n A s k).1.cnt ≤ s.cnt + k
  | 0 => ⟨new_good A, hs, Int.le_refl _, by show s.cnt ≤ s.cnt + (0 : Nat); omega⟩
  | k + 1 => by
    obtain ⟨a, b, c, d⟩ := alPl_good (A := A) hs k
    have := alSt_cnt n A (alPl n A s k).1 (alPl n A s k).2
    exact ⟨alOp_good a b, alSt_wd b, by show s.cnt ≤ (alSt n A (alPl n A s k).1 (alPl n A s k).2).cnt; omega, by show (alSt n A (alPl n A s k).1 (alPl n A s k).2).cnt ≤ s.cnt + (k + 1 : Nat); omega⟩
theorem frPl_good {n : Nat} {A : Arn} {i : Int} {s : St} (hs : Wd n s) (i0 : 0 ≤ i) (i1 : i < A.F.N) (hN : A.F.N ≤ 4096) : ∀ k, FGood A i (frPl n A i s k).2 ∧ Wd n (frPl n A i s k).1 ∧ s.cnt ≤ (frPl n A i s k).1.cnt ∧ (frPl n A i s k).1.cnt ≤ s.cnt + k
  | 0 => ⟨fnew_good A i i0 i1, hs, Int.le_refl _, by show s.cnt ≤ s.cnt + (0 : Nat); omega⟩
  | k + 1 => by
    obtain ⟨a, b, c, d⟩ := frPl_good (A := A) hs i0 i1 hN k
    have := frSt_cnt n A i (frPl n A i s k).1 (frPl n A i s k).2
    exact ⟨frOp_good a b, frSt_wd b a hN, by show s.cnt ≤ (frSt n A i (frPl n A i s k).1 (frPl n A i s k).2).cnt; omega, by show (frSt n A i (frPl n A i s k).1 (frPl n A i s k).2).cnt ≤ s.cnt + (k + 1 : Nat); omega⟩
end Go.Proofs.Ytbonnfofoepjcaa.Sk
