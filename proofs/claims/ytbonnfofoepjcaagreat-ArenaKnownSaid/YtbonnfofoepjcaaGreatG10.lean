/- The program's All: its step, whatever is next. Written by gen10.py. -/
import Derived.Test.YtbonnfofoepjcaaGreatG06
import Derived.Lib.Hide
import Derived.Deep.Light
import Derived.Deep.RegionHeld3
import Derived.Laws.EntriesVeiled
import Derived.Test.YtbonnfofoepjcaaGreatG07
import Derived.Test.YtbonnfofoepjcaaGreatG08
import Derived.Test.YtbonnfofoepjcaaGreatG09
set_option linter.unusedVariables false
set_option linter.unusedSimpArgs false

namespace Go.Proofs.YtbonnfofoepjcaaGreat.Sk
set_option maxRecDepth 20000
open Go.RowKit
open Wo (St acc wordAt PMem RefIs)
theorem neq_nil_All (w : World) : (binOp .neq 294 .nilFunc .nilFunc).run Tryz.prog w = .ok (.bool false) w := by
  kernel_rfl
theorem neq_func_All (f : Fn) (x y : Array Value) (w : World) : (binOp .neq 294 (.func f x y) .nilFunc).run Tryz.prog w = .ok (.bool true) w := by
  kernel_rfl
theorem eql_nil_All (w : World) : (binOp .eql 294 .nilFunc .nilFunc).run Tryz.prog w = .ok (.bool true) w := by
  kernel_rfl
theorem eql_func_All (f : Fn) (x y : Array Value) (w : World) : (binOp .eql 294 (.func f x y) .nilFunc).run Tryz.prog w = .ok (.bool false) w := by
  kernel_rfl
set_option maxHeartbeats 1000000 in
theorem step_All_find_take (P o M B n : Nat) (S : Stk) (s' : St) (W L W' L' : Int) (er er' : Int) (w : World) (ho : OpAt w P o S W L (.func (.func 238) #[] #[]) er)
    (HC : Hid (Calls Tryz.prog 238 #[.pointer (some ⟨P, o, none⟩), .pointer (some ⟨M, 0, none⟩)] w fun e w' => e = .returned (.tuple #[]) ∧ OpAt w' P o S W' L' (.func (.func 259) #[] #[]) er' ∧ PMem w' M B n s' ∧ Chg P o 8 B w w')) :
    Calls Tryz.prog 260 #[.pointer (some ⟨P, o, none⟩), .pointer (some ⟨P, o, none⟩), .pointer (some ⟨M, 0, none⟩)] w fun e w' => e = .returned (.bool false) ∧ OpAt w' P o S W' L' (.func (.func 259) #[] #[]) er' ∧ PMem w' M B n s' ∧ Chg P o 8 B w w' := by
  have c6 := ho.c6
  have q1 := neq_nil_All
  have q2 := neq_func_All
  have q3 := eql_nil_All
  have q4 := eql_func_All
  clear ho
  go_enter Tryz.func260, Tryz.ntmps260
  go_wp2_with fail
  refine HC.out.mono ?_
  rintro e u1 ⟨rfl, h⟩
  have d6 := h.1.c6
  have H := Lib.hid h
  clear h c6
  go_wp2
  go_ret
  exact ⟨rfl, H.out⟩
set_option maxHeartbeats 1000000 in
theorem step_All_find_end (P o M B n : Nat) (S : Stk) (s' : St) (W L W' L' : Int) (er er' : Int) (w : World) (ho : OpAt w P o S W L (.func (.func 238) #[] #[]) er)
    (HC : Hid (Calls Tryz.prog 238 #[.pointer (some ⟨P, o, none⟩), .pointer (some ⟨M, 0, none⟩)] w fun e w' => e = .returned (.tuple #[]) ∧ OpAt w' P o S W' L' .nilFunc er' ∧ PMem w' M B n s' ∧ Chg P o 8 B w w')) :
    Calls Tryz.prog 260 #[.pointer (some ⟨P, o, none⟩), .pointer (some ⟨P, o, none⟩), .pointer (some ⟨M, 0, none⟩)] w fun e w' => e = .returned (.bool true) ∧ OpAt w' P o S W' L' .nilFunc er' ∧ PMem w' M B n s' ∧ Chg P o 8 B w w' := by
  have c6 := ho.c6
  have q1 := neq_nil_All
  have q2 := neq_func_All
  have q3 := eql_nil_All
  have q4 := eql_func_All
  clear ho
  go_enter Tryz.func260, Tryz.ntmps260
  go_wp2_with fail
  refine HC.out.mono ?_
  rintro e u1 ⟨rfl, h⟩
  have d6 := h.1.c6
  have H := Lib.hid h
  clear h c6
  go_wp2
  go_ret
  exact ⟨rfl, H.out⟩
set_option maxHeartbeats 1000000 in
theorem step_All_take_find (P o M B n : Nat) (S : Stk) (s' : St) (W L W' L' : Int) (er er' : Int) (w : World) (ho : OpAt w P o S W L (.func (.func 259) #[] #[]) er)
    (HC : Hid (Calls Tryz.prog 259 #[.pointer (some ⟨P, o, none⟩), .pointer (some ⟨M, 0, none⟩)] w fun e w' => e = .returned (.tuple #[]) ∧ OpAt w' P o S W' L' (.func (.func 238) #[] #[]) er' ∧ PMem w' M B n s' ∧ Chg P o 8 B w w')) :
    Calls Tryz.prog 260 #[.pointer (some ⟨P, o, none⟩), .pointer (some ⟨P, o, none⟩), .pointer (some ⟨M, 0, none⟩)] w fun e w' => e = .returned (.bool false) ∧ OpAt w' P o S W' L' (.func (.func 238) #[] #[]) er' ∧ PMem w' M B n s' ∧ Chg P o 8 B w w' := by
  have c6 := ho.c6
  have q1 := neq_nil_All
  have q2 := neq_func_All
  have q3 := eql_nil_All
  have q4 := eql_func_All
  clear ho
  go_enter Tryz.func260, Tryz.ntmps260
  go_wp2_with fail
  refine HC.out.mono ?_
  rintro e u1 ⟨rfl, h⟩
  have d6 := h.1.c6
  have H := Lib.hid h
  clear h c6
  go_wp2
  go_ret
  exact ⟨rfl, H.out⟩
set_option maxHeartbeats 1000000 in
theorem step_All_take_end (P o M B n : Nat) (S : Stk) (s' : St) (W L W' L' : Int) (er er' : Int) (w : World) (ho : OpAt w P o S W L (.func (.func 259) #[] #[]) er)
    (HC : Hid (Calls Tryz.prog 259 #[.pointer (some ⟨P, o, none⟩), .pointer (some ⟨M, 0, none⟩)] w fun e w' => e = .returned (.tuple #[]) ∧ OpAt w' P o S W' L' .nilFunc er' ∧ PMem w' M B n s' ∧ Chg P o 8 B w w')) :
    Calls Tryz.prog 260 #[.pointer (some ⟨P, o, none⟩), .pointer (some ⟨P, o, none⟩), .pointer (some ⟨M, 0, none⟩)] w fun e w' => e = .returned (.bool true) ∧ OpAt w' P o S W' L' .nilFunc er' ∧ PMem w' M B n s' ∧ Chg P o 8 B w w' := by
  have c6 := ho.c6
  have q1 := neq_nil_All
  have q2 := neq_func_All
  have q3 := eql_nil_All
  have q4 := eql_func_All
  clear ho
  go_enter Tryz.func260, Tryz.ntmps260
  go_wp2_with fail
  refine HC.out.mono ?_
  rintro e u1 ⟨rfl, h⟩
  have d6 := h.1.c6
  have H := Lib.hid h
  clear h c6
  go_wp2
  go_ret
  exact ⟨rfl, H.out⟩
set_option maxHeartbeats 1000000 in
theorem step_All_over (P o M : Nat) (S : Stk) (W L : Int) (er : Int) (w : World) (ho : OpAt w P o S W L .nilFunc er) :
    Calls Tryz.prog 260 #[.pointer (some ⟨P, o, none⟩), .pointer (some ⟨P, o, none⟩), .pointer (some ⟨M, 0, none⟩)] w fun e w' => e = .returned (.bool true) ∧ w = w' := by
  have c6 := ho.c6
  have q1 := neq_nil_All
  have q2 := neq_func_All
  have q3 := eql_nil_All
  have q4 := eql_func_All
  clear ho
  go_enter Tryz.func260, Tryz.ntmps260
  go_wp2
  go_ret
  exact ⟨rfl, rfl⟩
set_option maxHeartbeats 1000000 in
theorem Step_All (P o : Nat) (V : Value) (b : Bool) (Q : World → Prop) (w : World)
    (HC : Hid (Calls Tryz.prog 260 #[.pointer (some ⟨P, o, none⟩), .pointer (some ⟨P, o, none⟩), V] w fun e w' => e = .returned (.bool b) ∧ Q w')) :
    Calls Tryz.prog 239 #[.pointer (some ⟨P, o, none⟩), V] w fun e w' => e = .returned (.bool b) ∧ Q w' := by
  go_enter Tryz.func239, Tryz.ntmps239
  go_wp2_with fail
  refine HC.out.mono ?_
  rintro e u1 ⟨rfl, h⟩
  have H := Lib.hid h
  clear h
  cases b
  · go_wp2
    go_ret
    exact ⟨rfl, H.out⟩
  · go_wp2
    go_ret
    exact ⟨rfl, H.out⟩
set_option maxHeartbeats 1000000 in
theorem Step_All_nil (V : Value) (w : World) : Calls Tryz.prog 239 #[.pointer none, V] w fun e w' => e = .returned (.bool true) ∧ w = w' := by
  go_enter Tryz.func239, Tryz.ntmps239
  go_wp2
  go_ret
  exact ⟨rfl, rfl⟩
end Go.Proofs.YtbonnfofoepjcaaGreat.Sk

namespace Go.Proofs.YtbonnfofoepjcaaGreat.Sk
set_option maxRecDepth 20000
open Go.RowKit
open Wo (St acc wordAt PMem RefIs)

structure Op.Good (x : Op) : Prop where
  w0 : 0 ≤ x.W
  w1 : x.W < 18446744073709551616
  l0 : 0 ≤ x.L
  l1 : x.L < 18446744073709551616

def nxPop (l : Nat) : Value := if l = 1 then .func (.func 198) #[] #[] else if l = 2 then .func (.func 248) #[] #[] else if l = 3 then .func (.func 268) #[] #[] else .nilFunc
def nxPush (l : Nat) : Value := if l = 1 then .func (.func 148) #[] #[] else if l = 2 then .func (.func 212) #[] #[] else if l = 3 then .func (.func 252) #[] #[] else .nilFunc
def nxAll (l : Nat) : Value := if l = 1 then .func (.func 238) #[] #[] else if l = 2 then .func (.func 259) #[] #[] else .nilFunc

def PopAt (w : World) (P o : Nat) (S : Stk) (x : Op) : Prop := OpAt w P o S x.W x.L (nxPop x.line) (tookE S x)
structure PushAt (w : World) (P o : Nat) (S : Stk) (i e0 : Int) (x : Op) : Prop where
  op : OpAt w P o S x.W x.L (nxPush x.line) (laidE e0 x)
  i : w.cell? ⟨P, o + 8, none⟩ = some (.int .i64 i)
def AllAt (w : World) (P o : Nat) (S : Stk) (x : Op) : Prop := OpAt w P o S x.W x.L (nxAll x.line) (tookE S x)

def Stepped (At : World → Prop) (M B n : Nat) (s' : St) (P o : Nat) (b : Bool) (w : World) (e : Ending) (w' : World) : Prop :=
  e = .returned (.bool b) ∧ At w' ∧ PMem w' M B n s' ∧ Chg P o 8 B w w'

def lines (x : Op) : Prop := x.line = 1 ∨ x.line = 2 ∨ x.line = 3 ∨ x.line = 9

def took (S : Stk) (x : Op) : Prop := (x.line = 2 ∨ x.line = 3) → 0 ≤ idx S.N x.W
theorem no31 : ¬ (3 : Nat) = 1 := by decide
theorem no32 : ¬ (3 : Nat) = 2 := by decide
theorem no91 : ¬ (9 : Nat) = 1 := by decide
theorem no92 : ¬ (9 : Nat) = 2 := by decide
theorem no93 : ¬ (9 : Nat) = 3 := by decide
theorem no21 : ¬ (2 : Nat) = 1 := by decide

theorem popOp_good {n : Nat} {S : Stk} {s : St} {x : Op} (hx : x.Good) (hl : lines x) (ht : took S x) (hs : Wd n s) : (popOp n S s x).Good ∧ lines (popOp n S s x) ∧ took S (popOp n S s x) := by
  obtain ⟨l, W, L⟩ := x
  have w1 := hs.word S.T
  have w2 := hs.word (S.K + idx S.N W)
  unfold popOp
  rcases hl with h | h | h | h
  · obtain rfl : l = 1 := h
    rw [if_pos rfl]
    refine ⟨⟨w1.1, w1.2, hx.l0, hx.l1⟩, ?_, fun h => ?_⟩
    · unfold lines; dsimp only; split <;> simp
    · dsimp only at h ⊢
      split at h
      · omega
      · omega
  · obtain rfl : l = 2 := h
    rw [if_neg no21, if_pos rfl]
    exact ⟨⟨hx.w0, hx.w1, w2.1, w2.2⟩, Or.inr (Or.inr (Or.inl rfl)), fun _ => ht (Or.inl rfl)⟩
  · obtain rfl : l = 3 := h
    rw [if_neg no31, if_neg no32, if_pos rfl]
    refine ⟨⟨hx.w0, hx.w1, hx.l0, hx.l1⟩, ?_, fun _ => ht (Or.inr rfl)⟩
    unfold lines; dsimp only; split <;> simp
  · obtain rfl : l = 9 := h
    rw [if_neg no91, if_neg no92, if_neg no93]
    exact ⟨hx, Or.inr (Or.inr (Or.inr rfl)), ht⟩
theorem allOp_good {n : Nat} {S : Stk} {s : St} {x : Op} (hx : x.Good) (hl : lines x) (h3 : x.line ≠ 3) (ht : took S x) (hs : Wd n s) : (allOp n S s x).Good ∧ lines (allOp n S s x) ∧ (allOp n S s x).line ≠ 3 ∧ took S (allOp n S s x) := by
  obtain ⟨l, W, L⟩ := x
  have w1 := hs.word S.T
  unfold allOp
  rcases hl with h | h | h | h
  · obtain rfl : l = 1 := h
    rw [if_pos rfl]
    refine ⟨⟨w1.1, w1.2, hx.l0, hx.l1⟩, ?_, ?_, fun h => ?_⟩
    · unfold lines; dsimp only; split <;> simp
    · dsimp only; split <;> decide
    · dsimp only at h ⊢
      split at h
      · omega
      · omega
  · obtain rfl : l = 2 := h
    rw [if_neg no21, if_pos rfl]
    refine ⟨⟨hx.w0, hx.w1, hx.l0, hx.l1⟩, ?_, ?_, fun _ => ht (Or.inl rfl)⟩
    · unfold lines; dsimp only; split <;> simp
    · dsimp only; split <;> decide
  · exact absurd h h3
  · obtain rfl : l = 9 := h
    rw [if_neg no91, if_neg no92]
    exact ⟨hx, Or.inr (Or.inr (Or.inr rfl)), h3, ht⟩
theorem pushOp_good {n : Nat} {S : Stk} {s : St} {x : Op} (hx : x.Good) (hl : lines x) (hs : Wd n s) : (pushOp n S s x).Good ∧ lines (pushOp n S s x) := by
  obtain ⟨l, W, L⟩ := x
  have w1 := hs.word S.T
  unfold pushOp
  rcases hl with h | h | h | h
  · obtain rfl : l = 1 := h
    rw [if_pos rfl]
    exact ⟨⟨w1.1, w1.2, hx.l0, hx.l1⟩, Or.inr (Or.inl rfl)⟩
  · obtain rfl : l = 2 := h
    rw [if_neg no21, if_pos rfl]
    exact ⟨⟨hx.w0, hx.w1, hx.l0, hx.l1⟩, Or.inr (Or.inr (Or.inl rfl))⟩
  · obtain rfl : l = 3 := h
    rw [if_neg no31, if_neg no32, if_pos rfl]
    refine ⟨⟨hx.w0, hx.w1, hx.l0, hx.l1⟩, ?_⟩
    unfold lines; dsimp only; split <;> simp
  · obtain rfl : l = 9 := h
    rw [if_neg no91, if_neg no92, if_neg no93]
    exact ⟨hx, Or.inr (Or.inr (Or.inr rfl))⟩

theorem pop_step (P o M B n : Nat) (S : Stk) (s : St) (x : Op) (w : World) (ho : PopAt w P o S x) (hm : PMem w M B n s) (h0 : 0 ≤ s.cnt) (h1 : s.cnt ≤ 1000000) (hPM : P ≠ M) (hPB : P ≠ B) (hx : x.Good) (hl : lines x) (ht : took S x) (hS : S.Ok n) (hs : Wd n s) :
    Calls Tryz.prog 137 #[.pointer (some ⟨P, o, none⟩), .pointer (some ⟨M, 0, none⟩)] w (Stepped (fun w' => PopAt w' P o S (popOp n S s x)) M B n (popSt n S s x) P o ((popOp n S s x).line == 9) w) := by
  obtain ⟨l, W, L⟩ := x
  have wb := hs.word S.T
  rcases hl with h | h | h | h
  · obtain rfl : l = 1 := h
    rcases Int.lt_or_le (idx S.N (wordAt n s S.T)) 0 with hi | hi
    · have e1 : popOp n S s ⟨1, W, L⟩ = ⟨9, wordAt n s S.T, L⟩ := by unfold popOp; rw [if_pos rfl, if_pos hi]
      rw [e1]
      have e2 : tookE S ⟨9, wordAt n s S.T, L⟩ = 15 := by unfold tookE; rw [if_pos rfl, if_pos hi]
      refine (Step_Pop P o _ true _ w (Lib.hid (step_Pop_find_end P o M B n S _ _ _ _ _ _ _ w ho (Lib.hid (find_Pop_none P o M B n S s W L _ w ho hm h0 h1 hPM hPB wb.1 wb.2 hi))))).mono fun e w' ⟨a, b, c, d⟩ => ⟨a, ?_, c, d⟩
      unfold PopAt; rw [e2]; exact b
    · have e1 : popOp n S s ⟨1, W, L⟩ = ⟨2, wordAt n s S.T, L⟩ := by unfold popOp; rw [if_pos rfl, if_neg (by omega)]
      rw [e1]
      exact (Step_Pop P o _ false _ w (Lib.hid (step_Pop_find_look P o M B n S _ _ _ _ _ _ _ w ho (Lib.hid (find_Pop_some P o M B n S s W L _ w ho hm h0 h1 hPM hPB wb.1 wb.2 hi))))).mono fun e w' h => h
  · obtain rfl : l = 2 := h
    exact (Step_Pop P o _ false _ w (Lib.hid (step_Pop_look_take P o M B n S _ _ _ _ _ _ _ w ho (Lib.hid (look_Pop P o M B n S s W L _ w ho hm h0 h1 hPM hPB hx.w0 hx.w1 hS.K1 (by have := hS.K2; have := hS.n2; have := hS.N1; omega)))))).mono fun e w' h => h
  · obtain rfl : l = 3 := h
    cases hq : (wordAt n s S.T == W)
    · have hne : ¬ wordAt n s S.T = W := by simpa using hq
      have e1 : popOp n S s ⟨3, W, L⟩ = ⟨1, W, L⟩ := by unfold popOp; rw [if_neg no31, if_neg no32, if_pos rfl, if_neg hne]
      rw [e1]
      exact (Step_Pop P o _ false _ w (Lib.hid (step_Pop_take_find P o M B n S _ _ _ _ _ _ _ w ho (Lib.hid (take_Pop_no P o M B n S s W L _ w ho hm h0 h1 hPM hPB hx.w0 hx.w1 hS.T1 hS.T2 hx.l0 hx.l1 hq))))).mono fun e w' h => h
    · have he : wordAt n s S.T = W := by simpa using hq
      have e1 : popOp n S s ⟨3, W, L⟩ = ⟨9, W, L⟩ := by unfold popOp; rw [if_neg no31, if_neg no32, if_pos rfl, if_pos he]
      rw [e1]
      refine (Step_Pop P o _ true _ w (Lib.hid (step_Pop_take_end P o M B n S _ _ _ _ _ _ _ w ho (Lib.hid (take_Pop_yes P o M B n S s W L _ w ho hm h0 h1 hPM hPB hx.w0 hx.w1 hS.T1 hS.T2 hx.l0 hx.l1 hq))))).mono fun e w' ⟨a, b, c, d⟩ => ⟨a, ?_, c, d⟩
      have e2 : tookE S ⟨9, W, L⟩ = 0 := by unfold tookE; rw [if_pos rfl, if_neg (by have := ht (Or.inr rfl); dsimp only at this ⊢; omega)]
      unfold PopAt; rw [e2]; exact b
  · obtain rfl : l = 9 := h
    have e1 : popOp n S s ⟨9, W, L⟩ = ⟨9, W, L⟩ := by unfold popOp; rw [if_neg no91, if_neg no92, if_neg no93]
    have e3 : popSt n S s ⟨9, W, L⟩ = s := by unfold popSt; rw [if_neg no91, if_neg no92, if_neg no93]
    rw [e1, e3]
    refine (Step_Pop P o _ true _ w (Lib.hid ((step_Pop_over P o M S W L _ w ho).mono fun e w' h => h))).mono fun e w' ⟨a, b⟩ => ?_
    subst b
    exact ⟨a, ho, hm, Chg.refl _ _ _ _ _⟩

theorem push_step (P o M B n : Nat) (S : Stk) (i e0 : Int) (s : St) (x : Op) (w : World) (ho : PushAt w P o S i e0 x) (hm : PMem w M B n s) (h0 : 0 ≤ s.cnt) (h1 : s.cnt ≤ 1000000) (hPM : P ≠ M) (hPB : P ≠ B) (hx : x.Good) (hl : lines x) (hS : S.Ok n) (hs : Wd n s)
    (hi : x.line ≠ 9 → 0 ≤ i ∧ i < S.N ∧ e0 = 0) :
    Calls Tryz.prog 85 #[.pointer (some ⟨P, o, none⟩), .pointer (some ⟨M, 0, none⟩)] w (Stepped (fun w' => PushAt w' P o S i e0 (pushOp n S s x)) M B n (pushSt n S i s x) P o ((pushOp n S s x).line == 9) w) := by
  obtain ⟨l, W, L⟩ := x
  obtain ⟨ho, c8⟩ := ho
  have n2 := hS.N2
  rcases hl with h | h | h | h
  · obtain rfl : l = 1 := h
    exact (Step_Push P o _ false _ w (Lib.hid (step_Push_find_tie P o M B n S _ _ _ _ _ _ _ w ho (Lib.hid (find_Push P o M B n S s W L _ w ho hm h0 h1 hPM hPB))))).mono fun e w' ⟨a, b, c, d⟩ => ⟨a, ⟨b, d.some c8 (by omega)⟩, c, d⟩
  · obtain rfl : l = 2 := h
    obtain ⟨i0, i1, _⟩ := hi (by simp)
    exact (Step_Push P o _ false _ w (Lib.hid (step_Push_tie_lay P o M B n S _ _ _ _ _ _ _ w ho (Lib.hid (tie_Push P o M B n S s W L _ w ho hm h0 h1 hPM hPB hx.w0 hx.w1 i c8 i0 (by omega) hS.K1 (by have := hS.K2; have := hS.n2; have := hS.N1; omega)))))).mono fun e w' ⟨a, b, c, d⟩ => ⟨a, ⟨b, d.some c8 (by omega)⟩, c, d⟩
  · obtain rfl : l = 3 := h
    obtain ⟨i0, i1, rfl⟩ := hi (by simp)
    cases hq : (wordAt n s S.T == W)
    · have hne : ¬ wordAt n s S.T = W := by simpa using hq
      have e1 : pushOp n S s ⟨3, W, L⟩ = ⟨1, W, L⟩ := by unfold pushOp; rw [if_neg no31, if_neg no32, if_pos rfl, if_neg hne]
      rw [e1]
      exact (Step_Push P o _ false _ w (Lib.hid (step_Push_lay_find P o M B n S _ _ _ _ _ _ _ w ho (Lib.hid (lay_Push_no P o M B n S s W L _ w ho hm h0 h1 hPM hPB hx.w0 hx.w1 hS.T1 hS.T2 i c8 i0 (by omega) hq))))).mono fun e w' ⟨a, b, c, d⟩ => ⟨a, ⟨b, d.some c8 (by omega)⟩, c, d⟩
    · have he : wordAt n s S.T = W := by simpa using hq
      have e1 : pushOp n S s ⟨3, W, L⟩ = ⟨9, W, L⟩ := by unfold pushOp; rw [if_neg no31, if_neg no32, if_pos rfl, if_pos he]
      rw [e1]
      exact (Step_Push P o _ true _ w (Lib.hid (step_Push_lay_end P o M B n S _ _ _ _ _ _ _ w ho (Lib.hid (lay_Push_yes P o M B n S s W L _ w ho hm h0 h1 hPM hPB hx.w0 hx.w1 hS.T1 hS.T2 i c8 i0 (by omega) hq))))).mono fun e w' ⟨a, b, c, d⟩ => ⟨a, ⟨b, d.some c8 (by omega)⟩, c, d⟩
  · obtain rfl : l = 9 := h
    have e1 : pushOp n S s ⟨9, W, L⟩ = ⟨9, W, L⟩ := by unfold pushOp; rw [if_neg no91, if_neg no92, if_neg no93]
    have e3 : pushSt n S i s ⟨9, W, L⟩ = s := by unfold pushSt; rw [if_neg no91, if_neg no92, if_neg no93]
    rw [e1, e3]
    refine (Step_Push P o _ true _ w (Lib.hid ((step_Push_over P o M S W L _ w ho).mono fun e w' h => h))).mono fun e w' ⟨a, b⟩ => ?_
    subst b
    exact ⟨a, ⟨ho, c8⟩, hm, Chg.refl _ _ _ _ _⟩

theorem all_step (P o M B n : Nat) (S : Stk) (s : St) (x : Op) (w : World) (ho : AllAt w P o S x) (hm : PMem w M B n s) (h0 : 0 ≤ s.cnt) (h1 : s.cnt ≤ 1000000) (hPM : P ≠ M) (hPB : P ≠ B) (hx : x.Good) (hl : lines x) (h3 : x.line ≠ 3) (ht : took S x) (hS : S.Ok n) (hs : Wd n s) :
    Calls Tryz.prog 239 #[.pointer (some ⟨P, o, none⟩), .pointer (some ⟨M, 0, none⟩)] w (Stepped (fun w' => AllAt w' P o S (allOp n S s x)) M B n (allSt n S s x) P o ((allOp n S s x).line == 9) w) := by
  obtain ⟨l, W, L⟩ := x
  have wb := hs.word S.T
  rcases hl with h | h | h | h
  · obtain rfl : l = 1 := h
    rcases Int.lt_or_le (idx S.N (wordAt n s S.T)) 0 with hi | hi
    · have e1 : allOp n S s ⟨1, W, L⟩ = ⟨9, wordAt n s S.T, L⟩ := by unfold allOp; rw [if_pos rfl, if_pos hi]
      rw [e1]
      have e2 : tookE S ⟨9, wordAt n s S.T, L⟩ = 15 := by unfold tookE; rw [if_pos rfl, if_pos hi]
      refine (Step_All P o _ true _ w (Lib.hid (step_All_find_end P o M B n S _ _ _ _ _ _ _ w ho (Lib.hid (find_All_none P o M B n S s W L _ w ho hm h0 h1 hPM hPB wb.1 wb.2 hi))))).mono fun e w' ⟨a, b, c, d⟩ => ⟨a, ?_, c, d⟩
      unfold AllAt; rw [e2]; exact b
    · have e1 : allOp n S s ⟨1, W, L⟩ = ⟨2, wordAt n s S.T, L⟩ := by unfold allOp; rw [if_pos rfl, if_neg (by omega)]
      rw [e1]
      exact (Step_All P o _ false _ w (Lib.hid (step_All_find_take P o M B n S _ _ _ _ _ _ _ w ho (Lib.hid (find_All_some P o M B n S s W L _ w ho hm h0 h1 hPM hPB wb.1 wb.2 hi))))).mono fun e w' h => h
  · obtain rfl : l = 2 := h
    cases hq : (wordAt n s S.T == W)
    · have hne : ¬ wordAt n s S.T = W := by simpa using hq
      have e1 : allOp n S s ⟨2, W, L⟩ = ⟨1, W, L⟩ := by unfold allOp; rw [if_neg no21, if_pos rfl, if_neg hne]
      rw [e1]
      exact (Step_All P o _ false _ w (Lib.hid (step_All_take_find P o M B n S _ _ _ _ _ _ _ w ho (Lib.hid (take_All_no P o M B n S s W L _ w ho hm h0 h1 hPM hPB hx.w0 hx.w1 hS.T1 hS.T2 hq))))).mono fun e w' h => h
    · have he : wordAt n s S.T = W := by simpa using hq
      have e1 : allOp n S s ⟨2, W, L⟩ = ⟨9, W, L⟩ := by unfold allOp; rw [if_neg no21, if_pos rfl, if_pos he]
      rw [e1]
      refine (Step_All P o _ true _ w (Lib.hid (step_All_take_end P o M B n S _ _ _ _ _ _ _ w ho (Lib.hid (take_All_yes P o M B n S s W L _ w ho hm h0 h1 hPM hPB hx.w0 hx.w1 hS.T1 hS.T2 hq))))).mono fun e w' ⟨a, b, c, d⟩ => ⟨a, ?_, c, d⟩
      have e2 : tookE S ⟨9, W, L⟩ = 0 := by unfold tookE; rw [if_pos rfl, if_neg (by have := ht (Or.inl rfl); dsimp only at this ⊢; omega)]
      unfold AllAt; rw [e2]; exact b
  · exact absurd h h3
  · obtain rfl : l = 9 := h
    have e1 : allOp n S s ⟨9, W, L⟩ = ⟨9, W, L⟩ := by unfold allOp; rw [if_neg no91, if_neg no92]
    have e3 : allSt n S s ⟨9, W, L⟩ = s := by unfold allSt; rw [if_neg no91, if_neg no92]
    rw [e1, e3]
    refine (Step_All P o _ true _ w (Lib.hid ((step_All_over P o M S W L _ w ho).mono fun e w' h => h))).mono fun e w' ⟨a, b⟩ => ?_
    subst b
    exact ⟨a, ho, hm, Chg.refl _ _ _ _ _⟩

theorem pop_told (P o : Nat) (S : Stk) (x : Op) (w : World) (ho : PopAt w P o S x) (hx : x.Good) : Calls Tryz.prog 203 #[.pointer (some ⟨P, o, none⟩)] w fun e w' => e = .returned (.tuple #[.int .i64 (tookI S x), .int .i64 (tookE S x)]) ∧ Kept w w' := by
  have hc : Calls Tryz.prog 249 #[.pointer (some ⟨P, o, none⟩)] w fun e w' => e = .returned (.tuple #[.int .i64 (tookI S x), .int .i64 (tookE S x)]) ∧ Kept w w' := by
    by_cases he : tookE S x = 0
    · have hl : x.line = 9 ∧ 0 ≤ idx S.N x.W := by
        unfold tookE at he
        split at he
        · rename_i h9
          refine ⟨h9, ?_⟩
          split at he
          · exact absurd he (by decide)
          · omega
        · exact absurd he (by decide)
      have ei : tookI S x = idx S.N x.W := by unfold tookI; rw [if_pos hl]
      rw [ei, he]
      unfold PopAt at ho
      rw [he] at ho
      exact taken_Pop_ok P o S _ _ _ w ho hx.w0 hx.w1
    · have ei : tookI S x = 0 := by
        unfold tookI
        split
        · rename_i h
          exact absurd (by unfold tookE; rw [if_pos h.1, if_neg (by omega)]) he
        · rfl
      rw [ei]
      exact taken_Pop_err P o S _ _ _ _ w ho (by simpa using he)
  have HC := Lib.hid hc
  clear hc ho
  go_enter Tryz.func203, Tryz.ntmps203
  go_wp2_with fail
  refine HC.out.mono ?_
  rintro e w' ⟨rfl, k⟩
  go_wp2
  go_ret2
  exact ⟨rfl, k⟩

theorem all_told (P o : Nat) (S : Stk) (x : Op) (w : World) (ho : AllAt w P o S x) (hx : x.Good) : Calls Tryz.prog 240 #[.pointer (some ⟨P, o, none⟩)] w fun e w' => e = .returned (.tuple #[.int .i64 (tookI S x), .int .i64 (tookE S x)]) ∧ Kept w w' := by
  have hc : Calls Tryz.prog 261 #[.pointer (some ⟨P, o, none⟩)] w fun e w' => e = .returned (.tuple #[.int .i64 (tookI S x), .int .i64 (tookE S x)]) ∧ Kept w w' := by
    by_cases he : tookE S x = 0
    · have hl : x.line = 9 ∧ 0 ≤ idx S.N x.W := by
        unfold tookE at he
        split at he
        · rename_i h9
          refine ⟨h9, ?_⟩
          split at he
          · exact absurd he (by decide)
          · omega
        · exact absurd he (by decide)
      have ei : tookI S x = idx S.N x.W := by unfold tookI; rw [if_pos hl]
      rw [ei, he]
      unfold AllAt at ho
      rw [he] at ho
      exact taken_All_ok P o S _ _ _ w ho hx.w0 hx.w1
    · have ei : tookI S x = 0 := by
        unfold tookI
        split
        · rename_i h
          exact absurd (by unfold tookE; rw [if_pos h.1, if_neg (by omega)]) he
        · rfl
      rw [ei]
      exact taken_All_err P o S _ _ _ _ w ho (by simpa using he)
  have HC := Lib.hid hc
  clear hc ho
  go_enter Tryz.func240, Tryz.ntmps240
  go_wp2_with fail
  refine HC.out.mono ?_
  rintro e w' ⟨rfl, k⟩
  go_wp2
  go_ret2
  exact ⟨rfl, k⟩

theorem push_told (P o : Nat) (S : Stk) (i e0 : Int) (x : Op) (w : World) (ho : PushAt w P o S i e0 x) : Calls Tryz.prog 83 #[.pointer (some ⟨P, o, none⟩)] w fun e w' => e = .returned (.int .i64 (laidE e0 x)) ∧ w = w' := by
  have HC := Lib.hid (outcome_Push P o S x.W x.L _ _ w ho.op)
  clear ho
  go_enter Tryz.func83, Tryz.ntmps83
  go_wp2_with fail
  refine HC.out.mono ?_
  rintro e w' ⟨rfl, rfl⟩
  go_wp2
  go_ret
  exact ⟨rfl, rfl⟩

theorem begun_Pop (S : Stk) (w : World) : Calls Tryz.prog 197 #[.agg #[.int .i64 S.T, .int .i64 S.K, .int .i64 S.N], .func (.func 198) #[] #[]] w
    fun e w' => e = .returned (.agg #[.bool true, .int .i64 S.T, .int .i64 S.K, .int .i64 S.N, .int .u64 0, .int .u64 0, .func (.func 198) #[] #[], .int .i64 14]) ∧ Kept w w' := by
  go_enter Tryz.func197, Tryz.ntmps197
  go_wp2
  refine bodyPost_ret (v := .agg #[.bool true, .int .i64 S.T, .int .i64 S.K, .int .i64 S.N, .int .u64 0, .int .u64 0, .func (.func 198) #[] #[], .int .i64 14]) (by simp [results, Tryz.results197, go_sem]) rfl ⟨rfl, ?_⟩
  (go_light; repeat (first | (with_reducible exact Kept.refl _) | (with_reducible assumption) | (with_reducible refine Kept.alloc ?_ _ _) | (with_reducible refine Kept.drew ?_) | (with_reducible refine Kept.drewN ?_ _) | ((with_reducible refine Kept.setCell ?_ ?_ _); rotate_left; focus (first | (simp; done) | (simp; omega))) | refine Kept.trans ?_ (by assumption)))

theorem begun_Push (S : Stk) (w : World) : Calls Tryz.prog 147 #[.agg #[.int .i64 S.T, .int .i64 S.K, .int .i64 S.N], .func (.func 148) #[] #[]] w
    fun e w' => e = .returned (.agg #[.bool true, .int .i64 S.T, .int .i64 S.K, .int .i64 S.N, .int .u64 0, .int .u64 0, .func (.func 148) #[] #[], .int .i64 14]) ∧ Kept w w' := by
  go_enter Tryz.func147, Tryz.ntmps147
  go_wp2
  refine bodyPost_ret (v := .agg #[.bool true, .int .i64 S.T, .int .i64 S.K, .int .i64 S.N, .int .u64 0, .int .u64 0, .func (.func 148) #[] #[], .int .i64 14]) (by simp [results, Tryz.results147, go_sem]) rfl ⟨rfl, ?_⟩
  (go_light; repeat (first | (with_reducible exact Kept.refl _) | (with_reducible assumption) | (with_reducible refine Kept.alloc ?_ _ _) | (with_reducible refine Kept.drew ?_) | (with_reducible refine Kept.drewN ?_ _) | ((with_reducible refine Kept.setCell ?_ ?_ _); rotate_left; focus (first | (simp; done) | (simp; omega))) | refine Kept.trans ?_ (by assumption)))

theorem begun_All (S : Stk) (w : World) : Calls Tryz.prog 237 #[.agg #[.int .i64 S.T, .int .i64 S.K, .int .i64 S.N], .func (.func 238) #[] #[]] w
    fun e w' => e = .returned (.agg #[.bool true, .int .i64 S.T, .int .i64 S.K, .int .i64 S.N, .int .u64 0, .int .u64 0, .func (.func 238) #[] #[], .int .i64 14]) ∧ Kept w w' := by
  go_enter Tryz.func237, Tryz.ntmps237
  go_wp2
  refine bodyPost_ret (v := .agg #[.bool true, .int .i64 S.T, .int .i64 S.K, .int .i64 S.N, .int .u64 0, .int .u64 0, .func (.func 238) #[] #[], .int .i64 14]) (by simp [results, Tryz.results237, go_sem]) rfl ⟨rfl, ?_⟩
  (go_light; repeat (first | (with_reducible exact Kept.refl _) | (with_reducible assumption) | (with_reducible refine Kept.alloc ?_ _ _) | (with_reducible refine Kept.drew ?_) | (with_reducible refine Kept.drewN ?_ _) | ((with_reducible refine Kept.setCell ?_ ?_ _); rotate_left; focus (first | (simp; done) | (simp; omega))) | refine Kept.trans ?_ (by assumption)))

def Made (At : World → Nat → Prop) (w : World) (e : Ending) (w' : World) : Prop :=
  ∃ P, e = .returned (.pointer (some ⟨P, 0, none⟩)) ∧ w.heap.size ≤ P ∧ P < w'.heap.size ∧ At w' P ∧ Kept w w'
theorem newPop_any (S : Stk) (w : World) : Calls Tryz.prog 127 #[.agg #[.int .i64 S.T, .int .i64 S.K, .int .i64 S.N]] w (Made (fun w P => PopAt w P 0 S Op.new) w) := by
  go_enter Tryz.func127, Tryz.ntmps127
  go_wp2_with fail
  refine (begun_Pop S _).mono ?_
  rintro e w1 ⟨rfl, k1⟩
  go_wp2
  go_ret
  go_light
  have hz := k1.size
  simp at hz
  refine ⟨w1.heap.size, rfl, by omega, by simp, ?_, by (go_light; repeat (first | (with_reducible exact Kept.refl _) | (with_reducible assumption) | (with_reducible refine Kept.alloc ?_ _ _) | (with_reducible refine Kept.drew ?_) | (with_reducible refine Kept.drewN ?_ _) | ((with_reducible refine Kept.setCell ?_ ?_ _); rotate_left; focus (first | (simp; done) | (simp; omega))) | refine Kept.trans ?_ (by assumption)))⟩
  refine ⟨?_, ?_, ?_, ?_, ?_, ?_, ?_, ?_, fun i => ?_⟩ <;> (simp [Op.new, nxPop, tookE]; done)
theorem newAll_any (S : Stk) (w : World) : Calls Tryz.prog 183 #[.agg #[.int .i64 S.T, .int .i64 S.K, .int .i64 S.N]] w (Made (fun w P => AllAt w P 0 S Op.new) w) := by
  go_enter Tryz.func183, Tryz.ntmps183
  go_wp2_with fail
  refine (begun_All S _).mono ?_
  rintro e w1 ⟨rfl, k1⟩
  go_wp2
  go_ret
  go_light
  have hz := k1.size
  simp at hz
  refine ⟨w1.heap.size, rfl, by omega, by simp, ?_, by (go_light; repeat (first | (with_reducible exact Kept.refl _) | (with_reducible assumption) | (with_reducible refine Kept.alloc ?_ _ _) | (with_reducible refine Kept.drew ?_) | (with_reducible refine Kept.drewN ?_ _) | ((with_reducible refine Kept.setCell ?_ ?_ _); rotate_left; focus (first | (simp; done) | (simp; omega))) | refine Kept.trans ?_ (by assumption)))⟩
  refine ⟨?_, ?_, ?_, ?_, ?_, ?_, ?_, ?_, fun i => ?_⟩ <;> (simp [Op.new, nxAll, tookE]; done)
theorem newPush_in (S : Stk) (i : Int) (h0 : 0 ≤ i) (h1 : i < S.N) (h2 : i ≤ 65534) (w : World) : Calls Tryz.prog 80 #[.agg #[.int .i64 S.T, .int .i64 S.K, .int .i64 S.N], .int .i64 i] w (Made (fun w P => PushAt w P 0 S i 0 Op.new) w) := by
  go_enter Tryz.func80, Tryz.ntmps80
  go_wp2_with fail
  refine (begun_Push S _).mono ?_
  rintro e w1 ⟨rfl, k1⟩
  have hz := k1.size
  simp at hz
  have a0 : w1.cell? ⟨w.heap.size, 0, none⟩ = some (.int .i64 S.T) := k1.some (by simp)
  have a1 : w1.cell? ⟨w.heap.size, 1, none⟩ = some (.int .i64 S.K) := k1.some (by simp)
  have a2 : w1.cell? ⟨w.heap.size, 2, none⟩ = some (.int .i64 S.N) := k1.some (by simp)
  have z1 : w.heap.size < w1.heap.size := by omega
  have K1 : Hid (Kept w w1) := Lib.hid (by (go_light; repeat (first | (with_reducible exact Kept.refl _) | (with_reducible assumption) | (with_reducible refine Kept.alloc ?_ _ _) | (with_reducible refine Kept.drew ?_) | (with_reducible refine Kept.drewN ?_ _) | ((with_reducible refine Kept.setCell ?_ ?_ _); rotate_left; focus (first | (simp; done) | (simp; omega))) | refine Kept.trans ?_ (by assumption))))
  clear k1 hz
  go_wp2_with fail
  refine (place_yes S.T S.K S.N i _ h0 h1 h2).mono ?_
  rintro e w2 ⟨rfl, k2⟩
  have K2 := Lib.hid k2
  clear k2
  go_wp2
  go_ret
  have k1 := K1.out
  have k2 := K2.out
  have hz := k2.size
  simp at hz
  refine ⟨w1.heap.size, rfl, by omega, by omega, ⟨OpAt.kept (w := w1.alloc _) (by refine ⟨?_, ?_, ?_, ?_, ?_, ?_, ?_, ?_, fun i => ?_⟩ <;> (simp [Op.new, nxPush, laidE]; done)) k2, k2.some (by simp)⟩, by (go_light; repeat (first | (with_reducible exact Kept.refl _) | (with_reducible assumption) | (with_reducible refine Kept.alloc ?_ _ _) | (with_reducible refine Kept.drew ?_) | (with_reducible refine Kept.drewN ?_ _) | ((with_reducible refine Kept.setCell ?_ ?_ _); rotate_left; focus (first | (simp; done) | (simp; omega))) | refine Kept.trans ?_ (by assumption)))⟩
theorem newPush_out (S : Stk) (i : Int) (h : i < 0 ∨ S.N ≤ i) (w : World) : Calls Tryz.prog 80 #[.agg #[.int .i64 S.T, .int .i64 S.K, .int .i64 S.N], .int .i64 i] w (Made (fun w P => PushAt w P 0 S i 3 Op.over) w) := by
  go_enter Tryz.func80, Tryz.ntmps80
  go_wp2_with fail
  refine (begun_Push S _).mono ?_
  rintro e w1 ⟨rfl, k1⟩
  have hz := k1.size
  simp at hz
  have a0 : w1.cell? ⟨w.heap.size, 0, none⟩ = some (.int .i64 S.T) := k1.some (by simp)
  have a1 : w1.cell? ⟨w.heap.size, 1, none⟩ = some (.int .i64 S.K) := k1.some (by simp)
  have a2 : w1.cell? ⟨w.heap.size, 2, none⟩ = some (.int .i64 S.N) := k1.some (by simp)
  have z1 : w.heap.size < w1.heap.size := by omega
  have K1 : Hid (Kept w w1) := Lib.hid (by (go_light; repeat (first | (with_reducible exact Kept.refl _) | (with_reducible assumption) | (with_reducible refine Kept.alloc ?_ _ _) | (with_reducible refine Kept.drew ?_) | (with_reducible refine Kept.drewN ?_ _) | ((with_reducible refine Kept.setCell ?_ ?_ _); rotate_left; focus (first | (simp; done) | (simp; omega))) | refine Kept.trans ?_ (by assumption))))
  clear k1 hz
  go_wp2_with fail
  refine (place_no S.T S.K S.N i _ h).mono ?_
  rintro e w2 ⟨rfl, k2⟩
  have hz := k2.size
  simp at hz
  have o2 : OpAt w2 w1.heap.size 0 S 0 0 (nxPush 1) 14 := OpAt.kept (w := w1.alloc _) (by refine ⟨?_, ?_, ?_, ?_, ?_, ?_, ?_, ?_, fun i => ?_⟩ <;> (simp [nxPush]; done)) k2
  have c8 : w2.cell? ⟨w1.heap.size, 8, none⟩ = some (.int .i64 i) := k2.some (by simp)
  have K2 : Hid (Kept w w2) := Lib.hid (by have k1 := K1.out; (go_light; repeat (first | (with_reducible exact Kept.refl _) | (with_reducible assumption) | (with_reducible refine Kept.alloc ?_ _ _) | (with_reducible refine Kept.drew ?_) | (with_reducible refine Kept.drewN ?_ _) | ((with_reducible refine Kept.setCell ?_ ?_ _); rotate_left; focus (first | (simp; done) | (simp; omega))) | refine Kept.trans ?_ (by assumption))))
  have z2 : w1.heap.size < w2.heap.size := by omega
  clear k2 hz
  go_wp2_with fail
  refine (end_Push w1.heap.size 0 S 0 0 _ 14 3 _ o2).mono ?_
  rintro e w3 ⟨rfl, o3, g3⟩
  have O3 := Lib.hid o3
  have G3 := Lib.hid g3
  clear o3 g3 o2
  go_wp2
  go_ret
  exact ⟨w1.heap.size, rfl, by omega, O3.out.lt, ⟨O3.out, G3.out.some c8 (by omega)⟩, But.kept ((K2.out.but (fun k => k = w1.heap.size)).trans G3.out.own (fun _ _ h => h)) (fun k hk h => by omega)⟩
end Go.Proofs.YtbonnfofoepjcaaGreat.Sk
