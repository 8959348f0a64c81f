/- The document's operations by their lines: Pop, Push, All: each step, what they have come to, and how they are made. Written by gen10r.py. -/
import Derived.Test.YtfcompikbeebaaaG12
import Derived.Test.YtfcompikbeebaaaG11
import Derived.Lib.Hide
import Derived.Deep.Light
set_option linter.unusedVariables false
set_option linter.unusedSimpArgs false

namespace Go.Proofs.Ytfcompikbeebaaa.Sk
set_option maxRecDepth 20000
open Go.RowKit
open Wo (St acc wordAt PMem RefIs)

def RPopC (w : World) (Q : Nat) (S : Stk) (l W I J : Int) : Prop := w.cell? ⟨Q, 0, none⟩ = some (.int .i64 S.T) ∧ w.cell? ⟨Q, 1, none⟩ = some (.int .i64 S.K) ∧ w.cell? ⟨Q, 2, none⟩ = some (.int .i64 S.N) ∧ w.cell? ⟨Q, 3, none⟩ = some (.int .i64 l) ∧ w.cell? ⟨Q, 4, none⟩ = some (.int .u64 W) ∧ w.cell? ⟨Q, 5, none⟩ = some (.int .i64 I) ∧ w.cell? ⟨Q, 6, none⟩ = some (.int .i64 J)
def RPushC (w : World) (Q : Nat) (S : Stk) (l W i E : Int) : Prop := w.cell? ⟨Q, 0, none⟩ = some (.int .i64 S.T) ∧ w.cell? ⟨Q, 1, none⟩ = some (.int .i64 S.K) ∧ w.cell? ⟨Q, 2, none⟩ = some (.int .i64 S.N) ∧ w.cell? ⟨Q, 3, none⟩ = some (.int .i64 l) ∧ w.cell? ⟨Q, 4, none⟩ = some (.int .u64 W) ∧ w.cell? ⟨Q, 5, none⟩ = some (.int .i64 i) ∧ w.cell? ⟨Q, 6, none⟩ = some (.int .i64 E)
def RAllC (w : World) (Q : Nat) (S : Stk) (l W I : Int) : Prop := w.cell? ⟨Q, 0, none⟩ = some (.int .i64 S.T) ∧ w.cell? ⟨Q, 1, none⟩ = some (.int .i64 S.K) ∧ w.cell? ⟨Q, 2, none⟩ = some (.int .i64 S.N) ∧ w.cell? ⟨Q, 3, none⟩ = some (.int .i64 l) ∧ w.cell? ⟨Q, 4, none⟩ = some (.int .u64 W) ∧ w.cell? ⟨Q, 5, none⟩ = some (.int .i64 I)
structure RPopAt (w : World) (Q : Nat) (S : Stk) (x : Op) : Prop where
  c : ∃ I J, RPopC w Q S x.line x.W I J ∧ (x.line ≠ 1 → I = idx S.N x.W) ∧ (x.line = 3 → J = idx S.N x.L)
  f : ∀ i, w.frozen? ⟨Q, i, none⟩ = false
structure RPushAt (w : World) (Q : Nat) (S : Stk) (i e0 : Int) (x : Op) : Prop where
  c : RPushC w Q S x.line x.W i e0
  f : ∀ i, w.frozen? ⟨Q, i, none⟩ = false
structure RAllAt (w : World) (Q : Nat) (S : Stk) (x : Op) : Prop where
  c : ∃ I, RAllC w Q S x.line x.W I ∧ (x.line ≠ 1 → I = idx S.N x.W)
  f : ∀ i, w.frozen? ⟨Q, i, none⟩ = false

theorem RPopC.frame {w w' : World} {Q : Nat} {S : Stk} {l W I J : Int} (h : RPopC w Q S l W I J) {T : Nat → Prop} (hb : But T w w') (hQ : ¬ T Q) : RPopC w' Q S l W I J := by
  obtain ⟨h0, h1, h2, h3, h4, h5, h6⟩ := h
  exact ⟨hb.some h0 hQ, hb.some h1 hQ, hb.some h2 hQ, hb.some h3 hQ, hb.some h4 hQ, hb.some h5 hQ, hb.some h6 hQ⟩
theorem RPopC.lt {w : World} {Q : Nat} {S : Stk} {l W I J : Int} (h : RPopC w Q S l W I J) : Q < w.heap.size := lt_of_cell h.1
theorem RPushC.frame {w w' : World} {Q : Nat} {S : Stk} {l W I J : Int} (h : RPushC w Q S l W I J) {T : Nat → Prop} (hb : But T w w') (hQ : ¬ T Q) : RPushC w' Q S l W I J := by
  obtain ⟨h0, h1, h2, h3, h4, h5, h6⟩ := h
  exact ⟨hb.some h0 hQ, hb.some h1 hQ, hb.some h2 hQ, hb.some h3 hQ, hb.some h4 hQ, hb.some h5 hQ, hb.some h6 hQ⟩
theorem RPushC.lt {w : World} {Q : Nat} {S : Stk} {l W I J : Int} (h : RPushC w Q S l W I J) : Q < w.heap.size := lt_of_cell h.1
theorem RAllC.frame {w w' : World} {Q : Nat} {S : Stk} {l W I : Int} (h : RAllC w Q S l W I) {T : Nat → Prop} (hb : But T w w') (hQ : ¬ T Q) : RAllC w' Q S l W I := by
  obtain ⟨h0, h1, h2, h3, h4, h5⟩ := h
  exact ⟨hb.some h0 hQ, hb.some h1 hQ, hb.some h2 hQ, hb.some h3 hQ, hb.some h4 hQ, hb.some h5 hQ⟩
theorem RAllC.lt {w : World} {Q : Nat} {S : Stk} {l W I : Int} (h : RAllC w Q S l W I) : Q < w.heap.size := lt_of_cell h.1
theorem RPopAt.lt {w : World} {Q : Nat} {S : Stk} {x : Op} (h : RPopAt w Q S x) : Q < w.heap.size := by
  obtain ⟨_, _, h, _⟩ := h.c
  exact h.lt
theorem RPushAt.lt {w : World} {Q : Nat} {S : Stk} {i e0 : Int} {x : Op} (h : RPushAt w Q S i e0 x) : Q < w.heap.size := h.c.lt
theorem RAllAt.lt {w : World} {Q : Nat} {S : Stk} {x : Op} (h : RAllAt w Q S x) : Q < w.heap.size := by
  obtain ⟨_, h, _⟩ := h.c
  exact h.lt
theorem RPopAt.frame {w w' : World} {Q : Nat} {S : Stk} {x : Op} (h : RPopAt w Q S x) {T : Nat → Prop} (hb : But T w w') (hQ : ¬ T Q) : RPopAt w' Q S x := by
  have hl := h.lt
  obtain ⟨⟨I, J, c, a, b⟩, f⟩ := h
  exact ⟨⟨I, J, c.frame hb hQ, a, b⟩, fun i => hb.soft hl (f i)⟩
theorem RPushAt.frame {w w' : World} {Q : Nat} {S : Stk} {i e0 : Int} {x : Op} (h : RPushAt w Q S i e0 x) {T : Nat → Prop} (hb : But T w w') (hQ : ¬ T Q) : RPushAt w' Q S i e0 x :=
  ⟨h.c.frame hb hQ, fun i => hb.soft h.lt (h.f i)⟩
theorem RAllAt.frame {w w' : World} {Q : Nat} {S : Stk} {x : Op} (h : RAllAt w Q S x) {T : Nat → Prop} (hb : But T w w') (hQ : ¬ T Q) : RAllAt w' Q S x := by
  have hl := h.lt
  obtain ⟨⟨I, c, a⟩, f⟩ := h
  exact ⟨⟨I, c.frame hb hQ, a⟩, fun i => hb.soft hl (f i)⟩

def RStepped (At : World → Prop) (M B n : Nat) (s' : St) (Q : Nat) (b : Bool) (w : World) (e : Ending) (w' : World) : Prop :=
  e = .returned (.bool b) ∧ At w' ∧ RefIs w' M B n s' ∧ But (fun k => k = Q ∨ k = M ∨ k = B) w w'

def rOver (w : World) (Q : Nat) (S : Stk) : Prop := ∃ i, RPushAt w Q S i 3 Op.over
end Go.Proofs.Ytfcompikbeebaaa.Sk

namespace Go.Proofs.Ytfcompikbeebaaa.Sk
set_option maxRecDepth 20000
open Go.RowKit
open Wo (St acc wordAt PMem RefIs)

inductive PS where
  | idle : PS
  | pop (x : Op) (P Q : Nat) : PS
  | push (i i' e : Int) (x : Op) (P Q : Nat) : PS
  | all (x : Op) (P Q : Nat) : PS

def nilp : Value := .pointer none
def ptr (P : Nat) : Value := .pointer (some ⟨P, 0, none⟩)
def PS.cells : PS → List Value
  | .idle => [.pointer none, .pointer none, .pointer none, .pointer none, .pointer none, .pointer none]
  | .pop _ P Q => [.pointer (some ⟨P, 0, none⟩), .pointer (some ⟨Q, 0, none⟩), .pointer none, .pointer none, .pointer none, .pointer none]
  | .push _ _ _ _ P Q => [.pointer none, .pointer none, .pointer (some ⟨P, 0, none⟩), .pointer (some ⟨Q, 0, none⟩), .pointer none, .pointer none]
  | .all _ P Q => [.pointer none, .pointer none, .pointer none, .pointer none, .pointer (some ⟨P, 0, none⟩), .pointer (some ⟨Q, 0, none⟩)]
theorem PS.cells_len (p : PS) : p.cells.length = 6 := by cases p <;> rfl
theorem PS.cells_one (p : PS) : ∀ v ∈ p.cells, v.oneCell' = true := by
  cases p <;> (intro v hv; simp [PS.cells] at hv; rcases hv with rfl | rfl | rfl | rfl | rfl | rfl <;> rfl)

def PopIs (own : Nat → Nat) (c : Nat) (S : Stk) (w : World) (x : Op) (P Q : Nat) : Prop :=
  PopAt w P 0 S x ∧ RPopAt w Q S x ∧ x.Good ∧ lines x ∧ took S x ∧ own P = 10 + 2 * c ∧ own Q = 11 + 2 * c
def PushIs (own : Nat → Nat) (c : Nat) (S : Stk) (w : World) (i i' e : Int) (x : Op) (P Q : Nat) : Prop :=
  PushAt w P 0 S i e x ∧ RPushAt w Q S i' e x ∧ x.Good ∧ lines x ∧ (x.line ≠ 9 → i' = i ∧ 0 ≤ i ∧ i < S.N ∧ e = 0) ∧ own P = 10 + 2 * c ∧ own Q = 11 + 2 * c
def AllIs (own : Nat → Nat) (c : Nat) (S : Stk) (w : World) (x : Op) (P Q : Nat) : Prop :=
  AllAt w P 0 S x ∧ RAllAt w Q S x ∧ x.Good ∧ lines x ∧ x.line ≠ 3 ∧ took S x ∧ own P = 10 + 2 * c ∧ own Q = 11 + 2 * c
def PS.Is (own : Nat → Nat) (c : Nat) (S : Stk) (w : World) : PS → Prop
  | .idle => True
  | .pop x P Q => PopIs own c S w x P Q
  | .push i i' e x P Q => PushIs own c S w i i' e x P Q
  | .all x P Q => AllIs own c S w x P Q

theorem PushAt.lt {w : World} {P o : Nat} {S : Stk} {i e0 : Int} {x : Op} (h : PushAt w P o S i e0 x) : P < w.heap.size := h.op.lt
theorem PushAt.frame {w w' : World} {P o : Nat} {S : Stk} {i e0 : Int} {x : Op} (h : PushAt w P o S i e0 x) {T : Nat → Prop} (hb : But T w w') (hP : ¬ T P) : PushAt w' P o S i e0 x := ⟨h.op.frame hb hP, hb.some h.i hP⟩
theorem PS.Is.frame {own : Nat → Nat} {c : Nat} {S : Stk} {w w' : World} {p : PS} (h : p.Is own c S w) {T : Nat → Prop} (hb : But T w w') (hT : ∀ k, T k → own k ≠ 10 + 2 * c ∧ own k ≠ 11 + 2 * c) : p.Is own c S w' := by
  cases p with
  | idle => trivial
  | pop x P Q =>
    obtain ⟨h1, h2, h3, h4, h5, h6, h7⟩ := h
    exact ⟨OpAt.frame h1 hb (fun t => (hT _ t).1 h6), h2.frame hb (fun t => (hT _ t).2 h7), h3, h4, h5, h6, h7⟩
  | push i i' e x P Q =>
    obtain ⟨h1, h2, h3, h4, h5, h6, h7⟩ := h
    exact ⟨h1.frame hb (fun t => (hT _ t).1 h6), h2.frame hb (fun t => (hT _ t).2 h7), h3, h4, h5, h6, h7⟩
  | all x P Q =>
    obtain ⟨h1, h2, h3, h4, h5, h6, h7, h8⟩ := h
    exact ⟨OpAt.frame h1 hb (fun t => (hT _ t).1 h7), h2.frame hb (fun t => (hT _ t).2 h8), h3, h4, h5, h6, h7, h8⟩
theorem PS.Is.kept {own : Nat → Nat} {c : Nat} {S : Stk} {w w' : World} {p : PS} (h : p.Is own c S w) (k : Kept w w') : p.Is own c S w' := h.frame (k.but (fun _ => False)) (fun _ h => h.elim)
theorem PS.Is.owns {own own' : Nat → Nat} {c : Nat} {S : Stk} {w : World} {p : PS} (h : p.Is own c S w) (ho : ∀ k, k < w.heap.size → own' k = own k) : p.Is own' c S w := by
  cases p with
  | idle => trivial
  | pop x P Q =>
    obtain ⟨h1, h2, h3, h4, h5, h6, h7⟩ := h
    exact ⟨h1, h2, h3, h4, h5, (ho _ (OpAt.lt h1)).trans h6, (ho _ h2.lt).trans h7⟩
  | push i i' e x P Q =>
    obtain ⟨h1, h2, h3, h4, h5, h6, h7⟩ := h
    exact ⟨h1, h2, h3, h4, h5, (ho _ h1.lt).trans h6, (ho _ h2.lt).trans h7⟩
  | all x P Q =>
    obtain ⟨h1, h2, h3, h4, h5, h6, h7, h8⟩ := h
    exact ⟨h1, h2, h3, h4, h5, h6, (ho _ (OpAt.lt h1)).trans h7, (ho _ h2.lt).trans h8⟩

structure Duo (own : Nat → Nat) (w : World) (M B M2 B2 n : Nat) (s : St) : Prop where
  p : PMem w M B n s
  r : RefIs w M2 B2 n s
  wd : Wd n s
  c0 : 0 ≤ s.cnt
  oM : own M = 0
  oB : own B = 0
  oM2 : own M2 = 1
  oB2 : own B2 = 1
  n1 : 1 ≤ n
  n2 : n ≤ 4096
theorem Duo.frame {own : Nat → Nat} {w w' : World} {M B M2 B2 n : Nat} {s : St} (h : Duo own w M B M2 B2 n s) {T : Nat → Prop} (hb : But T w w') (hT : ∀ k, T k → own k ≠ 0 ∧ own k ≠ 1) : Duo own w' M B M2 B2 n s :=
  ⟨pmem_frame h.p hb (fun t => (hT _ t).1 h.oM) (fun t => (hT _ t).1 h.oB), ref_frame h.r h.n1 hb (fun t => (hT _ t).2 h.oM2) (fun t => (hT _ t).2 h.oB2), h.wd, h.c0, h.oM, h.oB, h.oM2, h.oB2, h.n1, h.n2⟩
theorem Duo.kept {own : Nat → Nat} {w w' : World} {M B M2 B2 n : Nat} {s : St} (h : Duo own w M B M2 B2 n s) (k : Kept w w') : Duo own w' M B M2 B2 n s := h.frame (k.but (fun _ => False)) (fun _ h => h.elim)
theorem Duo.owns {own own' : Nat → Nat} {w : World} {M B M2 B2 n : Nat} {s : St} (h : Duo own w M B M2 B2 n s) (ho : ∀ k, k < w.heap.size → own' k = own k) : Duo own' w M B M2 B2 n s :=
  ⟨h.p, h.r, h.wd, h.c0, (ho _ (pmem_lt h.p).1).trans h.oM, (ho _ (pmem_lt h.p).2).trans h.oB, (ho _ (ref_lt h.r h.n1).1).trans h.oM2, (ho _ (ref_lt h.r h.n1).2).trans h.oB2, h.n1, h.n2⟩

def mine (own : Nat → Nat) (c : Nat) (k : Nat) : Prop := own k = 0 ∨ own k = 1 ∨ own k = 10 + 2 * c ∨ own k = 11 + 2 * c

def ToldPost (own : Nat → Nat) (c : Nat) (S : Stk) (M B M2 B2 n : Nat) (s : St) (p : PS) (b : Bool) (w : World) (e : Ending) (w' : World) : Prop :=
  e = .returned (.bool true) ∧ ∃ (p' : PS) (s' : St), p'.cells = p.cells ∧ (b = false → s' = s) ∧ p'.Is own c S w' ∧ Duo own w' M B M2 B2 n s' ∧ s'.cnt ≤ s.cnt + 1 ∧ But (mine own c) w w'

theorem popSt_wd {n : Nat} {S : Stk} {s : St} {x : Op} (h : Wd n s) : Wd n (popSt n S s x) := by
  unfold popSt
  split
  · exact h.acc _ _ _ _ (by decide) (by decide)
  · split
    · exact h.acc _ _ _ _ (by decide) (by decide)
    · split
      · exact h.acc _ _ _ _ (topW_lo _ _ (idx_lo _ _)) (topW_hi _ _ (idx_le _ _))
      · exact h
theorem pushSt_wd {n : Nat} {S : Stk} {s : St} {x : Op} {i : Int} (h : Wd n s) (hi : x.line = 3 → -1 ≤ i ∧ i ≤ 65534) : Wd n (pushSt n S i s x) := by
  unfold pushSt
  split
  · exact h.acc _ _ _ _ (by decide) (by decide)
  · split
    · exact h.acc _ _ _ _ (by have := idx_lo S.N x.W; omega) (by have := idx_le S.N x.W; omega)
    · split
      · rename_i h3
        exact h.acc _ _ _ _ (topW_lo _ _ (hi h3).1) (topW_hi _ _ (hi h3).2)
      · exact h
theorem allSt_wd {n : Nat} {S : Stk} {s : St} {x : Op} (h : Wd n s) : Wd n (allSt n S s x) := by
  unfold allSt
  split
  · exact h.acc _ _ _ _ (by decide) (by decide)
  · split
    · exact h.acc _ _ _ _ (topW_lo _ _ (by decide)) (topW_hi _ _ (by decide))
    · exact h
theorem popSt_cnt (n : Nat) (S : Stk) (s : St) (x : Op) : s.cnt ≤ (popSt n S s x).cnt ∧ (popSt n S s x).cnt ≤ s.cnt + 1 := by
  unfold popSt casSt
  split
  · rw [acc_cnt]; omega
  · split
    · rw [acc_cnt]; omega
    · split
      · rw [acc_cnt]; omega
      · omega
theorem pushSt_cnt (n : Nat) (S : Stk) (i : Int) (s : St) (x : Op) : s.cnt ≤ (pushSt n S i s x).cnt ∧ (pushSt n S i s x).cnt ≤ s.cnt + 1 := by
  unfold pushSt casSt
  split
  · rw [acc_cnt]; omega
  · split
    · rw [acc_cnt]; omega
    · split
      · rw [acc_cnt]; omega
      · omega
theorem allSt_cnt (n : Nat) (S : Stk) (s : St) (x : Op) : s.cnt ≤ (allSt n S s x).cnt ∧ (allSt n S s x).cnt ≤ s.cnt + 1 := by
  unfold allSt casSt
  split
  · rw [acc_cnt]; omega
  · split
    · rw [acc_cnt]; omega
    · omega
end Go.Proofs.Ytfcompikbeebaaa.Sk

namespace Go.Proofs.Ytfcompikbeebaaa.Sk
set_option maxRecDepth 20000
open Go.RowKit
open Wo (St acc wordAt PMem RefIs)

def S3 : Stk := ⟨0, 1, 3⟩
def s0 : St := fillSt 4 S3 Wo.St.zero
def x1 : Op := popOp 4 S3 s0 Op.new
def s1 : St := popSt 4 S3 s0 Op.new
def x2 : Op := popOp 4 S3 s1 x1
def s2 : St := popSt 4 S3 s1 x1
def x3 : Op := popOp 4 S3 s2 x2
def s3 : St := popSt 4 S3 s2 x2
theorem ok3 : S3.Ok 4 := ⟨by decide, by decide, by decide, by decide, by decide, by decide, by decide, by decide, by decide⟩
theorem wd_zero (n : Nat) : Wd n Wo.St.zero := ⟨fun _ => by show (0 : Int) ≤ 0; decide, fun _ => by show (0 : Int) < 18446744073709551616; decide⟩
theorem wd0 : Wd 4 s0 := fillSt_wd (wd_zero 4) (by decide)
theorem pops1 : x1.line = 2 ∧ x2.line = 3 ∧ x3.line = 9 ∧ tookI S3 x3 = 0 ∧ tookE S3 x3 = 0 := by decide +kernel
theorem words0 : (List.range 4).map s0.ws = [1, 2, 3, 0] := by decide +kernel
theorem words3 : (List.range 4).map s3.ws = [65538, 2, 3, 0] := by decide +kernel
theorem chain0 : chn 4 s0.ws S3 = [0, 1, 2] := by decide +kernel
theorem cnts : s0.cnt = 4 ∧ s1.cnt = 5 ∧ s2.cnt = 6 ∧ s3.cnt = 7 := by decide +kernel
theorem wordsAt {f : Nat → Int} {l : List Int} {n : Nat} (h : (List.range n).map f = l) (i : Nat) (hi : i < n) : l.getD i 0 = f i := by
  subst h
  simp [hi]

theorem sameWords {b o c b' o' c' n : Nat} {f : Nat → Int} {w : World} (hn : n ≤ 4096)
    (hc : ∀ i, i < n → w.cell? ⟨b, o + i, none⟩ = some (.int .u64 (f i))) (hc' : ∀ i, i < n → w.cell? ⟨b', o' + i, none⟩ = some (.int .u64 (f i))) :
    Calls Try.prog 23 #[.slice (some ⟨b, o, none⟩) n c, .slice (some ⟨b', o', none⟩) n c'] w fun e w' => e = .returned (.bool true) ∧ Kept w w' :=
  (Wo.sameWords_yes b o c b' o' c' n f w (by omega) hc hc').mono fun _ _ ⟨x, k⟩ => ⟨x, kept_of k⟩
theorem ints_at (l : List Int) (j : Nat) (h : j < l.length) : (ints l)[j]? = some (.int .i64 (l.getD j 0)) := by
  simp [ints, h]
theorem reads_own {w : World} {base : Nat} {a : Option Addr} {l : List Int} {c : Nat} (h : w.ownsRow base 3 1 (.slice a l.length c) l.length (ints l)) : Reads w a l.length (fun i => l.getD i 0) := by
  rcases own_lies h with ⟨e, h0, _⟩ | ⟨g, o, c', e, _, _, hc⟩
  · exact .inl h0
  · cases e
    exact .inr ⟨g, o, rfl, fun i hi => hc i _ (ints_at l i hi)⟩

set_option maxHeartbeats 1000000 in
theorem three_any (w : World) : Calls Try.prog 21 #[] w fun e w' => e = .returned (.agg #[.int .i64 S3.T, .int .i64 S3.K, .int .i64 S3.N]) ∧ Kept w w' := by
  go_enter Try.func21, Try.ntmps21
  go_wp2
  refine bodyPost_ret (v := .agg #[.int .i64 0, .int .i64 1, .int .i64 3]) (by simp [results, Try.results21, go_sem]) rfl ⟨rfl, ?_⟩
  (go_light; repeat (first | (with_reducible exact Kept.refl _) | (with_reducible assumption) | (with_reducible refine Kept.alloc ?_ _ _) | (with_reducible refine Kept.drew ?_) | (with_reducible refine Kept.drewN ?_ _) | ((with_reducible refine Kept.setCell ?_ ?_ _); rotate_left; focus (first | (simp; done) | (simp; omega))) | refine Kept.trans ?_ (by assumption)))
theorem p_new4 (w : World) : Calls Try.prog 8 #[.int .i64 4] w
    fun e w' => e = .returned (.tuple #[.pointer (some ⟨w.heap.size + 1, 0, none⟩), .int .i64 0]) ∧ PMem w' (w.heap.size + 1) w.heap.size 4 Wo.St.zero ∧ w'.heap.size = w.heap.size + 2 ∧ Kept w w' := p_new 4 (by decide) (by decide) w
theorem cells4 {w : World} {g : Nat} {t : TypeId} {a b c d : Int} {f : Nat → Int} (hf : (List.range 4).map f = [a, b, c, d]) (hg : g = w.heap.size) (i : Nat) (hi : i < 4) :
    (w.alloc (.cells #[.int .u64 a, .int .u64 b, .int .u64 c, .int .u64 d] t)).cell? ⟨g, 0 + i, none⟩ = some (.int .u64 (f i)) := by
  have e := wordsAt hf i hi
  rw [Nat.zero_add, cell_new _ _ _ _ _ hg, ← e]
  have hc : i = 0 ∨ i = 1 ∨ i = 2 ∨ i = 3 := by omega
  rcases hc with rfl | rfl | rfl | rfl <;> rfl

def f3 (i : Nat) : Int := ([0, 1, 2] : List Int).getD i 0
def Told3 (w : World) (e : Ending) (w' : World) : Prop := ∃ a c, e = .returned (.slice a 3 c) ∧ Kept w w' ∧ Reads w' a 3 f3
theorem chain3 {w : World} {M B : Nat} (hm : PMem w M B 4 s0) : Calls Try.prog 19 #[.agg #[.int .i64 S3.T, .int .i64 S3.K, .int .i64 S3.N], .pointer (some ⟨M, 0, none⟩)] w (Told3 w) := by
  refine (p_chain S3 hm wd0 ok3).mono ?_
  rw [chain0]
  rintro e w' ⟨a, c, rfl, k, h⟩
  exact ⟨a, c, rfl, k, reads_own h⟩
theorem ints3 {w : World} {g : Nat} {t : TypeId} (hg : g = w.heap.size) : Reads (w.alloc (.cells #[.int .i64 0, .int .i64 1, .int .i64 2] t)) (some ⟨g, 0, none⟩) 3 f3 := by
  refine .inr ⟨g, 0, rfl, fun i hi => ?_⟩
  rw [Nat.zero_add, cell_new _ _ _ _ _ hg]
  have hc : i = 0 ∨ i = 1 ∨ i = 2 := by omega
  rcases hc with rfl | rfl | rfl <;> rfl

def Chap (s : St) (w : World) (e : Ending) (w' : World) : Prop := ∃ M B, e = .returned (.pointer (some ⟨M, 0, none⟩)) ∧ PMem w' M B 4 s ∧ Kept w w' ∧ w.heap.size ≤ M ∧ w.heap.size ≤ B

set_option maxHeartbeats 2000000 in
theorem filled_any (w : World) : Calls Try.prog 51 #[] w (Chap s0 w) := by
  go_enter Try.func51, Try.ntmps51
  go_wp2_with fail
  refine (p_new4 _).mono ?_
  rintro e w1 ⟨rfl, m1, z1, k1⟩
  have M1 := Lib.hid m1
  have K1 := Lib.hid k1
  have Z1 := Lib.hid z1
  clear m1 k1 z1
  go_wp2_with fail
  refine (three_any _).mono ?_
  rintro e w2 ⟨rfl, k2⟩
  have K2 := Lib.hid k2
  clear k2
  go_wp2_with fail
  refine (p_fill _ _ 4 S3 Wo.St.zero _ (pmem_kept M1.out K2.out) (by decide) (by decide) ok3).mono ?_
  rintro e w3 ⟨rfl, m3, b3⟩
  have M3 : Hid (PMem w3 (w.heap.size + 1) w.heap.size 4 s0) := Lib.hid m3
  have K3 : Hid (Kept w w3) := Lib.hid ((((K1.out.trans K2.out).but (fun k => k = w.heap.size)).trans b3 (fun _ _ h => h)).kept (fun k hk h => by omega))
  clear m3 b3
  go_wp2_with fail
  refine (p_words _ _ 4 s0 _ M3.out).mono ?_
  rintro e w4 ⟨b, c, rfl, hb1, hb2, hw, hf, k4⟩
  have HW := Lib.hid hw
  have K4 := Lib.hid k4
  clear hw hf k4 hb1
  go_wp2_with fail
  refine (sameWords (f := s0.ws) (by decide) (fun i hi => ?_) (fun i hi => cells4 words0 rfl i hi)).mono ?_
  · rw [Nat.zero_add]; exact ((Kept.refl _).alloc _ _).some (HW.out i hi)
  rintro e w5 ⟨rfl, k5⟩
  have K5 := Lib.hid (K4.out.trans (Kept.trans ((Kept.refl _).alloc _ _) k5))
  clear k5
  go_wp2_with fail
  refine (three_any _).mono ?_
  rintro e w6 ⟨rfl, k6⟩
  have K6 := Lib.hid (K5.out.trans k6)
  clear k6
  go_wp2_with fail
  refine (chain3 (pmem_kept M3.out K6.out)).mono ?_
  rintro e w7 ⟨a7, c7, rfl, k7, r7⟩
  have K7 := Lib.hid (K6.out.trans k7)
  have R7 := Lib.hid r7
  clear k7 r7
  go_wp2_with fail
  refine (sameInts_yes _ _ 3 _ _ f3 _ (by decide) (R7.out.kept ((Kept.refl _).alloc _ _)) (ints3 rfl)).mono ?_
  rintro e w8 ⟨rfl, k8⟩
  have K8 := Lib.hid (K7.out.trans (Kept.trans ((Kept.refl _).alloc _ _) k8))
  clear k8
  go_wp2
  go_ret
  exact ⟨w.heap.size + 1, w.heap.size, rfl, pmem_kept M3.out K8.out, K3.out.trans K8.out, by omega, by omega⟩

theorem good_new3 : Op.new.Good := ⟨by decide, by decide, by decide, by decide⟩
theorem inv1 : x1.Good ∧ lines x1 ∧ took S3 x1 := popOp_good good_new3 (.inl rfl) (fun h => absurd h (by decide)) wd0
theorem wd1 : Wd 4 s1 := popSt_wd wd0
theorem inv2 : x2.Good ∧ lines x2 ∧ took S3 x2 := popOp_good inv1.1 inv1.2.1 inv1.2.2 wd1
theorem wd2 : Wd 4 s2 := popSt_wd wd1
theorem inv3 : x3.Good ∧ lines x3 ∧ took S3 x3 := popOp_good inv2.1 inv2.2.1 inv2.2.2 wd2
theorem wd3 : Wd 4 s3 := popSt_wd wd2
theorem step1 {w : World} {P M B : Nat} (ho : PopAt w P 0 S3 Op.new) (hm : PMem w M B 4 s0) (hPM : P ≠ M) (hPB : P ≠ B) :
    Calls Try.prog 11 #[.pointer (some ⟨P, 0, none⟩), .pointer (some ⟨M, 0, none⟩)] w (Stepped (fun w' => PopAt w' P 0 S3 x1) M B 4 s1 P 0 false w) := by
  have h := pop_step P 0 M B 4 S3 s0 Op.new w ho hm (by decide +kernel) (by decide +kernel) hPM hPB good_new3 (.inl rfl) (fun h => absurd h (by decide)) ok3 wd0
  rw [show ((popOp 4 S3 s0 Op.new).line == 9) = false from by decide +kernel] at h
  exact h
theorem step2 {w : World} {P M B : Nat} (ho : PopAt w P 0 S3 x1) (hm : PMem w M B 4 s1) (hPM : P ≠ M) (hPB : P ≠ B) :
    Calls Try.prog 11 #[.pointer (some ⟨P, 0, none⟩), .pointer (some ⟨M, 0, none⟩)] w (Stepped (fun w' => PopAt w' P 0 S3 x2) M B 4 s2 P 0 false w) := by
  have h := pop_step P 0 M B 4 S3 s1 x1 w ho hm (by decide +kernel) (by decide +kernel) hPM hPB inv1.1 inv1.2.1 inv1.2.2 ok3 wd1
  rw [show ((popOp 4 S3 s1 x1).line == 9) = false from by decide +kernel] at h
  exact h
theorem step3 {w : World} {P M B : Nat} (ho : PopAt w P 0 S3 x2) (hm : PMem w M B 4 s2) (hPM : P ≠ M) (hPB : P ≠ B) :
    Calls Try.prog 11 #[.pointer (some ⟨P, 0, none⟩), .pointer (some ⟨M, 0, none⟩)] w (Stepped (fun w' => PopAt w' P 0 S3 x3) M B 4 s3 P 0 true w) := by
  have h := pop_step P 0 M B 4 S3 s2 x2 w ho hm (by decide +kernel) (by decide +kernel) hPM hPB inv2.1 inv2.2.1 inv2.2.2 ok3 wd2
  rw [show ((popOp 4 S3 s2 x2).line == 9) = true from by decide +kernel] at h
  exact h
theorem told3 {w : World} {P : Nat} (ho : PopAt w P 0 S3 x3) : Calls Try.prog 9 #[.pointer (some ⟨P, 0, none⟩)] w fun e w' => e = .returned (.tuple #[.int .i64 0, .int .i64 0]) ∧ Kept w w' := by
  have h := pop_told P 0 S3 x3 w ho inv3.1
  rw [pops1.2.2.2.1, pops1.2.2.2.2] at h
  exact h

set_option maxHeartbeats 2000000 in
theorem popped_any (w : World) : Calls Try.prog 20 #[] w (Chap s3 w) := by
  go_enter Try.func20, Try.ntmps20
  go_wp2_with fail
  refine (filled_any _).mono ?_
  rintro e w1 ⟨M, B, rfl, m1, k1, lM, lB⟩
  have M1 := Lib.hid m1
  have K1 := Lib.hid k1
  have LM := pmem_lt m1
  clear m1 k1
  go_wp2_with fail
  refine (three_any _).mono ?_
  rintro e w2 ⟨rfl, k2⟩
  have K2 := Lib.hid k2
  clear k2
  go_wp2_with fail
  refine (newPop_any S3 _).mono ?_
  rintro e w3 ⟨P, rfl, lP, gP, o3, k3⟩
  have hPM : P ≠ M := by have := K2.out.size; omega
  have hPB : P ≠ B := by have := K2.out.size; omega
  have O3 := Lib.hid o3
  have K3 := Lib.hid (K2.out.trans k3)
  have lP1 : w1.heap.size ≤ P := Nat.le_trans K2.out.size lP
  clear o3 k3 lP
  go_wp2_with fail
  refine (step1 O3.out (pmem_kept M1.out K3.out) hPM hPB).mono ?_
  rintro e w4 ⟨rfl, o4, m4, g4⟩
  have O4 := Lib.hid o4
  have M4 := Lib.hid m4
  have G4 := Lib.hid g4.but
  clear o4 m4 g4
  go_wp2_with fail
  refine (step2 O4.out M4.out hPM hPB).mono ?_
  rintro e w5 ⟨rfl, o5, m5, g5⟩
  have O5 := Lib.hid o5
  have M5 := Lib.hid m5
  have G5 := Lib.hid (G4.out.trans g5.but (fun _ _ h => h))
  clear o5 m5 g5
  go_wp2_with fail
  refine (step3 O5.out M5.out hPM hPB).mono ?_
  rintro e w6 ⟨rfl, o6, m6, g6⟩
  have O6 := Lib.hid o6
  have M6 := Lib.hid m6
  have G6 := Lib.hid (G5.out.trans g6.but (fun _ _ h => h))
  clear o6 m6 g6
  go_wp2_with fail
  refine (told3 O6.out).mono ?_
  rintro e w7 ⟨rfl, k7⟩
  have K7 := Lib.hid k7
  clear k7
  go_wp2_with fail
  refine (p_words _ _ 4 s3 _ (pmem_kept M6.out K7.out)).mono ?_
  rintro e w8 ⟨b, c, rfl, hb1, hb2, hw, hf, k8⟩
  have HW := Lib.hid hw
  have K8 := Lib.hid (K7.out.trans k8)
  clear hw hf k8 hb1
  go_wp2_with fail
  refine (sameWords (f := s3.ws) (by decide) (fun i hi => ?_) (fun i hi => cells4 words3 rfl i hi)).mono ?_
  · rw [Nat.zero_add]; exact ((Kept.refl _).alloc _ _).some (HW.out i hi)
  rintro e w9 ⟨rfl, k9⟩
  have K9 := Lib.hid (K8.out.trans (Kept.trans ((Kept.refl _).alloc _ _) k9))
  clear k9
  go_wp2
  go_ret
  refine ⟨M, B, rfl, pmem_kept M6.out K9.out, ?_, lM, lB⟩
  exact (((K1.out.trans K3.out).but (fun k => k = P ∨ k = B)).trans (G6.out.then K9.out) (fun _ _ h => h)).kept (fun k hk h => by have := K1.out.size; omega)

set_option maxHeartbeats 1000000 in
theorem fits4 (w : World) : Calls Try.prog 26 #[.agg #[.int .i64 S3.T, .int .i64 S3.K, .int .i64 S3.N], .int .i64 4] w fun e w' => e = .returned (.int .i64 0) ∧ Kept w w' := pfits_any S3 4 w
theorem fits3 (w : World) : Calls Try.prog 26 #[.agg #[.int .i64 S3.T, .int .i64 S3.K, .int .i64 S3.N], .int .i64 3] w fun e w' => e = .returned (.int .i64 2) ∧ Kept w w' := pfits_any S3 3 w
theorem awake_any (w : World) : Calls Try.prog 7 #[] w fun e w' => e = .returned (.bool true) ∧ Kept w w' := by
  go_enter Try.func7, Try.ntmps7
  go_wp2_with fail
  refine (popped_any _).mono ?_
  rintro e w1 ⟨M, B, rfl, m1, k1, _, _⟩
  clear m1
  go_wp2_with fail
  refine (three_any _).mono ?_
  rintro e w2 ⟨rfl, k2⟩
  go_wp2_with fail
  refine (fits4 _).mono ?_
  rintro e w3 ⟨rfl, k3⟩
  go_wp2_with fail
  refine (three_any _).mono ?_
  rintro e w4 ⟨rfl, k4⟩
  go_wp2_with fail
  refine (fits3 _).mono ?_
  rintro e w5 ⟨rfl, k5⟩
  go_wp2
  go_ret
  exact ⟨rfl, k1.trans (k2.trans (k3.trans (k4.trans k5)))⟩
end Go.Proofs.Ytfcompikbeebaaa.Sk
