/- A core's operation twice: the program's and the document's, side by side. Blocks have owners: 0 the program's memory, 1 the document's, 10 + 2 c and 11 + 2 c core c's operations. -/
import Derived.Test.YtmbdgaflmiacnaaG10
set_option linter.unusedVariables false
set_option linter.unusedSimpArgs false

namespace Go.Proofs.Ytmbdgaflmiacnaa.Sk
set_option maxRecDepth 20000
open Go.RowKit
open Wo (St acc wordAt PMem RefIs)

inductive PS where
  | idle : PS
  | pop (x : Op) (P Q : Nat) : PS
  | push (i i' e : Int) (x : Op) (P Q : Nat) : PS
  | all (x : Op) (P Q : Nat) : PS

def nilp : Value := .pointer none
def ptr (P : Nat) : Value := .pointer (some ⟨P, 0, none⟩)
def PS.cells : PS → List Value
  | .idle => [.pointer none, .pointer none, .pointer none, .pointer none, .pointer none, .pointer none]
  | .pop _ P Q => [.pointer (some ⟨P, 0, none⟩), .pointer (some ⟨Q, 0, none⟩), .pointer none, .pointer none, .pointer none, .pointer none]
  | .push _ _ _ _ P Q => [.pointer none, .pointer none, .pointer (some ⟨P, 0, none⟩), .pointer (some ⟨Q, 0, none⟩), .pointer none, .pointer none]
  | .all _ P Q => [.pointer none, .pointer none, .pointer none, .pointer none, .pointer (some ⟨P, 0, none⟩), .pointer (some ⟨Q, 0, none⟩)]
theorem PS.cells_len (p : PS) : p.cells.length = 6 := by cases p <;> rfl
theorem PS.cells_one (p : PS) : ∀ v ∈ p.cells, v.oneCell' = true := by
  cases p <;> (intro v hv; simp [PS.cells] at hv; rcases hv with rfl | rfl | rfl | rfl | rfl | rfl <;> rfl)

def PopIs (own : Nat → Nat) (c : Nat) (S : Stk) (w : World) (x : Op) (P Q : Nat) : Prop :=
  PopAt w P 0 S x ∧ RPopAt w Q S x ∧ x.Good ∧ lines x ∧ took S x ∧ own P = 10 + 2 * c ∧ own Q = 11 + 2 * c
def PushIs (own : Nat → Nat) (c : Nat) (S : Stk) (w : World) (i i' e : Int) (x : Op) (P Q : Nat) : Prop :=
  PushAt w P 0 S i e x ∧ RPushAt w Q S i' e x ∧ x.Good ∧ lines x ∧ (x.line ≠ 9 → i' = i ∧ 0 ≤ i ∧ i < S.N ∧ e = 0) ∧ own P = 10 + 2 * c ∧ own Q = 11 + 2 * c
def AllIs (own : Nat → Nat) (c : Nat) (S : Stk) (w : World) (x : Op) (P Q : Nat) : Prop :=
  AllAt w P 0 S x ∧ RAllAt w Q S x ∧ x.Good ∧ lines x ∧ x.line ≠ 3 ∧ took S x ∧ own P = 10 + 2 * c ∧ own Q = 11 + 2 * c
def PS.Is (own : Nat → Nat) (c : Nat) (S : Stk) (w : World) : PS → Prop
  | .idle => True
  | .pop x P Q => PopIs own c S w x P Q
  | .push i i' e x P Q => PushIs own c S w i i' e x P Q
  | .all x P Q => AllIs own c S w x P Q

theorem PushAt.lt {w : World} {P o : Nat} {S : Stk} {i e0 : Int} {x : Op} (h : PushAt w P o S i e0 x) : P < w.heap.size := h.op.lt
theorem PushAt.frame {w w' : World} {P o : Nat} {S : Stk} {i e0 : Int} {x : Op} (h : PushAt w P o S i e0 x) {T : Nat → Prop} (hb : But T w w') (hP : ¬ T P) : PushAt w' P o S i e0 x := ⟨h.op.frame hb hP, hb.some h.i hP⟩
theorem PS.Is.frame {own : Nat → Nat} {c : Nat} {S : Stk} {w w' : World} {p : PS} (h : p.Is own c S w) {T : Nat → Prop} (hb : But T w w') (hT : ∀ k, T k → own k ≠ 10 + 2 * c ∧ own k ≠ 11 + 2 * c) : p.Is own c S w' := by
  cases p with
  | idle => trivial
  | pop x P Q =>
    obtain ⟨h1, h2, h3, h4, h5, h6, h7⟩ := h
    exact ⟨OpAt.frame h1 hb (fun t => (hT _ t).1 h6), h2.frame hb (fun t => (hT _ t).2 h7), h3, h4, h5, h6, h7⟩
  | push i i' e x P Q =>
    obtain ⟨h1, h2, h3, h4, h5, h6, h7⟩ := h
    exact ⟨h1.frame hb (fun t => (hT _ t).1 h6), h2.frame hb (fun t => (hT _ t).2 h7), h3, h4, h5, h6, h7⟩
  | all x P Q =>
    obtain ⟨h1, h2, h3, h4, h5, h6, h7, h8⟩ := h
    exact ⟨OpAt.frame h1 hb (fun t => (hT _ t).1 h7), h2.frame hb (fun t => (hT _ t).2 h8), h3, h4, h5, h6, h7, h8⟩
theorem PS.Is.kept {own : Nat → Nat} {c : Nat} {S : Stk} {w w' : World} {p : PS} (h : p.Is own c S w) (k : Kept w w') : p.Is own c S w' := h.frame (k.but (fun _ => False)) (fun _ h => h.elim)
theorem PS.Is.owns {own own' : Nat → Nat} {c : Nat} {S : Stk} {w : World} {p : PS} (h : p.Is own c S w) (ho : ∀ k, k < w.heap.size → own' k = own k) : p.Is own' c S w := by
  cases p with
  | idle => trivial
  | pop x P Q =>
    obtain ⟨h1, h2, h3, h4, h5, h6, h7⟩ := h
    exact ⟨h1, h2, h3, h4, h5, (ho _ (OpAt.lt h1)).trans h6, (ho _ h2.lt).trans h7⟩
  | push i i' e x P Q =>
    obtain ⟨h1, h2, h3, h4, h5, h6, h7⟩ := h
    exact ⟨h1, h2, h3, h4, h5, (ho _ h1.lt).trans h6, (ho _ h2.lt).trans h7⟩
  | all x P Q =>
    obtain ⟨h1, h2, h3, h4, h5, h6, h7, h8⟩ := h
    exact ⟨h1, h2, h3, h4, h5, h6, (ho _ (OpAt.lt h1)).trans h7, (ho _ h2.lt).trans h8⟩

structure Duo (own : Nat → Nat) (w : World) (M B M2 B2 n : Nat) (s : St) : Prop where
  p : PMem w M B n s
  r : RefIs w M2 B2 n s
  wd : Wd n s
  c0 : 0 ≤ s.cnt
  oM : own M = 0
  oB : own B = 0
  oM2 : own M2 = 1
  oB2 : own B2 = 1
  n1 : 1 ≤ n
  n2 : n ≤ 4096
theorem Duo.frame {own : Nat → Nat} {w w' : World} {M B M2 B2 n : Nat} {s : St} (h : Duo own w M B M2 B2 n s) {T : Nat → Prop} (hb : But T w w') (hT : ∀ k, T k → own k ≠ 0 ∧ own k ≠ 1) : Duo own w' M B M2 B2 n s :=
  ⟨pmem_frame h.p hb (fun t => (hT _ t).1 h.oM) (fun t => (hT _ t).1 h.oB), ref_frame h.r h.n1 hb (fun t => (hT _ t).2 h.oM2) (fun t => (hT _ t).2 h.oB2), h.wd, h.c0, h.oM, h.oB, h.oM2, h.oB2, h.n1, h.n2⟩
theorem Duo.kept {own : Nat → Nat} {w w' : World} {M B M2 B2 n : Nat} {s : St} (h : Duo own w M B M2 B2 n s) (k : Kept w w') : Duo own w' M B M2 B2 n s := h.frame (k.but (fun _ => False)) (fun _ h => h.elim)
theorem Duo.owns {own own' : Nat → Nat} {w : World} {M B M2 B2 n : Nat} {s : St} (h : Duo own w M B M2 B2 n s) (ho : ∀ k, k < w.heap.size → own' k = own k) : Duo own' w M B M2 B2 n s :=
  ⟨h.p, h.r, h.wd, h.c0, (ho _ (pmem_lt h.p).1).trans h.oM, (ho _ (pmem_lt h.p).2).trans h.oB, (ho _ (ref_lt h.r h.n1).1).trans h.oM2, (ho _ (ref_lt h.r h.n1).2).trans h.oB2, h.n1, h.n2⟩

def mine (own : Nat → Nat) (c : Nat) (k : Nat) : Prop := own k = 0 ∨ own k = 1 ∨ own k = 10 + 2 * c ∨ own k = 11 + 2 * c

def ToldPost (own : Nat → Nat) (c : Nat) (S : Stk) (M B M2 B2 n : Nat) (s : St) (p : PS) (b : Bool) (w : World) (e : Ending) (w' : World) : Prop :=
  e = .returned (.bool true) ∧ ∃ (p' : PS) (s' : St), p'.cells = p.cells ∧ (b = false → s' = s) ∧ p'.Is own c S w' ∧ Duo own w' M B M2 B2 n s' ∧ s'.cnt ≤ s.cnt + 1 ∧ But (mine own c) w w'

theorem popSt_wd {n : Nat} {S : Stk} {s : St} {x : Op} (h : Wd n s) : Wd n (popSt n S s x) := by
  unfold popSt
  split
  · exact h.acc _ _ _ _ (by decide) (by decide)
  · split
    · exact h.acc _ _ _ _ (by decide) (by decide)
    · split
      · exact h.acc _ _ _ _ (topW_lo _ _ (idx_lo _ _)) (topW_hi _ _ (idx_le _ _))
      · exact h
theorem pushSt_wd {n : Nat} {S : Stk} {s : St} {x : Op} {i : Int} (h : Wd n s) (hi : x.line = 3 → -1 ≤ i ∧ i ≤ 65534) : Wd n (pushSt n S i s x) := by
  unfold pushSt
  split
  · exact h.acc _ _ _ _ (by decide) (by decide)
  · split
    · exact h.acc _ _ _ _ (by have := idx_lo S.N x.W; omega) (by have := idx_le S.N x.W; omega)
    · split
      · rename_i h3
        exact h.acc _ _ _ _ (topW_lo _ _ (hi h3).1) (topW_hi _ _ (hi h3).2)
      · exact h
theorem allSt_wd {n : Nat} {S : Stk} {s : St} {x : Op} (h : Wd n s) : Wd n (allSt n S s x) := by
  unfold allSt
  split
  · exact h.acc _ _ _ _ (by decide) (by decide)
  · split
    · exact h.acc _ _ _ _ (topW_lo _ _ (by decide)) (topW_hi _ _ (by decide))
    · exact h
theorem popSt_cnt (n : Nat) (S : Stk) (s : St) (x : Op) : s.cnt ≤ (popSt n S s x).cnt ∧ (popSt n S s x).cnt ≤ s.cnt + 1 := by
  unfold popSt casSt
  split
  · rw [acc_cnt]; omega
  · split
    · rw [acc_cnt]; omega
    · split
      · rw [acc_cnt]; omega
      · omega
theorem pushSt_cnt (n : Nat) (S : Stk) (i : Int) (s : St) (x : Op) : s.cnt ≤ (pushSt n S i s x).cnt ∧ (pushSt n S i s x).cnt ≤ s.cnt + 1 := by
  unfold pushSt casSt
  split
  · rw [acc_cnt]; omega
  · split
    · rw [acc_cnt]; omega
    · split
      · rw [acc_cnt]; omega
      · omega
theorem allSt_cnt (n : Nat) (S : Stk) (s : St) (x : Op) : s.cnt ≤ (allSt n S s x).cnt ∧ (allSt n S s x).cnt ≤ s.cnt + 1 := by
  unfold allSt casSt
  split
  · rw [acc_cnt]; omega
  · split
    · rw [acc_cnt]; omega
    · omega
end Go.Proofs.Ytmbdgaflmiacnaa.Sk

namespace Go.Proofs.Ytmbdgaflmiacnaa.Sk
set_option maxRecDepth 20000
open Go.RowKit
open Wo (St acc wordAt)

theorem good_new4 : Op.new.Good := ⟨by decide, by decide, by decide, by decide⟩
theorem word_top {n : Nat} {S : Stk} (hS : S.Ok n) (s : St) : wordAt n s S.T = top S s.ws := word_in hS.T1 hS.T2
theorem word_link {n : Nat} {S : Stk} (hS : S.Ok n) (s : St) {i : Int} (h0 : 0 ≤ i) (h1 : i < S.N) : wordAt n s (S.K + i) = lk S s.ws i :=
  word_in (by have := hS.K1; omega) (by have := hS.K2; omega)
theorem seen_top {S : Stk} {f : Nat → Int} {t : Int} (h : top S f / 65536 = t) : Seen S f t (top S f) := ⟨by omega, fun _ => rfl⟩
theorem cas_no {n : Nat} {S : Stk} {s : St} {x : Op} {v : Int} (h : ¬ wordAt n s S.T = x.W) : (casSt n S s x v).ws = s.ws := by
  unfold casSt
  rw [show (wordAt n s S.T == x.W) = false from by simpa using h]
  exact acc_same ..
theorem cas_yes {n : Nat} {S : Stk} (hS : S.Ok n) {s : St} {x : Op} {v : Int} (h : wordAt n s S.T = x.W) : (casSt n S s x v).ws = upd s.ws S.T v := by
  unfold casSt
  rw [show (wordAt n s S.T == x.W) = true from by simpa using h]
  exact acc_upd _ _ _ _ _ hS.T1 hS.T2
theorem tag_next {i W t : Int} (hi : -1 ≤ i) (hi' : i ≤ 65534) (h : W / 65536 = t) (h0 : 0 ≤ t) (h1 : t < 281474976710655) : topW i W / 65536 = t + 1 := by
  rw [tag_topW i W hi hi', h]
  omega

theorem pop_keeps {n : Nat} {S : Stk} (hS : S.Ok n) {s : St} {t : Int} {ch : List Int} {A B : List Cr} {x : Op} {has : List Int} {lays : Int} (h : Inv n S s t ch (A ++ ⟨.pop x, has, lays⟩ :: B)) (h0 : 0 ≤ t) (h1 : t < 281474976710655) :
    ((popOp n S s x).line ≠ 9 ∧ Inv n S (popSt n S s x) t ch (A ++ ⟨.pop (popOp n S s x), has, lays⟩ :: B)) ∨
    ((popOp n S s x).line = 9 ∧ idx S.N (popOp n S s x).W < 0 ∧ ch = [] ∧ Inv n S (popSt n S s x) t ch (A ++ ⟨.idle, has, lays⟩ :: B)) ∨
    ((popOp n S s x).line = 9 ∧ 0 ≤ idx S.N (popOp n S s x).W ∧ ∃ ch', ch = idx S.N (popOp n S s x).W :: ch' ∧ Inv n S (popSt n S s x) (t + 1) ch' (A ++ ⟨.idle, has ++ [idx S.N (popOp n S s x).W], lays⟩ :: B)) := by
  obtain ⟨hg, hl, h9, htk, hsn, hlk⟩ : x.Good ∧ lines x ∧ x.line ≠ 9 ∧ took S x ∧ (x.line ≠ 1 → Seen S s.ws t x.W) ∧ (x.line = 3 → x.W = top S s.ws → x.L = lk S s.ws (idx S.N x.W)) := (mid h.core).1
  obtain ⟨hg', hl', htk'⟩ := popOp_good hg hl htk h.wd
  have hwd := popSt_wd (S := S) (x := x) h.wd
  have wt := word_top hS s
  obtain ⟨l, W, L⟩ := x
  rcases hl with e | e | e | e
  · obtain rfl : l = 1 := e
    have eo : popOp n S s ⟨1, W, L⟩ = ⟨if idx S.N (top S s.ws) < 0 then 9 else 2, top S s.ws, L⟩ := by unfold popOp; rw [if_pos rfl, wt]
    have es : (popSt n S s ⟨1, W, L⟩).ws = s.ws := by unfold popSt; rw [if_pos rfl]; exact acc_same ..
    by_cases hi : idx S.N (top S s.ws) < 0
    · rw [if_pos hi] at eo
      rw [eo]
      exact .inr (.inl ⟨rfl, hi, h.run.neg hi, h.look es (.refl _) trivial⟩)
    · rw [if_neg hi] at eo
      rw [eo] at hg' hl' htk' ⊢
      exact .inl ⟨by simp, h.look es (.refl _) ⟨hg', hl', by simp, htk', fun _ => seen_top h.tag, fun e => absurd e (by simp [Op.new])⟩⟩
  · obtain rfl : l = 2 := e
    have hi : 0 ≤ idx S.N W := htk (.inl rfl)
    have hi2 : idx S.N W < S.N := idx_hi S.N W (by have := hS.N1; omega)
    have eo : popOp n S s ⟨2, W, L⟩ = ⟨3, W, lk S s.ws (idx S.N W)⟩ := by unfold popOp; rw [if_neg no21, if_pos rfl, word_link hS s hi hi2]
    have es : (popSt n S s ⟨2, W, L⟩).ws = s.ws := by unfold popSt; rw [if_neg no21, if_pos rfl]; exact acc_same ..
    rw [eo] at hg' hl' htk' ⊢
    exact .inl ⟨by simp, h.look es (.refl _) ⟨hg', hl', by simp, htk', fun _ => hsn (by simp), fun _ _ => rfl⟩⟩
  · obtain rfl : l = 3 := e
    have hi : 0 ≤ idx S.N W := htk (.inr rfl)
    by_cases hw : wordAt n s S.T = W
    · have eo : popOp n S s ⟨3, W, L⟩ = ⟨9, W, L⟩ := by unfold popOp; rw [if_neg no31, if_neg no32, if_pos rfl, if_pos hw]
      have es : (popSt n S s ⟨3, W, L⟩).ws = upd s.ws S.T (topW (idx S.N L) W) := by unfold popSt; rw [if_neg no31, if_neg no32, if_pos rfl]; exact cas_yes hS hw
      have hwt : W = top S s.ws := hw.symm.trans wt
      have hL : L = lk S s.ws (idx S.N W) := hlk rfl hwt
      rw [eo]
      have hr := h.run
      rw [← hwt] at hr
      obtain ⟨ch', rfl, hi2, hr'⟩ := hr.pos hi
      have a1 := idx_lo S.N L
      have a2 := idx_le S.N L
      refine .inr (.inr ⟨rfl, hi, ch', rfl, h.cas hS es (tag_next a1 a2 (hwt ▸ h.tag) h0 h1) hwd ?_ ?_ rfl⟩)
      · rw [idx_topW S.N _ W a1 (idx_hi S.N L (by have := hS.N1; omega)) a2, hL]
        exact hr'
      · show (ch' ++ ((has ++ [idx S.N W]) ++ [])).Perm ((idx S.N W :: ch') ++ (has ++ []))
        simp only [List.append_nil]
        rw [← List.append_assoc]
        exact List.perm_append_comm.trans (by simp)
    · have eo : popOp n S s ⟨3, W, L⟩ = ⟨1, W, L⟩ := by unfold popOp; rw [if_neg no31, if_neg no32, if_pos rfl, if_neg hw]
      have es : (popSt n S s ⟨3, W, L⟩).ws = s.ws := by unfold popSt; rw [if_neg no31, if_neg no32, if_pos rfl]; exact cas_no hw
      rw [eo] at hg' hl' htk' ⊢
      exact .inl ⟨by simp, h.look es (.refl _) ⟨hg', hl', by simp, htk', fun e => absurd rfl e, fun e => absurd e (by simp [Op.new])⟩⟩
  · exact absurd e h9

theorem push_keeps {n : Nat} {S : Stk} (hS : S.Ok n) {s : St} {t : Int} {ch : List Int} {A B : List Cr} {x : Op} {has : List Int} {lays : Int} (h : Inv n S s t ch (A ++ ⟨.push x, has, lays⟩ :: B)) (h0 : 0 ≤ t) (h1 : t < 281474976710655) :
    ((pushOp n S s x).line ≠ 9 ∧ Inv n S (pushSt n S lays s x) t ch (A ++ ⟨.push (pushOp n S s x), has, lays⟩ :: B)) ∨
    ((pushOp n S s x).line = 9 ∧ Inv n S (pushSt n S lays s x) (t + 1) (lays :: ch) (A ++ ⟨.idle, has, lays⟩ :: B)) := by
  obtain ⟨hg, hl, h9, l0, l1, hsn, hlk⟩ : x.Good ∧ lines x ∧ x.line ≠ 9 ∧ 0 ≤ lays ∧ lays < S.N ∧ (x.line ≠ 1 → Seen S s.ws t x.W) ∧ (x.line = 3 → lk S s.ws lays = idx S.N x.W + 1) := (mid h.core).1
  obtain ⟨hg', hl'⟩ := pushOp_good (S := S) hg hl h.wd
  have l2 : lays ≤ 65534 := by have := hS.N2; omega
  have hwd := pushSt_wd (S := S) (x := x) (i := lays) h.wd (fun _ => ⟨by omega, l2⟩)
  have wt := word_top hS s
  obtain ⟨l, W, L⟩ := x
  rcases hl with e | e | e | e
  · obtain rfl : l = 1 := e
    have eo : pushOp n S s ⟨1, W, L⟩ = ⟨2, top S s.ws, L⟩ := by unfold pushOp; rw [if_pos rfl, wt]
    have es : (pushSt n S lays s ⟨1, W, L⟩).ws = s.ws := by unfold pushSt; rw [if_pos rfl]; exact acc_same ..
    rw [eo] at hg' hl' ⊢
    exact .inl ⟨by simp, h.look es (.refl _) ⟨hg', hl', by simp, l0, l1, fun _ => seen_top h.tag, fun e => absurd e (by simp [Op.new])⟩⟩
  · obtain rfl : l = 2 := e
    have eo : pushOp n S s ⟨2, W, L⟩ = ⟨3, W, L⟩ := by unfold pushOp; rw [if_neg no21, if_pos rfl]
    have es : (pushSt n S lays s ⟨2, W, L⟩).ws = upd s.ws (S.K + lays) (idx S.N W + 1) := by
      unfold pushSt; rw [if_neg no21, if_pos rfl]
      exact acc_upd _ _ _ _ _ (by have := hS.K1; omega) (by have := hS.K2; omega)
    rw [eo] at hg' hl' ⊢
    obtain ⟨_, _, a1, a2⟩ := apart h.perm (i := lays) (by simp [Cr.hold, Cr.pend])
    refine .inl ⟨by simp, ⟨?_, swap_core h.perm (.refl _), ?_, hwd, ?_⟩⟩
    · rw [es, top_upd_link hS _ _ l0 l1]
      exact h.run.same (fun j hj => lk_upd_link hS _ _ l0 (h.run.mem j hj).1 (fun e => a1 (e ▸ hj)))
    · rw [es, top_upd_link hS _ _ l0 l1]; exact h.tag
    · rw [es]
      refine mid_mk ⟨hg', hl', by simp, l0, l1, fun _ => ?_, fun _ => lk_upd_self _ _ _⟩ (fun d hd => ((mid h.core).2 d hd).store hS h.run l0 l1 a1 (a2 d hd))
      unfold Seen
      rw [top_upd_link hS _ _ l0 l1]
      exact hsn (by simp)
  · obtain rfl : l = 3 := e
    by_cases hw : wordAt n s S.T = W
    · have eo : pushOp n S s ⟨3, W, L⟩ = ⟨9, W, L⟩ := by unfold pushOp; rw [if_neg no31, if_neg no32, if_pos rfl, if_pos hw]
      have es : (pushSt n S lays s ⟨3, W, L⟩).ws = upd s.ws S.T (topW lays W) := by unfold pushSt; rw [if_neg no31, if_neg no32, if_pos rfl]; exact cas_yes hS hw
      have hwt : W = top S s.ws := hw.symm.trans wt
      rw [eo]
      refine .inr ⟨rfl, h.cas hS es (tag_next (by omega) l2 (hwt ▸ h.tag) h0 h1) hwd ?_ ?_ rfl⟩
      · rw [idx_topW S.N lays W (by omega) l1 l2]
        refine ⟨rfl, l0, l1, ?_⟩
        rw [hlk rfl, idx_small S.N _ (idx_lo _ _) (idx_hi S.N W (by have := hS.N1; omega)) (idx_le _ _)]
        show Run S s.ws (idx S.N W) ch
        rw [hwt]
        exact h.run
      · show ((lays :: ch) ++ (has ++ [])).Perm (ch ++ (has ++ [lays]))
        simp only [List.append_nil]
        rw [← List.append_assoc]
        exact (List.perm_append_comm.trans (by simp)).symm
    · have eo : pushOp n S s ⟨3, W, L⟩ = ⟨1, W, L⟩ := by unfold pushOp; rw [if_neg no31, if_neg no32, if_pos rfl, if_neg hw]
      have es : (pushSt n S lays s ⟨3, W, L⟩).ws = s.ws := by unfold pushSt; rw [if_neg no31, if_neg no32, if_pos rfl]; exact cas_no hw
      rw [eo] at hg' hl' ⊢
      exact .inl ⟨by simp, h.look es (.refl _) ⟨hg', hl', by simp, l0, l1, fun e => absurd rfl e, fun e => absurd e (by simp [Op.new])⟩⟩
  · exact absurd e h9

theorem all_keeps {n : Nat} {S : Stk} (hS : S.Ok n) {s : St} {t : Int} {ch : List Int} {A B : List Cr} {x : Op} {has : List Int} {lays : Int} (h : Inv n S s t ch (A ++ ⟨.all x, has, lays⟩ :: B)) (h0 : 0 ≤ t) (h1 : t < 281474976710655) :
    ((allOp n S s x).line ≠ 9 ∧ Inv n S (allSt n S s x) t ch (A ++ ⟨.all (allOp n S s x), has, lays⟩ :: B)) ∨
    ((allOp n S s x).line = 9 ∧ idx S.N (allOp n S s x).W < 0 ∧ ch = [] ∧ Inv n S (allSt n S s x) t ch (A ++ ⟨.idle, has, lays⟩ :: B)) ∨
    ((allOp n S s x).line = 9 ∧ 0 ≤ idx S.N (allOp n S s x).W ∧ (∃ ch', ch = idx S.N (allOp n S s x).W :: ch') ∧ Inv n S (allSt n S s x) (t + 1) [] (A ++ ⟨.idle, has ++ ch, lays⟩ :: B)) := by
  obtain ⟨hg, hl, h9, h3, htk, hsn⟩ : x.Good ∧ lines x ∧ x.line ≠ 9 ∧ x.line ≠ 3 ∧ took S x ∧ (x.line ≠ 1 → Seen S s.ws t x.W) := (mid h.core).1
  obtain ⟨hg', hl', h3', htk'⟩ := allOp_good hg hl h3 htk h.wd
  have hwd := allSt_wd (S := S) (x := x) h.wd
  have wt := word_top hS s
  obtain ⟨l, W, L⟩ := x
  rcases hl with e | e | e | e
  · obtain rfl : l = 1 := e
    have eo : allOp n S s ⟨1, W, L⟩ = ⟨if idx S.N (top S s.ws) < 0 then 9 else 2, top S s.ws, L⟩ := by unfold allOp; rw [if_pos rfl, wt]
    have es : (allSt n S s ⟨1, W, L⟩).ws = s.ws := by unfold allSt; rw [if_pos rfl]; exact acc_same ..
    by_cases hi : idx S.N (top S s.ws) < 0
    · rw [if_pos hi] at eo
      rw [eo]
      exact .inr (.inl ⟨rfl, hi, h.run.neg hi, h.look es (.refl _) trivial⟩)
    · rw [if_neg hi] at eo
      rw [eo] at hg' hl' h3' htk' ⊢
      exact .inl ⟨by simp, h.look es (.refl _) ⟨hg', hl', by simp, h3', htk', fun _ => seen_top h.tag⟩⟩
  · obtain rfl : l = 2 := e
    have hi : 0 ≤ idx S.N W := htk (.inl rfl)
    by_cases hw : wordAt n s S.T = W
    · have eo : allOp n S s ⟨2, W, L⟩ = ⟨9, W, L⟩ := by unfold allOp; rw [if_neg no21, if_pos rfl, if_pos hw]
      have es : (allSt n S s ⟨2, W, L⟩).ws = upd s.ws S.T (topW (-1) W) := by unfold allSt; rw [if_neg no21, if_pos rfl]; exact cas_yes hS hw
      have hwt : W = top S s.ws := hw.symm.trans wt
      rw [eo]
      have hr := h.run
      rw [← hwt] at hr
      obtain ⟨ch', hc, _, _⟩ := hr.pos hi
      refine .inr (.inr ⟨rfl, hi, ⟨ch', hc⟩, h.cas hS es (tag_next (by simp) (by simp) (hwt ▸ h.tag) h0 h1) hwd ?_ ?_ rfl⟩)
      · exact idx_topW S.N (-1) W (by simp) (by have := hS.N1; omega) (by simp)
      · show ([] ++ ((has ++ ch) ++ [])).Perm (ch ++ (has ++ []))
        simp only [List.append_nil, List.nil_append]
        exact List.perm_append_comm
    · have eo : allOp n S s ⟨2, W, L⟩ = ⟨1, W, L⟩ := by unfold allOp; rw [if_neg no21, if_pos rfl, if_neg hw]
      have es : (allSt n S s ⟨2, W, L⟩).ws = s.ws := by unfold allSt; rw [if_neg no21, if_pos rfl]; exact cas_no hw
      rw [eo] at hg' hl' h3' htk' ⊢
      exact .inl ⟨by simp, h.look es (.refl _) ⟨hg', hl', by simp, h3', htk', fun e => absurd rfl e⟩⟩
  · exact absurd e h3
  · exact absurd e h9

theorem keeps_begin_pop {n : Nat} {S : Stk} {s : St} {t : Int} {ch : List Int} {A B : List Cr} {has : List Int} {lays : Int} (h : Inv n S s t ch (A ++ ⟨.idle, has, lays⟩ :: B)) : Inv n S s t ch (A ++ ⟨.pop Op.new, has, lays⟩ :: B) :=
  h.look rfl (.refl _) ⟨good_new4, .inl rfl, by simp [Op.new], fun e => absurd e (by simp [Op.new]), fun e => absurd rfl e, fun e => absurd e (by simp [Op.new])⟩
theorem keeps_begin_all {n : Nat} {S : Stk} {s : St} {t : Int} {ch : List Int} {A B : List Cr} {has : List Int} {lays : Int} (h : Inv n S s t ch (A ++ ⟨.idle, has, lays⟩ :: B)) : Inv n S s t ch (A ++ ⟨.all Op.new, has, lays⟩ :: B) :=
  h.look rfl (.refl _) ⟨good_new4, .inl rfl, by simp [Op.new], by simp [Op.new], fun e => absurd e (by simp [Op.new]), fun e => absurd rfl e⟩
theorem keeps_begin_push {n : Nat} {S : Stk} {s : St} {t : Int} {ch : List Int} {A B : List Cr} {has : List Int} {i lays : Int} (h : Inv n S s t ch (A ++ ⟨.idle, has ++ [i], lays⟩ :: B)) : Inv n S s t ch (A ++ ⟨.push Op.new, has, i⟩ :: B) ∧ 0 ≤ i ∧ i < S.N := by
  obtain ⟨i0, i1, _⟩ := apart h.perm (i := i) (by simp [Cr.hold])
  exact ⟨h.look rfl (by simp [Cr.hold, Cr.pend]) ⟨good_new4, .inl rfl, by simp [Op.new], i0, i1, fun e => absurd rfl e, fun e => absurd e (by simp [Op.new])⟩, i0, i1⟩
end Go.Proofs.Ytmbdgaflmiacnaa.Sk

namespace Go.Proofs.Ytmbdgaflmiacnaa.Sk
set_option maxRecDepth 20000
open Go.RowKit
open Wo (St acc wordAt)

def AlOp (S : Stk) (f : Nat → Int) (turn made others : Int) (x : Op) : Prop :=
  ∃ F : Int, 0 ≤ F ∧ made = turn * F + x.line - 1 ∧ F ≤ others ∧ (x.line ≠ 1 → x.W ≠ top S f → F + 1 ≤ others)
def Cr.Al (S : Stk) (f : Nat → Int) (made others : Int) (c : Cr) : Prop := match c.k with
  | .idle => True
  | .pop x => AlOp S f 3 made others x
  | .push x => AlOp S f 3 made others x
  | .all x => AlOp S f 2 made others x
theorem AlOp.other {S : Stk} {f g : Nat → Int} {u made o o' : Int} {x : Op} (h : AlOp S f u made o x) (hg : (top S g = top S f ∧ o ≤ o') ∨ o + 1 ≤ o') : AlOp S g u made o' x := by
  obtain ⟨F, h0, h1, h2, h3⟩ := h
  refine ⟨F, h0, h1, by omega, fun hl hw => ?_⟩
  rcases hg with ⟨e, hg⟩ | hg
  · rw [e] at hw
    have := h3 hl hw
    omega
  · omega
theorem Cr.Al.other {S : Stk} {f g : Nat → Int} {made o o' : Int} {c : Cr} (h : c.Al S f made o) (hg : (top S g = top S f ∧ o ≤ o') ∨ o + 1 ≤ o') : c.Al S g made o' := by
  obtain ⟨k, has, lays⟩ := c
  cases k with
  | idle => trivial
  | pop x => exact AlOp.other h hg
  | push x => exact AlOp.other h hg
  | all x => exact AlOp.other h hg
theorem AlOp.new (S : Stk) (f : Nat → Int) (u : Int) : AlOp S f u 0 0 Op.new := ⟨0, by simp, by simp [Op.new], by simp, fun h => absurd rfl h⟩

def rank (S : Stk) (f : Nat → Int) (u : Nat) (x : Op) : Nat := if x.line = 1 then u else if x.W = top S f then u + 1 - x.line else u + (u + 1 - x.line)

theorem casSt_told {n : Nat} {S : Stk} (hS : S.Ok n) (s : St) (x : Op) (v : Int) : (casSt n S s x v).ws = s.ws ∨ ((casSt n S s x v).kind = 3 ∧ (casSt n S s x v).held = true) := by
  by_cases h : wordAt n s S.T = x.W
  · right
    unfold casSt
    rw [show (wordAt n s S.T == x.W) = true from by simpa using h]
    exact ⟨acc_kind .., acc_held _ _ _ _ _ _ hS.T1 hS.T2⟩
  · exact .inl (cas_no h)
theorem popSt_told {n : Nat} {S : Stk} (hS : S.Ok n) (s : St) (x : Op) : top S (popSt n S s x).ws = top S s.ws ∨ ((popSt n S s x).kind = 3 ∧ (popSt n S s x).held = true) := by
  unfold popSt
  split
  · exact .inl (by rw [acc_same])
  · split
    · exact .inl (by rw [acc_same])
    · split
      · rcases casSt_told hS s x (topW (idx S.N x.L) x.W) with h | h
        · exact .inl (by rw [h])
        · exact .inr h
      · exact .inl rfl
theorem pushSt_told {n : Nat} {S : Stk} (hS : S.Ok n) (s : St) (x : Op) {i : Int} (h0 : 0 ≤ i) (h1 : i < S.N) : top S (pushSt n S i s x).ws = top S s.ws ∨ ((pushSt n S i s x).kind = 3 ∧ (pushSt n S i s x).held = true) := by
  unfold pushSt
  split
  · exact .inl (by rw [acc_same])
  · split
    · left
      rw [acc_upd _ _ _ _ _ (by have := hS.K1; omega) (by have := hS.K2; omega), top_upd_link hS _ _ h0 h1]
    · split
      · rcases casSt_told hS s x (topW i x.W) with h | h
        · exact .inl (by rw [h])
        · exact .inr h
      · exact .inl rfl
theorem allSt_told {n : Nat} {S : Stk} (hS : S.Ok n) (s : St) (x : Op) : top S (allSt n S s x).ws = top S s.ws ∨ ((allSt n S s x).kind = 3 ∧ (allSt n S s x).held = true) := by
  unfold allSt
  split
  · exact .inl (by rw [acc_same])
  · split
    · rcases casSt_told hS s x (topW (-1) x.W) with h | h
      · exact .inl (by rw [h])
      · exact .inr h
    · exact .inl rfl

def Near (S : Stk) (f g : Nat → Int) (u : Nat) (made others : Int) (x x' : Op) : Prop :=
  made + 1 ≤ 3 * others + 3 ∧ (x'.line ≠ 9 → AlOp S g u (made + 1) others x' ∧ rank S g u x' + 1 ≤ rank S f u x)
theorem pop_alone {n : Nat} {S : Stk} (hS : S.Ok n) {s : St} {made others : Int} {x : Op} (hl : lines x) (h9 : x.line ≠ 9) (h : AlOp S s.ws 3 made others x) :
    Near S s.ws (popSt n S s x).ws 3 made others x (popOp n S s x) := by
  have wt := word_top hS s
  obtain ⟨F, f0, f1, f2, f3⟩ := h
  obtain ⟨l, W, L⟩ := x
  rcases hl with e | e | e | e
  · obtain rfl : l = 1 := e
    have eo : popOp n S s ⟨1, W, L⟩ = ⟨if idx S.N (top S s.ws) < 0 then 9 else 2, top S s.ws, L⟩ := by unfold popOp; rw [if_pos rfl, wt]
    have es : (popSt n S s ⟨1, W, L⟩).ws = s.ws := by unfold popSt; rw [if_pos rfl]; exact acc_same ..
    simp at f1
    refine ⟨by omega, fun hne => ?_⟩
    rw [es]
    by_cases hi : idx S.N (top S s.ws) < 0
    · rw [if_pos hi] at eo; rw [eo] at hne; exact absurd rfl hne
    · rw [if_neg hi] at eo
      rw [eo]
      exact ⟨⟨F, f0, by simp; omega, f2, fun _ e => absurd rfl e⟩, by simp [rank]⟩
  · obtain rfl : l = 2 := e
    have eo : popOp n S s ⟨2, W, L⟩ = ⟨3, W, wordAt n s (S.K + idx S.N W)⟩ := by unfold popOp; rw [if_neg no21, if_pos rfl]
    have es : (popSt n S s ⟨2, W, L⟩).ws = s.ws := by unfold popSt; rw [if_neg no21, if_pos rfl]; exact acc_same ..
    simp at f1 f3
    refine ⟨by omega, fun _ => ?_⟩
    rw [es, eo]
    refine ⟨⟨F, f0, by simp; omega, f2, fun _ hw => f3 hw⟩, ?_⟩
    by_cases hc : W = top S s.ws <;> simp [rank, hc]
  · obtain rfl : l = 3 := e
    simp at f1 f3
    by_cases hw : wordAt n s S.T = W
    · have eo : popOp n S s ⟨3, W, L⟩ = ⟨9, W, L⟩ := by unfold popOp; rw [if_neg no31, if_neg no32, if_pos rfl, if_pos hw]
      rw [eo]
      exact ⟨by omega, fun e => absurd rfl e⟩
    · have eo : popOp n S s ⟨3, W, L⟩ = ⟨1, W, L⟩ := by unfold popOp; rw [if_neg no31, if_neg no32, if_pos rfl, if_neg hw]
      have es : (popSt n S s ⟨3, W, L⟩).ws = s.ws := by unfold popSt; rw [if_neg no31, if_neg no32, if_pos rfl]; exact cas_no hw
      have hne : W ≠ top S s.ws := fun e => hw (wt.trans e.symm)
      have := f3 hne
      rw [eo, es]
      refine ⟨by omega, fun _ => ⟨⟨F + 1, by omega, by simp; omega, by omega, fun e => absurd rfl e⟩, ?_⟩⟩
      simp [rank, hne]
  · exact absurd e h9
theorem push_alone {n : Nat} {S : Stk} (hS : S.Ok n) {s : St} {made others i : Int} {x : Op} (hl : lines x) (h9 : x.line ≠ 9) (h0 : 0 ≤ i) (h1 : i < S.N) (h : AlOp S s.ws 3 made others x) :
    Near S s.ws (pushSt n S i s x).ws 3 made others x (pushOp n S s x) := by
  have wt := word_top hS s
  obtain ⟨F, f0, f1, f2, f3⟩ := h
  obtain ⟨l, W, L⟩ := x
  rcases hl with e | e | e | e
  · obtain rfl : l = 1 := e
    have eo : pushOp n S s ⟨1, W, L⟩ = ⟨2, top S s.ws, L⟩ := by unfold pushOp; rw [if_pos rfl, wt]
    have es : (pushSt n S i s ⟨1, W, L⟩).ws = s.ws := by unfold pushSt; rw [if_pos rfl]; exact acc_same ..
    simp at f1
    refine ⟨by omega, fun hne => ?_⟩
    rw [es, eo]
    exact ⟨⟨F, f0, by simp; omega, f2, fun _ e => absurd rfl e⟩, by simp [rank]⟩
  · obtain rfl : l = 2 := e
    have eo : pushOp n S s ⟨2, W, L⟩ = ⟨3, W, L⟩ := by unfold pushOp; rw [if_neg no21, if_pos rfl]
    have es : top S (pushSt n S i s ⟨2, W, L⟩).ws = top S s.ws := by
      unfold pushSt; rw [if_neg no21, if_pos rfl, acc_upd _ _ _ _ _ (by have := hS.K1; omega) (by have := hS.K2; omega), top_upd_link hS _ _ h0 h1]
    simp at f1 f3
    refine ⟨by omega, fun _ => ?_⟩
    rw [eo]
    refine ⟨⟨F, f0, by simp; omega, f2, fun _ hw => f3 (by rw [es] at hw; exact hw)⟩, ?_⟩
    unfold rank
    rw [es]
    by_cases hc : W = top S s.ws <;> simp [hc]
  · obtain rfl : l = 3 := e
    simp at f1 f3
    by_cases hw : wordAt n s S.T = W
    · have eo : pushOp n S s ⟨3, W, L⟩ = ⟨9, W, L⟩ := by unfold pushOp; rw [if_neg no31, if_neg no32, if_pos rfl, if_pos hw]
      rw [eo]
      exact ⟨by omega, fun e => absurd rfl e⟩
    · have eo : pushOp n S s ⟨3, W, L⟩ = ⟨1, W, L⟩ := by unfold pushOp; rw [if_neg no31, if_neg no32, if_pos rfl, if_neg hw]
      have es : (pushSt n S i s ⟨3, W, L⟩).ws = s.ws := by unfold pushSt; rw [if_neg no31, if_neg no32, if_pos rfl]; exact cas_no hw
      have hne : W ≠ top S s.ws := fun e => hw (wt.trans e.symm)
      have := f3 hne
      rw [eo, es]
      refine ⟨by omega, fun _ => ⟨⟨F + 1, by omega, by simp; omega, by omega, fun e => absurd rfl e⟩, ?_⟩⟩
      simp [rank, hne]
  · exact absurd e h9
theorem all_alone {n : Nat} {S : Stk} (hS : S.Ok n) {s : St} {made others : Int} {x : Op} (hl : lines x) (h9 : x.line ≠ 9) (h3 : x.line ≠ 3) (h : AlOp S s.ws 2 made others x) :
    Near S s.ws (allSt n S s x).ws 2 made others x (allOp n S s x) := by
  have wt := word_top hS s
  obtain ⟨F, f0, f1, f2, f3⟩ := h
  obtain ⟨l, W, L⟩ := x
  rcases hl with e | e | e | e
  · obtain rfl : l = 1 := e
    have eo : allOp n S s ⟨1, W, L⟩ = ⟨if idx S.N (top S s.ws) < 0 then 9 else 2, top S s.ws, L⟩ := by unfold allOp; rw [if_pos rfl, wt]
    have es : (allSt n S s ⟨1, W, L⟩).ws = s.ws := by unfold allSt; rw [if_pos rfl]; exact acc_same ..
    simp at f1
    refine ⟨by omega, fun hne => ?_⟩
    rw [es]
    by_cases hi : idx S.N (top S s.ws) < 0
    · rw [if_pos hi] at eo; rw [eo] at hne; exact absurd rfl hne
    · rw [if_neg hi] at eo
      rw [eo]
      exact ⟨⟨F, f0, by simp; omega, f2, fun _ e => absurd rfl e⟩, by simp [rank]⟩
  · obtain rfl : l = 2 := e
    simp at f1 f3
    by_cases hw : wordAt n s S.T = W
    · have eo : allOp n S s ⟨2, W, L⟩ = ⟨9, W, L⟩ := by unfold allOp; rw [if_neg no21, if_pos rfl, if_pos hw]
      rw [eo]
      exact ⟨by omega, fun e => absurd rfl e⟩
    · have eo : allOp n S s ⟨2, W, L⟩ = ⟨1, W, L⟩ := by unfold allOp; rw [if_neg no21, if_pos rfl, if_neg hw]
      have es : (allSt n S s ⟨2, W, L⟩).ws = s.ws := by unfold allSt; rw [if_neg no21, if_pos rfl]; exact cas_no hw
      have hne : W ≠ top S s.ws := fun e => hw (wt.trans e.symm)
      have := f3 hne
      rw [eo, es]
      refine ⟨by omega, fun _ => ⟨⟨F + 1, by omega, by simp; omega, by omega, fun e => absurd rfl e⟩, ?_⟩⟩
      simp [rank, hne]
  · exact absurd e h3
  · exact absurd e h9
theorem rank_le (S : Stk) (f : Nat → Int) (u : Nat) (x : Op) (hu : u ≤ 3) (hl : x.line ≠ 0) : rank S f u x ≤ 5 := by
  unfold rank
  split
  · omega
  · split <;> omega
theorem rank_pos (S : Stk) (f : Nat → Int) (u : Nat) (x : Op) (hu : 1 ≤ u) (hl : x.line ≤ u) : 1 ≤ rank S f u x := by
  unfold rank
  split
  · omega
  · split <;> omega
end Go.Proofs.Ytmbdgaflmiacnaa.Sk
