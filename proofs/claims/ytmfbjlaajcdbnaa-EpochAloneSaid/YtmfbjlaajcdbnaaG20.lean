/- A core's operation twice: the program's and the document's, side by side. Blocks have owners: 0 the program's memory, 1 the document's, 10 + 2 c and 11 + 2 c core c's operations. -/
import Derived.Test.YtmfbjlaajcdbnaaG19
import Derived.Test.YtmfbjlaajcdbnaaG16
import Derived.Deep.RegionHeld3
import Derived.Deep.QuietTactic
import Derived.BigQuiet
set_option linter.unusedVariables false
set_option linter.unusedSimpArgs false

namespace Go.Proofs.Ytmfbjlaajcdbnaa.Ep
set_option maxRecDepth 20000
open Go.RowKit
open Wo (St acc wordAt PMem RefIs)
open Sk (Stk Wd pmem_kept pmem_lt pmem_frame ref_frame ref_kept ref_lt)

inductive PS where
  | idle : PS
  | pin (d : Int) (x : EOp) (P Q : Nat) : PS
  | unpin (d : Int) (x : EOp) (P Q : Nat) : PS
  | adv (d p : Int) (x : EOp) (P Q : Nat) : PS
def PS.cells : PS → List Value
  | .idle => [.pointer none, .pointer none, .pointer none, .pointer none, .pointer none, .pointer none]
  | .pin _ _ P Q => [.pointer (some ⟨P, 0, none⟩), .pointer (some ⟨Q, 0, none⟩), .pointer none, .pointer none, .pointer none, .pointer none]
  | .unpin _ _ P Q => [.pointer none, .pointer none, .pointer (some ⟨P, 0, none⟩), .pointer (some ⟨Q, 0, none⟩), .pointer none, .pointer none]
  | .adv _ _ _ P Q => [.pointer none, .pointer none, .pointer none, .pointer none, .pointer (some ⟨P, 0, none⟩), .pointer (some ⟨Q, 0, none⟩)]
theorem PS.cells_len (p : PS) : p.cells.length = 6 := by cases p <;> rfl
theorem PS.cells_one (p : PS) : ∀ v ∈ p.cells, v.oneCell' = true := by
  cases p <;> (intro v hv; simp [PS.cells] at hv; rcases hv with rfl | rfl | rfl | rfl | rfl | rfl <;> rfl)

def PinIs (own : Nat → Nat) (c : Nat) (S : Stk) (w : World) (d : Int) (x : EOp) (P Q : Nat) : Prop :=
  PinAt w P S d x ∧ RPinAt w Q S d x ∧ x.Ok ∧ (x.line ≠ 9 → 0 ≤ d ∧ d < S.N) ∧ own P = 10 + 2 * c ∧ own Q = 11 + 2 * c
def UnpinIs (own : Nat → Nat) (c : Nat) (S : Stk) (w : World) (d : Int) (x : EOp) (P Q : Nat) : Prop :=
  UnpinAt w P S d x ∧ RUnpinAt w Q S d x ∧ x.Ok ∧ (x.line = 1 ∨ x.line = 9) ∧ (x.line ≠ 9 → 0 ≤ d ∧ d < S.N) ∧ own P = 10 + 2 * c ∧ own Q = 11 + 2 * c
def AdvIs (own : Nat → Nat) (c : Nat) (S : Stk) (w : World) (d p : Int) (x : EOp) (P Q : Nat) : Prop :=
  AdvAt w P S d p x ∧ RAdvAt w Q S d p x ∧ x.Ok ∧ AOkN S x ∧ own P = 10 + 2 * c ∧ own Q = 11 + 2 * c
def PS.Is (own : Nat → Nat) (c : Nat) (S : Stk) (w : World) : PS → Prop
  | .idle => True
  | .pin d x P Q => PinIs own c S w d x P Q
  | .unpin d x P Q => UnpinIs own c S w d x P Q
  | .adv d p x P Q => AdvIs own c S w d p x P Q
theorem PinAt.lt {w : World} {P : Nat} {S : Stk} {d : Int} {x : EOp} (h : PinAt w P S d x) : P < w.heap.size := lt_of_cell h.r0
theorem UnpinAt.lt {w : World} {P : Nat} {S : Stk} {d : Int} {x : EOp} (h : UnpinAt w P S d x) : P < w.heap.size := lt_of_cell h.r0
theorem AdvAt.lt {w : World} {P : Nat} {S : Stk} {d p : Int} {x : EOp} (h : AdvAt w P S d p x) : P < w.heap.size := lt_of_cell h.r0
theorem RPinAt.lt {w : World} {Q : Nat} {S : Stk} {d : Int} {x : EOp} (h : RPinAt w Q S d x) : Q < w.heap.size := by
  obtain ⟨_, _, _, _, ⟨c0, _⟩, _⟩ := h.c
  exact lt_of_cell c0
theorem RUnpinAt.lt {w : World} {Q : Nat} {S : Stk} {d : Int} {x : EOp} (h : RUnpinAt w Q S d x) : Q < w.heap.size := by
  obtain ⟨_, _, _, _, ⟨c0, _⟩, _⟩ := h.c
  exact lt_of_cell c0
theorem RAdvAt.lt {w : World} {Q : Nat} {S : Stk} {d p : Int} {x : EOp} (h : RAdvAt w Q S d p x) : Q < w.heap.size := by
  obtain ⟨_, _, _, _, _, _, _, ⟨c0, _⟩, _⟩ := h.c
  exact lt_of_cell c0
theorem PS.Is.frame {own : Nat → Nat} {c : Nat} {S : Stk} {w w' : World} {p : PS} (h : p.Is own c S w) {T : Nat → Prop} (hb : But T w w') (hT : ∀ k, T k → own k ≠ 10 + 2 * c ∧ own k ≠ 11 + 2 * c) : p.Is own c S w' := by
  cases p with
  | idle => trivial
  | pin d x P Q =>
    obtain ⟨h1, h2, h3, h4, h6, h7⟩ := h
    exact ⟨h1.but hb (fun t => (hT _ t).1 h6), h2.but hb (fun t => (hT _ t).2 h7), h3, h4, h6, h7⟩
  | unpin d x P Q =>
    obtain ⟨h1, h2, h3, h4, h5, h6, h7⟩ := h
    exact ⟨h1.but hb (fun t => (hT _ t).1 h6), h2.but hb (fun t => (hT _ t).2 h7), h3, h4, h5, h6, h7⟩
  | adv d p x P Q =>
    obtain ⟨h1, h2, h3, h4, h6, h7⟩ := h
    exact ⟨h1.but hb (fun t => (hT _ t).1 h6), h2.but hb (fun t => (hT _ t).2 h7), h3, h4, h6, h7⟩
theorem PS.Is.kept {own : Nat → Nat} {c : Nat} {S : Stk} {w w' : World} {p : PS} (h : p.Is own c S w) (k : Kept w w') : p.Is own c S w' := h.frame (k.but (fun _ => False)) (fun _ h => h.elim)
theorem PS.Is.owns {own own' : Nat → Nat} {c : Nat} {S : Stk} {w : World} {p : PS} (h : p.Is own c S w) (ho : ∀ k, k < w.heap.size → own' k = own k) : p.Is own' c S w := by
  cases p with
  | idle => trivial
  | pin d x P Q =>
    obtain ⟨h1, h2, h3, h4, h6, h7⟩ := h
    exact ⟨h1, h2, h3, h4, (ho _ h1.lt).trans h6, (ho _ h2.lt).trans h7⟩
  | unpin d x P Q =>
    obtain ⟨h1, h2, h3, h4, h5, h6, h7⟩ := h
    exact ⟨h1, h2, h3, h4, h5, (ho _ h1.lt).trans h6, (ho _ h2.lt).trans h7⟩
  | adv d p x P Q =>
    obtain ⟨h1, h2, h3, h4, h6, h7⟩ := h
    exact ⟨h1, h2, h3, h4, (ho _ h1.lt).trans h6, (ho _ h2.lt).trans h7⟩

structure Duo (own : Nat → Nat) (w : World) (M B M2 B2 n : Nat) (s : St) : Prop where
  p : PMem w M B n s
  r : RefIs w M2 B2 n s
  wd : Wd n s
  c0 : 0 ≤ s.cnt
  oM : own M = 0
  oB : own B = 0
  oM2 : own M2 = 1
  oB2 : own B2 = 1
  n1 : 1 ≤ n
  n2 : n ≤ 4096
theorem Duo.frame {own : Nat → Nat} {w w' : World} {M B M2 B2 n : Nat} {s : St} (h : Duo own w M B M2 B2 n s) {T : Nat → Prop} (hb : But T w w') (hT : ∀ k, T k → own k ≠ 0 ∧ own k ≠ 1) : Duo own w' M B M2 B2 n s :=
  ⟨pmem_frame h.p hb (fun t => (hT _ t).1 h.oM) (fun t => (hT _ t).1 h.oB), ref_frame h.r h.n1 hb (fun t => (hT _ t).2 h.oM2) (fun t => (hT _ t).2 h.oB2), h.wd, h.c0, h.oM, h.oB, h.oM2, h.oB2, h.n1, h.n2⟩
theorem Duo.kept {own : Nat → Nat} {w w' : World} {M B M2 B2 n : Nat} {s : St} (h : Duo own w M B M2 B2 n s) (k : Kept w w') : Duo own w' M B M2 B2 n s := h.frame (k.but (fun _ => False)) (fun _ h => h.elim)
theorem Duo.owns {own own' : Nat → Nat} {w : World} {M B M2 B2 n : Nat} {s : St} (h : Duo own w M B M2 B2 n s) (ho : ∀ k, k < w.heap.size → own' k = own k) : Duo own' w M B M2 B2 n s :=
  ⟨h.p, h.r, h.wd, h.c0, (ho _ (pmem_lt h.p).1).trans h.oM, (ho _ (pmem_lt h.p).2).trans h.oB, (ho _ (ref_lt h.r h.n1).1).trans h.oM2, (ho _ (ref_lt h.r h.n1).2).trans h.oB2, h.n1, h.n2⟩
def mine (own : Nat → Nat) (c : Nat) (k : Nat) : Prop := own k = 0 ∨ own k = 1 ∨ own k = 10 + 2 * c ∨ own k = 11 + 2 * c
def ToldPost (own : Nat → Nat) (c : Nat) (S : Stk) (M B M2 B2 n : Nat) (s : St) (p : PS) (b : Bool) (w : World) (e : Ending) (w' : World) : Prop :=
  e = .returned (.bool true) ∧ ∃ (p' : PS) (s' : St), p'.cells = p.cells ∧ (b = false → s' = s) ∧ p'.Is own c S w' ∧ Duo own w' M B M2 B2 n s' ∧ s'.cnt ≤ s.cnt + 1 ∧ But (mine own c) w w'
theorem mine_sub {own : Nat → Nat} {c P B : Nat} (hP : own P = 10 + 2 * c ∨ own P = 11 + 2 * c) (hB : own B = 0 ∨ own B = 1) : ∀ k, k = P ∨ k = B → mine own c k := by
  rintro k (rfl | rfl)
  · rcases hP with h | h
    · exact .inr (.inr (.inl h))
    · exact .inr (.inr (.inr h))
  · rcases hB with h | h
    · exact .inl h
    · exact .inr (.inl h)

structure EOk (S : Stk) (n : Nat) : Prop where
  ok : S.Ok n
  N : S.N ≤ 64
theorem EOk.at_ {S : Stk} {n : Nat} (h : EOk S n) {d : Int} (h0 : 0 ≤ d ∧ d < S.N) : -9223372036854775808 ≤ S.K + d ∧ S.K + d ≤ 9223372036854775807 := by
  have := h.ok.K1
  have := h.ok.K2
  have := h.ok.n2
  omega

theorem pin_all (P : Nat) (S : Stk) (d : Int) (x : EOp) (M B n : Nat) (s : St) (w : World) (h : PinAt w P S d x) (hm : PMem w M B n s) (h0 : 0 ≤ s.cnt) (h1 : s.cnt ≤ 1000000) (hP : P ≠ M ∧ P ≠ B) (hx : x.Ok) (hw : Wd n s) (hS : EOk S n) (hd : x.line ≠ 9 → 0 ≤ d ∧ d < S.N) :
    Calls Try.prog 30 #[.pointer (some ⟨P, 0, none⟩), .pointer (some ⟨M, 0, none⟩)] w (Stepped (fun w' => PinAt w' P S d (pinOp n S s x)) M B n (pinSt n S d s x) P ((pinOp n S s x).line == 9) w) := by
  by_cases e : x.line = 9
  · have eo : pinOp n S s x = x := by unfold pinOp; rw [if_neg (by omega), if_neg (by omega), if_neg (by omega)]
    have es : pinSt n S d s x = s := by unfold pinSt; rw [if_neg (by omega), if_neg (by omega), if_neg (by omega)]
    have e9 : (x.line == 9) = true := beq_iff_eq.2 e
    rw [eo, es, e9]
    obtain ⟨u, q, st⟩ := h.st
    rw [next_over e] at st
    exact (pin_over_step P true _ _ _ _ _ w st).mono fun _ _ ⟨a, k⟩ => ⟨a, h.kept k, pmem_kept hm k, k.but _⟩
  · have hd := hS.at_ (hd e)
    exact pin_step P S d x M B n s w h hm h0 h1 hP hx.ln hx.good hw hd.1 hd.2
theorem unpin_all (P : Nat) (S : Stk) (d : Int) (x : EOp) (M B n : Nat) (s : St) (w : World) (h : UnpinAt w P S d x) (hm : PMem w M B n s) (h0 : 0 ≤ s.cnt) (h1 : s.cnt ≤ 1000000) (hP : P ≠ M ∧ P ≠ B) (hl : x.line = 1 ∨ x.line = 9) (hS : EOk S n) (hd : x.line ≠ 9 → 0 ≤ d ∧ d < S.N) :
    Calls Try.prog 31 #[.pointer (some ⟨P, 0, none⟩), .pointer (some ⟨M, 0, none⟩)] w (Stepped (fun w' => UnpinAt w' P S d (unOp x)) M B n (unSt n S d s x) P ((unOp x).line == 9) w) := by
  by_cases e : x.line = 9
  · have eo : unOp x = x := by unfold unOp; rw [if_neg (by omega)]
    have es : unSt n S d s x = s := by unfold unSt; rw [if_neg (by omega)]
    have e9 : (x.line == 9) = true := beq_iff_eq.2 e
    rw [eo, es, e9]
    obtain ⟨u, q, st⟩ := h.st
    rw [next_over e] at st
    exact (unpin_over_step P true _ _ _ _ _ w st).mono fun _ _ ⟨a, k⟩ => ⟨a, h.kept k, pmem_kept hm k, k.but _⟩
  · have hd := hS.at_ (hd e)
    exact unpin_step P S d x M B n s w h hm h0 h1 hP hl hd.1 hd.2
theorem adv_all (P : Nat) (S : Stk) (d p : Int) (x : EOp) (M B n : Nat) (s : St) (w : World) (h : AdvAt w P S d p x) (hm : PMem w M B n s) (h0 : 0 ≤ s.cnt) (h1 : s.cnt ≤ 1000000) (hP : P ≠ M ∧ P ≠ B) (hx : x.Ok) (ha : AOkN S x) (hw : Wd n s) (hS : EOk S n) :
    Calls Try.prog 32 #[.pointer (some ⟨P, 0, none⟩), .pointer (some ⟨M, 0, none⟩)] w (Stepped (fun w' => AdvAt w' P S d p (advOp n S d p s x)) M B n (advSt n S s x) P ((advOp n S d p s x).line == 9) w) :=
  adv_step P S d p x M B n s w h hm h0 h1 hP ⟨hx.ln, ha.l1, ha.l2⟩ hx.good hw hx.busy (by have := hS.N; omega) hS.ok.K1 (by have := hS.ok.K2; have := hS.ok.n2; have := hS.ok.N1; omega) hS.ok.T1 hS.ok.T2
end Go.Proofs.Ytmfbjlaajcdbnaa.Ep

namespace Go.Proofs.Ytmfbjlaajcdbnaa.Ep
set_option maxRecDepth 20000
open Go.RowKit
open Wo (St acc wordAt PMem RefIs)
open Sk (Stk Wd pmem_kept pmem_lt pmem_frame ref_frame ref_kept ref_lt)

theorem pin_on {n : Nat} {S : Stk} {s : St} {x : EOp} (h : (pinOp n S s x).line ≠ 9) : x.line ≠ 9 := fun e => h (by unfold pinOp; rw [if_neg (by omega), if_neg (by omega), if_neg (by omega)]; exact e)
theorem un_on {x : EOp} (h : (unOp x).line ≠ 9) : x.line ≠ 9 := fun e => h (by unfold unOp; rw [if_neg (by omega)]; exact e)
theorem un_ends {x : EOp} (h : x.line = 1 ∨ x.line = 9) : (unOp x).line = 1 ∨ (unOp x).line = 9 := by
  rcases h with h | h
  · right; unfold unOp; rw [if_pos h]
  · right; unfold unOp; rw [if_neg (by omega)]; exact h

def PinP1 (own : Nat → Nat) (c : Nat) (S : Stk) (M B M2 B2 n : Nat) (s : St) (d : Int) (x : EOp) (P Q : Nat) (w : World) (e : Ending) (w' : World) : Prop :=
  e = .returned (.bool ((pinOp n S s x).line == 9)) ∧ PinAt w' P S d (pinOp n S s x) ∧ RPinAt w' Q S d x ∧ PMem w' M B n (pinSt n S d s x) ∧ RefIs w' M2 B2 n s ∧ But (mine own c) w w' ∧ But (fun k => k = P ∨ k = B) w w'
def PinP2 (own : Nat → Nat) (c : Nat) (S : Stk) (M B M2 B2 n : Nat) (s : St) (d : Int) (x : EOp) (P Q : Nat) (w : World) (e : Ending) (w' : World) : Prop :=
  e = .returned (.bool ((pinOp n S s x).line == 9)) ∧ PS.Is own c S w' (.pin d (pinOp n S s x) P Q) ∧ Duo own w' M B M2 B2 n (pinSt n S d s x) ∧ But (mine own c) w w' ∧ But (fun k => k = Q ∨ k = M2 ∨ k = B2) w w'
theorem pin_first (own : Nat → Nat) (c : Nat) (S : Stk) (M B M2 B2 n : Nat) (s : St) (d : Int) (x : EOp) (P Q : Nat) (w : World) (h : PinIs own c S w d x P Q) (hd : Duo own w M B M2 B2 n s) (hS : EOk S n) (c1 : s.cnt ≤ 1000000) :
    Calls Try.prog 30 #[.pointer (some ⟨P, 0, none⟩), .pointer (some ⟨M, 0, none⟩)] w (PinP1 own c S M B M2 B2 n s d x P Q w) := by
  obtain ⟨hp, hr, hx, hd', oP, oQ⟩ := h
  obtain ⟨hm0, hr0, hwd, c0, oM, oB, oM2, oB2, n1, n2⟩ := hd
  have hPM : P ≠ M := fun e => by rw [e] at oP; omega
  have hPB : P ≠ B := fun e => by rw [e] at oP; omega
  refine (pin_all P S d x M B n s _ hp hm0 c0 c1 ⟨hPM, hPB⟩ hx hwd hS hd').mono fun e w' ⟨x1, x2, x3, x4⟩ => ⟨x1, x2, hr.but x4 ?_, x3, ref_frame hr0 n1 x4 ?_ ?_, x4.mono fun k _ h => mine_sub (.inl oP) (.inl oB) k h, x4⟩
  · rintro (e | e)
    · rw [e] at oQ; omega
    · rw [e] at oQ; omega
  · rintro (e | e)
    · rw [e] at oM2; omega
    · rw [e] at oM2; omega
  · rintro (e | e)
    · rw [e] at oB2; omega
    · rw [e] at oB2; omega
theorem pin_second (own : Nat → Nat) (c : Nat) (S : Stk) (M B M2 B2 n : Nat) (s : St) (d : Int) (x : EOp) (P Q : Nat) (w0 w : World) (h : PinIs own c S w0 d x P Q) (hd : Duo own w0 M B M2 B2 n s) (hS : EOk S n) (c1 : s.cnt ≤ 1000000)
    (g1 : PinAt w P S d (pinOp n S s x)) (g2 : RPinAt w Q S d x) (g3 : PMem w M B n (pinSt n S d s x)) (g4 : RefIs w M2 B2 n s) :
    Calls Try.prog 58 #[.pointer (some ⟨Q, 0, none⟩), .pointer (some ⟨M2, 0, none⟩)] w (PinP2 own c S M B M2 B2 n s d x P Q w) := by
  obtain ⟨hp, hr, hx, hd', oP, oQ⟩ := h
  obtain ⟨hm0, _, hwd, c0, oM, oB, oM2, oB2, n1, n2⟩ := hd
  have hQ : ¬ (Q = M2 ∨ Q = B2) := by
    rintro (e | e)
    · rw [e] at oQ; omega
    · rw [e] at oQ; omega
  refine (rpin_step Q M2 B2 n S d s x _ g2 g4 c0 c1 n2 n1 hQ hx hwd (fun h => hS.at_ (hd' h))).mono fun e w' ⟨x1, x2, x3, x4⟩ => ⟨x1, ⟨g1.but x4 ?_, x2, pin_ok hx hwd, fun h => hd' (pin_on h), oP, oQ⟩, ⟨pmem_frame g3 x4 ?_ ?_, x3, pin_wd hwd, by have := @pin_cnt n S d s x; omega, oM, oB, oM2, oB2, n1, n2⟩, x4.mono fun k _ h => ?_, x4⟩
  · rintro (e | e | e)
    · rw [e] at oP; omega
    · rw [e] at oP; omega
    · rw [e] at oP; omega
  · rintro (e | e | e)
    · rw [e] at oM; omega
    · rw [e] at oM; omega
    · rw [e] at oM; omega
  · rintro (e | e | e)
    · rw [e] at oB; omega
    · rw [e] at oB; omega
    · rw [e] at oB; omega
  · rcases h with rfl | rfl | rfl
    · exact .inr (.inr (.inr oQ))
    · exact .inr (.inl oM2)
    · exact .inr (.inl oB2)

def UnpinP1 (own : Nat → Nat) (c : Nat) (S : Stk) (M B M2 B2 n : Nat) (s : St) (d : Int) (x : EOp) (P Q : Nat) (w : World) (e : Ending) (w' : World) : Prop :=
  e = .returned (.bool ((unOp x).line == 9)) ∧ UnpinAt w' P S d (unOp x) ∧ RUnpinAt w' Q S d x ∧ PMem w' M B n (unSt n S d s x) ∧ RefIs w' M2 B2 n s ∧ But (mine own c) w w' ∧ But (fun k => k = P ∨ k = B) w w'
def UnpinP2 (own : Nat → Nat) (c : Nat) (S : Stk) (M B M2 B2 n : Nat) (s : St) (d : Int) (x : EOp) (P Q : Nat) (w : World) (e : Ending) (w' : World) : Prop :=
  e = .returned (.bool ((unOp x).line == 9)) ∧ PS.Is own c S w' (.unpin d (unOp x) P Q) ∧ Duo own w' M B M2 B2 n (unSt n S d s x) ∧ But (mine own c) w w' ∧ But (fun k => k = Q ∨ k = M2 ∨ k = B2) w w'
theorem unpin_first (own : Nat → Nat) (c : Nat) (S : Stk) (M B M2 B2 n : Nat) (s : St) (d : Int) (x : EOp) (P Q : Nat) (w : World) (h : UnpinIs own c S w d x P Q) (hd : Duo own w M B M2 B2 n s) (hS : EOk S n) (c1 : s.cnt ≤ 1000000) :
    Calls Try.prog 31 #[.pointer (some ⟨P, 0, none⟩), .pointer (some ⟨M, 0, none⟩)] w (UnpinP1 own c S M B M2 B2 n s d x P Q w) := by
  obtain ⟨hp, hr, hx, hl, hd', oP, oQ⟩ := h
  obtain ⟨hm0, hr0, hwd, c0, oM, oB, oM2, oB2, n1, n2⟩ := hd
  have hPM : P ≠ M := fun e => by rw [e] at oP; omega
  have hPB : P ≠ B := fun e => by rw [e] at oP; omega
  refine (unpin_all P S d x M B n s _ hp hm0 c0 c1 ⟨hPM, hPB⟩ hl hS hd').mono fun e w' ⟨x1, x2, x3, x4⟩ => ⟨x1, x2, hr.but x4 ?_, x3, ref_frame hr0 n1 x4 ?_ ?_, x4.mono fun k _ h => mine_sub (.inl oP) (.inl oB) k h, x4⟩
  · rintro (e | e)
    · rw [e] at oQ; omega
    · rw [e] at oQ; omega
  · rintro (e | e)
    · rw [e] at oM2; omega
    · rw [e] at oM2; omega
  · rintro (e | e)
    · rw [e] at oB2; omega
    · rw [e] at oB2; omega
theorem unpin_second (own : Nat → Nat) (c : Nat) (S : Stk) (M B M2 B2 n : Nat) (s : St) (d : Int) (x : EOp) (P Q : Nat) (w0 w : World) (h : UnpinIs own c S w0 d x P Q) (hd : Duo own w0 M B M2 B2 n s) (hS : EOk S n) (c1 : s.cnt ≤ 1000000)
    (g1 : UnpinAt w P S d (unOp x)) (g2 : RUnpinAt w Q S d x) (g3 : PMem w M B n (unSt n S d s x)) (g4 : RefIs w M2 B2 n s) :
    Calls Try.prog 60 #[.pointer (some ⟨Q, 0, none⟩), .pointer (some ⟨M2, 0, none⟩)] w (UnpinP2 own c S M B M2 B2 n s d x P Q w) := by
  obtain ⟨hp, hr, hx, hl, hd', oP, oQ⟩ := h
  obtain ⟨hm0, _, hwd, c0, oM, oB, oM2, oB2, n1, n2⟩ := hd
  have hQ : ¬ (Q = M2 ∨ Q = B2) := by
    rintro (e | e)
    · rw [e] at oQ; omega
    · rw [e] at oQ; omega
  refine (runpin_step Q M2 B2 n S d s x _ g2 g4 c0 c1 n2 n1 hQ hl (fun h => hS.at_ (hd' h))).mono fun e w' ⟨x1, x2, x3, x4⟩ => ⟨x1, ⟨g1.but x4 ?_, x2, un_ok hx, un_ends hl, fun h => hd' (un_on h), oP, oQ⟩, ⟨pmem_frame g3 x4 ?_ ?_, x3, un_wd hwd, by have := @un_cnt n S d s x; omega, oM, oB, oM2, oB2, n1, n2⟩, x4.mono fun k _ h => ?_, x4⟩
  · rintro (e | e | e)
    · rw [e] at oP; omega
    · rw [e] at oP; omega
    · rw [e] at oP; omega
  · rintro (e | e | e)
    · rw [e] at oM; omega
    · rw [e] at oM; omega
    · rw [e] at oM; omega
  · rintro (e | e | e)
    · rw [e] at oB; omega
    · rw [e] at oB; omega
    · rw [e] at oB; omega
  · rcases h with rfl | rfl | rfl
    · exact .inr (.inr (.inr oQ))
    · exact .inr (.inl oM2)
    · exact .inr (.inl oB2)

def AdvanceP1 (own : Nat → Nat) (c : Nat) (S : Stk) (M B M2 B2 n : Nat) (s : St) (d p : Int) (x : EOp) (P Q : Nat) (w : World) (e : Ending) (w' : World) : Prop :=
  e = .returned (.bool ((advOp n S d p s x).line == 9)) ∧ AdvAt w' P S d p (advOp n S d p s x) ∧ RAdvAt w' Q S d p x ∧ PMem w' M B n (advSt n S s x) ∧ RefIs w' M2 B2 n s ∧ But (mine own c) w w' ∧ But (fun k => k = P ∨ k = B) w w'
def AdvanceP2 (own : Nat → Nat) (c : Nat) (S : Stk) (M B M2 B2 n : Nat) (s : St) (d p : Int) (x : EOp) (P Q : Nat) (w : World) (e : Ending) (w' : World) : Prop :=
  e = .returned (.bool ((advOp n S d p s x).line == 9)) ∧ PS.Is own c S w' (.adv d p (advOp n S d p s x) P Q) ∧ Duo own w' M B M2 B2 n (advSt n S s x) ∧ But (mine own c) w w' ∧ But (fun k => k = Q ∨ k = M2 ∨ k = B2) w w'
theorem adv_first (own : Nat → Nat) (c : Nat) (S : Stk) (M B M2 B2 n : Nat) (s : St) (d p : Int) (x : EOp) (P Q : Nat) (w : World) (h : AdvIs own c S w d p x P Q) (hd : Duo own w M B M2 B2 n s) (hS : EOk S n) (c1 : s.cnt ≤ 1000000) :
    Calls Try.prog 32 #[.pointer (some ⟨P, 0, none⟩), .pointer (some ⟨M, 0, none⟩)] w (AdvanceP1 own c S M B M2 B2 n s d p x P Q w) := by
  obtain ⟨hp, hr, hx, ha, oP, oQ⟩ := h
  obtain ⟨hm0, hr0, hwd, c0, oM, oB, oM2, oB2, n1, n2⟩ := hd
  have hPM : P ≠ M := fun e => by rw [e] at oP; omega
  have hPB : P ≠ B := fun e => by rw [e] at oP; omega
  refine (adv_all P S d p x M B n s _ hp hm0 c0 c1 ⟨hPM, hPB⟩ hx ha hwd hS).mono fun e w' ⟨x1, x2, x3, x4⟩ => ⟨x1, x2, hr.but x4 ?_, x3, ref_frame hr0 n1 x4 ?_ ?_, x4.mono fun k _ h => mine_sub (.inl oP) (.inl oB) k h, x4⟩
  · rintro (e | e)
    · rw [e] at oQ; omega
    · rw [e] at oQ; omega
  · rintro (e | e)
    · rw [e] at oM2; omega
    · rw [e] at oM2; omega
  · rintro (e | e)
    · rw [e] at oB2; omega
    · rw [e] at oB2; omega
theorem adv_second (own : Nat → Nat) (c : Nat) (S : Stk) (M B M2 B2 n : Nat) (s : St) (d p : Int) (x : EOp) (P Q : Nat) (w0 w : World) (h : AdvIs own c S w0 d p x P Q) (hd : Duo own w0 M B M2 B2 n s) (hS : EOk S n) (c1 : s.cnt ≤ 1000000)
    (g1 : AdvAt w P S d p (advOp n S d p s x)) (g2 : RAdvAt w Q S d p x) (g3 : PMem w M B n (advSt n S s x)) (g4 : RefIs w M2 B2 n s) :
    Calls Try.prog 62 #[.pointer (some ⟨Q, 0, none⟩), .pointer (some ⟨M2, 0, none⟩)] w (AdvanceP2 own c S M B M2 B2 n s d p x P Q w) := by
  obtain ⟨hp, hr, hx, ha, oP, oQ⟩ := h
  obtain ⟨hm0, _, hwd, c0, oM, oB, oM2, oB2, n1, n2⟩ := hd
  have hQ : ¬ (Q = M2 ∨ Q = B2) := by
    rintro (e | e)
    · rw [e] at oQ; omega
    · rw [e] at oQ; omega
  refine (radv_step Q M2 B2 n S d p s x _ g2 g4 c0 c1 n2 n1 hQ hx ha hwd (by have := hS.N; omega) hS.ok.K1 (by have := hS.ok.K2; have := hS.ok.n2; have := hS.ok.N1; omega) hS.ok.T1 hS.ok.T2).mono fun e w' ⟨x1, x2, x3, x4⟩ => ⟨x1, ⟨g1.but x4 ?_, x2, adv_ok hx hwd, adv_at ha, oP, oQ⟩, ⟨pmem_frame g3 x4 ?_ ?_, x3, adv_wd hwd, by have := @adv_cnt n S s x; omega, oM, oB, oM2, oB2, n1, n2⟩, x4.mono fun k _ h => ?_, x4⟩
  · rintro (e | e | e)
    · rw [e] at oP; omega
    · rw [e] at oP; omega
    · rw [e] at oP; omega
  · rintro (e | e | e)
    · rw [e] at oM; omega
    · rw [e] at oM; omega
    · rw [e] at oM; omega
  · rintro (e | e | e)
    · rw [e] at oB; omega
    · rw [e] at oB; omega
    · rw [e] at oB; omega
  · rcases h with rfl | rfl | rfl
    · exact .inr (.inr (.inr oQ))
    · exact .inr (.inl oM2)
    · exact .inr (.inl oB2)
end Go.Proofs.Ytmfbjlaajcdbnaa.Ep

namespace Go.Proofs.Ytmfbjlaajcdbnaa.Ep
set_option maxRecDepth 20000
open Go.RowKit
open Wo (St acc wordAt PMem RefIs)
open Sk (Stk Wd pmem_kept pmem_lt pmem_frame ref_frame ref_kept ref_lt)

set_option maxHeartbeats 4000000 in
theorem same_pin_step (own : Nat → Nat) (c : Nat) (S : Stk) (M B M2 B2 n : Nat) (s : St) (d : Int) (x : EOp) (P Q : Nat) (w : World) (h : PinIs own c S w d x P Q) (hd : Duo own w M B M2 B2 n s) (hS : EOk S n) (c1 : s.cnt ≤ 900000) :
    Calls Try.prog 14 #[.agg #[.pointer (some ⟨P, 0, none⟩), .pointer (some ⟨Q, 0, none⟩), .pointer none, .pointer none, .pointer none, .pointer none], .pointer (some ⟨M, 0, none⟩), .pointer (some ⟨M2, 0, none⟩), .bool true] w (ToldPost own c S M B M2 B2 n s (.pin d x P Q) true w) := by
  have FIRST := Lib.hid (fun W (k : Kept w W) => pin_first own c S M B M2 B2 n s d x P Q W (PS.Is.kept (p := .pin d x P Q) h k) (hd.kept k) hS (by omega))
  have SECOND := Lib.hid (pin_second own c S M B M2 B2 n s d x P Q w)
  have hP : P < w.heap.size := h.1.lt
  have hQ : Q < w.heap.size := h.2.1.lt
  have hB : B < w.heap.size := (pmem_lt hd.p).2
  have hB2 : B2 < w.heap.size := (ref_lt hd.r hd.n1).2
  have hM2 : M2 < w.heap.size := (ref_lt hd.r hd.n1).1
  have HH := Lib.hid h
  have HD := Lib.hid hd
  have HS := Lib.hid hS
  clear h hd hS
  go_enter Try.func14, Try.ntmps14
  go_upto_region 2 with fail
  obtain ⟨W1, hW1⟩ : ∃ W1, W1 = w.alloc (.cells #[.pointer (some ⟨P, 0, none⟩), .pointer (some ⟨Q, 0, none⟩), .pointer none, .pointer none, .pointer none, .pointer none] 44) := ⟨_, rfl⟩
  have a0 : W1.cell? ⟨w.heap.size, 0, none⟩ = some (.pointer (some ⟨P, 0, none⟩)) := by rw [hW1]; exact cell_new w _ _ _ 0 rfl
  have a1 : W1.cell? ⟨w.heap.size, 1, none⟩ = some (.pointer (some ⟨Q, 0, none⟩)) := by rw [hW1]; exact cell_new w _ _ _ 1 rfl
  have k1 : Kept w W1 := by rw [hW1]; exact (Kept.refl w).alloc _ _
  rw [← hW1]
  have z1 : w.heap.size < W1.heap.size := by rw [hW1]; simp
  have K1 := Lib.hid k1
  clear hW1 k1
  go_region_held3 (fun w' => w'.cell? ⟨w.heap.size, 0, none⟩ = some (.pointer (some ⟨P, 0, none⟩)) ∧ w'.cell? ⟨w.heap.size, 1, none⟩ = some (.pointer (some ⟨Q, 0, none⟩))) (first | go_keep | (exact ⟨d0, d1⟩) | (exact ⟨b0, b1⟩)) (first
    | (go_at_call 30; refine (FIRST.out _ (K1.out.trans (by first | exact Kept.refl _ | exact (Kept.refl _).drew | exact (Kept.refl _).drewN _))).mono ?_; rintro e u1 ⟨rfl, y1, y2, y3, y4, y5, y6⟩; have BT : But (fun k => k = P ∨ k = B) W1 u1 := (Kept.but (w' := _) (by first | exact Kept.refl _ | exact (Kept.refl _).drew | exact (Kept.refl _).drewN _) _).trans y6 (fun _ _ h => h); have B1 : But (mine own c) w u1 := ((K1.out.trans (c := _) (by first | exact Kept.refl _ | exact (Kept.refl _).drew | exact (Kept.refl _).drewN _)).but _).trans y5 (fun _ _ h => h); have b0 := BT.some a0 (by omega); have b1 := BT.some a1 (by omega))
    | (go_at_call 58; refine (SECOND.out _ HH.out HD.out HS.out (by omega) (y1.kept (by first | exact Kept.refl _ | exact (Kept.refl _).drew | exact (Kept.refl _).drewN _)) (y2.kept (by first | exact Kept.refl _ | exact (Kept.refl _).drew | exact (Kept.refl _).drewN _)) (pmem_kept y3 (by first | exact Kept.refl _ | exact (Kept.refl _).drew | exact (Kept.refl _).drewN _)) (ref_kept y4 HS.out.ok.n1 (by first | exact Kept.refl _ | exact (Kept.refl _).drew | exact (Kept.refl _).drewN _))).mono ?_; rintro e u2 ⟨rfl, v1, v2, v3, v4⟩; have BU : But (fun k => k = Q ∨ k = M2 ∨ k = B2) u1 u2 := (Kept.but (w' := _) (by first | exact Kept.refl _ | exact (Kept.refl _).drew | exact (Kept.refl _).drewN _) _).trans v4 (fun _ _ h => h); have B2' : But (mine own c) w u2 := (B1.trans ((Kept.but (w' := _) (by first | exact Kept.refl _ | exact (Kept.refl _).drew | exact (Kept.refl _).drewN _) _).trans v3 (fun _ _ h => h)) (fun _ _ h => h)); have d0 := BU.some b0 (by omega); have d1 := BU.some b1 (by omega)))
  obtain ⟨x', hx'⟩ : ∃ x', x' = pinOp n S s x := ⟨_, rfl⟩
  obtain ⟨s', hs'⟩ : ∃ s', s' = pinSt n S d s x := ⟨_, rfl⟩
  have hcnt : s'.cnt ≤ s.cnt + 1 := by rw [hs']; exact (@pin_cnt n S d s x).2
  rw [← hx'] at v1
  rw [← hs'] at v2
  rw [← hx']
  have VI : Hid (PinIs own c S u2 d x' P Q) := Lib.hid v1
  have VD := Lib.hid v2
  have VB := Lib.hid B2'
  clear hx' hs' y1 y2 y3 y4 y5 y6 BT B1 b0 b1 v1 v2 v3 v4 BU B2' a0 a1
  have a0 := d0
  have a1 := d1
  have z2 : w.heap.size < u2.heap.size := lt_of_cell d0
  clear d0 d1
  go_wp2_with fail
  refine (pin_told P S d x' _ (VI.out.1.kept (by first | exact Kept.refl _ | exact (Kept.refl _).drew | exact (Kept.refl _).drewN _)) VI.out.2.2.1.good VI.out.2.2.1.er).mono ?_
  rintro e u3 ⟨rfl, k3⟩
  have K3 : Kept u2 u3 := Kept.trans (b := _) (by first | exact Kept.refl _ | exact (Kept.refl _).drew | exact (Kept.refl _).drewN _) k3
  have e0 := K3.some a0
  have e1 := K3.some a1
  have HK3 := Lib.hid K3
  clear k3 K3
  go_wp2_with fail
  refine (rpin_told Q S d x' _ (VI.out.2.1.kept HK3.out) VI.out.2.2.1).mono ?_
  rintro e u4 ⟨rfl, k4⟩
  have HK4 := Lib.hid (HK3.out.trans k4)
  clear k4
  go_wp2
  go_ret
  have KK := HK4.out
  exact ⟨rfl, .pin d x' P Q, s', rfl, fun h => absurd h (by decide), PS.Is.kept (p := .pin d x' P Q) VI.out KK, VD.out.kept KK, hcnt, VB.out.then KK⟩

set_option maxHeartbeats 4000000 in
theorem same_pin_rest (own : Nat → Nat) (c : Nat) (S : Stk) (M B M2 B2 n : Nat) (s : St) (d : Int) (x : EOp) (P Q : Nat) (w : World) (h : PinIs own c S w d x P Q) (hd : Duo own w M B M2 B2 n s) (hS : EOk S n) (c1 : s.cnt ≤ 900000) :
    Calls Try.prog 14 #[.agg #[.pointer (some ⟨P, 0, none⟩), .pointer (some ⟨Q, 0, none⟩), .pointer none, .pointer none, .pointer none, .pointer none], .pointer (some ⟨M, 0, none⟩), .pointer (some ⟨M2, 0, none⟩), .bool false] w (ToldPost own c S M B M2 B2 n s (.pin d x P Q) false w) := by
  have FIRST := Lib.hid (fun W (k : Kept w W) => pin_first own c S M B M2 B2 n s d x P Q W (PS.Is.kept (p := .pin d x P Q) h k) (hd.kept k) hS (by omega))
  have SECOND := Lib.hid (pin_second own c S M B M2 B2 n s d x P Q w)
  have hP : P < w.heap.size := h.1.lt
  have hQ : Q < w.heap.size := h.2.1.lt
  have hB : B < w.heap.size := (pmem_lt hd.p).2
  have hB2 : B2 < w.heap.size := (ref_lt hd.r hd.n1).2
  have hM2 : M2 < w.heap.size := (ref_lt hd.r hd.n1).1
  have HH := Lib.hid h
  have HD := Lib.hid hd
  have HS := Lib.hid hS
  clear h hd hS
  go_enter Try.func14, Try.ntmps14
  go_upto_region 2 with fail
  obtain ⟨W1, hW1⟩ : ∃ W1, W1 = w.alloc (.cells #[.pointer (some ⟨P, 0, none⟩), .pointer (some ⟨Q, 0, none⟩), .pointer none, .pointer none, .pointer none, .pointer none] 44) := ⟨_, rfl⟩
  have a0 : W1.cell? ⟨w.heap.size, 0, none⟩ = some (.pointer (some ⟨P, 0, none⟩)) := by rw [hW1]; exact cell_new w _ _ _ 0 rfl
  have a1 : W1.cell? ⟨w.heap.size, 1, none⟩ = some (.pointer (some ⟨Q, 0, none⟩)) := by rw [hW1]; exact cell_new w _ _ _ 1 rfl
  have k1 : Kept w W1 := by rw [hW1]; exact (Kept.refl w).alloc _ _
  rw [← hW1]
  have z1 : w.heap.size < W1.heap.size := by rw [hW1]; simp
  have K1 := Lib.hid k1
  clear hW1 k1
  go_quiet (fail)
  have VI : Hid (PinIs own c S W1 d x P Q) := Lib.hid (PS.Is.kept (p := .pin d x P Q) HH.out K1.out)
  go_wp2_with fail
  refine (pin_told P S d x _ (VI.out.1.kept (by first | exact Kept.refl _ | exact (Kept.refl _).drew | exact (Kept.refl _).drewN _)) VI.out.2.2.1.good VI.out.2.2.1.er).mono ?_
  rintro e u3 ⟨rfl, k3⟩
  have K3 : Kept W1 u3 := Kept.trans (b := _) (by first | exact Kept.refl _ | exact (Kept.refl _).drew | exact (Kept.refl _).drewN _) k3
  have e0 := K3.some a0
  have e1 := K3.some a1
  have HK3 := Lib.hid K3
  clear k3 K3
  go_wp2_with fail
  refine (rpin_told Q S d x _ (VI.out.2.1.kept HK3.out) VI.out.2.2.1).mono ?_
  rintro e u4 ⟨rfl, k4⟩
  have HK4 := Lib.hid (HK3.out.trans k4)
  clear k4
  go_wp2
  go_ret
  have KK := HK4.out
  exact ⟨rfl, .pin d x P Q, s, rfl, fun _ => rfl, PS.Is.kept (p := .pin d x P Q) VI.out KK, HD.out.kept (K1.out.trans KK), by omega, ((K1.out.trans KK).but _)⟩
end Go.Proofs.Ytmfbjlaajcdbnaa.Ep

namespace Go.Proofs.Ytmfbjlaajcdbnaa.Ep
set_option maxRecDepth 20000
open Go.RowKit
open Wo (St acc wordAt PMem RefIs)
open Sk (Stk Wd pmem_kept pmem_lt pmem_frame ref_frame ref_kept ref_lt)

set_option maxHeartbeats 4000000 in
theorem same_unpin_step (own : Nat → Nat) (c : Nat) (S : Stk) (M B M2 B2 n : Nat) (s : St) (d : Int) (x : EOp) (P Q : Nat) (w : World) (h : UnpinIs own c S w d x P Q) (hd : Duo own w M B M2 B2 n s) (hS : EOk S n) (c1 : s.cnt ≤ 900000) :
    Calls Try.prog 14 #[.agg #[.pointer none, .pointer none, .pointer (some ⟨P, 0, none⟩), .pointer (some ⟨Q, 0, none⟩), .pointer none, .pointer none], .pointer (some ⟨M, 0, none⟩), .pointer (some ⟨M2, 0, none⟩), .bool true] w (ToldPost own c S M B M2 B2 n s (.unpin d x P Q) true w) := by
  have FIRST := Lib.hid (fun W (k : Kept w W) => unpin_first own c S M B M2 B2 n s d x P Q W (PS.Is.kept (p := .unpin d x P Q) h k) (hd.kept k) hS (by omega))
  have SECOND := Lib.hid (unpin_second own c S M B M2 B2 n s d x P Q w)
  have hP : P < w.heap.size := h.1.lt
  have hQ : Q < w.heap.size := h.2.1.lt
  have hB : B < w.heap.size := (pmem_lt hd.p).2
  have hB2 : B2 < w.heap.size := (ref_lt hd.r hd.n1).2
  have hM2 : M2 < w.heap.size := (ref_lt hd.r hd.n1).1
  have HH := Lib.hid h
  have HD := Lib.hid hd
  have HS := Lib.hid hS
  clear h hd hS
  go_enter Try.func14, Try.ntmps14
  go_upto_region 7 with fail
  obtain ⟨W1, hW1⟩ : ∃ W1, W1 = w.alloc (.cells #[.pointer none, .pointer none, .pointer (some ⟨P, 0, none⟩), .pointer (some ⟨Q, 0, none⟩), .pointer none, .pointer none] 44) := ⟨_, rfl⟩
  have a0 : W1.cell? ⟨w.heap.size, 2, none⟩ = some (.pointer (some ⟨P, 0, none⟩)) := by rw [hW1]; exact cell_new w _ _ _ 2 rfl
  have a1 : W1.cell? ⟨w.heap.size, 3, none⟩ = some (.pointer (some ⟨Q, 0, none⟩)) := by rw [hW1]; exact cell_new w _ _ _ 3 rfl
  have k1 : Kept w W1 := by rw [hW1]; exact (Kept.refl w).alloc _ _
  rw [← hW1]
  have z1 : w.heap.size < W1.heap.size := by rw [hW1]; simp
  have K1 := Lib.hid k1
  clear hW1 k1
  go_region_held3 (fun w' => w'.cell? ⟨w.heap.size, 2, none⟩ = some (.pointer (some ⟨P, 0, none⟩)) ∧ w'.cell? ⟨w.heap.size, 3, none⟩ = some (.pointer (some ⟨Q, 0, none⟩))) (first | go_keep | (exact ⟨d0, d1⟩) | (exact ⟨b0, b1⟩)) (first
    | (go_at_call 31; refine (FIRST.out _ (K1.out.trans (by first | exact Kept.refl _ | exact (Kept.refl _).drew | exact (Kept.refl _).drewN _))).mono ?_; rintro e u1 ⟨rfl, y1, y2, y3, y4, y5, y6⟩; have BT : But (fun k => k = P ∨ k = B) W1 u1 := (Kept.but (w' := _) (by first | exact Kept.refl _ | exact (Kept.refl _).drew | exact (Kept.refl _).drewN _) _).trans y6 (fun _ _ h => h); have B1 : But (mine own c) w u1 := ((K1.out.trans (c := _) (by first | exact Kept.refl _ | exact (Kept.refl _).drew | exact (Kept.refl _).drewN _)).but _).trans y5 (fun _ _ h => h); have b0 := BT.some a0 (by omega); have b1 := BT.some a1 (by omega))
    | (go_at_call 60; refine (SECOND.out _ HH.out HD.out HS.out (by omega) (y1.kept (by first | exact Kept.refl _ | exact (Kept.refl _).drew | exact (Kept.refl _).drewN _)) (y2.kept (by first | exact Kept.refl _ | exact (Kept.refl _).drew | exact (Kept.refl _).drewN _)) (pmem_kept y3 (by first | exact Kept.refl _ | exact (Kept.refl _).drew | exact (Kept.refl _).drewN _)) (ref_kept y4 HS.out.ok.n1 (by first | exact Kept.refl _ | exact (Kept.refl _).drew | exact (Kept.refl _).drewN _))).mono ?_; rintro e u2 ⟨rfl, v1, v2, v3, v4⟩; have BU : But (fun k => k = Q ∨ k = M2 ∨ k = B2) u1 u2 := (Kept.but (w' := _) (by first | exact Kept.refl _ | exact (Kept.refl _).drew | exact (Kept.refl _).drewN _) _).trans v4 (fun _ _ h => h); have B2' : But (mine own c) w u2 := (B1.trans ((Kept.but (w' := _) (by first | exact Kept.refl _ | exact (Kept.refl _).drew | exact (Kept.refl _).drewN _) _).trans v3 (fun _ _ h => h)) (fun _ _ h => h)); have d0 := BU.some b0 (by omega); have d1 := BU.some b1 (by omega)))
  obtain ⟨x', hx'⟩ : ∃ x', x' = unOp x := ⟨_, rfl⟩
  obtain ⟨s', hs'⟩ : ∃ s', s' = unSt n S d s x := ⟨_, rfl⟩
  have hcnt : s'.cnt ≤ s.cnt + 1 := by rw [hs']; exact (@un_cnt n S d s x).2
  rw [← hx'] at v1
  rw [← hs'] at v2
  rw [← hx']
  have VI : Hid (UnpinIs own c S u2 d x' P Q) := Lib.hid v1
  have VD := Lib.hid v2
  have VB := Lib.hid B2'
  clear hx' hs' y1 y2 y3 y4 y5 y6 BT B1 b0 b1 v1 v2 v3 v4 BU B2' a0 a1
  have a0 := d0
  have a1 := d1
  have z2 : w.heap.size < u2.heap.size := lt_of_cell d0
  clear d0 d1
  go_wp2_with fail
  go_region_held3 (fun w' => w'.cell? ⟨w.heap.size, 2, none⟩ = some (.pointer (some ⟨P, 0, none⟩)) ∧ w'.cell? ⟨w.heap.size, 3, none⟩ = some (.pointer (some ⟨Q, 0, none⟩))) (first | go_keep | (exact ⟨b0, b1⟩) | (exact ⟨d0, d1⟩)) (first
    | (go_at_call 33; refine (unpin_told P S d x' _ (VI.out.1.kept (by first | exact Kept.refl _ | exact (Kept.refl _).drew | exact (Kept.refl _).drewN _))).mono ?_; rintro e u3 ⟨rfl, k3⟩; have K3 : Kept u2 u3 := Kept.trans (b := _) (by first | exact Kept.refl _ | exact (Kept.refl _).drew | exact (Kept.refl _).drewN _) k3; have b0 := K3.some a0; have b1 := K3.some a1)
    | (go_at_call 61; refine (runpin_told Q S d x' _ (VI.out.2.1.kept (by first | exact K3 | exact K3.drew | exact K3.drewN _)) VI.out.2.2.1).mono ?_; rintro e u4 ⟨rfl, k4⟩; have K4 : Kept u2 u4 := Kept.trans (b := _) (by first | exact K3 | exact K3.drew | exact K3.drewN _) k4; have d0 := K4.some a0; have d1 := K4.some a1))
  go_wp2
  go_ret
  have KK := K4
  exact ⟨rfl, .unpin d x' P Q, s', rfl, fun h => absurd h (by decide), PS.Is.kept (p := .unpin d x' P Q) VI.out KK, VD.out.kept KK, hcnt, VB.out.then KK⟩

set_option maxHeartbeats 4000000 in
theorem same_unpin_rest (own : Nat → Nat) (c : Nat) (S : Stk) (M B M2 B2 n : Nat) (s : St) (d : Int) (x : EOp) (P Q : Nat) (w : World) (h : UnpinIs own c S w d x P Q) (hd : Duo own w M B M2 B2 n s) (hS : EOk S n) (c1 : s.cnt ≤ 900000) :
    Calls Try.prog 14 #[.agg #[.pointer none, .pointer none, .pointer (some ⟨P, 0, none⟩), .pointer (some ⟨Q, 0, none⟩), .pointer none, .pointer none], .pointer (some ⟨M, 0, none⟩), .pointer (some ⟨M2, 0, none⟩), .bool false] w (ToldPost own c S M B M2 B2 n s (.unpin d x P Q) false w) := by
  have FIRST := Lib.hid (fun W (k : Kept w W) => unpin_first own c S M B M2 B2 n s d x P Q W (PS.Is.kept (p := .unpin d x P Q) h k) (hd.kept k) hS (by omega))
  have SECOND := Lib.hid (unpin_second own c S M B M2 B2 n s d x P Q w)
  have hP : P < w.heap.size := h.1.lt
  have hQ : Q < w.heap.size := h.2.1.lt
  have hB : B < w.heap.size := (pmem_lt hd.p).2
  have hB2 : B2 < w.heap.size := (ref_lt hd.r hd.n1).2
  have hM2 : M2 < w.heap.size := (ref_lt hd.r hd.n1).1
  have HH := Lib.hid h
  have HD := Lib.hid hd
  have HS := Lib.hid hS
  clear h hd hS
  go_enter Try.func14, Try.ntmps14
  go_upto_region 7 with fail
  obtain ⟨W1, hW1⟩ : ∃ W1, W1 = w.alloc (.cells #[.pointer none, .pointer none, .pointer (some ⟨P, 0, none⟩), .pointer (some ⟨Q, 0, none⟩), .pointer none, .pointer none] 44) := ⟨_, rfl⟩
  have a0 : W1.cell? ⟨w.heap.size, 2, none⟩ = some (.pointer (some ⟨P, 0, none⟩)) := by rw [hW1]; exact cell_new w _ _ _ 2 rfl
  have a1 : W1.cell? ⟨w.heap.size, 3, none⟩ = some (.pointer (some ⟨Q, 0, none⟩)) := by rw [hW1]; exact cell_new w _ _ _ 3 rfl
  have k1 : Kept w W1 := by rw [hW1]; exact (Kept.refl w).alloc _ _
  rw [← hW1]
  have z1 : w.heap.size < W1.heap.size := by rw [hW1]; simp
  have K1 := Lib.hid k1
  clear hW1 k1
  go_quiet (fail)
  have VI : Hid (UnpinIs own c S W1 d x P Q) := Lib.hid (PS.Is.kept (p := .unpin d x P Q) HH.out K1.out)
  go_wp2_with fail
  go_region_held3 (fun w' => w'.cell? ⟨w.heap.size, 2, none⟩ = some (.pointer (some ⟨P, 0, none⟩)) ∧ w'.cell? ⟨w.heap.size, 3, none⟩ = some (.pointer (some ⟨Q, 0, none⟩))) (first | go_keep | (exact ⟨b0, b1⟩) | (exact ⟨d0, d1⟩)) (first
    | (go_at_call 33; refine (unpin_told P S d x _ (VI.out.1.kept (by first | exact Kept.refl _ | exact (Kept.refl _).drew | exact (Kept.refl _).drewN _))).mono ?_; rintro e u3 ⟨rfl, k3⟩; have K3 : Kept W1 u3 := Kept.trans (b := _) (by first | exact Kept.refl _ | exact (Kept.refl _).drew | exact (Kept.refl _).drewN _) k3; have b0 := K3.some a0; have b1 := K3.some a1)
    | (go_at_call 61; refine (runpin_told Q S d x _ (VI.out.2.1.kept (by first | exact K3 | exact K3.drew | exact K3.drewN _)) VI.out.2.2.1).mono ?_; rintro e u4 ⟨rfl, k4⟩; have K4 : Kept W1 u4 := Kept.trans (b := _) (by first | exact K3 | exact K3.drew | exact K3.drewN _) k4; have d0 := K4.some a0; have d1 := K4.some a1))
  go_wp2
  go_ret
  have KK := K4
  exact ⟨rfl, .unpin d x P Q, s, rfl, fun _ => rfl, PS.Is.kept (p := .unpin d x P Q) VI.out KK, HD.out.kept (K1.out.trans KK), by omega, ((K1.out.trans KK).but _)⟩
end Go.Proofs.Ytmfbjlaajcdbnaa.Ep
