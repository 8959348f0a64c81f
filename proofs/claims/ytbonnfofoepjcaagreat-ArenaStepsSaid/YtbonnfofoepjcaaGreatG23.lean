/- The document's operations by their lines: Pop, Push, All: each step, what they have come to, and how they are made. Written by gen10r.py. -/
import Derived.Test.YtbonnfofoepjcaaGreatG20
import Derived.Test.YtbonnfofoepjcaaGreatG21
import Derived.Test.YtbonnfofoepjcaaGreatG22
import Derived.Test.YtbonnfofoepjcaaGreatG10
import Derived.Lib.Hide
import Derived.Deep.Light
set_option linter.unusedVariables false
set_option linter.unusedSimpArgs false

namespace Go.Proofs.YtbonnfofoepjcaaGreat.Sk
set_option maxRecDepth 20000
open Go.RowKit
open Wo (St acc wordAt PMem RefIs)

def RPopC (w : World) (Q : Nat) (S : Stk) (l W I J : Int) : Prop := w.cell? ⟨Q, 0, none⟩ = some (.int .i64 S.T) ∧ w.cell? ⟨Q, 1, none⟩ = some (.int .i64 S.K) ∧ w.cell? ⟨Q, 2, none⟩ = some (.int .i64 S.N) ∧ w.cell? ⟨Q, 3, none⟩ = some (.int .i64 l) ∧ w.cell? ⟨Q, 4, none⟩ = some (.int .u64 W) ∧ w.cell? ⟨Q, 5, none⟩ = some (.int .i64 I) ∧ w.cell? ⟨Q, 6, none⟩ = some (.int .i64 J)
def RPushC (w : World) (Q : Nat) (S : Stk) (l W i E : Int) : Prop := w.cell? ⟨Q, 0, none⟩ = some (.int .i64 S.T) ∧ w.cell? ⟨Q, 1, none⟩ = some (.int .i64 S.K) ∧ w.cell? ⟨Q, 2, none⟩ = some (.int .i64 S.N) ∧ w.cell? ⟨Q, 3, none⟩ = some (.int .i64 l) ∧ w.cell? ⟨Q, 4, none⟩ = some (.int .u64 W) ∧ w.cell? ⟨Q, 5, none⟩ = some (.int .i64 i) ∧ w.cell? ⟨Q, 6, none⟩ = some (.int .i64 E)
def RAllC (w : World) (Q : Nat) (S : Stk) (l W I : Int) : Prop := w.cell? ⟨Q, 0, none⟩ = some (.int .i64 S.T) ∧ w.cell? ⟨Q, 1, none⟩ = some (.int .i64 S.K) ∧ w.cell? ⟨Q, 2, none⟩ = some (.int .i64 S.N) ∧ w.cell? ⟨Q, 3, none⟩ = some (.int .i64 l) ∧ w.cell? ⟨Q, 4, none⟩ = some (.int .u64 W) ∧ w.cell? ⟨Q, 5, none⟩ = some (.int .i64 I)
structure RPopAt (w : World) (Q : Nat) (S : Stk) (x : Op) : Prop where
  c : ∃ I J, RPopC w Q S x.line x.W I J ∧ (x.line ≠ 1 → I = idx S.N x.W) ∧ (x.line = 3 → J = idx S.N x.L)
  f : ∀ i, w.frozen? ⟨Q, i, none⟩ = false
structure RPushAt (w : World) (Q : Nat) (S : Stk) (i e0 : Int) (x : Op) : Prop where
  c : RPushC w Q S x.line x.W i e0
  f : ∀ i, w.frozen? ⟨Q, i, none⟩ = false
structure RAllAt (w : World) (Q : Nat) (S : Stk) (x : Op) : Prop where
  c : ∃ I, RAllC w Q S x.line x.W I ∧ (x.line ≠ 1 → I = idx S.N x.W)
  f : ∀ i, w.frozen? ⟨Q, i, none⟩ = false

theorem RPopC.frame {w w' : World} {Q : Nat} {S : Stk} {l W I J : Int} (h : RPopC w Q S l W I J) {T : Nat → Prop} (hb : But T w w') (hQ : ¬ T Q) : RPopC w' Q S l W I J := by
  obtain ⟨h0, h1, h2, h3, h4, h5, h6⟩ := h
  exact ⟨hb.some h0 hQ, hb.some h1 hQ, hb.some h2 hQ, hb.some h3 hQ, hb.some h4 hQ, hb.some h5 hQ, hb.some h6 hQ⟩
theorem RPopC.lt {w : World} {Q : Nat} {S : Stk} {l W I J : Int} (h : RPopC w Q S l W I J) : Q < w.heap.size := lt_of_cell h.1
theorem RPushC.frame {w w' : World} {Q : Nat} {S : Stk} {l W I J : Int} (h : RPushC w Q S l W I J) {T : Nat → Prop} (hb : But T w w') (hQ : ¬ T Q) : RPushC w' Q S l W I J := by
  obtain ⟨h0, h1, h2, h3, h4, h5, h6⟩ := h
  exact ⟨hb.some h0 hQ, hb.some h1 hQ, hb.some h2 hQ, hb.some h3 hQ, hb.some h4 hQ, hb.some h5 hQ, hb.some h6 hQ⟩
theorem RPushC.lt {w : World} {Q : Nat} {S : Stk} {l W I J : Int} (h : RPushC w Q S l W I J) : Q < w.heap.size := lt_of_cell h.1
theorem RAllC.frame {w w' : World} {Q : Nat} {S : Stk} {l W I : Int} (h : RAllC w Q S l W I) {T : Nat → Prop} (hb : But T w w') (hQ : ¬ T Q) : RAllC w' Q S l W I := by
  obtain ⟨h0, h1, h2, h3, h4, h5⟩ := h
  exact ⟨hb.some h0 hQ, hb.some h1 hQ, hb.some h2 hQ, hb.some h3 hQ, hb.some h4 hQ, hb.some h5 hQ⟩
theorem RAllC.lt {w : World} {Q : Nat} {S : Stk} {l W I : Int} (h : RAllC w Q S l W I) : Q < w.heap.size := lt_of_cell h.1
theorem RPopAt.lt {w : World} {Q : Nat} {S : Stk} {x : Op} (h : RPopAt w Q S x) : Q < w.heap.size := by
  obtain ⟨_, _, h, _⟩ := h.c
  exact h.lt
theorem RPushAt.lt {w : World} {Q : Nat} {S : Stk} {i e0 : Int} {x : Op} (h : RPushAt w Q S i e0 x) : Q < w.heap.size := h.c.lt
theorem RAllAt.lt {w : World} {Q : Nat} {S : Stk} {x : Op} (h : RAllAt w Q S x) : Q < w.heap.size := by
  obtain ⟨_, h, _⟩ := h.c
  exact h.lt
theorem RPopAt.frame {w w' : World} {Q : Nat} {S : Stk} {x : Op} (h : RPopAt w Q S x) {T : Nat → Prop} (hb : But T w w') (hQ : ¬ T Q) : RPopAt w' Q S x := by
  have hl := h.lt
  obtain ⟨⟨I, J, c, a, b⟩, f⟩ := h
  exact ⟨⟨I, J, c.frame hb hQ, a, b⟩, fun i => hb.soft hl (f i)⟩
theorem RPushAt.frame {w w' : World} {Q : Nat} {S : Stk} {i e0 : Int} {x : Op} (h : RPushAt w Q S i e0 x) {T : Nat → Prop} (hb : But T w w') (hQ : ¬ T Q) : RPushAt w' Q S i e0 x :=
  ⟨h.c.frame hb hQ, fun i => hb.soft h.lt (h.f i)⟩
theorem RAllAt.frame {w w' : World} {Q : Nat} {S : Stk} {x : Op} (h : RAllAt w Q S x) {T : Nat → Prop} (hb : But T w w') (hQ : ¬ T Q) : RAllAt w' Q S x := by
  have hl := h.lt
  obtain ⟨⟨I, c, a⟩, f⟩ := h
  exact ⟨⟨I, c.frame hb hQ, a⟩, fun i => hb.soft hl (f i)⟩

def RStepped (At : World → Prop) (M B n : Nat) (s' : St) (Q : Nat) (b : Bool) (w : World) (e : Ending) (w' : World) : Prop :=
  e = .returned (.bool b) ∧ At w' ∧ RefIs w' M B n s' ∧ But (fun k => k = Q ∨ k = M ∨ k = B) w w'

theorem rpop_step (Q M B n : Nat) (S : Stk) (s : St) (x : Op) (w : World) (ho : RPopAt w Q S x) (hm : RefIs w M B n s) (h0 : 0 ≤ s.cnt) (h1 : s.cnt ≤ 1000000) (hQ : ¬ (Q = M ∨ Q = B)) (hx : x.Good) (hl : lines x) (hS : S.Ok n) (hs : Wd n s) :
    Calls Tryz.prog 139 #[.pointer (some ⟨Q, 0, none⟩), .pointer (some ⟨M, 0, none⟩)] w (RStepped (fun w' => RPopAt w' Q S (popOp n S s x)) M B n (popSt n S s x) Q ((popOp n S s x).line == 9) w) := by
  obtain ⟨l, W, L⟩ := x
  have wb := hs.word S.T
  have K2 := hS.K2
  have N1 := hS.N1
  have n2 := hS.n2
  have hn1 := hS.n1
  obtain ⟨⟨I, J, ⟨a0, a1, a2, a3, a4, a5, a6⟩, hI, hJ⟩, f⟩ := ho
  rcases hl with h | h | h | h
  · obtain rfl : l = 1 := h
    rcases Int.lt_or_le (idx S.N (wordAt n s S.T)) 0 with hi | hi
    · have e1 : popOp n S s ⟨1, W, L⟩ = ⟨9, wordAt n s S.T, L⟩ := by unfold popOp; rw [if_pos rfl, if_pos hi]
      rw [e1]
      exact (rPop_1none Q M B n S s w f hm h0 h1 n2 hn1 hQ W I J wb.1 wb.2 hi a0 a1 a2 a3 a4 a5 a6).mono fun e w' ⟨x1, x2, x3, x4, x5⟩ => ⟨x1, ⟨⟨_, _, x2, fun _ => rfl, fun h => absurd h (by simp)⟩, x3⟩, x4, x5⟩
    · have e1 : popOp n S s ⟨1, W, L⟩ = ⟨2, wordAt n s S.T, L⟩ := by unfold popOp; rw [if_pos rfl, if_neg (by omega)]
      rw [e1]
      exact (rPop_1some Q M B n S s w f hm h0 h1 n2 hn1 hQ W I J wb.1 wb.2 hi a0 a1 a2 a3 a4 a5 a6).mono fun e w' ⟨x1, x2, x3, x4, x5⟩ => ⟨x1, ⟨⟨_, _, x2, fun _ => rfl, fun h => absurd h (by simp)⟩, x3⟩, x4, x5⟩
  · obtain rfl : l = 2 := h
    have wc := hs.word (S.K + idx S.N W)
    obtain rfl := hI (by simp)
    exact (rPop_2 Q M B n S s w f hm h0 h1 n2 hn1 hQ W J hS.K1 (by omega) wc.1 wc.2 a0 a1 a2 a3 a4 a5 a6).mono fun e w' ⟨x1, x2, x3, x4, x5⟩ => ⟨x1, ⟨⟨_, _, x2, fun _ => rfl, fun _ => rfl⟩, x3⟩, x4, x5⟩
  · obtain rfl : l = 3 := h
    have j0 := idx_lo S.N L
    have j1 := idx_le S.N L
    obtain rfl := hI (by simp)
    obtain rfl := hJ rfl
    cases hq : (wordAt n s S.T == W)
    · have hne : ¬ wordAt n s S.T = W := by simpa using hq
      have e1 : popOp n S s ⟨3, W, L⟩ = ⟨1, W, L⟩ := by unfold popOp; rw [if_neg no31, if_neg no32, if_pos rfl, if_neg hne]
      rw [e1]
      exact (rPop_3no Q M B n S s w f hm h0 h1 n2 hn1 hQ W _ _ j0 j1 hx.w0 hx.w1 hS.T1 hS.T2 hq a0 a1 a2 a3 a4 a5 a6).mono fun e w' ⟨x1, x2, x3, x4, x5⟩ => ⟨x1, ⟨⟨_, _, x2, fun _ => rfl, fun _ => rfl⟩, x3⟩, x4, x5⟩
    · have he : wordAt n s S.T = W := by simpa using hq
      have e1 : popOp n S s ⟨3, W, L⟩ = ⟨9, W, L⟩ := by unfold popOp; rw [if_neg no31, if_neg no32, if_pos rfl, if_pos he]
      rw [e1]
      exact (rPop_3yes Q M B n S s w f hm h0 h1 n2 hn1 hQ W _ _ j0 j1 hx.w0 hx.w1 hS.T1 hS.T2 hq a0 a1 a2 a3 a4 a5 a6).mono fun e w' ⟨x1, x2, x3, x4, x5⟩ => ⟨x1, ⟨⟨_, _, x2, fun _ => rfl, fun _ => rfl⟩, x3⟩, x4, x5⟩
  · obtain rfl : l = 9 := h
    have e1 : popOp n S s ⟨9, W, L⟩ = ⟨9, W, L⟩ := by unfold popOp; rw [if_neg no91, if_neg no92, if_neg no93]
    have e3 : popSt n S s ⟨9, W, L⟩ = s := by unfold popSt; rw [if_neg no91, if_neg no92, if_neg no93]
    rw [e1, e3]
    refine (rPop_9 Q _ S W I J w a0 a1 a2 a3 a4 a5 a6).mono fun e w' ⟨x1, x2⟩ => ?_
    subst x2
    exact ⟨x1, ⟨⟨I, J, ⟨a0, a1, a2, a3, a4, a5, a6⟩, hI, hJ⟩, f⟩, hm, But.refl _ _⟩

theorem rpush_step (Q M B n : Nat) (S : Stk) (i e0 : Int) (s : St) (x : Op) (w : World) (ho : RPushAt w Q S i e0 x) (hm : RefIs w M B n s) (h0 : 0 ≤ s.cnt) (h1 : s.cnt ≤ 1000000) (hQ : ¬ (Q = M ∨ Q = B)) (hx : x.Good) (hl : lines x) (hS : S.Ok n) (hs : Wd n s) (hi : x.line ≠ 9 → 0 ≤ i ∧ i < S.N ∧ e0 = 0) :
    Calls Tryz.prog 142 #[.pointer (some ⟨Q, 0, none⟩), .pointer (some ⟨M, 0, none⟩)] w (RStepped (fun w' => RPushAt w' Q S i e0 (pushOp n S s x)) M B n (pushSt n S i s x) Q ((pushOp n S s x).line == 9) w) := by
  obtain ⟨l, W, L⟩ := x
  have K2 := hS.K2
  have N1 := hS.N1
  have N2 := hS.N2
  have n2 := hS.n2
  have hn1 := hS.n1
  obtain ⟨⟨a0, a1, a2, a3, a4, a5, a6⟩, f⟩ := ho
  rcases hl with h | h | h | h
  · obtain rfl : l = 1 := h
    exact (rPush_1 Q M B n S s w f hm h0 h1 n2 hn1 hQ W i e0 a0 a1 a2 a3 a4 a5 a6).mono fun e w' ⟨x1, x2, x3, x4, x5⟩ => ⟨x1, ⟨x2, x3⟩, x4, x5⟩
  · obtain rfl : l = 2 := h
    obtain ⟨i0, i1, _⟩ := hi (by simp)
    exact (rPush_2 Q M B n S s w f hm h0 h1 n2 hn1 hQ W i e0 hx.w0 hx.w1 i0 (by omega) hS.K1 (by omega) a0 a1 a2 a3 a4 a5 a6).mono fun e w' ⟨x1, x2, x3, x4, x5⟩ => ⟨x1, ⟨x2, x3⟩, x4, x5⟩
  · obtain rfl : l = 3 := h
    obtain ⟨i0, i1, _⟩ := hi (by simp)
    cases hq : (wordAt n s S.T == W)
    · have hne : ¬ wordAt n s S.T = W := by simpa using hq
      have e1 : pushOp n S s ⟨3, W, L⟩ = ⟨1, W, L⟩ := by unfold pushOp; rw [if_neg no31, if_neg no32, if_pos rfl, if_neg hne]
      rw [e1]
      exact (rPush_3no Q M B n S s w f hm h0 h1 n2 hn1 hQ W i e0 (by omega) (by omega) hx.w0 hx.w1 hS.T1 hS.T2 hq a0 a1 a2 a3 a4 a5 a6).mono fun e w' ⟨x1, x2, x3, x4, x5⟩ => ⟨x1, ⟨x2, x3⟩, x4, x5⟩
    · have he : wordAt n s S.T = W := by simpa using hq
      have e1 : pushOp n S s ⟨3, W, L⟩ = ⟨9, W, L⟩ := by unfold pushOp; rw [if_neg no31, if_neg no32, if_pos rfl, if_pos he]
      rw [e1]
      exact (rPush_3yes Q M B n S s w f hm h0 h1 n2 hn1 hQ W i e0 (by omega) (by omega) hx.w0 hx.w1 hS.T1 hS.T2 hq a0 a1 a2 a3 a4 a5 a6).mono fun e w' ⟨x1, x2, x3, x4, x5⟩ => ⟨x1, ⟨x2, x3⟩, x4, x5⟩
  · obtain rfl : l = 9 := h
    have e1 : pushOp n S s ⟨9, W, L⟩ = ⟨9, W, L⟩ := by unfold pushOp; rw [if_neg no91, if_neg no92, if_neg no93]
    have e3 : pushSt n S i s ⟨9, W, L⟩ = s := by unfold pushSt; rw [if_neg no91, if_neg no92, if_neg no93]
    rw [e1, e3]
    refine (rPush_9 Q _ S W i e0 w a0 a1 a2 a3 a4 a5 a6).mono fun e w' ⟨x1, x2⟩ => ?_
    subst x2
    exact ⟨x1, ⟨⟨a0, a1, a2, a3, a4, a5, a6⟩, f⟩, hm, But.refl _ _⟩

theorem rall_step (Q M B n : Nat) (S : Stk) (s : St) (x : Op) (w : World) (ho : RAllAt w Q S x) (hm : RefIs w M B n s) (h0 : 0 ≤ s.cnt) (h1 : s.cnt ≤ 1000000) (hQ : ¬ (Q = M ∨ Q = B)) (hx : x.Good) (hl : lines x) (h3 : x.line ≠ 3) (hS : S.Ok n) (hs : Wd n s) :
    Calls Tryz.prog 168 #[.pointer (some ⟨Q, 0, none⟩), .pointer (some ⟨M, 0, none⟩)] w (RStepped (fun w' => RAllAt w' Q S (allOp n S s x)) M B n (allSt n S s x) Q ((allOp n S s x).line == 9) w) := by
  obtain ⟨l, W, L⟩ := x
  have wb := hs.word S.T
  have n2 := hS.n2
  have hn1 := hS.n1
  obtain ⟨⟨I, ⟨a0, a1, a2, a3, a4, a5⟩, hI⟩, f⟩ := ho
  rcases hl with h | h | h | h
  · obtain rfl : l = 1 := h
    rcases Int.lt_or_le (idx S.N (wordAt n s S.T)) 0 with hi | hi
    · have e1 : allOp n S s ⟨1, W, L⟩ = ⟨9, wordAt n s S.T, L⟩ := by unfold allOp; rw [if_pos rfl, if_pos hi]
      rw [e1]
      exact (rAll_1none Q M B n S s w f hm h0 h1 n2 hn1 hQ W I wb.1 wb.2 hi a0 a1 a2 a3 a4 a5).mono fun e w' ⟨x1, x2, x3, x4, x5⟩ => ⟨x1, ⟨⟨_, x2, fun _ => rfl⟩, x3⟩, x4, x5⟩
    · have e1 : allOp n S s ⟨1, W, L⟩ = ⟨2, wordAt n s S.T, L⟩ := by unfold allOp; rw [if_pos rfl, if_neg (by omega)]
      rw [e1]
      exact (rAll_1some Q M B n S s w f hm h0 h1 n2 hn1 hQ W I wb.1 wb.2 hi a0 a1 a2 a3 a4 a5).mono fun e w' ⟨x1, x2, x3, x4, x5⟩ => ⟨x1, ⟨⟨_, x2, fun _ => rfl⟩, x3⟩, x4, x5⟩
  · obtain rfl : l = 2 := h
    obtain rfl := hI (by simp)
    cases hq : (wordAt n s S.T == W)
    · have hne : ¬ wordAt n s S.T = W := by simpa using hq
      have e1 : allOp n S s ⟨2, W, L⟩ = ⟨1, W, L⟩ := by unfold allOp; rw [if_neg no21, if_pos rfl, if_neg hne]
      rw [e1]
      exact (rAll_2no Q M B n S s w f hm h0 h1 n2 hn1 hQ W _ hx.w0 hx.w1 hS.T1 hS.T2 hq a0 a1 a2 a3 a4 a5).mono fun e w' ⟨x1, x2, x3, x4, x5⟩ => ⟨x1, ⟨⟨_, x2, fun _ => rfl⟩, x3⟩, x4, x5⟩
    · have he : wordAt n s S.T = W := by simpa using hq
      have e1 : allOp n S s ⟨2, W, L⟩ = ⟨9, W, L⟩ := by unfold allOp; rw [if_neg no21, if_pos rfl, if_pos he]
      rw [e1]
      exact (rAll_2yes Q M B n S s w f hm h0 h1 n2 hn1 hQ W _ hx.w0 hx.w1 hS.T1 hS.T2 hq a0 a1 a2 a3 a4 a5).mono fun e w' ⟨x1, x2, x3, x4, x5⟩ => ⟨x1, ⟨⟨_, x2, fun _ => rfl⟩, x3⟩, x4, x5⟩
  · exact absurd h h3
  · obtain rfl : l = 9 := h
    have e1 : allOp n S s ⟨9, W, L⟩ = ⟨9, W, L⟩ := by unfold allOp; rw [if_neg no91, if_neg no92]
    have e3 : allSt n S s ⟨9, W, L⟩ = s := by unfold allSt; rw [if_neg no91, if_neg no92]
    rw [e1, e3]
    refine (rAll_9 Q _ S W I w a0 a1 a2 a3 a4 a5).mono fun e w' ⟨x1, x2⟩ => ?_
    subst x2
    exact ⟨x1, ⟨⟨I, ⟨a0, a1, a2, a3, a4, a5⟩, hI⟩, f⟩, hm, But.refl _ _⟩

theorem rtold_any (x : Op) (N I : Int) (w : World) (hI : x.line ≠ 1 → I = idx N x.W) (hl : lines x) (S : Stk) (hS : S.N = N) : Calls Tryz.prog 209 #[.int .i64 x.line, .int .i64 I] w fun e w' => e = .returned (.tuple #[.int .i64 (tookI S x), .int .i64 (tookE S x)]) ∧ w = w' := by
  subst hS
  by_cases h9 : x.line = 9
  · obtain ⟨l, W, L⟩ := x
    obtain rfl : l = 9 := h9
    obtain rfl := hI (by simp)
    rcases Int.lt_or_le (idx S.N W) 0 with hi | hi
    · have e1 : Hid (tookI S ⟨9, W, L⟩ = 0) := Lib.hid (by unfold tookI; rw [if_neg (by dsimp only; omega)])
      have e2 : Hid (tookE S ⟨9, W, L⟩ = 15) := Lib.hid (by unfold tookE; rw [if_pos rfl, if_pos hi])
      clear hI hl
      rw [e1.out, e2.out]
      go_enter Tryz.func209, Tryz.ntmps209
      go_wp2
      go_ret2
      exact ⟨rfl, rfl⟩
    · have e1 : Hid (tookI S ⟨9, W, L⟩ = idx S.N W) := Lib.hid (by unfold tookI; rw [if_pos ⟨rfl, hi⟩])
      have e2 : Hid (tookE S ⟨9, W, L⟩ = 0) := Lib.hid (by unfold tookE; rw [if_pos rfl, if_neg (by dsimp only; omega)])
      clear hI hl
      rw [e1.out, e2.out]
      go_enter Tryz.func209, Tryz.ntmps209
      go_wp2
      go_ret2
      exact ⟨rfl, rfl⟩
  · have e1 : Hid (tookI S x = 0) := Lib.hid (by unfold tookI; rw [if_neg (fun h => h9 h.1)])
    have e2 : Hid (tookE S x = 14) := Lib.hid (by unfold tookE; rw [if_neg h9])
    have hb : (((x.line : Nat) : Int) != 9) = true := by simp; omega
    clear hI hl
    rw [e1.out, e2.out]
    generalize ((x.line : Nat) : Int) = l at *
    go_enter Tryz.func209, Tryz.ntmps209
    go_wp2
    go_ret2
    exact ⟨rfl, rfl⟩
theorem rpop_told (Q : Nat) (S : Stk) (x : Op) (w : World) (ho : RPopAt w Q S x) (hl : lines x) : Calls Tryz.prog 140 #[.pointer (some ⟨Q, 0, none⟩)] w fun e w' => e = .returned (.tuple #[.int .i64 (tookI S x), .int .i64 (tookE S x)]) ∧ Kept w w' := by
  obtain ⟨⟨I, J, ⟨a0, a1, a2, a3, a4, a5, a6⟩, hI, hJ⟩, f⟩ := ho
  have HC : ∀ w, Hid (Calls Tryz.prog 209 #[.int .i64 x.line, .int .i64 I] w fun e w' => e = .returned (.tuple #[.int .i64 (tookI S x), .int .i64 (tookE S x)]) ∧ w = w') := fun w => Lib.hid (rtold_any x S.N I w hI hl S rfl)
  clear hI hJ hl a0 a1 a2 a4 a6 f
  go_enter Tryz.func140, Tryz.ntmps140
  go_wp2_with fail
  go_region_held3 (fun w' => w'.cell? ⟨Q, 3, none⟩ = some (.int .i64 x.line) ∧ w'.cell? ⟨Q, 5, none⟩ = some (.int .i64 I)) (first | go_keep | assumption) (first | (go_at_call 209; refine (HC _).out.mono ?_; rintro e w' ⟨rfl, rfl⟩))
  go_wp2
  go_ret2
  exact ⟨rfl, by (go_light; repeat (first | (with_reducible exact Kept.refl _) | (with_reducible assumption) | (with_reducible refine Kept.alloc ?_ _ _) | (with_reducible refine Kept.drew ?_) | (with_reducible refine Kept.drewN ?_ _) | ((with_reducible refine Kept.setCell ?_ ?_ _); rotate_left; focus (first | (simp; done) | (simp; omega))) | refine Kept.trans ?_ (by assumption)))⟩
theorem rall_told (Q : Nat) (S : Stk) (x : Op) (w : World) (ho : RAllAt w Q S x) (hl : lines x) : Calls Tryz.prog 169 #[.pointer (some ⟨Q, 0, none⟩)] w fun e w' => e = .returned (.tuple #[.int .i64 (tookI S x), .int .i64 (tookE S x)]) ∧ Kept w w' := by
  obtain ⟨⟨I, ⟨a0, a1, a2, a3, a4, a5⟩, hI⟩, f⟩ := ho
  have HC : ∀ w, Hid (Calls Tryz.prog 209 #[.int .i64 x.line, .int .i64 I] w fun e w' => e = .returned (.tuple #[.int .i64 (tookI S x), .int .i64 (tookE S x)]) ∧ w = w') := fun w => Lib.hid (rtold_any x S.N I w hI hl S rfl)
  clear hI hl a0 a1 a2 a4 f
  go_enter Tryz.func169, Tryz.ntmps169
  go_wp2_with fail
  go_region_held3 (fun w' => w'.cell? ⟨Q, 3, none⟩ = some (.int .i64 x.line) ∧ w'.cell? ⟨Q, 5, none⟩ = some (.int .i64 I)) (first | go_keep | assumption) (first | (go_at_call 209; refine (HC _).out.mono ?_; rintro e w' ⟨rfl, rfl⟩))
  go_wp2
  go_ret2
  exact ⟨rfl, by (go_light; repeat (first | (with_reducible exact Kept.refl _) | (with_reducible assumption) | (with_reducible refine Kept.alloc ?_ _ _) | (with_reducible refine Kept.drew ?_) | (with_reducible refine Kept.drewN ?_ _) | ((with_reducible refine Kept.setCell ?_ ?_ _); rotate_left; focus (first | (simp; done) | (simp; omega))) | refine Kept.trans ?_ (by assumption)))⟩
theorem rnewPop_any (S : Stk) (w : World) : Calls Tryz.prog 144 #[.agg #[.int .i64 S.T, .int .i64 S.K, .int .i64 S.N]] w (Made (fun w Q => RPopAt w Q S Op.new) w) := by
  go_enter Tryz.func144, Tryz.ntmps144
  go_wp2
  go_ret
  go_light
  refine ⟨w.heap.size + 1, rfl, by omega, by simp, ⟨⟨0, 0, ?_, fun h => absurd rfl h, fun h => absurd h (by decide)⟩, fun i => by simp⟩, by (go_light; repeat (first | (with_reducible exact Kept.refl _) | (with_reducible assumption) | (with_reducible refine Kept.alloc ?_ _ _) | (with_reducible refine Kept.drew ?_) | (with_reducible refine Kept.drewN ?_ _) | ((with_reducible refine Kept.setCell ?_ ?_ _); rotate_left; focus (first | (simp; done) | (simp; omega))) | refine Kept.trans ?_ (by assumption)))⟩
  simp [RPopC, Op.new]
theorem rnewAll_any (S : Stk) (w : World) : Calls Tryz.prog 172 #[.agg #[.int .i64 S.T, .int .i64 S.K, .int .i64 S.N]] w (Made (fun w Q => RAllAt w Q S Op.new) w) := by
  go_enter Tryz.func172, Tryz.ntmps172
  go_wp2
  go_ret
  go_light
  refine ⟨w.heap.size + 1, rfl, by omega, by simp, ⟨⟨0, ?_, fun h => absurd rfl h⟩, fun i => by simp⟩, by (go_light; repeat (first | (with_reducible exact Kept.refl _) | (with_reducible assumption) | (with_reducible refine Kept.alloc ?_ _ _) | (with_reducible refine Kept.drew ?_) | (with_reducible refine Kept.drewN ?_ _) | ((with_reducible refine Kept.setCell ?_ ?_ _); rotate_left; focus (first | (simp; done) | (simp; omega))) | refine Kept.trans ?_ (by assumption)))⟩
  simp [RAllC, Op.new]
theorem rnewPush_in (S : Stk) (i : Int) (h0 : 0 ≤ i) (h1 : i < S.N) (w : World) : Calls Tryz.prog 145 #[.agg #[.int .i64 S.T, .int .i64 S.K, .int .i64 S.N], .int .i64 i] w (Made (fun w Q => RPushAt w Q S i 0 Op.new) w) := by
  go_enter Tryz.func145, Tryz.ntmps145
  go_wp2
  go_ret
  go_light
  refine ⟨w.heap.size + 1, rfl, by omega, by simp, ⟨?_, fun i => by simp⟩, by (go_light; repeat (first | (with_reducible exact Kept.refl _) | (with_reducible assumption) | (with_reducible refine Kept.alloc ?_ _ _) | (with_reducible refine Kept.drew ?_) | (with_reducible refine Kept.drewN ?_ _) | ((with_reducible refine Kept.setCell ?_ ?_ _); rotate_left; focus (first | (simp; done) | (simp; omega))) | refine Kept.trans ?_ (by assumption)))⟩
  simp [RPushC, Op.new]
def rOver (w : World) (Q : Nat) (S : Stk) : Prop := ∃ i, RPushAt w Q S i 3 Op.over
theorem rnewPush_out (S : Stk) (i : Int) (h : i < 0 ∨ S.N ≤ i) (w : World) : Calls Tryz.prog 145 #[.agg #[.int .i64 S.T, .int .i64 S.K, .int .i64 S.N], .int .i64 i] w (Made (fun w Q => RPushAt w Q S 0 3 Op.over) w) := by
  by_cases h0 : i < 0
  · clear h
    go_enter Tryz.func145, Tryz.ntmps145
    go_wp2
    go_ret
    go_light
    refine ⟨w.heap.size + 1, rfl, by omega, by simp, ⟨?_, fun i => by simp⟩, by (go_light; repeat (first | (with_reducible exact Kept.refl _) | (with_reducible assumption) | (with_reducible refine Kept.alloc ?_ _ _) | (with_reducible refine Kept.drew ?_) | (with_reducible refine Kept.drewN ?_ _) | ((with_reducible refine Kept.setCell ?_ ?_ _); rotate_left; focus (first | (simp; done) | (simp; omega))) | refine Kept.trans ?_ (by assumption)))⟩
    simp [RPushC, Op.over]
  · have h1 : S.N ≤ i := by omega
    have h2 : 0 ≤ i := by omega
    clear h h0
    go_enter Tryz.func145, Tryz.ntmps145
    go_wp2
    go_ret
    go_light
    refine ⟨w.heap.size + 1, rfl, by omega, by simp, ⟨?_, fun i => by simp⟩, by (go_light; repeat (first | (with_reducible exact Kept.refl _) | (with_reducible assumption) | (with_reducible refine Kept.alloc ?_ _ _) | (with_reducible refine Kept.drew ?_) | (with_reducible refine Kept.drewN ?_ _) | ((with_reducible refine Kept.setCell ?_ ?_ _); rotate_left; focus (first | (simp; done) | (simp; omega))) | refine Kept.trans ?_ (by assumption)))⟩
    simp [RPushC, Op.over]
end Go.Proofs.YtbonnfofoepjcaaGreat.Sk
