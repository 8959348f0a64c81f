/- The document's operations by their lines: what lies there, each step, what is told, how one is made. -/
import Derived.Test.YtmfbjlaajcdbnaaG17
import Derived.Test.YtmfbjlaajcdbnaaG18
import Derived.Test.YtmfbjlaajcdbnaaG14
import Derived.Test.YtmfbjlaajcdbnaaG05
import Derived.Deep.QuietTactic
import Derived.BigQuiet
set_option linter.unusedVariables false
set_option linter.unusedSimpArgs false

namespace Go.Proofs.Ytmfbjlaajcdbnaa.Ep
set_option maxRecDepth 20000
open Go.RowKit
open Wo (St acc wordAt PMem RefIs)
open Sk (Stk Wd r_load r_store r_cas ref_frame ref_kept ref_lt)

def endE (x : EOp) : Int := if x.line = 9 then x.er else 0
def pinP (x : EOp) : Int := if x.line = 9 then toldAt x else ep x.W
structure RPinAt (w : World) (Q : Nat) (S : Stk) (c : Int) (x : EOp) : Prop where
  c : ∃ T K N c', RPinC w Q T K N c' x.line (pinP x) (endE x) ∧ (x.line ≠ 9 → T = S.T ∧ K = S.K ∧ N = S.N ∧ c' = c)
  f : ∀ i, w.frozen? ⟨Q, i, none⟩ = false
structure RUnpinAt (w : World) (Q : Nat) (S : Stk) (c : Int) (x : EOp) : Prop where
  c : ∃ T K N c', RUnpinC w Q T K N c' x.line (endE x) ∧ (x.line ≠ 9 → T = S.T ∧ K = S.K ∧ N = S.N ∧ c' = c)
  f : ∀ i, w.frozen? ⟨Q, i, none⟩ = false
structure RAdvAt (w : World) (Q : Nat) (S : Stk) (c p : Int) (x : EOp) : Prop where
  c : ∃ T K N c' p' W L, RAdvanceC w Q T K N c' p' x.line W L (endE x) ∧ (x.line ≠ 9 → T = S.T ∧ K = S.K ∧ N = S.N ∧ c' = c ∧ p' = p ∧ L = x.L) ∧ (x.line ≠ 9 → W = x.W)
  f : ∀ i, w.frozen? ⟨Q, i, none⟩ = false
  own : x.line = 2 ∨ x.line = 3 → ep x.W = p
theorem RPinAt.but {w w' : World} {Q : Nat} {S : Stk} {c : Int} {x : EOp} (h : RPinAt w Q S c x) {T : Nat → Prop} (b : But T w w') (hT : ¬ T Q) : RPinAt w' Q S c x := by
  obtain ⟨T', K, N, c', k, hh⟩ := h.c
  exact ⟨⟨T', K, N, c', k.frame b hT, hh⟩, fun i => b.soft (lt_of_cell k.1) (h.f i)⟩
theorem RPinAt.kept {w w' : World} {Q : Nat} {S : Stk} {c : Int} {x : EOp} (h : RPinAt w Q S c x) (k : Kept w w') : RPinAt w' Q S c x := h.but (k.but (fun _ => False)) id
theorem RUnpinAt.but {w w' : World} {Q : Nat} {S : Stk} {c : Int} {x : EOp} (h : RUnpinAt w Q S c x) {T : Nat → Prop} (b : But T w w') (hT : ¬ T Q) : RUnpinAt w' Q S c x := by
  obtain ⟨T', K, N, c', k, hh⟩ := h.c
  exact ⟨⟨T', K, N, c', k.frame b hT, hh⟩, fun i => b.soft (lt_of_cell k.1) (h.f i)⟩
theorem RUnpinAt.kept {w w' : World} {Q : Nat} {S : Stk} {c : Int} {x : EOp} (h : RUnpinAt w Q S c x) (k : Kept w w') : RUnpinAt w' Q S c x := h.but (k.but (fun _ => False)) id
theorem RAdvAt.but {w w' : World} {Q : Nat} {S : Stk} {c p : Int} {x : EOp} (h : RAdvAt w Q S c p x) {T : Nat → Prop} (b : But T w w') (hT : ¬ T Q) : RAdvAt w' Q S c p x := by
  obtain ⟨T', K, N, c', p', W, L, k, hh⟩ := h.c
  exact ⟨⟨T', K, N, c', p', W, L, k.frame b hT, hh⟩, fun i => b.soft (lt_of_cell k.1) (h.f i), h.own⟩
theorem RAdvAt.kept {w w' : World} {Q : Nat} {S : Stk} {c p : Int} {x : EOp} (h : RAdvAt w Q S c p x) (k : Kept w w') : RAdvAt w' Q S c p x := h.but (k.but (fun _ => False)) id

def RStepped (At : World → Prop) (M B n : Nat) (s' : St) (Q : Nat) (b : Bool) (w : World) (e : Ending) (w' : World) : Prop :=
  e = .returned (.bool b) ∧ At w' ∧ RefIs w' M B n s' ∧ But (fun k => k = Q ∨ k = M ∨ k = B) w w'

theorem endE_on {x : EOp} (h : x.line ≠ 9) : endE x = 0 := by unfold endE; rw [if_neg h]
theorem pinP_on {x : EOp} (h : x.line ≠ 9) : pinP x = ep x.W := by unfold pinP; rw [if_neg h]
theorem rpin_step (Q M B n : Nat) (S : Stk) (c : Int) (s : St) (x : EOp) (w : World) (ho : RPinAt w Q S c x) (hm : RefIs w M B n s) (h0 : 0 ≤ s.cnt) (h1 : s.cnt ≤ 1000000) (hn : n ≤ 4096) (hn1 : 1 ≤ n) (hQ : ¬ (Q = M ∨ Q = B)) (hx : x.Ok) (hs : Wd n s)
    (k0 : x.line ≠ 9 → -9223372036854775808 ≤ S.K + c ∧ S.K + c ≤ 9223372036854775807) :
    Calls Try.prog 58 #[.pointer (some ⟨Q, 0, none⟩), .pointer (some ⟨M, 0, none⟩)] w (RStepped (fun w' => RPinAt w' Q S c (pinOp n S s x)) M B n (pinSt n S c s x) Q ((pinOp n S s x).line == 9) w) := by
  have wb := hs.word S.T
  obtain ⟨⟨T, K, N, c', ⟨a0, a1, a2, a3, a4, a5, a6⟩, hh⟩, f⟩ := ho
  rcases hx.ln with h | h | h | h
  · have e9 : x.line ≠ 9 := by omega
    obtain ⟨rfl, rfl, rfl, rfl⟩ := hh e9
    rw [pinP_on e9] at a5
    rw [endE_on e9] at a6
    rw [h] at a4
    have eo : pinOp n S s x = ⟨2, wordAt n s S.T, x.L, x.er⟩ := by unfold pinOp; rw [if_pos h]
    have es : pinSt n S c' s x = acc n s 1 S.T false 0 := by unfold pinSt; rw [if_pos h]
    rw [eo, es]
    exact (rPin_1 Q M B n s w f hm h0 h1 hn hn1 hQ S.T S.K S.N c' _ 0 wb a0 a1 a2 a3 a4 a5 a6).mono fun e w' ⟨x1, x2, x3, x4, x5⟩ => ⟨x1, ⟨⟨_, _, _, _, x2, fun _ => ⟨rfl, rfl, rfl, rfl⟩⟩, x3⟩, x4, x5⟩
  · have e9 : x.line ≠ 9 := by omega
    obtain ⟨rfl, rfl, rfl, rfl⟩ := hh e9
    rw [pinP_on e9] at a5
    rw [endE_on e9] at a6
    rw [h] at a4
    have eo : pinOp n S s x = ⟨3, x.W, x.L, x.er⟩ := by unfold pinOp; rw [if_neg (by omega), if_pos h]
    have es : pinSt n S c' s x = acc n s 2 (S.K + c') true (ep x.W + 1) := by unfold pinSt; rw [if_neg (by omega), if_pos h]
    rw [eo, es]
    exact (rPin_2 Q M B n s w f hm h0 h1 hn hn1 hQ S.T S.K S.N c' _ 0 (ep_lo _) (ep_hi _) (k0 e9).1 (k0 e9).2 a0 a1 a2 a3 a4 a5 a6).mono fun e w' ⟨x1, x2, x3, x4, x5⟩ => ⟨x1, ⟨⟨_, _, _, _, x2, fun _ => ⟨rfl, rfl, rfl, rfl⟩⟩, x3⟩, x4, x5⟩
  · have e9 : x.line ≠ 9 := by omega
    obtain ⟨rfl, rfl, rfl, rfl⟩ := hh e9
    rw [pinP_on e9] at a5
    rw [endE_on e9] at a6
    rw [h] at a4
    have es : pinSt n S c' s x = acc n s 1 S.T false 0 := by unfold pinSt; rw [if_neg (by omega), if_neg (by omega), if_pos h]
    by_cases he : ep (wordAt n s S.T) = ep x.W
    · have eo : pinOp n S s x = ⟨9, wordAt n s S.T, x.L, 0⟩ := by unfold pinOp; rw [if_neg (by omega), if_neg (by omega), if_pos h, if_pos he]
      rw [eo, es]
      refine (rPin_3yes Q M B n s w f hm h0 h1 hn hn1 hQ S.T S.K S.N c' _ 0 wb he a0 a1 a2 a3 a4 a5 a6).mono fun e w' ⟨x1, x2, x3, x4, x5⟩ => ⟨x1, ⟨⟨_, _, _, _, ?_, fun _ => ⟨rfl, rfl, rfl, rfl⟩⟩, x3⟩, x4, x5⟩
      rw [← he] at x2
      exact x2
    · have eo : pinOp n S s x = ⟨2, wordAt n s S.T, x.L, x.er⟩ := by unfold pinOp; rw [if_neg (by omega), if_neg (by omega), if_pos h, if_neg he]
      rw [eo, es]
      exact (rPin_3no Q M B n s w f hm h0 h1 hn hn1 hQ S.T S.K S.N c' _ 0 wb he a0 a1 a2 a3 a4 a5 a6).mono fun e w' ⟨x1, x2, x3, x4, x5⟩ => ⟨x1, ⟨⟨_, _, _, _, x2, fun _ => ⟨rfl, rfl, rfl, rfl⟩⟩, x3⟩, x4, x5⟩
  · have eo : pinOp n S s x = x := by unfold pinOp; rw [if_neg (by omega), if_neg (by omega), if_neg (by omega)]
    have es : pinSt n S c s x = s := by unfold pinSt; rw [if_neg (by omega), if_neg (by omega), if_neg (by omega)]
    have a4' := a4
    rw [h] at a4'
    have e9 : (x.line == 9) = true := beq_iff_eq.2 h
    rw [eo, es, e9]
    refine (rPin_9 Q _ w T K N c' _ _ a0 a1 a2 a3 a4' a5 a6).mono fun e w' ⟨x1, x2⟩ => ?_
    subst x2
    exact ⟨x1, ⟨⟨T, K, N, c', ⟨a0, a1, a2, a3, a4, a5, a6⟩, hh⟩, f⟩, hm, But.refl _ _⟩
theorem runpin_step (Q M B n : Nat) (S : Stk) (c : Int) (s : St) (x : EOp) (w : World) (ho : RUnpinAt w Q S c x) (hm : RefIs w M B n s) (h0 : 0 ≤ s.cnt) (h1 : s.cnt ≤ 1000000) (hn : n ≤ 4096) (hn1 : 1 ≤ n) (hQ : ¬ (Q = M ∨ Q = B)) (hl : x.line = 1 ∨ x.line = 9)
    (k0 : x.line ≠ 9 → -9223372036854775808 ≤ S.K + c ∧ S.K + c ≤ 9223372036854775807) :
    Calls Try.prog 60 #[.pointer (some ⟨Q, 0, none⟩), .pointer (some ⟨M, 0, none⟩)] w (RStepped (fun w' => RUnpinAt w' Q S c (unOp x)) M B n (unSt n S c s x) Q ((unOp x).line == 9) w) := by
  obtain ⟨⟨T, K, N, c', ⟨a0, a1, a2, a3, a4, a5⟩, hh⟩, f⟩ := ho
  rcases hl with h | h
  · have e9 : x.line ≠ 9 := by omega
    obtain ⟨rfl, rfl, rfl, rfl⟩ := hh e9
    rw [endE_on e9] at a5
    rw [h] at a4
    have eo : unOp x = ⟨9, x.W, x.L, 0⟩ := by unfold unOp; rw [if_pos h]
    have es : unSt n S c' s x = acc n s 2 (S.K + c') true 0 := by unfold unSt; rw [if_pos h]
    rw [eo, es]
    exact (rUnpin_1 Q M B n s w f hm h0 h1 hn hn1 hQ S.T S.K S.N c' 0 (k0 e9).1 (k0 e9).2 a0 a1 a2 a3 a4 a5).mono fun e w' ⟨x1, x2, x3, x4, x5⟩ => ⟨x1, ⟨⟨_, _, _, _, x2, fun _ => ⟨rfl, rfl, rfl, rfl⟩⟩, x3⟩, x4, x5⟩
  · have eo : unOp x = x := by unfold unOp; rw [if_neg (by omega)]
    have es : unSt n S c s x = s := by unfold unSt; rw [if_neg (by omega)]
    have a4' := a4
    rw [h] at a4'
    have e9 : (x.line == 9) = true := beq_iff_eq.2 h
    rw [eo, es, e9]
    refine (rUnpin_9 Q _ w T K N c' _ a0 a1 a2 a3 a4' a5).mono fun e w' ⟨x1, x2⟩ => ?_
    subst x2
    exact ⟨x1, ⟨⟨T, K, N, c', ⟨a0, a1, a2, a3, a4, a5⟩, hh⟩, f⟩, hm, But.refl _ _⟩
theorem seek_line (S : Stk) (c W er i : Int) : ((if skip c i < S.N then (2 : Int) else 3)) = ((seekOp S c W er i).line : Int) := by
  unfold seekOp
  by_cases h : skip c i < S.N
  · rw [if_pos h, if_pos h]; rfl
  · rw [if_neg h, if_neg h]; rfl
theorem seek_ne (S : Stk) (c W er i : Int) : (seekOp S c W er i).line ≠ 9 := by
  unfold seekOp
  dsimp only
  split <;> omega
theorem radv_step (Q M B n : Nat) (S : Stk) (c p : Int) (s : St) (x : EOp) (w : World) (ho : RAdvAt w Q S c p x) (hm : RefIs w M B n s) (h0 : 0 ≤ s.cnt) (h1 : s.cnt ≤ 1000000) (hn : n ≤ 4096) (hn1 : 1 ≤ n) (hQ : ¬ (Q = M ∨ Q = B)) (hx : x.Ok) (ha : AOkN S x) (hs : Wd n s)
    (hN : S.N ≤ 900) (K0 : 0 ≤ S.K) (K1 : S.K ≤ 10000) (T0 : 0 ≤ S.T) (T1 : S.T < n) :
    Calls Try.prog 62 #[.pointer (some ⟨Q, 0, none⟩), .pointer (some ⟨M, 0, none⟩)] w (RStepped (fun w' => RAdvAt w' Q S c p (advOp n S c p s x)) M B n (advSt n S s x) Q ((advOp n S c p s x).line == 9) w) := by
  have wb := hs.word S.T
  obtain ⟨⟨T, K, N, c', p', W, L, ⟨a0, a1, a2, a3, a4, a5, a6, a7, a8⟩, hh, hW⟩, f, own⟩ := ho
  rcases hx.ln with h | h | h | h
  · have e9 : x.line ≠ 9 := by omega
    obtain ⟨rfl, rfl, rfl, rfl, rfl, rfl⟩ := hh e9
    obtain rfl := hW e9
    rw [endE_on e9] at a8
    rw [h] at a5
    rw [ha.l1 h] at a7
    have es : advSt n S s x = acc n s 1 S.T false 0 := by unfold advSt; rw [if_pos h]
    by_cases hp : ep (wordAt n s S.T) = p'
    · have eo : advOp n S c' p' s x = seekOp S c' (wordAt n s S.T) x.er 0 := by unfold advOp; rw [if_pos h, if_pos hp, ha.l1 h]
      have hb : ((advOp n S c' p' s x).line == 9) = false := by rw [eo]; simpa using seek_ne S c' (wordAt n s S.T) x.er 0
      rw [hb, es, eo]
      refine (rAdvance_1yes Q M B n s w f hm h0 h1 hn hn1 hQ S.T S.K S.N c' p' 0 x.W wb hp a0 a1 a2 a3 a4 a5 a6 a7 a8).mono fun e w' ⟨x1, x2, x3, x4, x5⟩ => ⟨x1, ⟨⟨_, _, _, _, _, _, _, ?_, fun _ => ⟨rfl, rfl, rfl, rfl, rfl, rfl⟩, fun _ => rfl⟩, x3, fun _ => hp⟩, x4, x5⟩
      rw [seek_line S c' (wordAt n s S.T) x.er 0] at x2
      rw [endE_on (seek_ne S c' (wordAt n s S.T) x.er 0)]
      exact x2
    · have eo : advOp n S c' p' s x = ⟨9, wordAt n s S.T, x.L, 14⟩ := by unfold advOp; rw [if_pos h, if_neg hp]
      rw [eo, es]
      exact (rAdvance_1no Q M B n s w f hm h0 h1 hn hn1 hQ S.T S.K S.N c' p' _ 0 x.W wb hp a0 a1 a2 a3 a4 a5 a6 a7 a8).mono fun e w' ⟨x1, x2, x3, x4, x5⟩ => ⟨x1, ⟨⟨_, _, _, _, _, _, _, x2, fun h => absurd rfl h, fun h => absurd rfl h⟩, x3, fun h => by rcases h with h | h <;> exact absurd h (by simp)⟩, x4, x5⟩
  · have e9 : x.line ≠ 9 := by omega
    obtain ⟨rfl, rfl, rfl, rfl, rfl, rfl⟩ := hh e9
    obtain rfl := hW e9
    rw [endE_on e9] at a8
    rw [h] at a5
    have hown := own (.inl h)
    obtain ⟨L0, L1⟩ := ha.l2 h
    have wk := hs.word (S.K + x.L)
    have es : advSt n S s x = acc n s 1 (S.K + x.L) false 0 := by unfold advSt; rw [if_neg (by omega), if_pos h]
    have p0 : 0 ≤ p' := by rw [← hown]; exact ep_lo _
    have p1 : p' ≤ 4294967295 := by rw [← hown]; exact ep_hi _
    by_cases hb : wordAt n s (S.K + x.L) ≠ 0 ∧ wordAt n s (S.K + x.L) ≠ ep x.W + 1
    · have eo : advOp n S c' p' s x = ⟨9, x.W, x.L, 14⟩ := by unfold advOp; rw [if_neg (by omega), if_pos h, if_pos hb]
      rw [eo, es]
      exact (rAdvance_2busy Q M B n s w f hm h0 h1 hn hn1 hQ S.T S.K S.N c' p' x.L 0 x.W wk L0 (by omega) K0 (by omega) p0 p1 hb.1 (by rw [← hown]; exact hb.2) a0 a1 a2 a3 a4 a5 a6 a7 a8).mono fun e w' ⟨x1, x2, x3, x4, x5⟩ => ⟨x1, ⟨⟨_, _, _, _, _, _, _, x2, fun h => absurd rfl h, fun h => absurd rfl h⟩, x3, fun h => by rcases h with h | h <;> exact absurd h (by simp)⟩, x4, x5⟩
    · have eo : advOp n S c' p' s x = seekOp S c' x.W x.er (x.L + 1) := by unfold advOp; rw [if_neg (by omega), if_pos h, if_neg hb]
      have hbq : ((advOp n S c' p' s x).line == 9) = false := by rw [eo]; simpa using seek_ne S c' x.W x.er (x.L + 1)
      rw [hbq, es, eo]
      have DONE : ∀ e w', (e = .returned (.bool false) ∧ RAdvanceC w' Q S.T S.K S.N c' p' (if skip c' (x.L + 1) < S.N then 2 else 3) x.W (skip c' (x.L + 1)) 0 ∧ (∀ i, w'.frozen? ⟨Q, i, none⟩ = false) ∧ RefIs w' M B n (acc n s 1 (S.K + x.L) false 0) ∧ But (fun k => k = Q ∨ k = M ∨ k = B) w w') → RStepped (fun w' => RAdvAt w' Q S c' p' (seekOp S c' x.W x.er (x.L + 1))) M B n (acc n s 1 (S.K + x.L) false 0) Q false w e w' := by
        rintro e w' ⟨x1, x2, x3, x4, x5⟩
        refine ⟨x1, ⟨⟨_, _, _, _, _, _, _, ?_, fun _ => ⟨rfl, rfl, rfl, rfl, rfl, rfl⟩, fun _ => rfl⟩, x3, fun _ => hown⟩, x4, x5⟩
        rw [seek_line S c' x.W x.er (x.L + 1)] at x2
        rw [endE_on (seek_ne S c' x.W x.er (x.L + 1))]
        exact x2
      by_cases hz : wordAt n s (S.K + x.L) = 0
      · exact (rAdvance_2free Q M B n s w f hm h0 h1 hn hn1 hQ S.T S.K S.N c' p' x.L 0 x.W wk L0 (by omega) K0 (by omega) p0 p1 hz a0 a1 a2 a3 a4 a5 a6 a7 a8).mono DONE
      · have he : wordAt n s (S.K + x.L) = p' + 1 := by
          by_cases he : wordAt n s (S.K + x.L) = ep x.W + 1
          · rw [he, hown]
          · exact absurd ⟨hz, he⟩ hb
        exact (rAdvance_2same Q M B n s w f hm h0 h1 hn hn1 hQ S.T S.K S.N c' p' x.L 0 x.W wk L0 (by omega) K0 (by omega) p0 p1 hz he a0 a1 a2 a3 a4 a5 a6 a7 a8).mono DONE
  · have e9 : x.line ≠ 9 := by omega
    obtain ⟨rfl, rfl, rfl, rfl, rfl, rfl⟩ := hh e9
    obtain rfl := hW e9
    rw [endE_on e9] at a8
    rw [h] at a5
    have hown := own (.inr h)
    have p0 : 0 ≤ p' := by rw [← hown]; exact ep_lo _
    have p1 : p' ≤ 4294967295 := by rw [← hown]; exact ep_hi _
    have es : advSt n S s x = acc n s 3 S.T (wordAt n s S.T == x.W) (p' + 1) := by unfold advSt; rw [if_neg (by omega), if_neg (by omega), if_pos h, hown]
    have eo : advOp n S c' p' s x = ⟨9, x.W, x.L, if wordAt n s S.T = x.W then 0 else 14⟩ := by unfold advOp; rw [if_neg (by omega), if_neg (by omega), if_pos h]
    rw [eo, es]
    cases hq : (wordAt n s S.T == x.W)
    · have hne : ¬ wordAt n s S.T = x.W := by simpa using hq
      rw [if_neg hne]
      refine (rAdvance_3no Q M B n s w f hm h0 h1 hn hn1 hQ S.T S.K S.N c' p' x.L 0 x.W hx.good.W0 hx.good.W1 T0 T1 p0 p1 hq a0 a1 a2 a3 a4 a5 a6 a7 a8).mono fun e w' ⟨x1, x2, x3, x4, x5⟩ => ⟨x1, ⟨⟨_, _, _, _, _, _, _, x2, fun h => absurd rfl h, fun h => absurd rfl h⟩, x3, fun h => by rcases h with h | h <;> exact absurd h (by simp)⟩, ?_, x5⟩
      rw [hq] at x4
      exact x4
    · have he : wordAt n s S.T = x.W := by simpa using hq
      rw [if_pos he]
      refine (rAdvance_3yes Q M B n s w f hm h0 h1 hn hn1 hQ S.T S.K S.N c' p' x.L 0 x.W hx.good.W0 hx.good.W1 T0 T1 p0 p1 hq a0 a1 a2 a3 a4 a5 a6 a7 a8).mono fun e w' ⟨x1, x2, x3, x4, x5⟩ => ⟨x1, ⟨⟨_, _, _, _, _, _, _, x2, fun h => absurd rfl h, fun h => absurd rfl h⟩, x3, fun h => by rcases h with h | h <;> exact absurd h (by simp)⟩, ?_, x5⟩
      rw [hq] at x4
      exact x4
  · have eo : advOp n S c p s x = x := by unfold advOp; rw [if_neg (by omega), if_neg (by omega), if_neg (by omega)]
    have es : advSt n S s x = s := by unfold advSt; rw [if_neg (by omega), if_neg (by omega), if_neg (by omega)]
    have a5' := a5
    rw [h] at a5'
    have e9 : (x.line == 9) = true := beq_iff_eq.2 h
    rw [eo, es, e9]
    refine (rAdvance_9 Q _ w T K N c' p' _ _ _ a0 a1 a2 a3 a4 a5' a6 a7 a8).mono fun e w' ⟨x1, x2⟩ => ?_
    subst x2
    exact ⟨x1, ⟨⟨T, K, N, c', p', W, L, ⟨a0, a1, a2, a3, a4, a5, a6, a7, a8⟩, hh, hW⟩, f, own⟩, hm, But.refl _ _⟩
set_option maxHeartbeats 1000000 in
theorem rpin_told (Q : Nat) (S : Stk) (c : Int) (x : EOp) (w : World) (ho : RPinAt w Q S c x) (hx : x.Ok) : Calls Try.prog 59 #[.pointer (some ⟨Q, 0, none⟩)] w fun e w' => e = .returned (.tuple #[.int .i64 (toldAt x), .int .i64 x.er]) ∧ Kept w w' := by
  obtain ⟨⟨T, K, N, c', ⟨a0, a1, a2, a3, a4, a5, a6⟩, hh⟩, f⟩ := ho
  by_cases h : x.line = 9
  · rw [h] at a4
    rw [show pinP x = toldAt x from if_pos h] at a5
    rw [show endE x = x.er from if_pos h] at a6
    clear hh f
    go_enter Try.func59, Try.ntmps59
    go_wp2_with fail
    first
      | (go_quiet (fail); go_wp2; go_ret2; exact ⟨rfl, by (go_light; repeat (first | (with_reducible exact Kept.refl _) | (with_reducible assumption) | (with_reducible refine Kept.alloc ?_ _ _) | (with_reducible refine Kept.drew ?_) | (with_reducible refine Kept.drewN ?_ _) | ((with_reducible refine Kept.setCell ?_ ?_ _); rotate_left; focus (first | (simp; done) | (simp; omega))) | refine Kept.trans ?_ (by assumption)))⟩)
      | (go_ret2; exact ⟨rfl, by (go_light; repeat (first | (with_reducible exact Kept.refl _) | (with_reducible assumption) | (with_reducible refine Kept.alloc ?_ _ _) | (with_reducible refine Kept.drew ?_) | (with_reducible refine Kept.drewN ?_ _) | ((with_reducible refine Kept.setCell ?_ ?_ _); rotate_left; focus (first | (simp; done) | (simp; omega))) | refine Kept.trans ?_ (by assumption)))⟩)
  · have he := hx.busy h
    have ht : toldAt x = 0 := by unfold toldAt; rw [if_neg (by omega)]
    rw [ht, he]
    have hb : (((x.line : Nat) : Int) != 9) = true := by simp; omega
    clear hh f hx
    generalize ((x.line : Nat) : Int) = l at *
    go_enter Try.func59, Try.ntmps59
    go_wp2
    go_ret2
    exact ⟨rfl, by (go_light; repeat (first | (with_reducible exact Kept.refl _) | (with_reducible assumption) | (with_reducible refine Kept.alloc ?_ _ _) | (with_reducible refine Kept.drew ?_) | (with_reducible refine Kept.drewN ?_ _) | ((with_reducible refine Kept.setCell ?_ ?_ _); rotate_left; focus (first | (simp; done) | (simp; omega))) | refine Kept.trans ?_ (by assumption)))⟩
set_option maxHeartbeats 1000000 in
theorem rtold_any (x : EOp) (w : World) (hx : x.Ok) : Calls Try.prog 92 #[.int .i64 x.line, .int .i64 (endE x)] w fun e w' => e = .returned (.int .i64 x.er) ∧ w = w' := by
  by_cases h : x.line = 9
  · rw [h, show endE x = x.er from if_pos h]
    go_enter Try.func92, Try.ntmps92
    go_wp2
    go_ret
    exact ⟨rfl, rfl⟩
  · have he := hx.busy h
    rw [he]
    have hb : (((x.line : Nat) : Int) != 9) = true := by simp; omega
    generalize ((x.line : Nat) : Int) = l at *
    go_enter Try.func92, Try.ntmps92
    go_wp2
    go_ret
    exact ⟨rfl, rfl⟩
set_option maxHeartbeats 1000000 in
theorem runpin_told (Q : Nat) (S : Stk) (c : Int) (x : EOp) (w : World) (ho : RUnpinAt w Q S c x) (hx : x.Ok) : Calls Try.prog 61 #[.pointer (some ⟨Q, 0, none⟩)] w fun e w' => e = .returned (.int .i64 x.er) ∧ Kept w w' := by
  obtain ⟨⟨T, K, N, c', ⟨a0, a1, a2, a3, a4, a5⟩, hh⟩, f⟩ := ho
  have TL := Lib.hid (fun W => rtold_any x W hx)
  clear hh f hx
  go_enter Try.func61, Try.ntmps61
  go_wp2_with fail
  go_region_held3 (fun w' => w'.cell? ⟨Q, 4, none⟩ = some (.int .i64 x.line) ∧ w'.cell? ⟨Q, 5, none⟩ = some (.int .i64 (endE x))) (first | go_keep | assumption) (first | (go_at_call 92; refine (TL.out _).mono ?_; rintro e w' ⟨rfl, rfl⟩))
  go_wp2
  go_ret
  exact ⟨rfl, by (go_light; repeat (first | (with_reducible exact Kept.refl _) | (with_reducible assumption) | (with_reducible refine Kept.alloc ?_ _ _) | (with_reducible refine Kept.drew ?_) | (with_reducible refine Kept.drewN ?_ _) | ((with_reducible refine Kept.setCell ?_ ?_ _); rotate_left; focus (first | (simp; done) | (simp; omega))) | refine Kept.trans ?_ (by assumption)))⟩
set_option maxHeartbeats 1000000 in
theorem radv_told (Q : Nat) (S : Stk) (c p : Int) (x : EOp) (w : World) (ho : RAdvAt w Q S c p x) (hx : x.Ok) : Calls Try.prog 63 #[.pointer (some ⟨Q, 0, none⟩)] w fun e w' => e = .returned (.int .i64 x.er) ∧ Kept w w' := by
  obtain ⟨⟨T, K, N, c', p', W, L, ⟨a0, a1, a2, a3, a4, a5, a6, a7, a8⟩, hh⟩, f, _⟩ := ho
  have TL := Lib.hid (fun W => rtold_any x W hx)
  clear hh f hx
  go_enter Try.func63, Try.ntmps63
  go_wp2_with fail
  go_region_held3 (fun w' => w'.cell? ⟨Q, 5, none⟩ = some (.int .i64 x.line) ∧ w'.cell? ⟨Q, 8, none⟩ = some (.int .i64 (endE x))) (first | go_keep | assumption) (first | (go_at_call 92; refine (TL.out _).mono ?_; rintro e w' ⟨rfl, rfl⟩))
  go_wp2
  go_ret
  exact ⟨rfl, by (go_light; repeat (first | (with_reducible exact Kept.refl _) | (with_reducible assumption) | (with_reducible refine Kept.alloc ?_ _ _) | (with_reducible refine Kept.drew ?_) | (with_reducible refine Kept.drewN ?_ _) | ((with_reducible refine Kept.setCell ?_ ?_ _); rotate_left; focus (first | (simp; done) | (simp; omega))) | refine Kept.trans ?_ (by assumption)))⟩

set_option maxHeartbeats 1000000 in
theorem rnone_no (S : Stk) (c : Int) (h0 : 0 ≤ c) (h1 : c < S.N) (w : World) : Calls Try.prog 90 #[.agg #[.int .i64 S.T, .int .i64 S.K, .int .i64 S.N], .int .i64 c] w fun e w' => e = .returned (.bool false) ∧ Kept w w' := by
  have h2 : decide (S.N ≤ c) = false := by simp; omega
  have h3 : decide (c < 0) = false := by simp; omega
  go_enter Try.func90, Try.ntmps90
  go_wp2
  go_ret
  exact ⟨by first | rfl | simp [h2, h3], by (go_light; repeat (first | (with_reducible exact Kept.refl _) | (with_reducible assumption) | (with_reducible refine Kept.alloc ?_ _ _) | (with_reducible refine Kept.drew ?_) | (with_reducible refine Kept.drewN ?_ _) | ((with_reducible refine Kept.setCell ?_ ?_ _); rotate_left; focus (first | (simp; done) | (simp; omega))) | refine Kept.trans ?_ (by assumption)))⟩
set_option maxHeartbeats 1000000 in
theorem rnone_yes (S : Stk) (c : Int) (h : c < 0 ∨ S.N ≤ c) (w : World) : Calls Try.prog 90 #[.agg #[.int .i64 S.T, .int .i64 S.K, .int .i64 S.N], .int .i64 c] w fun e w' => e = .returned (.bool true) ∧ Kept w w' := by
  by_cases h0 : c < 0
  · clear h
    go_enter Try.func90, Try.ntmps90
    go_wp2
    go_ret
    exact ⟨rfl, by (go_light; repeat (first | (with_reducible exact Kept.refl _) | (with_reducible assumption) | (with_reducible refine Kept.alloc ?_ _ _) | (with_reducible refine Kept.drew ?_) | (with_reducible refine Kept.drewN ?_ _) | ((with_reducible refine Kept.setCell ?_ ?_ _); rotate_left; focus (first | (simp; done) | (simp; omega))) | refine Kept.trans ?_ (by assumption)))⟩
  · have h1 : S.N ≤ c := by omega
    have h2 : 0 ≤ c := by omega
    clear h h0
    go_enter Try.func90, Try.ntmps90
    go_wp2
    go_ret
    exact ⟨rfl, by (go_light; repeat (first | (with_reducible exact Kept.refl _) | (with_reducible assumption) | (with_reducible refine Kept.alloc ?_ _ _) | (with_reducible refine Kept.drew ?_) | (with_reducible refine Kept.drewN ?_ _) | ((with_reducible refine Kept.setCell ?_ ?_ _); rotate_left; focus (first | (simp; done) | (simp; omega))) | refine Kept.trans ?_ (by assumption)))⟩
set_option maxHeartbeats 1000000 in
theorem rnewPin_yes (S : Stk) (c : Int) (h0 : 0 ≤ c) (h1 : c < S.N) (w : World) : Calls Try.prog 55 #[.agg #[.int .i64 S.T, .int .i64 S.K, .int .i64 S.N], .int .i64 c] w (Made (fun w Q => RPinAt w Q S c EOp.new) w) := by
  go_enter Try.func55, Try.ntmps55
  go_wp2_with fail
  refine (rnone_no S c h0 h1 _).mono ?_
  rintro e w1 ⟨rfl, k1⟩
  have K1 := Lib.hid k1
  have e0 : w1.cell? ⟨w.heap.size, 0, none⟩ = some (.int .i64 S.T) := k1.some (cell_new _ _ _ _ 0 rfl)
  have e1 : w1.cell? ⟨w.heap.size, 1, none⟩ = some (.int .i64 S.K) := k1.some (cell_new _ _ _ _ 1 rfl)
  have e2 : w1.cell? ⟨w.heap.size, 2, none⟩ = some (.int .i64 S.N) := k1.some (cell_new _ _ _ _ 2 rfl)
  have sz : w.heap.size ≤ w1.heap.size := by have := lt_of_cell e0; omega
  clear k1
  go_wp2
  go_ret
  go_light
  exact ⟨w1.heap.size, rfl, sz, by simp, ⟨⟨_, _, _, _, ⟨cell_new _ _ _ _ 0 rfl, cell_new _ _ _ _ 1 rfl, cell_new _ _ _ _ 2 rfl, cell_new _ _ _ _ 3 rfl, cell_new _ _ _ _ 4 rfl, cell_new _ _ _ _ 5 rfl, cell_new _ _ _ _ 6 rfl⟩, fun h => ⟨rfl, rfl, rfl, rfl⟩⟩, fun i => by simp⟩, ((Kept.refl w).alloc _ _).trans (K1.out.trans ((Kept.refl _).alloc _ _))⟩
set_option maxHeartbeats 1000000 in
theorem rnewPin_no (S : Stk) (c : Int) (h : c < 0 ∨ S.N ≤ c) (w : World) : Calls Try.prog 55 #[.agg #[.int .i64 S.T, .int .i64 S.K, .int .i64 S.N], .int .i64 c] w (Made (fun w Q => RPinAt w Q S c EOp.bad) w) := by
  go_enter Try.func55, Try.ntmps55
  go_wp2_with fail
  refine (rnone_yes S c h _).mono ?_
  rintro e w1 ⟨rfl, k1⟩
  have K1 := Lib.hid k1
  have e0 : w1.cell? ⟨w.heap.size, 0, none⟩ = some (.int .i64 S.T) := k1.some (cell_new _ _ _ _ 0 rfl)
  have e1 : w1.cell? ⟨w.heap.size, 1, none⟩ = some (.int .i64 S.K) := k1.some (cell_new _ _ _ _ 1 rfl)
  have e2 : w1.cell? ⟨w.heap.size, 2, none⟩ = some (.int .i64 S.N) := k1.some (cell_new _ _ _ _ 2 rfl)
  have sz : w.heap.size ≤ w1.heap.size := by have := lt_of_cell e0; omega
  clear k1
  go_wp2
  go_ret
  go_light
  exact ⟨w1.heap.size, rfl, sz, by simp, ⟨⟨_, _, _, _, ⟨cell_new _ _ _ _ 0 rfl, cell_new _ _ _ _ 1 rfl, cell_new _ _ _ _ 2 rfl, cell_new _ _ _ _ 3 rfl, cell_new _ _ _ _ 4 rfl, cell_new _ _ _ _ 5 rfl, cell_new _ _ _ _ 6 rfl⟩, fun h => absurd rfl h⟩, fun i => by simp⟩, ((Kept.refl w).alloc _ _).trans (K1.out.trans ((Kept.refl _).alloc _ _))⟩
set_option maxHeartbeats 1000000 in
theorem rnewUnpin_yes (S : Stk) (c : Int) (h0 : 0 ≤ c) (h1 : c < S.N) (w : World) : Calls Try.prog 56 #[.agg #[.int .i64 S.T, .int .i64 S.K, .int .i64 S.N], .int .i64 c] w (Made (fun w Q => RUnpinAt w Q S c EOp.new) w) := by
  go_enter Try.func56, Try.ntmps56
  go_wp2_with fail
  refine (rnone_no S c h0 h1 _).mono ?_
  rintro e w1 ⟨rfl, k1⟩
  have K1 := Lib.hid k1
  have e0 : w1.cell? ⟨w.heap.size, 0, none⟩ = some (.int .i64 S.T) := k1.some (cell_new _ _ _ _ 0 rfl)
  have e1 : w1.cell? ⟨w.heap.size, 1, none⟩ = some (.int .i64 S.K) := k1.some (cell_new _ _ _ _ 1 rfl)
  have e2 : w1.cell? ⟨w.heap.size, 2, none⟩ = some (.int .i64 S.N) := k1.some (cell_new _ _ _ _ 2 rfl)
  have sz : w.heap.size ≤ w1.heap.size := by have := lt_of_cell e0; omega
  clear k1
  go_wp2
  go_ret
  go_light
  exact ⟨w1.heap.size, rfl, sz, by simp, ⟨⟨_, _, _, _, ⟨cell_new _ _ _ _ 0 rfl, cell_new _ _ _ _ 1 rfl, cell_new _ _ _ _ 2 rfl, cell_new _ _ _ _ 3 rfl, cell_new _ _ _ _ 4 rfl, cell_new _ _ _ _ 5 rfl⟩, fun h => ⟨rfl, rfl, rfl, rfl⟩⟩, fun i => by simp⟩, ((Kept.refl w).alloc _ _).trans (K1.out.trans ((Kept.refl _).alloc _ _))⟩
set_option maxHeartbeats 1000000 in
theorem rnewUnpin_no (S : Stk) (c : Int) (h : c < 0 ∨ S.N ≤ c) (w : World) : Calls Try.prog 56 #[.agg #[.int .i64 S.T, .int .i64 S.K, .int .i64 S.N], .int .i64 c] w (Made (fun w Q => RUnpinAt w Q S c EOp.bad) w) := by
  go_enter Try.func56, Try.ntmps56
  go_wp2_with fail
  refine (rnone_yes S c h _).mono ?_
  rintro e w1 ⟨rfl, k1⟩
  have K1 := Lib.hid k1
  have e0 : w1.cell? ⟨w.heap.size, 0, none⟩ = some (.int .i64 S.T) := k1.some (cell_new _ _ _ _ 0 rfl)
  have e1 : w1.cell? ⟨w.heap.size, 1, none⟩ = some (.int .i64 S.K) := k1.some (cell_new _ _ _ _ 1 rfl)
  have e2 : w1.cell? ⟨w.heap.size, 2, none⟩ = some (.int .i64 S.N) := k1.some (cell_new _ _ _ _ 2 rfl)
  have sz : w.heap.size ≤ w1.heap.size := by have := lt_of_cell e0; omega
  clear k1
  go_wp2
  go_ret
  go_light
  exact ⟨w1.heap.size, rfl, sz, by simp, ⟨⟨_, _, _, _, ⟨cell_new _ _ _ _ 0 rfl, cell_new _ _ _ _ 1 rfl, cell_new _ _ _ _ 2 rfl, cell_new _ _ _ _ 3 rfl, cell_new _ _ _ _ 4 rfl, cell_new _ _ _ _ 5 rfl⟩, fun h => absurd rfl h⟩, fun i => by simp⟩, ((Kept.refl w).alloc _ _).trans (K1.out.trans ((Kept.refl _).alloc _ _))⟩
set_option maxHeartbeats 1000000 in
theorem rnewAdvance_yes (S : Stk) (c p : Int) (h0 : 0 ≤ c) (h1 : c < S.N) (w : World) : Calls Try.prog 57 #[.agg #[.int .i64 S.T, .int .i64 S.K, .int .i64 S.N], .int .i64 c, .int .i64 p] w (Made (fun w Q => RAdvAt w Q S c p EOp.new) w) := by
  go_enter Try.func57, Try.ntmps57
  go_wp2_with fail
  refine (rnone_no S c h0 h1 _).mono ?_
  rintro e w1 ⟨rfl, k1⟩
  have K1 := Lib.hid k1
  have e0 : w1.cell? ⟨w.heap.size, 0, none⟩ = some (.int .i64 S.T) := k1.some (cell_new _ _ _ _ 0 rfl)
  have e1 : w1.cell? ⟨w.heap.size, 1, none⟩ = some (.int .i64 S.K) := k1.some (cell_new _ _ _ _ 1 rfl)
  have e2 : w1.cell? ⟨w.heap.size, 2, none⟩ = some (.int .i64 S.N) := k1.some (cell_new _ _ _ _ 2 rfl)
  have sz : w.heap.size ≤ w1.heap.size := by have := lt_of_cell e0; omega
  clear k1
  go_wp2
  go_ret
  go_light
  exact ⟨w1.heap.size, rfl, sz, by simp, ⟨⟨_, _, _, _, _, _, _, ⟨cell_new _ _ _ _ 0 rfl, cell_new _ _ _ _ 1 rfl, cell_new _ _ _ _ 2 rfl, cell_new _ _ _ _ 3 rfl, cell_new _ _ _ _ 4 rfl, cell_new _ _ _ _ 5 rfl, cell_new _ _ _ _ 6 rfl, cell_new _ _ _ _ 7 rfl, cell_new _ _ _ _ 8 rfl⟩, fun h => ⟨rfl, rfl, rfl, rfl, rfl, rfl⟩, fun h => rfl⟩, fun i => by simp, fun h => by rcases h with h | h <;> exact absurd h (by decide)⟩, ((Kept.refl w).alloc _ _).trans (K1.out.trans ((Kept.refl _).alloc _ _))⟩
set_option maxHeartbeats 1000000 in
theorem rnewAdvance_no (S : Stk) (c p : Int) (h : c < 0 ∨ S.N ≤ c) (w : World) : Calls Try.prog 57 #[.agg #[.int .i64 S.T, .int .i64 S.K, .int .i64 S.N], .int .i64 c, .int .i64 p] w (Made (fun w Q => RAdvAt w Q S c p EOp.bad) w) := by
  go_enter Try.func57, Try.ntmps57
  go_wp2_with fail
  refine (rnone_yes S c h _).mono ?_
  rintro e w1 ⟨rfl, k1⟩
  have K1 := Lib.hid k1
  have e0 : w1.cell? ⟨w.heap.size, 0, none⟩ = some (.int .i64 S.T) := k1.some (cell_new _ _ _ _ 0 rfl)
  have e1 : w1.cell? ⟨w.heap.size, 1, none⟩ = some (.int .i64 S.K) := k1.some (cell_new _ _ _ _ 1 rfl)
  have e2 : w1.cell? ⟨w.heap.size, 2, none⟩ = some (.int .i64 S.N) := k1.some (cell_new _ _ _ _ 2 rfl)
  have sz : w.heap.size ≤ w1.heap.size := by have := lt_of_cell e0; omega
  clear k1
  go_wp2
  go_ret
  go_light
  exact ⟨w1.heap.size, rfl, sz, by simp, ⟨⟨_, _, _, _, _, _, _, ⟨cell_new _ _ _ _ 0 rfl, cell_new _ _ _ _ 1 rfl, cell_new _ _ _ _ 2 rfl, cell_new _ _ _ _ 3 rfl, cell_new _ _ _ _ 4 rfl, cell_new _ _ _ _ 5 rfl, cell_new _ _ _ _ 6 rfl, cell_new _ _ _ _ 7 rfl, cell_new _ _ _ _ 8 rfl⟩, fun h => absurd rfl h, fun h => absurd rfl h⟩, fun i => by simp, fun h => by rcases h with h | h <;> exact absurd h (by decide)⟩, ((Kept.refl w).alloc _ _).trans (K1.out.trans ((Kept.refl _).alloc _ _))⟩
end Go.Proofs.Ytmfbjlaajcdbnaa.Ep
