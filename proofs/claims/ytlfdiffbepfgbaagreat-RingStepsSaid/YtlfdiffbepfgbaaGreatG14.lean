/- The document's operations by the model: their steps, what they tell, how they are made. Written by gen14s.py. -/
import Derived.Test.YtlfdiffbepfgbaaGreatG10
import Derived.Test.YtlfdiffbepfgbaaGreatG13
set_option linter.unusedVariables false
set_option linter.unusedSimpArgs false

namespace Go.Proofs.YtlfdiffbepfgbaaGreat.Ri
set_option maxRecDepth 20000
open Go.RowKit
open Wo (St acc wordAt PMem RefIs)
open Sk (Wd r_load r_store r_cas ref_frame ref_kept ref_lt)

def pl (l : Nat) : Int := if l = 0 then 9 else l
def fl (l : Nat) : Int := if l = 6 then 1 else if l = 7 then 2 else 9
def dl (l : Nat) : Int := if l = 8 then 1 else if l = 9 then 2 else 9
structure DPushAt (w : World) (Q : Nat) (R : Rng) (x : ROp) : Prop where
  c : ∃ H T K N v t u b, DPushC w Q H T K N v (pl x.line) t u b ∧ (x.line ≠ 0 → H = R.H ∧ T = R.T ∧ K = R.K ∧ N = R.N ∧ v = x.v ∧ t = x.t ∧ u = x.w ∧ b = 0) ∧ (x.line = 0 → b = x.er)
  f : ∀ i, w.frozen? ⟨Q, i, none⟩ = false
structure DFrontAt (w : World) (Q : Nat) (R : Rng) (x : ROp) : Prop where
  c : ∃ H T K N b, DFrontC w Q H T K N (fl x.line) x.t (toldV x) b ∧ (x.line ≠ 0 → H = R.H ∧ T = R.T ∧ K = R.K ∧ N = R.N ∧ b = 0) ∧ (x.line = 0 → b = x.er)
  f : ∀ i, w.frozen? ⟨Q, i, none⟩ = false
structure DDropAt (w : World) (Q : Nat) (R : Rng) (x : ROp) : Prop where
  c : ∃ H T K N t b, DDropC w Q H T K N (dl x.line) t b ∧ (x.line ≠ 0 → H = R.H ∧ T = R.T ∧ K = R.K ∧ N = R.N ∧ t = x.t ∧ b = 0) ∧ (x.line = 0 → b = x.er)
  f : ∀ i, w.frozen? ⟨Q, i, none⟩ = false
theorem DPushAt.lt {w : World} {Q : Nat} {R : Rng} {x : ROp} (h : DPushAt w Q R x) : Q < w.heap.size := by
  obtain ⟨H, T, K, N, v, t, u, b, hc, h1, h2⟩ := h.c
  exact lt_of_cell hc.1
theorem DPushAt.frame {w w' : World} {Q : Nat} {R : Rng} {x : ROp} (h : DPushAt w Q R x) {T' : Nat → Prop} (hb : But T' w w') (hQ : ¬ T' Q) : DPushAt w' Q R x := by
  obtain ⟨H, T, K, N, v, t, u, b, hc, h1, h2⟩ := h.c
  exact ⟨⟨H, T, K, N, v, t, u, b, hc.frame hb hQ, h1, h2⟩, fun i => hb.soft (lt_of_cell hc.1) (h.f i)⟩
theorem DPushAt.kept {w w' : World} {Q : Nat} {R : Rng} {x : ROp} (h : DPushAt w Q R x) (k : Kept w w') : DPushAt w' Q R x := h.frame (k.but (fun _ => False)) id
theorem DFrontAt.lt {w : World} {Q : Nat} {R : Rng} {x : ROp} (h : DFrontAt w Q R x) : Q < w.heap.size := by
  obtain ⟨H, T, K, N, b, hc, h1, h2⟩ := h.c
  exact lt_of_cell hc.1
theorem DFrontAt.frame {w w' : World} {Q : Nat} {R : Rng} {x : ROp} (h : DFrontAt w Q R x) {T' : Nat → Prop} (hb : But T' w w') (hQ : ¬ T' Q) : DFrontAt w' Q R x := by
  obtain ⟨H, T, K, N, b, hc, h1, h2⟩ := h.c
  exact ⟨⟨H, T, K, N, b, hc.frame hb hQ, h1, h2⟩, fun i => hb.soft (lt_of_cell hc.1) (h.f i)⟩
theorem DFrontAt.kept {w w' : World} {Q : Nat} {R : Rng} {x : ROp} (h : DFrontAt w Q R x) (k : Kept w w') : DFrontAt w' Q R x := h.frame (k.but (fun _ => False)) id
theorem DDropAt.lt {w : World} {Q : Nat} {R : Rng} {x : ROp} (h : DDropAt w Q R x) : Q < w.heap.size := by
  obtain ⟨H, T, K, N, t, b, hc, h1, h2⟩ := h.c
  exact lt_of_cell hc.1
theorem DDropAt.frame {w w' : World} {Q : Nat} {R : Rng} {x : ROp} (h : DDropAt w Q R x) {T' : Nat → Prop} (hb : But T' w w') (hQ : ¬ T' Q) : DDropAt w' Q R x := by
  obtain ⟨H, T, K, N, t, b, hc, h1, h2⟩ := h.c
  exact ⟨⟨H, T, K, N, t, b, hc.frame hb hQ, h1, h2⟩, fun i => hb.soft (lt_of_cell hc.1) (h.f i)⟩
theorem DDropAt.kept {w w' : World} {Q : Nat} {R : Rng} {x : ROp} (h : DDropAt w Q R x) (k : Kept w w') : DDropAt w' Q R x := h.frame (k.but (fun _ => False)) id
def RWent (At : World → Prop) (Q M B n : Nat) (s' : St) (x' : ROp) (w : World) (e : Ending) (w' : World) : Prop :=
  e = .returned (.bool (x'.line == 0)) ∧ At w' ∧ RefIs w' M B n s' ∧ But (fun k => k = Q ∨ k = M ∨ k = B) w w'
theorem rpush_step (Q M B n : Nat) (R : Rng) (hR : R.Ok n) (x : ROp) (s : St) (w : World) (h : DPushAt w Q R x) (hm : RefIs w M B n s) (h0 : 0 ≤ s.cnt) (h1 : s.cnt ≤ 1000000) (hn1 : 1 ≤ n) (hQ : ¬ (Q = M ∨ Q = B)) (hx : x.Good) (hk : isPush x) (hw : Wd n s) :
    Calls Tryz.prog 118 #[.pointer (some ⟨Q, 0, none⟩), .pointer (some ⟨M, 0, none⟩)] w (RWent (fun w' => DPushAt w' Q R (rOp n R s x)) Q M B n (rSt n R s x) (rOp n R s x) w) := by
  have n1 := hR.N1
  have n2 := hR.N2
  have k0 := hR.K1
  have k2 := hR.K2
  have nn := hR.n2
  have wd := hw.word (cell R x.t)
  obtain ⟨H, T, K, N, v, t, u, b, ⟨c0, c1, c2, c3, c4, c5, c6, c7, c8⟩, g1, g2⟩ := h.c
  have f := h.f
  obtain ⟨l, t', u', v', er⟩ := x
  have t0 := hx.t0
  have t1 := hx.t1
  have hv := hx.v0
  have hk : l ≤ 5 := hk
  dsimp only at t0 t1 hv g1 g2 wd c5
  have : l = 0 ∨ l = 1 ∨ l = 2 ∨ l = 3 ∨ l = 4 ∨ l = 5 := by omega
  rcases this with rfl | rfl | rfl | rfl | rfl | rfl
  · exact (rPush_9 Q _ w c5).mono fun _ _ ⟨a, k⟩ => by subst k; exact ⟨a, h, hm, But.refl _ _⟩
  · obtain ⟨rfl, rfl, rfl, rfl, rfl, rfl, rfl, rfl⟩ := g1 (by decide)
    exact (rPush_1 Q M B n s w f hm h0 h1 nn hn1 hQ _ _ _ _ _ _ _ _ c0 c1 c2 c3 c4 c5 c6 c7 c8).mono fun _ _ ⟨a, d, ff, m, bb⟩ => ⟨a, ⟨⟨_, _, _, _, _, _, _, _, d, fun _ => ⟨rfl, rfl, rfl, rfl, rfl, rfl, rfl, rfl⟩, fun h => absurd (show (2 : Nat) = 0 from h) (by decide)⟩, ff⟩, m, bb⟩
  · obtain ⟨rfl, rfl, rfl, rfl, rfl, rfl, rfl, rfl⟩ := g1 (by decide)
    have ef := free_eq R t (wordAt n s (cell R t))
    have ek := kept_eq R t (wordAt n s (cell R t)) wd.1 wd.2
    by_cases hf : free R t (wordAt n s (cell R t)) = true
    · have e : rOp n R s ⟨2, t, u, v, er⟩ = ⟨3, t, wordAt n s (cell R t), v, er⟩ := by show rLook _ _ _ = _; unfold rLook; rw [if_pos hf]
      rw [e]
      exact (rPush_2_3 Q M B n s w f hm h0 h1 nn hn1 hQ _ _ _ _ _ _ _ _ n1 n2 k0 (by omega) t0 t1 wd (ef.trans hf) c0 c1 c2 c3 c4 c5 c6 c7 c8).mono fun _ _ ⟨a, d, ff, m, bb⟩ => ⟨a, ⟨⟨_, _, _, _, _, _, _, _, d, fun _ => ⟨rfl, rfl, rfl, rfl, rfl, rfl, rfl, rfl⟩, fun h => absurd (show (3 : Nat) = 0 from h) (by decide)⟩, ff⟩, m, bb⟩
    · have hf' : free R t (wordAt n s (cell R t)) = false := by simpa using hf
      by_cases hkk : keptB R t (wordAt n s (cell R t)) = true
      · have e : rOp n R s ⟨2, t, u, v, er⟩ = ⟨0, t, wordAt n s (cell R t), v, 7⟩ := by show rLook _ _ _ = _; unfold rLook; rw [if_neg hf, if_pos hkk]
        rw [e]
        exact (rPush_2_9 Q M B n s w f hm h0 h1 nn hn1 hQ _ _ _ _ _ _ _ _ n1 n2 k0 (by omega) t0 t1 wd ⟨ef.trans hf', ek.trans hkk⟩ c0 c1 c2 c3 c4 c5 c6 c7 c8).mono fun _ _ ⟨a, d, ff, m, bb⟩ => ⟨a, ⟨⟨_, _, _, _, _, _, _, _, d, fun h => absurd rfl h, fun _ => rfl⟩, ff⟩, m, bb⟩
      · have hk' : keptB R t (wordAt n s (cell R t)) = false := by simpa using hkk
        have e : rOp n R s ⟨2, t, u, v, er⟩ = ⟨5, t, wordAt n s (cell R t), v, er⟩ := by show rLook _ _ _ = _; unfold rLook; rw [if_neg hf, if_neg hkk]
        rw [e]
        exact (rPush_2_5 Q M B n s w f hm h0 h1 nn hn1 hQ _ _ _ _ _ _ _ _ n1 n2 k0 (by omega) t0 t1 wd ⟨ef.trans hf', ek.trans hk'⟩ c0 c1 c2 c3 c4 c5 c6 c7 c8).mono fun _ _ ⟨a, d, ff, m, bb⟩ => ⟨a, ⟨⟨_, _, _, _, _, _, _, _, d, fun _ => ⟨rfl, rfl, rfl, rfl, rfl, rfl, rfl, rfl⟩, fun h => absurd (show (5 : Nat) = 0 from h) (by decide)⟩, ff⟩, m, bb⟩
  · obtain ⟨rfl, rfl, rfl, rfl, rfl, rfl, rfl, rfl⟩ := g1 (by decide)
    have v0 := hv (by decide)
    by_cases hz : wordAt n s (cell R t) = u
    · have e : rOp n R s ⟨3, t, u, v, er⟩ = ⟨4, t, u, v, er⟩ := by show ROp.mk (if _ then _ else _) _ _ _ _ = _; rw [if_pos hz]
      have e2 : rSt n R s ⟨3, t, u, v, er⟩ = acc n s 3 (cell R t) true (fullW (lap R t) v) := by show acc _ _ _ _ (_ == _) _ = _; rw [hz]; simp
      rw [e, e2]
      exact (rPush_3_4 Q M B n s w f hm h0 h1 nn hn1 hQ _ _ _ _ _ _ _ _ n1 n2 k0 (by omega) t0 t1 k2 v0.1 v0.2 (show (wordAt n s (cell R t) == u) = true by simpa using hz) c0 c1 c2 c3 c4 c5 c6 c7 c8).mono fun _ _ ⟨a, d, ff, m, bb⟩ => ⟨a, ⟨⟨_, _, _, _, _, _, _, _, d, fun _ => ⟨rfl, rfl, rfl, rfl, rfl, rfl, rfl, rfl⟩, fun h => absurd (show (4 : Nat) = 0 from h) (by decide)⟩, ff⟩, m, bb⟩
    · have e : rOp n R s ⟨3, t, u, v, er⟩ = ⟨5, t, u, v, er⟩ := by show ROp.mk (if _ then _ else _) _ _ _ _ = _; rw [if_neg hz]
      have hz2 : (wordAt n s (cell R t) == u) = false := by simpa using hz
      have e2 : rSt n R s ⟨3, t, u, v, er⟩ = acc n s 3 (cell R t) false (fullW (lap R t) v) := by show acc _ _ _ _ (_ == _) _ = _; rw [hz2]
      rw [e, e2]
      exact (rPush_3_5 Q M B n s w f hm h0 h1 nn hn1 hQ _ _ _ _ _ _ _ _ n1 n2 k0 (by omega) t0 t1 k2 v0.1 v0.2 hz2 c0 c1 c2 c3 c4 c5 c6 c7 c8).mono fun _ _ ⟨a, d, ff, m, bb⟩ => ⟨a, ⟨⟨_, _, _, _, _, _, _, _, d, fun _ => ⟨rfl, rfl, rfl, rfl, rfl, rfl, rfl, rfl⟩, fun h => absurd (show (5 : Nat) = 0 from h) (by decide)⟩, ff⟩, m, bb⟩
  · obtain ⟨rfl, rfl, rfl, rfl, rfl, rfl, rfl, rfl⟩ := g1 (by decide)
    exact (rPush_4 Q M B n s w f hm h0 h1 nn hn1 hQ _ _ _ _ _ _ _ _ hR.T1 hR.T2 c0 c1 c2 c3 c4 c5 c6 c7 c8).mono fun _ _ ⟨a, d, ff, m, bb⟩ => ⟨a, ⟨⟨_, _, _, _, _, _, _, _, d, fun h => absurd rfl h, fun _ => rfl⟩, ff⟩, m, bb⟩
  · obtain ⟨rfl, rfl, rfl, rfl, rfl, rfl, rfl, rfl⟩ := g1 (by decide)
    exact (rPush_5 Q M B n s w f hm h0 h1 nn hn1 hQ _ _ _ _ _ _ _ _ hR.T1 hR.T2 c0 c1 c2 c3 c4 c5 c6 c7 c8).mono fun _ _ ⟨a, d, ff, m, bb⟩ => ⟨a, ⟨⟨_, _, _, _, _, _, _, _, d, fun _ => ⟨rfl, rfl, rfl, rfl, rfl, rfl, rfl, rfl⟩, fun h => absurd (show (1 : Nat) = 0 from h) (by decide)⟩, ff⟩, m, bb⟩
theorem rfront_step (Q M B n : Nat) (R : Rng) (hR : R.Ok n) (x : ROp) (s : St) (w : World) (h : DFrontAt w Q R x) (hm : RefIs w M B n s) (h0 : 0 ≤ s.cnt) (h1 : s.cnt ≤ 1000000) (hn1 : 1 ≤ n) (hQ : ¬ (Q = M ∨ Q = B)) (hx : x.Good) (hk : isFront x) (hw : Wd n s) :
    Calls Tryz.prog 122 #[.pointer (some ⟨Q, 0, none⟩), .pointer (some ⟨M, 0, none⟩)] w (RWent (fun w' => DFrontAt w' Q R (rOp n R s x)) Q M B n (rSt n R s x) (rOp n R s x) w) := by
  have n1 := hR.N1
  have n2 := hR.N2
  have k0 := hR.K1
  have k2 := hR.K2
  have nn := hR.n2
  have wd := hw.word (cell R x.t)
  obtain ⟨H, T, K, N, b, ⟨c0, c1, c2, c3, c4, c5, c6, c7⟩, g1, g2⟩ := h.c
  have f := h.f
  obtain ⟨l, t, u, v, er⟩ := x
  have t0 := hx.t0
  have t1 := hx.t1
  have hE := hx.er
  obtain ⟨hl, hv⟩ := hk
  dsimp only at t0 t1 hv g1 g2 wd c4 c5 hl hE
  rcases hl with rfl | rfl | rfl
  · exact (rFront_9 Q _ w c4).mono fun _ _ ⟨a, k⟩ => by subst k; exact ⟨a, h, hm, But.refl _ _⟩
  · obtain ⟨rfl, rfl, rfl, rfl, rfl⟩ := g1 (by decide)
    exact (rFront_1 Q M B n s w f hm h0 h1 nn hn1 hQ _ _ _ _ _ _ _ c0 c1 c2 c3 c4 c5 c6 c7).mono fun _ _ ⟨a, d, ff, m, bb⟩ => ⟨a, ⟨⟨_, _, _, _, _, d, fun _ => ⟨rfl, rfl, rfl, rfl, rfl⟩, fun h => absurd (show (7 : Nat) = 0 from h) (by decide)⟩, ff⟩, m, bb⟩
  · obtain ⟨rfl, rfl, rfl, rfl, rfl⟩ := g1 (by decide)
    have he : er = 14 := by rcases hE with ⟨_, h⟩ | ⟨h, _⟩ <;> first | exact h | exact absurd h (by decide)
    have hv0 : v = 0 := hv (by decide)
    subst he hv0
    have ef := taken_eq R t (wordAt n s (cell R t))
    by_cases hf : taken R t (wordAt n s (cell R t)) = true
    · have e : rOp n R s ⟨7, t, u, 0, 14⟩ = ⟨0, t, wordAt n s (cell R t), wordAt n s (cell R t) % 65536, 0⟩ := by show rAhead _ _ _ = _; unfold rAhead; rw [if_pos hf]
      rw [e]
      exact (rFront_2_yes Q M B n s w f hm h0 h1 nn hn1 hQ _ _ _ _ _ _ _ n1 n2 k0 (by omega) t0 t1 wd (ef.trans hf) c0 c1 c2 c3 c4 c5 c6 c7).mono fun _ _ ⟨a, d, ff, m, bb⟩ => ⟨a, ⟨⟨_, _, _, _, _, d, fun h => absurd rfl h, fun _ => rfl⟩, ff⟩, m, bb⟩
    · have hf' : taken R t (wordAt n s (cell R t)) = false := by simpa using hf
      have e : rOp n R s ⟨7, t, u, 0, 14⟩ = ⟨0, t, wordAt n s (cell R t), 0, 15⟩ := by show rAhead _ _ _ = _; unfold rAhead; rw [if_neg hf]
      rw [e]
      exact (rFront_2_no Q M B n s w f hm h0 h1 nn hn1 hQ _ _ _ _ _ _ _ n1 n2 k0 (by omega) t0 t1 wd (ef.trans hf') c0 c1 c2 c3 c4 c5 c6 c7).mono fun _ _ ⟨a, d, ff, m, bb⟩ => ⟨a, ⟨⟨_, _, _, _, _, d, fun h => absurd rfl h, fun _ => rfl⟩, ff⟩, m, bb⟩
theorem rdrop_step (Q M B n : Nat) (R : Rng) (hR : R.Ok n) (x : ROp) (s : St) (w : World) (h : DDropAt w Q R x) (hm : RefIs w M B n s) (h0 : 0 ≤ s.cnt) (h1 : s.cnt ≤ 1000000) (hn1 : 1 ≤ n) (hQ : ¬ (Q = M ∨ Q = B)) (hx : x.Good) (hk : isDrop x) (hw : Wd n s) :
    Calls Tryz.prog 128 #[.pointer (some ⟨Q, 0, none⟩), .pointer (some ⟨M, 0, none⟩)] w (RWent (fun w' => DDropAt w' Q R (rOp n R s x)) Q M B n (rSt n R s x) (rOp n R s x) w) := by
  have n1 := hR.N1
  have n2 := hR.N2
  have k0 := hR.K1
  have k2 := hR.K2
  have nn := hR.n2
  have wd := hw.word (cell R x.t)
  obtain ⟨H, T, K, N, t', b, ⟨c0, c1, c2, c3, c4, c5, c6⟩, g1, g2⟩ := h.c
  have f := h.f
  obtain ⟨l, t, u, v, er⟩ := x
  have t0 := hx.t0
  have t1 := hx.t1
  have hl : l = 0 ∨ l = 8 ∨ l = 9 := hk
  dsimp only at t0 t1 g1 g2 wd c4 c5
  rcases hl with rfl | rfl | rfl
  · exact (rDrop_9 Q _ w c4).mono fun _ _ ⟨a, k⟩ => by subst k; exact ⟨a, h, hm, But.refl _ _⟩
  · obtain ⟨rfl, rfl, rfl, rfl, rfl, rfl⟩ := g1 (by decide)
    exact (rDrop_1 Q M B n s w f hm h0 h1 nn hn1 hQ _ _ _ _ _ _ n1 n2 k0 (by omega) t0 t1 c0 c1 c2 c3 c4 c5 c6).mono fun _ _ ⟨a, d, ff, m, bb⟩ => ⟨a, ⟨⟨_, _, _, _, _, _, d, fun _ => ⟨rfl, rfl, rfl, rfl, rfl, rfl⟩, fun h => absurd (show (9 : Nat) = 0 from h) (by decide)⟩, ff⟩, m, bb⟩
  · obtain ⟨rfl, rfl, rfl, rfl, rfl, rfl⟩ := g1 (by decide)
    exact (rDrop_2 Q M B n s w f hm h0 h1 nn hn1 hQ _ _ _ _ _ _ c0 c1 c2 c3 c4 c5 c6).mono fun _ _ ⟨a, d, ff, m, bb⟩ => ⟨a, ⟨⟨_, _, _, _, _, _, d, fun h => absurd rfl h, fun _ => rfl⟩, ff⟩, m, bb⟩

set_option maxHeartbeats 400000 in
theorem rtold_9 (e : Int) (w : World) : Calls Tryz.prog 222 #[.int .i64 9, .int .i64 e] w fun e' w' => e' = .returned (.int .i64 e) ∧ Kept w w' := by
  go_enter Tryz.func222, Tryz.ntmps222
  go_wp2
  go_ret
  exact ⟨rfl, by (go_light; repeat (first | (with_reducible exact Kept.refl _) | (with_reducible assumption) | (with_reducible refine Kept.alloc ?_ _ _) | (with_reducible refine Kept.drew ?_) | (with_reducible refine Kept.drewN ?_ _) | ((with_reducible refine Kept.setCell ?_ ?_ _); rotate_left; focus (first | (simp; done) | (simp; omega))) | refine Kept.trans ?_ (by assumption)))⟩
set_option maxHeartbeats 400000 in
theorem rtold_busy (l e : Int) (w : World) (h : ¬ l = 9) : Calls Tryz.prog 222 #[.int .i64 l, .int .i64 e] w fun e' w' => e' = .returned (.int .i64 14) ∧ Kept w w' := by
  have h2 : (l == 9) = false := by simpa using h
  go_enter Tryz.func222, Tryz.ntmps222
  go_wp2
  go_ret
  exact ⟨rfl, by (go_light; repeat (first | (with_reducible exact Kept.refl _) | (with_reducible assumption) | (with_reducible refine Kept.alloc ?_ _ _) | (with_reducible refine Kept.drew ?_) | (with_reducible refine Kept.drewN ?_ _) | ((with_reducible refine Kept.setCell ?_ ?_ _); rotate_left; focus (first | (simp; done) | (simp; omega))) | refine Kept.trans ?_ (by assumption)))⟩
set_option maxHeartbeats 1000000 in
theorem rtold_Push (Q : Nat) (R : Rng) (x : ROp) (w : World) (h : DPushAt w Q R x) (hx : x.Good) (hk : isPush x) : Calls Tryz.prog 120 #[.pointer (some ⟨Q, 0, none⟩)] w fun e w' => e = .returned (.int .i64 x.er) ∧ Kept w w' := by
  obtain ⟨H, T, K, N, v, t, u, b, ⟨c0, c1, c2, c3, c4, c5, c6, c7, c8⟩, g1, g2⟩ := h.c
  have hE := hx.er
  have RT : ∀ W, Hid (Calls Tryz.prog 222 #[.int .i64 (pl x.line), .int .i64 b] W fun e' w' => e' = .returned (.int .i64 x.er) ∧ Kept W w') := fun W => Lib.hid (by
    rcases hE with ⟨hl, he⟩ | ⟨hl, he⟩
    · rw [he]
      exact rtold_busy _ _ W (by
        have : x.line ≤ 5 := hk
        unfold pl
        repeat' split
        all_goals omega)
    · rw [show pl x.line = 9 by rw [hl]; rfl, g2 hl]
      exact rtold_9 _ W)
  generalize pl x.line = L at *
  clear h hx hk hE g1 g2
  go_enter Tryz.func120, Tryz.ntmps120
  go_wp2_with fail
  go_region_held3 (fun w' => w'.cell? ⟨Q, 5, none⟩ = some (.int .i64 L) ∧ w'.cell? ⟨Q, 8, none⟩ = some (.int .i64 b)) (first | go_keep | (exact ⟨k1.some c5, k1.some c8⟩)) (first | (go_at_call 222; refine (RT _).out.mono ?_; rintro e w1 ⟨rfl, k1⟩))
  go_wp2
  go_ret
  exact ⟨rfl, by (go_light; repeat (first | (with_reducible exact Kept.refl _) | (with_reducible assumption) | (with_reducible refine Kept.alloc ?_ _ _) | (with_reducible refine Kept.drew ?_) | (with_reducible refine Kept.drewN ?_ _) | ((with_reducible refine Kept.setCell ?_ ?_ _); rotate_left; focus (first | (simp; done) | (simp; omega))) | refine Kept.trans ?_ (by assumption)))⟩
set_option maxHeartbeats 1000000 in
theorem rtold_Front (Q : Nat) (R : Rng) (x : ROp) (w : World) (h : DFrontAt w Q R x) (hx : x.Good) (hk : isFront x) : Calls Tryz.prog 124 #[.pointer (some ⟨Q, 0, none⟩)] w fun e w' => e = .returned (.tuple #[.int .i64 (toldV x), .int .i64 x.er]) ∧ Kept w w' := by
  obtain ⟨H, T, K, N, b, ⟨c0, c1, c2, c3, c4, c5, c6, c7⟩, g1, g2⟩ := h.c
  have hE := hx.er
  have RT : ∀ W, Hid (Calls Tryz.prog 222 #[.int .i64 (fl x.line), .int .i64 b] W fun e' w' => e' = .returned (.int .i64 x.er) ∧ Kept W w') := fun W => Lib.hid (by
    rcases hE with ⟨hl, he⟩ | ⟨hl, he⟩
    · rw [he]
      exact rtold_busy _ _ W (by
        have := hk.1
        unfold fl
        repeat' split
        all_goals omega)
    · rw [show fl x.line = 9 by rw [hl]; rfl, g2 hl]
      exact rtold_9 _ W)
  generalize fl x.line = L at *
  clear h hx hk hE g1 g2
  go_enter Tryz.func124, Tryz.ntmps124
  go_wp2_with fail
  first
    | (refine (RT _).out.mono ?_; rintro e w1 ⟨rfl, k1⟩; have c6 := k1.some c6; go_wp2; go_ret2; exact ⟨rfl, by (go_light; repeat (first | (with_reducible exact Kept.refl _) | (with_reducible assumption) | (with_reducible refine Kept.alloc ?_ _ _) | (with_reducible refine Kept.drew ?_) | (with_reducible refine Kept.drewN ?_ _) | ((with_reducible refine Kept.setCell ?_ ?_ _); rotate_left; focus (first | (simp; done) | (simp; omega))) | refine Kept.trans ?_ (by assumption)))⟩)
    | (go_region_held3 (fun w' => w'.cell? ⟨Q, 6, none⟩ = some (.int .i64 (toldV x)) ∧ w'.cell? ⟨Q, 4, none⟩ = some (.int .i64 L) ∧ w'.cell? ⟨Q, 7, none⟩ = some (.int .i64 b)) (first | go_keep | (exact ⟨k1.some c6, k1.some c4, k1.some c7⟩)) (first | (go_at_call 222; refine (RT _).out.mono ?_; rintro e w1 ⟨rfl, k1⟩))
       go_wp2
       go_ret2
       exact ⟨rfl, by (go_light; repeat (first | (with_reducible exact Kept.refl _) | (with_reducible assumption) | (with_reducible refine Kept.alloc ?_ _ _) | (with_reducible refine Kept.drew ?_) | (with_reducible refine Kept.drewN ?_ _) | ((with_reducible refine Kept.setCell ?_ ?_ _); rotate_left; focus (first | (simp; done) | (simp; omega))) | refine Kept.trans ?_ (by assumption)))⟩)
set_option maxHeartbeats 1000000 in
theorem rtold_Drop (Q : Nat) (R : Rng) (x : ROp) (w : World) (h : DDropAt w Q R x) (hx : x.Good) (hk : isDrop x) : Calls Tryz.prog 130 #[.pointer (some ⟨Q, 0, none⟩)] w fun e w' => e = .returned (.int .i64 x.er) ∧ Kept w w' := by
  obtain ⟨H, T, K, N, t, b, ⟨c0, c1, c2, c3, c4, c5, c6⟩, g1, g2⟩ := h.c
  have hE := hx.er
  have RT : ∀ W, Hid (Calls Tryz.prog 222 #[.int .i64 (dl x.line), .int .i64 b] W fun e' w' => e' = .returned (.int .i64 x.er) ∧ Kept W w') := fun W => Lib.hid (by
    rcases hE with ⟨hl, he⟩ | ⟨hl, he⟩
    · rw [he]
      exact rtold_busy _ _ W (by
        have : x.line = 0 ∨ x.line = 8 ∨ x.line = 9 := hk
        unfold dl
        repeat' split
        all_goals omega)
    · rw [show dl x.line = 9 by rw [hl]; rfl, g2 hl]
      exact rtold_9 _ W)
  generalize dl x.line = L at *
  clear h hx hk hE g1 g2
  go_enter Tryz.func130, Tryz.ntmps130
  go_wp2_with fail
  go_region_held3 (fun w' => w'.cell? ⟨Q, 4, none⟩ = some (.int .i64 L) ∧ w'.cell? ⟨Q, 6, none⟩ = some (.int .i64 b)) (first | go_keep | (exact ⟨k1.some c4, k1.some c6⟩)) (first | (go_at_call 222; refine (RT _).out.mono ?_; rintro e w1 ⟨rfl, k1⟩))
  go_wp2
  go_ret
  exact ⟨rfl, by (go_light; repeat (first | (with_reducible exact Kept.refl _) | (with_reducible assumption) | (with_reducible refine Kept.alloc ?_ _ _) | (with_reducible refine Kept.drew ?_) | (with_reducible refine Kept.drewN ?_ _) | ((with_reducible refine Kept.setCell ?_ ?_ _); rotate_left; focus (first | (simp; done) | (simp; omega))) | refine Kept.trans ?_ (by assumption)))⟩
theorem rat_Front (Q : Nat) (R : Rng) (x : ROp) (w : World) (h : DFrontAt w Q R x) : Calls Tryz.prog 126 #[.pointer (some ⟨Q, 0, none⟩)] w fun e w' => e = .returned (.int .u64 x.t) ∧ w = w' := by
  obtain ⟨H, T, K, N, b, ⟨c0, c1, c2, c3, c4, c5, c6, c7⟩, g1, g2⟩ := h.c
  clear h g1 g2
  go_enter Tryz.func126, Tryz.ntmps126
  go_wp2
  go_ret
  exact ⟨rfl, rfl⟩

set_option maxHeartbeats 1000000 in
theorem rnewPush_yes (R : Rng) (v : Int) (h0 : 0 ≤ v) (h1 : v ≤ 65535) (w : World) (n1 : 1 ≤ R.N) (n2 : R.N ≤ 4096) : Calls Tryz.prog 112 #[.agg #[.int .i64 R.H, .int .i64 R.T, .int .i64 R.K, .int .i64 R.N], .int .i64 v] w (Made (fun w' Q => DPushAt w' Q R (pushNew v)) w) := by
  have SZ : ∀ W, Hid (Calls Tryz.prog 106 #[.int .i64 R.N] W fun e w' => e = .returned (.bool true) ∧ W = w') := fun W => Lib.hid (by have := rsize_any R.N W; rwa [show decide (1 ≤ R.N ∧ R.N ≤ 4096) = true from by simp; omega] at this)
  go_enter Tryz.func112, Tryz.ntmps112
  go_wp2_with fail
  refine (SZ _).out.mono ?_
  rintro e w1 ⟨rfl, rfl⟩
  first
    | go_wp2
    | (go_wp2_with fail; go_region; go_wp2)
  go_ret
  exact ⟨_, rfl, by simp, by simp, ⟨⟨R.H, R.T, R.K, R.N, v, 0, 0, 0, (by simp [DPushC, pl, pushNew]), fun _ => ⟨rfl, rfl, rfl, rfl, rfl, rfl, rfl, rfl⟩, fun h => absurd (show (1 : Nat) = 0 from h) (by decide)⟩, fun i => by simp⟩, by (go_light; repeat (first | (with_reducible exact Kept.refl _) | (with_reducible assumption) | (with_reducible refine Kept.alloc ?_ _ _) | (with_reducible refine Kept.drew ?_) | (with_reducible refine Kept.drewN ?_ _) | ((with_reducible refine Kept.setCell ?_ ?_ _); rotate_left; focus (first | (simp; done) | (simp; omega))) | refine Kept.trans ?_ (by assumption)))⟩
set_option maxHeartbeats 1000000 in
theorem rnewPush_lo (R : Rng) (v : Int) (h0 : v < 0) (w : World) (n1 : 1 ≤ R.N) (n2 : R.N ≤ 4096) : Calls Tryz.prog 112 #[.agg #[.int .i64 R.H, .int .i64 R.T, .int .i64 R.K, .int .i64 R.N], .int .i64 v] w (Made (fun w' Q => DPushAt w' Q R (pushBad v)) w) := by
  have SZ : ∀ W, Hid (Calls Tryz.prog 106 #[.int .i64 R.N] W fun e w' => e = .returned (.bool true) ∧ W = w') := fun W => Lib.hid (by have := rsize_any R.N W; rwa [show decide (1 ≤ R.N ∧ R.N ≤ 4096) = true from by simp; omega] at this)
  go_enter Tryz.func112, Tryz.ntmps112
  go_wp2_with fail
  refine (SZ _).out.mono ?_
  rintro e w1 ⟨rfl, rfl⟩
  first
    | go_wp2
    | (go_wp2_with fail; go_region; go_wp2)
  go_ret
  exact ⟨_, rfl, by simp, by simp, ⟨⟨0, 0, 0, 0, 0, 0, 0, 3, (by simp [DPushC, pl, pushBad]), fun h => absurd rfl h, fun _ => rfl⟩, fun i => by simp⟩, by (go_light; repeat (first | (with_reducible exact Kept.refl _) | (with_reducible assumption) | (with_reducible refine Kept.alloc ?_ _ _) | (with_reducible refine Kept.drew ?_) | (with_reducible refine Kept.drewN ?_ _) | ((with_reducible refine Kept.setCell ?_ ?_ _); rotate_left; focus (first | (simp; done) | (simp; omega))) | refine Kept.trans ?_ (by assumption)))⟩
set_option maxHeartbeats 1000000 in
theorem rnewPush_hi (R : Rng) (v : Int) (h0 : 0 ≤ v) (h1 : 65535 < v) (w : World) (n1 : 1 ≤ R.N) (n2 : R.N ≤ 4096) : Calls Tryz.prog 112 #[.agg #[.int .i64 R.H, .int .i64 R.T, .int .i64 R.K, .int .i64 R.N], .int .i64 v] w (Made (fun w' Q => DPushAt w' Q R (pushBad v)) w) := by
  have SZ : ∀ W, Hid (Calls Tryz.prog 106 #[.int .i64 R.N] W fun e w' => e = .returned (.bool true) ∧ W = w') := fun W => Lib.hid (by have := rsize_any R.N W; rwa [show decide (1 ≤ R.N ∧ R.N ≤ 4096) = true from by simp; omega] at this)
  go_enter Tryz.func112, Tryz.ntmps112
  go_wp2_with fail
  refine (SZ _).out.mono ?_
  rintro e w1 ⟨rfl, rfl⟩
  first
    | go_wp2
    | (go_wp2_with fail; go_region; go_wp2)
  go_ret
  exact ⟨_, rfl, by simp, by simp, ⟨⟨0, 0, 0, 0, 0, 0, 0, 3, (by simp [DPushC, pl, pushBad]), fun h => absurd rfl h, fun _ => rfl⟩, fun i => by simp⟩, by (go_light; repeat (first | (with_reducible exact Kept.refl _) | (with_reducible assumption) | (with_reducible refine Kept.alloc ?_ _ _) | (with_reducible refine Kept.drew ?_) | (with_reducible refine Kept.drewN ?_ _) | ((with_reducible refine Kept.setCell ?_ ?_ _); rotate_left; focus (first | (simp; done) | (simp; omega))) | refine Kept.trans ?_ (by assumption)))⟩
set_option maxHeartbeats 1000000 in
theorem rnewFront (R : Rng)  (w : World) (n1 : 1 ≤ R.N) (n2 : R.N ≤ 4096) : Calls Tryz.prog 114 #[.agg #[.int .i64 R.H, .int .i64 R.T, .int .i64 R.K, .int .i64 R.N]] w (Made (fun w' Q => DFrontAt w' Q R (frontNew)) w) := by
  have SZ : ∀ W, Hid (Calls Tryz.prog 106 #[.int .i64 R.N] W fun e w' => e = .returned (.bool true) ∧ W = w') := fun W => Lib.hid (by have := rsize_any R.N W; rwa [show decide (1 ≤ R.N ∧ R.N ≤ 4096) = true from by simp; omega] at this)
  go_enter Tryz.func114, Tryz.ntmps114
  go_wp2_with fail
  refine (SZ _).out.mono ?_
  rintro e w1 ⟨rfl, rfl⟩
  first
    | go_wp2
    | (go_wp2_with fail; go_region; go_wp2)
  go_ret
  exact ⟨_, rfl, by simp, by simp, ⟨⟨R.H, R.T, R.K, R.N, 0, (by simp [DFrontC, fl, frontNew, toldV]), fun _ => ⟨rfl, rfl, rfl, rfl, rfl⟩, fun h => absurd (show (6 : Nat) = 0 from h) (by decide)⟩, fun i => by simp⟩, by (go_light; repeat (first | (with_reducible exact Kept.refl _) | (with_reducible assumption) | (with_reducible refine Kept.alloc ?_ _ _) | (with_reducible refine Kept.drew ?_) | (with_reducible refine Kept.drewN ?_ _) | ((with_reducible refine Kept.setCell ?_ ?_ _); rotate_left; focus (first | (simp; done) | (simp; omega))) | refine Kept.trans ?_ (by assumption)))⟩
set_option maxHeartbeats 1000000 in
theorem rnewDrop (R : Rng) (h : Int) (w : World) (n1 : 1 ≤ R.N) (n2 : R.N ≤ 4096) : Calls Tryz.prog 116 #[.agg #[.int .i64 R.H, .int .i64 R.T, .int .i64 R.K, .int .i64 R.N], .int .u64 h] w (Made (fun w' Q => DDropAt w' Q R (dropNew h)) w) := by
  have SZ : ∀ W, Hid (Calls Tryz.prog 106 #[.int .i64 R.N] W fun e w' => e = .returned (.bool true) ∧ W = w') := fun W => Lib.hid (by have := rsize_any R.N W; rwa [show decide (1 ≤ R.N ∧ R.N ≤ 4096) = true from by simp; omega] at this)
  go_enter Tryz.func116, Tryz.ntmps116
  go_wp2_with fail
  refine (SZ _).out.mono ?_
  rintro e w1 ⟨rfl, rfl⟩
  first
    | go_wp2
    | (go_wp2_with fail; go_region; go_wp2)
  go_ret
  exact ⟨_, rfl, by simp, by simp, ⟨⟨R.H, R.T, R.K, R.N, h, 0, (by simp [DDropC, dl, dropNew]), fun _ => ⟨rfl, rfl, rfl, rfl, rfl, rfl⟩, fun h => absurd (show (8 : Nat) = 0 from h) (by decide)⟩, fun i => by simp⟩, by (go_light; repeat (first | (with_reducible exact Kept.refl _) | (with_reducible assumption) | (with_reducible refine Kept.alloc ?_ _ _) | (with_reducible refine Kept.drew ?_) | (with_reducible refine Kept.drewN ?_ _) | ((with_reducible refine Kept.setCell ?_ ?_ _); rotate_left; focus (first | (simp; done) | (simp; omega))) | refine Kept.trans ?_ (by assumption)))⟩
theorem rnewPush_any (R : Rng) (v : Int) (n1 : 1 ≤ R.N) (n2 : R.N ≤ 4096) (w : World) : Calls Tryz.prog 112 #[ringV R, .int .i64 v] w (Made (fun w' P => DPushAt w' P R (if 0 ≤ v ∧ v ≤ 65535 then pushNew v else pushBad v)) w) := by
  by_cases h : 0 ≤ v ∧ v ≤ 65535
  · rw [if_pos h]; exact rnewPush_yes R v h.1 h.2 w n1 n2
  · rw [if_neg h]
    by_cases h0 : v < 0
    · exact rnewPush_lo R v h0 w n1 n2
    · exact rnewPush_hi R v (by omega) (by omega) w n1 n2
end Go.Proofs.YtlfdiffbepfgbaaGreat.Ri

namespace Go.Proofs.YtlfdiffbepfgbaaGreat.Ri
set_option maxRecDepth 20000
open Go.RowKit
open Wo (St acc wordAt PMem RefIs)
open Sk (Wd pmem_kept pmem_lt ref_frame ref_kept ref_lt)

inductive PS where
  | idle : PS
  | push (x : ROp) (P Q : Nat) : PS
  | front (x : ROp) (P Q : Nat) : PS
  | drop (x : ROp) (P Q : Nat) : PS
def PS.cells : PS → List Value
  | .idle => [.pointer none, .pointer none, .pointer none, .pointer none, .pointer none, .pointer none]
  | .push _ P Q => [.pointer (some ⟨P, 0, none⟩), .pointer (some ⟨Q, 0, none⟩), .pointer none, .pointer none, .pointer none, .pointer none]
  | .front _ P Q => [.pointer none, .pointer none, .pointer (some ⟨P, 0, none⟩), .pointer (some ⟨Q, 0, none⟩), .pointer none, .pointer none]
  | .drop _ P Q => [.pointer none, .pointer none, .pointer none, .pointer none, .pointer (some ⟨P, 0, none⟩), .pointer (some ⟨Q, 0, none⟩)]
theorem PS.cells_len (p : PS) : p.cells.length = 6 := by cases p <;> rfl
theorem PS.cells_one (p : PS) : ∀ v ∈ p.cells, v.oneCell' = true := by
  cases p <;> (intro v hv; simp [PS.cells] at hv; rcases hv with rfl | rfl | rfl | rfl | rfl | rfl <;> rfl)

def PushIs (own : Nat → Nat) (c : Nat) (R : Rng) (w : World) (x : ROp) (P Q : Nat) : Prop :=
  RAt w P R x ∧ DPushAt w Q R x ∧ x.Good ∧ isPush x ∧ own P = 10 + 2 * c ∧ own Q = 11 + 2 * c
def FrontIs (own : Nat → Nat) (c : Nat) (R : Rng) (w : World) (x : ROp) (P Q : Nat) : Prop :=
  RAt w P R x ∧ DFrontAt w Q R x ∧ x.Good ∧ isFront x ∧ own P = 10 + 2 * c ∧ own Q = 11 + 2 * c
def DropIs (own : Nat → Nat) (c : Nat) (R : Rng) (w : World) (x : ROp) (P Q : Nat) : Prop :=
  RAt w P R x ∧ DDropAt w Q R x ∧ x.Good ∧ isDrop x ∧ own P = 10 + 2 * c ∧ own Q = 11 + 2 * c
def PS.Is (own : Nat → Nat) (c : Nat) (R : Rng) (w : World) : PS → Prop
  | .idle => True
  | .push x P Q => PushIs own c R w x P Q
  | .front x P Q => FrontIs own c R w x P Q
  | .drop x P Q => DropIs own c R w x P Q
theorem PS.Is.frame {own : Nat → Nat} {c : Nat} {R : Rng} {w w' : World} {p : PS} (h : p.Is own c R w) {T : Nat → Prop} (hb : But T w w') (hT : ∀ k, T k → own k ≠ 10 + 2 * c ∧ own k ≠ 11 + 2 * c) : p.Is own c R w' := by
  cases p with
  | idle => trivial
  | push x P Q =>
    obtain ⟨h1, h2, h3, h4, h6, h7⟩ := h
    exact ⟨h1.frame hb (fun t => (hT _ t).1 h6), h2.frame hb (fun t => (hT _ t).2 h7), h3, h4, h6, h7⟩
  | front x P Q =>
    obtain ⟨h1, h2, h3, h4, h6, h7⟩ := h
    exact ⟨h1.frame hb (fun t => (hT _ t).1 h6), h2.frame hb (fun t => (hT _ t).2 h7), h3, h4, h6, h7⟩
  | drop x P Q =>
    obtain ⟨h1, h2, h3, h4, h6, h7⟩ := h
    exact ⟨h1.frame hb (fun t => (hT _ t).1 h6), h2.frame hb (fun t => (hT _ t).2 h7), h3, h4, h6, h7⟩
theorem PS.Is.kept {own : Nat → Nat} {c : Nat} {R : Rng} {w w' : World} {p : PS} (h : p.Is own c R w) (k : Kept w w') : p.Is own c R w' := h.frame (k.but (fun _ => False)) (fun _ h => h.elim)
theorem PS.Is.owns {own own' : Nat → Nat} {c : Nat} {R : Rng} {w : World} {p : PS} (h : p.Is own c R w) (ho : ∀ k, k < w.heap.size → own' k = own k) : p.Is own' c R w := by
  cases p with
  | idle => trivial
  | push x P Q =>
    obtain ⟨h1, h2, h3, h4, h6, h7⟩ := h
    exact ⟨h1, h2, h3, h4, (ho _ h1.lt).trans h6, (ho _ h2.lt).trans h7⟩
  | front x P Q =>
    obtain ⟨h1, h2, h3, h4, h6, h7⟩ := h
    exact ⟨h1, h2, h3, h4, (ho _ h1.lt).trans h6, (ho _ h2.lt).trans h7⟩
  | drop x P Q =>
    obtain ⟨h1, h2, h3, h4, h6, h7⟩ := h
    exact ⟨h1, h2, h3, h4, (ho _ h1.lt).trans h6, (ho _ h2.lt).trans h7⟩

structure Duo (own : Nat → Nat) (w : World) (M B M2 B2 n : Nat) (s : St) : Prop where
  p : PMem w M B n s
  r : RefIs w M2 B2 n s
  wd : Wd n s
  c0 : 0 ≤ s.cnt
  oM : own M = 0
  oB : own B = 0
  oM2 : own M2 = 1
  oB2 : own B2 = 1
  n1 : 1 ≤ n
  n2 : n ≤ 4096
theorem Duo.frame {own : Nat → Nat} {w w' : World} {M B M2 B2 n : Nat} {s : St} (h : Duo own w M B M2 B2 n s) {T : Nat → Prop} (hb : But T w w') (hT : ∀ k, T k → own k ≠ 0 ∧ own k ≠ 1) : Duo own w' M B M2 B2 n s :=
  ⟨Sk.pmem_frame h.p hb (fun t => (hT _ t).1 h.oM) (fun t => (hT _ t).1 h.oB), ref_frame h.r h.n1 hb (fun t => (hT _ t).2 h.oM2) (fun t => (hT _ t).2 h.oB2), h.wd, h.c0, h.oM, h.oB, h.oM2, h.oB2, h.n1, h.n2⟩
theorem Duo.kept {own : Nat → Nat} {w w' : World} {M B M2 B2 n : Nat} {s : St} (h : Duo own w M B M2 B2 n s) (k : Kept w w') : Duo own w' M B M2 B2 n s := h.frame (k.but (fun _ => False)) (fun _ h => h.elim)
theorem Duo.owns {own own' : Nat → Nat} {w : World} {M B M2 B2 n : Nat} {s : St} (h : Duo own w M B M2 B2 n s) (ho : ∀ k, k < w.heap.size → own' k = own k) : Duo own' w M B M2 B2 n s :=
  ⟨h.p, h.r, h.wd, h.c0, (ho _ (pmem_lt h.p).1).trans h.oM, (ho _ (pmem_lt h.p).2).trans h.oB, (ho _ (ref_lt h.r h.n1).1).trans h.oM2, (ho _ (ref_lt h.r h.n1).2).trans h.oB2, h.n1, h.n2⟩
def mine (own : Nat → Nat) (c : Nat) (k : Nat) : Prop := own k = 0 ∨ own k = 1 ∨ own k = 10 + 2 * c ∨ own k = 11 + 2 * c
def ToldPost (own : Nat → Nat) (c : Nat) (R : Rng) (M B M2 B2 n : Nat) (s : St) (p : PS) (b : Bool) (w : World) (e : Ending) (w' : World) : Prop :=
  e = .returned (.bool true) ∧ ∃ (p' : PS) (s' : St), p'.cells = p.cells ∧ (b = false → s' = s) ∧ p'.Is own c R w' ∧ Duo own w' M B M2 B2 n s' ∧ s'.cnt ≤ s.cnt + 1 ∧ But (mine own c) w w'
theorem mine_sub {own : Nat → Nat} {c P B : Nat} (hP : own P = 10 + 2 * c ∨ own P = 11 + 2 * c) (hB : own B = 0 ∨ own B = 1) : ∀ k, k = P ∨ k = B → mine own c k := by
  rintro k (rfl | rfl)
  · rcases hP with h | h
    · exact .inr (.inr (.inl h))
    · exact .inr (.inr (.inr h))
  · rcases hB with h | h
    · exact .inl h
    · exact .inr (.inl h)
theorem told_k_Push (P : Nat) (R : Rng) (x : ROp) (w : World) (ho : RAt w P R x) : Calls Tryz.prog 119 #[.pointer (some ⟨P, 0, none⟩)] w fun e w' => e = .returned (.int .i64 x.er) ∧ Kept w w' := (told_Push P R x w ho).mono fun _ _ ⟨a, k⟩ => ⟨a, k ▸ Kept.refl _⟩
theorem told_k_Drop (P : Nat) (R : Rng) (x : ROp) (w : World) (ho : RAt w P R x) : Calls Tryz.prog 129 #[.pointer (some ⟨P, 0, none⟩)] w fun e w' => e = .returned (.int .i64 x.er) ∧ Kept w w' := (told_Drop P R x w ho).mono fun _ _ ⟨a, k⟩ => ⟨a, k ▸ Kept.refl _⟩
theorem told_k_Front (P : Nat) (R : Rng) (x : ROp) (w : World) (ho : RAt w P R x) : Calls Tryz.prog 123 #[.pointer (some ⟨P, 0, none⟩)] w fun e w' => e = .returned (.tuple #[.int .i64 (toldV x), .int .i64 x.er]) ∧ Kept w w' := (told_Front P R x w ho).mono fun _ _ ⟨a, k⟩ => ⟨a, k ▸ Kept.refl _⟩
theorem at_k_Front (P : Nat) (R : Rng) (x : ROp) (w : World) (ho : RAt w P R x) : Calls Tryz.prog 125 #[.pointer (some ⟨P, 0, none⟩)] w fun e w' => e = .returned (.int .u64 x.t) ∧ Kept w w' := (at_Front P R x w ho).mono fun _ _ ⟨a, k⟩ => ⟨a, k ▸ Kept.refl _⟩
theorem rat_k_Front (Q : Nat) (R : Rng) (x : ROp) (w : World) (h : DFrontAt w Q R x) : Calls Tryz.prog 126 #[.pointer (some ⟨Q, 0, none⟩)] w fun e w' => e = .returned (.int .u64 x.t) ∧ Kept w w' := (rat_Front Q R x w h).mono fun _ _ ⟨a, k⟩ => ⟨a, k ▸ Kept.refl _⟩
end Go.Proofs.YtlfdiffbepfgbaaGreat.Ri
