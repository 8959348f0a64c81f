/- Pinned, the program's: a range over the pins that fills a row. -/
import Derived.Test.YtmfbjlaajcdbnaaG06
import Derived.Test.YtmfbjlaajcdbnaaG07
import Derived.Deep.DeepCutAuto
import Derived.Deep.CutBlock
set_option linter.unusedVariables false
set_option linter.unusedSimpArgs false

namespace Go.Proofs.Ytmfbjlaajcdbnaa.Ep
set_option maxRecDepth 100000
open Go.RowKit Go.Shelf
open Wo (St acc wordAt PMem RefIs)
open Sk (Stk Wd Blk leaves)
attribute [local go_sem] Oper.semAt_some

def pinL (n : Nat) (f : Nat → Int) (S : Stk) (j : Nat) : Int := pinV (hv n f (S.K + j))

theorem past2 {w : World} {b o : Nat} {v : Value} {c : Array Value} {t : TypeId} (h : w.cell? ⟨b, o, none⟩ = some v) : (w.alloc (.cells c t)).cell? ⟨b, o, none⟩ = some v := ((Kept.refl w).alloc c t).some h
theorem past3 {w : World} {b o : Nat} {v : Value} (h : w.cell? ⟨b, o, none⟩ = some v) : w.drew.cell? ⟨b, o, none⟩ = some v := h
theorem past4 {w : World} {b o b' o' : Nat} {v x : Value} (hne : b ≠ b') (h : w.cell? ⟨b, o, none⟩ = some x) : (w.setCell ⟨b', o', none⟩ v).cell? ⟨b, o, none⟩ = some x :=
  (But.some (S := fun k => k = b') (But.here (But.refl _ _) _ _) h hne)
theorem past5 {w : World} {b o : Nat} {v x : Value} (h : w.cell? ⟨b, o, none⟩ = some x) : (w.setCell ⟨b, o, none⟩ v).cell? ⟨b, o, none⟩ = some v := by rw [cell_set, if_pos rfl, h]; rfl
theorem zast2 {w : World} {b j : Nat} {c : Array Value} {t : TypeId} (hb : b < w.heap.size) (h : w.frozen? ⟨b, j, none⟩ = false) : (w.alloc (.cells c t)).frozen? ⟨b, j, none⟩ = false := ((Kept.refl w).alloc c t).soft hb h
theorem frozen_at (w : World) (C : Array Value) (t : TypeId) (n i : Nat) (h : n = w.heap.size) : (w.alloc (.cells C t)).frozen? ⟨n, i, none⟩ = false := by subst h; simp
theorem zast3 {w : World} {b j : Nat} (h : w.frozen? ⟨b, j, none⟩ = false) : w.drew.frozen? ⟨b, j, none⟩ = false := h
theorem zast4 {w : World} {b b' o' j : Nat} {v : Value} (h : w.frozen? ⟨b, j, none⟩ = false) : (w.setCell ⟨b', o', none⟩ v).frozen? ⟨b, j, none⟩ = false := by simp [h]
structure PnB (w : World) (A5 A6 G : Nat) (a : Option Addr) (c n : Nat) (f : Nat → Int) (S : Stk) (X : World) : Prop where
  t0 : X.cell? ⟨w.heap.size, 0, none⟩ = some (.int .i64 S.T)
  t1 : X.cell? ⟨w.heap.size, 1, none⟩ = some (.int .i64 S.K)
  t2 : X.cell? ⟨w.heap.size, 2, none⟩ = some (.int .i64 S.N)
  b5 : X.cell? ⟨A5, 0, none⟩ = some (.slice a n c)
  b6 : X.cell? ⟨A6, 0, none⟩ = some (.slice (some ⟨G, 0, none⟩) S.N.toNat S.N.toNat)
  ws : Wds X (.slice a n c) n f
  g0 : ∀ j, j < S.N.toNat → X.cell? ⟨G, j, none⟩ = some (.int .i64 0)
  gf : ∀ j, X.frozen? ⟨G, j, none⟩ = false
  lG : w.heap.size < G
  n5 : A5 ≠ G
  n6 : A6 ≠ G
  nw : ∀ g, (Value.slice a n c).ownBlock = some g → g ≠ G
  kept : Kept w X
theorem pn_close {w w1 w2 X : World} {A5 A6 G L c n : Nat} {a : Option Addr} {f : Nat → Int} {S : Stk} (K1 : Kept w w1) (kc : Kept w1 w2) (hw : w.heap.size < w1.heap.size) (wd : Wds w2 (.slice a n c) n f) (fv : ∀ g, (Value.slice a n c).ownBlock = some g → L ≤ g)
    (b : But (fun k => k = A5 ∨ k = A6) w2 X) (l5 : w1.heap.size ≤ A5) (l6 : w1.heap.size ≤ A6) (lG : w1.heap.size ≤ G) (h5 : A5 < L ∨ w2.heap.size ≤ A5) (h6 : A6 < L ∨ w2.heap.size ≤ A6) (hG : G < L ∨ w2.heap.size ≤ G) (n5 : A5 ≠ G) (n6 : A6 ≠ G)
    (t0 : X.cell? ⟨w.heap.size, 0, none⟩ = some (.int .i64 S.T)) (t1 : X.cell? ⟨w.heap.size, 1, none⟩ = some (.int .i64 S.K)) (t2 : X.cell? ⟨w.heap.size, 2, none⟩ = some (.int .i64 S.N))
    (b5 : X.cell? ⟨A5, 0, none⟩ = some (.slice a n c)) (b6 : X.cell? ⟨A6, 0, none⟩ = some (.slice (some ⟨G, 0, none⟩) S.N.toNat S.N.toNat))
    (g0 : ∀ j, j < S.N.toNat → X.cell? ⟨G, j, none⟩ = some (.int .i64 0)) (gf : ∀ j, X.frozen? ⟨G, j, none⟩ = false) : PnB w A5 A6 G a c n f S X := by
  have own : ∀ g, (Value.slice a n c).ownBlock = some g → L ≤ g ∧ g < w2.heap.size := fun g hg => ⟨fv g hg, by
    rcases wd with ⟨_, h⟩ | ⟨g', c', h, hlt, _⟩
    · rw [h] at hg; simp [Value.ownBlock] at hg
    · rw [h] at hg
      have : g' = g := by simpa [Value.ownBlock] using hg
      omega⟩
  refine ⟨t0, t1, t2, b5, b6, wd.but b (fun g hg e => ?_), g0, gf, by omega, n5, n6, fun g hg e => ?_, ?_⟩
  · obtain ⟨o1, o2⟩ := own g hg
    rcases e with e | e <;> omega
  · obtain ⟨o1, o2⟩ := own g hg
    omega
  · have k := K1.trans kc
    exact ((k.but (fun k => k = A5 ∨ k = A6)).trans b (fun _ _ h => h)).kept (fun i hi e => by rcases e with e | e <;> omega)
def PnR (w : World) (n : Nat) (f : Nat → Int) (S : Stk) (x5 x6 : Value) (X : World) : Prop := ∃ A5 A6 G a c, x5 = .pointer (some ⟨A5, 0, none⟩) ∧ x6 = .pointer (some ⟨A6, 0, none⟩) ∧ PnB w A5 A6 G a c n f S X
theorem pn_leaf {w w1 w2 X : World} {A5 A6 G L c n : Nat} {a : Option Addr} {f : Nat → Int} {S : Stk} (b6 : X.cell? ⟨A6, 0, none⟩ = some (.slice (some ⟨G, 0, none⟩) S.N.toNat S.N.toNat)) (K1 : Kept w w1) (kc : Kept w1 w2) (hw : w.heap.size < w1.heap.size) (wd : Wds w2 (.slice a n c) n f) (fv : ∀ g, (Value.slice a n c).ownBlock = some g → L ≤ g)
    (b : But (fun k => k = A5 ∨ k = A6) w2 X) (l5 : w1.heap.size ≤ A5) (l6 : w1.heap.size ≤ A6) (lG : w1.heap.size ≤ G) (h5 : A5 < L ∨ w2.heap.size ≤ A5) (h6 : A6 < L ∨ w2.heap.size ≤ A6) (hG : G < L ∨ w2.heap.size ≤ G) (n5 : A5 ≠ G) (n6 : A6 ≠ G)
    (t0 : X.cell? ⟨w.heap.size, 0, none⟩ = some (.int .i64 S.T)) (t1 : X.cell? ⟨w.heap.size, 1, none⟩ = some (.int .i64 S.K)) (t2 : X.cell? ⟨w.heap.size, 2, none⟩ = some (.int .i64 S.N))
    (b5 : X.cell? ⟨A5, 0, none⟩ = some (.slice a n c))
    (g0 : ∀ j, j < S.N.toNat → X.cell? ⟨G, j, none⟩ = some (.int .i64 0)) (gf : ∀ j, X.frozen? ⟨G, j, none⟩ = false) : PnR w n f S (.pointer (some ⟨A5, 0, none⟩)) (.pointer (some ⟨A6, 0, none⟩)) X :=
  ⟨A5, A6, G, a, c, rfl, rfl, pn_close K1 kc hw wd fv b l5 l6 lG h5 h6 hG n5 n6 t0 t1 t2 b5 b6 g0 gf⟩
structure PnL (w w1 w2 : World) (A5 A6 G L c n : Nat) (a : Option Addr) (f : Nat → Int) (S : Stk) (X : World) : Prop where
  b : But (fun k => k = A5 ∨ k = A6) w2 X
  l5 : w1.heap.size ≤ A5
  l6 : w1.heap.size ≤ A6
  lG : w1.heap.size ≤ G
  h5 : A5 < L ∨ w2.heap.size ≤ A5
  h6 : A6 < L ∨ w2.heap.size ≤ A6
  hG : G < L ∨ w2.heap.size ≤ G
  n5 : A5 ≠ G
  n6 : A6 ≠ G
  t0 : X.cell? ⟨w.heap.size, 0, none⟩ = some (.int .i64 S.T)
  t1 : X.cell? ⟨w.heap.size, 1, none⟩ = some (.int .i64 S.K)
  t2 : X.cell? ⟨w.heap.size, 2, none⟩ = some (.int .i64 S.N)
  b5 : X.cell? ⟨A5, 0, none⟩ = some (.slice a n c)
  g0 : ∀ j, j < S.N.toNat → X.cell? ⟨G, j, none⟩ = some (.int .i64 0)
  gf : ∀ j, X.frozen? ⟨G, j, none⟩ = false
theorem pn_end {w w1 w2 X : World} {A5 A6 L c n N : Nat} {a : Option Addr} {f : Nat → Int} {S : Stk} (hN : S.N.toNat = N) (K1 : Kept w w1) (kc : Kept w1 w2) (hw : w.heap.size < w1.heap.size) (wd : Wds w2 (.slice a n c) n f) (fv : ∀ g, (Value.slice a n c).ownBlock = some g → L ≤ g)
    (h : ∃ G, X.cell? ⟨A6, 0, none⟩ = some (.slice (some ⟨G, 0, none⟩) N N) ∧ PnL w w1 w2 A5 A6 G L c n a f S X) : PnR w n f S (.pointer (some ⟨A5, 0, none⟩)) (.pointer (some ⟨A6, 0, none⟩)) X := by
  subst hN
  obtain ⟨G, b6, q⟩ := h
  exact pn_leaf b6 K1 kc hw wd fv q.b q.l5 q.l6 q.lG q.h5 q.h6 q.hG q.n5 q.n6 q.t0 q.t1 q.t2 q.b5 q.g0 q.gf
structure PnI (w w3 : World) (A5 A6 G pa pb : Nat) (a : Option Addr) (c n : Nat) (f : Nat → Int) (S : Stk) (pre : List Int) (X : World) : Prop where
  le : (pre.length : Int) ≤ S.N
  bx : PBoxes X pa pb S 0
  b5 : X.cell? ⟨A5, 0, none⟩ = some (.slice a n c)
  b6 : X.cell? ⟨A6, 0, none⟩ = some (.slice (some ⟨G, 0, none⟩) S.N.toNat S.N.toNat)
  ws : Wds X (.slice a n c) n f
  g0 : ∀ j, j < S.N.toNat → X.cell? ⟨G, j, none⟩ = some (.int .i64 (if j < pre.length then pinL n f S j else 0))
  gf : ∀ j, X.frozen? ⟨G, j, none⟩ = false
  but : But (fun k => k = G) w3 X
structure PnF (w w3 : World) (A5 A6 G pa pb : Nat) (a : Option Addr) (c n : Nat) : Prop where
  k3 : Kept w w3
  lG : w.heap.size < G
  h5 : A5 < w3.heap.size
  h6 : A6 < w3.heap.size
  hG : G < w3.heap.size
  ha : pa < w3.heap.size
  hb : pb < w3.heap.size
  n5 : A5 ≠ G
  n6 : A6 ≠ G
  na : pa ≠ G
  nb : pb ≠ G
  nw : ∀ g, (Value.slice a n c).ownBlock = some g → g ≠ G ∧ g < w3.heap.size
theorem PnI.keep {w w3 : World} {A5 A6 G pa pb : Nat} {a : Option Addr} {c n : Nat} {f : Nat → Int} {S : Stk} {pre : List Int} {X X' : World} (h : PnI w w3 A5 A6 G pa pb a c n f S pre X) (F : PnF w w3 A5 A6 G pa pb a c n) (k : Kept X X') : PnI w w3 A5 A6 G pa pb a c n f S pre X' :=
  ⟨h.le, h.bx.kept k, k.some h.b5, k.some h.b6, h.ws.kept k, fun j hj => k.some (h.g0 j hj), fun j => k.soft (Nat.lt_of_lt_of_le F.hG h.but.size) (h.gf j), h.but.then k⟩
theorem PnI.turn {w w3 : World} {A5 A6 G pa pb : Nat} {a : Option Addr} {c n : Nat} {f : Nat → Int} {S : Stk} {pre : List Int} {X : World} {l : Nat} {y y' : Loop} (h : PnI w w3 A5 A6 G pa pb a c n f S pre X) (F : PnF w w3 A5 A6 G pa pb a c n) (hl : w3.heap.size ≤ l) (hy : X.heap[l]? = some (.loop y)) : PnI w w3 A5 A6 G pa pb a c n f S pre (X.putObj l (.loop y')) := by
  have k : But (fun k => k = l) X (X.putObj l (.loop y')) := Sk.but_turned (But.refl _ _) hy rfl rfl (.inl rfl)
  obtain ⟨f1, f2, f3, f4, f5, f6, f7, f8, f9, f10, f11, f12⟩ := F
  refine ⟨h.le, ⟨k.some h.bx.a0 (by omega), k.some h.bx.a1 (by omega), k.some h.bx.a2 (by omega), k.some h.bx.b0 (by omega)⟩, k.some h.b5 (by omega), k.some h.b6 (by omega), h.ws.but k (fun g hg e => by have := (f12 g hg).2; omega), fun j hj => k.some (h.g0 j hj) (by omega), fun j => k.soft (Nat.lt_of_lt_of_le f5 h.but.size) (h.gf j), Sk.but_turned h.but hy rfl rfl (.inr (by omega))⟩
theorem pn_round {w w3 : World} {A5 A6 G pa pb : Nat} {a : Option Addr} {c n q : Nat} {f : Nat → Int} {S : Stk} {pre : List Int} {X v : World} (h : PnI w w3 A5 A6 G pa pb a c n f S pre X) (F : PnF w w3 A5 A6 G pa pb a c n) (k : Kept X v) (hq : pre.length = q) (h3 : (q : Int) < S.N) (LE : ((pre ++ [(q : Int)]).length : Int) ≤ S.N) :
    PnI w w3 A5 A6 G pa pb a c n f S (pre ++ [(q : Int)]) (v.setCell ⟨G, q, none⟩ (.int .i64 (pinV (hv n f (S.K + (q : Int)))))) ∧ Blk (fun k => k = G ∨ w3.heap.size + 1 + 1 ≤ k) X (v.setCell ⟨G, q, none⟩ (.int .i64 (pinV (hv n f (S.K + (q : Int)))))) := by
  have b : But (fun k => k = G) v (v.setCell ⟨G, q, none⟩ (.int .i64 (pinV (hv n f (S.K + (q : Int)))))) := But.here (But.refl _ _) _ _
  have b2 : But (fun k => k = G) X (v.setCell ⟨G, q, none⟩ (.int .i64 (pinV (hv n f (S.K + (q : Int)))))) := (k.but (fun k => k = G)).trans b (fun _ _ h => h)
  obtain ⟨f1, f2, f3, f4, f5, f6, f7, f8, f9, f10, f11, f12⟩ := F
  refine ⟨⟨LE, ⟨b2.some h.bx.a0 f10, b2.some h.bx.a1 f10, b2.some h.bx.a2 f10, b2.some h.bx.b0 f11⟩, b2.some h.b5 f8, b2.some h.b6 f9, h.ws.but b2 (fun g hg => (f12 g hg).1), fun j hj => ?_, fun j => zast4 (k.soft (Nat.lt_of_lt_of_le f5 h.but.size) (h.gf j)), h.but.trans b2 (fun _ _ h => h)⟩, (Sk.Blk.of b2).mono (fun k _ h => .inl h)⟩
  have hl : (pre ++ [(q : Int)]).length = q + 1 := by simp [hq]
  rw [hl, cell_set]
  have h0 := k.some (h.g0 j hj)
  rw [hq] at h0
  by_cases e : q = j
  · subst e
    rw [if_pos rfl, h0, if_pos (show q < q + 1 from by omega)]
    rfl
  · rw [if_neg e, h0]
    by_cases h5 : j < q
    · rw [if_pos h5, if_pos (by omega)]
    · rw [if_neg h5, if_neg (by omega)]
set_option maxHeartbeats 40000000 in
theorem pinned_any (S : Stk) (mv : Value) (n : Nat) (f : Nat → Int) (hf : Wf n f) (hn : n ≤ 100000) (w : World) (hg : GivesWords mv n f w) (N1 : 1 ≤ S.N) (N2 : S.N ≤ 64) (K0 : 0 ≤ S.K) (K1 : S.K ≤ 10000) :
    Calls Try.prog 15 #[.agg #[.int .i64 S.T, .int .i64 S.K, .int .i64 S.N], mv] w fun e w' => ∃ G, e = .returned (.slice (some ⟨G, 0, none⟩) S.N.toNat S.N.toNat) ∧ w.heap.size ≤ G ∧ G < w'.heap.size ∧ (∀ j, j < S.N.toNat → w'.cell? ⟨G, j, none⟩ = some (.int .i64 (pinL n f S j))) ∧ (∀ j, w'.frozen? ⟨G, j, none⟩ = false) ∧ Kept w w' := by
  have HG := Lib.hid hg
  have HF := Lib.hid hf
  clear hg hf
  obtain ⟨N, hNN⟩ : ∃ N : Nat, S.N = N := ⟨S.N.toNat, by omega⟩
  obtain ⟨Z, hZ, hmk⟩ := make_ints N (by omega)
  rw [← hNN] at hmk
  have HN := Lib.hid hNN
  have HZ := Lib.hid hZ
  clear hNN hZ
  refine (callsIn_wide (n := 6)).1 ?_
  refine callsIn_of_wp_marks Try.func15 rfl trivial ?_ rfl
  simp only [Try.ntmps15, List.size_toArray, List.length_cons, List.length_nil, Nat.reduceAdd, Nat.reduceSub, Array.replicate_succ, Array.replicate_zero, List.push_toArray, List.append_toArray, List.nil_append, List.cons_append]
  rw [wpIn_wide]
  go_wp2_with fail
  obtain ⟨W0, hW0⟩ : ∃ W0, W0 = w.alloc (.cells #[.int .i64 S.T, .int .i64 S.K, .int .i64 S.N] 23) := ⟨_, rfl⟩
  have a0 : W0.cell? ⟨w.heap.size, 0, none⟩ = some (.int .i64 S.T) := by rw [hW0]; exact cell_new _ _ _ _ 0 rfl
  have a1 : W0.cell? ⟨w.heap.size, 1, none⟩ = some (.int .i64 S.K) := by rw [hW0]; exact cell_new _ _ _ _ 1 rfl
  have a2 : W0.cell? ⟨w.heap.size, 2, none⟩ = some (.int .i64 S.N) := by rw [hW0]; exact cell_new _ _ _ _ 2 rfl
  have k0 : Kept w W0 := by rw [hW0]; exact (Kept.refl w).alloc _ _
  rw [← hW0]
  clear hW0
  refine (sized_yes S _ N1 N2).mono ?_
  rintro e w1 ⟨rfl, k1⟩
  have a0 := k1.some a0
  have a1 := k1.some a1
  have a2 := k1.some a2
  have K1' := Lib.hid (k0.trans k1)
  clear k0 k1
  go_wp2_with fail
  have hwl := lt_of_cell a0
  go_upto_region 3 with fail
  go_cut [5, 6] from 12 to 16 (PnR w n f S)
  case first =>
    rename_i hJ hM
    have nA0 : w.heap.size ≠ w1.heap.size := by omega
    have nA1 : w.heap.size ≠ w1.heap.size + 1 := by omega
    have nA2 : w.heap.size ≠ w1.heap.size + 1 + 1 := by omega
    go_region_held3 (fun w' => w'.cell? ⟨w.heap.size, 0, none⟩ = some (.int .i64 S.T) ∧ w'.cell? ⟨w.heap.size, 1, none⟩ = some (.int .i64 S.K) ∧ w'.cell? ⟨w.heap.size, 2, none⟩ = some (.int .i64 S.N)) (first | (refine ⟨?_, ?_, ?_⟩ <;> (repeat (first | assumption | (with_reducible refine past4 ?_ ?_; focus (first | assumption | omega | (simp; omega))) | (with_reducible refine past2 ?_) | (with_reducible refine k2.some ?_) | (with_reducible refine past3 ?_)))) | go_keep) (first
      | (go_at_call 21; refine (HG.out _ (K1'.out.trans (((((Kept.refl w1).alloc _ _).alloc _ _).alloc _ _).drew))).mono ?_; rintro e w2 ⟨v, rfl, wd, fv, k2⟩; obtain ⟨a, c, rfl⟩ := wd.form; have kc := (((((Kept.refl w1).alloc _ _).alloc _ _).alloc _ _).drew).trans k2; have hlt2 : w1.heap.size + 3 ≤ w2.heap.size := (by have := k2.size; simpa using this); have nB0 : w.heap.size ≠ w2.heap.size := (by omega); have nB1 : w.heap.size ≠ w2.heap.size + 1 := (by omega); have nB2 : w.heap.size ≠ w2.heap.size + 1 + 1 := (by omega); have hL : ∀ g, (Value.slice a n c).ownBlock = some g → w1.heap.size + 3 ≤ g := (fun g hg => by have := fv g hg; simpa using this); (first | (have e0 : w2.cell? ⟨(w1.heap.size), 0, none⟩ = some _ := k2.some (past3 (past2 (past2 (cell_new _ _ _ _ 0 (by simp)))))) | (have e0 : ∀ j, j < N → w2.cell? ⟨(w1.heap.size), j, none⟩ = some (.int .i64 0) := fun j hj => k2.some (past3 (past2 (past2 ((cell_new _ _ _ _ j (by simp)).trans (HZ.out j hj))))))); have z0 : (∀ j, w2.frozen? ⟨(w1.heap.size), j, none⟩ = false) := (fun j => k2.soft (by first | (simp; done) | (simp; omega)) (zast3 (zast2 (by first | (simp; done) | (simp; omega)) (zast2 (by first | (simp; done) | (simp; omega)) (frozen_at _ _ _ _ _ (by simp)))))); have l0 : (w1.heap.size) < w2.heap.size := (by omega); have m0 : w2.heap.size ≠ (w1.heap.size) := (by omega); (first | (have e1 : w2.cell? ⟨(w1.heap.size + 1), 0, none⟩ = some _ := k2.some (past3 (past2 (cell_new _ _ _ _ 0 (by simp))))) | (have e1 : ∀ j, j < N → w2.cell? ⟨(w1.heap.size + 1), j, none⟩ = some (.int .i64 0) := fun j hj => k2.some (past3 (past2 ((cell_new _ _ _ _ j (by simp)).trans (HZ.out j hj)))))); have z1 : (∀ j, w2.frozen? ⟨(w1.heap.size + 1), j, none⟩ = false) := (fun j => k2.soft (by first | (simp; done) | (simp; omega)) (zast3 (zast2 (by first | (simp; done) | (simp; omega)) (frozen_at _ _ _ _ _ (by simp))))); have l1 : (w1.heap.size + 1) < w2.heap.size := (by omega); have m1 : w2.heap.size ≠ (w1.heap.size + 1) := (by omega); (first | (have e2 : w2.cell? ⟨(w1.heap.size + 1 + 1), 0, none⟩ = some _ := k2.some (past3 (cell_new _ _ _ _ 0 (by simp)))) | (have e2 : ∀ j, j < N → w2.cell? ⟨(w1.heap.size + 1 + 1), j, none⟩ = some (.int .i64 0) := fun j hj => k2.some (past3 ((cell_new _ _ _ _ j (by simp)).trans (HZ.out j hj))))); have z2 : (∀ j, w2.frozen? ⟨(w1.heap.size + 1 + 1), j, none⟩ = false) := (fun j => k2.soft (by first | (simp; done) | (simp; omega)) (zast3 (frozen_at _ _ _ _ _ (by simp)))); have l2 : (w1.heap.size + 1 + 1) < w2.heap.size := (by omega); have m2 : w2.heap.size ≠ (w1.heap.size + 1 + 1) := (by omega))
      | (go_at_call 21; refine (HG.out _ (K1'.out.trans ((((Kept.refl w1).alloc _ _).alloc _ _).drew))).mono ?_; rintro e w2 ⟨v, rfl, wd, fv, k2⟩; obtain ⟨a, c, rfl⟩ := wd.form; have kc := ((((Kept.refl w1).alloc _ _).alloc _ _).drew).trans k2; have hlt2 : w1.heap.size + 2 ≤ w2.heap.size := (by have := k2.size; simpa using this); have nB0 : w.heap.size ≠ w2.heap.size := (by omega); have nB1 : w.heap.size ≠ w2.heap.size + 1 := (by omega); have nB2 : w.heap.size ≠ w2.heap.size + 1 + 1 := (by omega); have hL : ∀ g, (Value.slice a n c).ownBlock = some g → w1.heap.size + 2 ≤ g := (fun g hg => by have := fv g hg; simpa using this); (first | (have e0 : w2.cell? ⟨(w1.heap.size), 0, none⟩ = some _ := k2.some (past3 (past2 (cell_new _ _ _ _ 0 (by simp))))) | (have e0 : ∀ j, j < N → w2.cell? ⟨(w1.heap.size), j, none⟩ = some (.int .i64 0) := fun j hj => k2.some (past3 (past2 ((cell_new _ _ _ _ j (by simp)).trans (HZ.out j hj)))))); have z0 : (∀ j, w2.frozen? ⟨(w1.heap.size), j, none⟩ = false) := (fun j => k2.soft (by first | (simp; done) | (simp; omega)) (zast3 (zast2 (by first | (simp; done) | (simp; omega)) (frozen_at _ _ _ _ _ (by simp))))); have l0 : (w1.heap.size) < w2.heap.size := (by omega); have m0 : w2.heap.size ≠ (w1.heap.size) := (by omega); (first | (have e1 : w2.cell? ⟨(w1.heap.size + 1), 0, none⟩ = some _ := k2.some (past3 (cell_new _ _ _ _ 0 (by simp)))) | (have e1 : ∀ j, j < N → w2.cell? ⟨(w1.heap.size + 1), j, none⟩ = some (.int .i64 0) := fun j hj => k2.some (past3 ((cell_new _ _ _ _ j (by simp)).trans (HZ.out j hj))))); have z1 : (∀ j, w2.frozen? ⟨(w1.heap.size + 1), j, none⟩ = false) := (fun j => k2.soft (by first | (simp; done) | (simp; omega)) (zast3 (frozen_at _ _ _ _ _ (by simp)))); have l1 : (w1.heap.size + 1) < w2.heap.size := (by omega); have m1 : w2.heap.size ≠ (w1.heap.size + 1) := (by omega))
      | (go_at_call 21; refine (HG.out _ (K1'.out.trans (((Kept.refl w1).alloc _ _).drew))).mono ?_; rintro e w2 ⟨v, rfl, wd, fv, k2⟩; obtain ⟨a, c, rfl⟩ := wd.form; have kc := (((Kept.refl w1).alloc _ _).drew).trans k2; have hlt2 : w1.heap.size + 1 ≤ w2.heap.size := (by have := k2.size; simpa using this); have nB0 : w.heap.size ≠ w2.heap.size := (by omega); have nB1 : w.heap.size ≠ w2.heap.size + 1 := (by omega); have nB2 : w.heap.size ≠ w2.heap.size + 1 + 1 := (by omega); have hL : ∀ g, (Value.slice a n c).ownBlock = some g → w1.heap.size + 1 ≤ g := (fun g hg => by have := fv g hg; simpa using this); (first | (have e0 : w2.cell? ⟨(w1.heap.size), 0, none⟩ = some _ := k2.some (past3 (cell_new _ _ _ _ 0 (by simp)))) | (have e0 : ∀ j, j < N → w2.cell? ⟨(w1.heap.size), j, none⟩ = some (.int .i64 0) := fun j hj => k2.some (past3 ((cell_new _ _ _ _ j (by simp)).trans (HZ.out j hj))))); have z0 : (∀ j, w2.frozen? ⟨(w1.heap.size), j, none⟩ = false) := (fun j => k2.soft (by first | (simp; done) | (simp; omega)) (zast3 (frozen_at _ _ _ _ _ (by simp)))); have l0 : (w1.heap.size) < w2.heap.size := (by omega); have m0 : w2.heap.size ≠ (w1.heap.size) := (by omega))
      | (go_at_call 21; refine (HG.out _ (K1'.out.trans ((Kept.refl w1).drew))).mono ?_; rintro e w2 ⟨v, rfl, wd, fv, k2⟩; obtain ⟨a, c, rfl⟩ := wd.form; have kc := ((Kept.refl w1).drew).trans k2; have hlt2 : w1.heap.size + 0 ≤ w2.heap.size := (by have := k2.size; simpa using this); have nB0 : w.heap.size ≠ w2.heap.size := (by omega); have nB1 : w.heap.size ≠ w2.heap.size + 1 := (by omega); have nB2 : w.heap.size ≠ w2.heap.size + 1 + 1 := (by omega); have hL : ∀ g, (Value.slice a n c).ownBlock = some g → w1.heap.size + 0 ≤ g := (fun g hg => by have := fv g hg; simpa using this)))
    all_goals
      first | (refine hM _ _ (Met.intro ?_)) | (refine Met.intro ?_)
      refine hJ _ _ ⟨_, _, _, _, _, _, _, ?_, rfl⟩
      have hNt : S.N.toNat = N := by have := HN.out; omega
      refine pn_end hNt K1'.out kc hwl wd hL ?_
      apply Exists.intro
      apply And.intro
      focus ((repeat (first | assumption | (with_reducible refine past5 (x := .slice none 0 0) ?_) | (refine cell_new _ _ _ _ 0 ?_; focus (simp; done)) | (with_reducible refine past4 ?_ ?_; focus (first | assumption | omega | (simp; omega))) | (with_reducible refine past2 ?_) | (with_reducible refine k2.some ?_) | (with_reducible refine past3 ?_))); done)
      refine ⟨?_, ?_, ?_, ?_, ?_, ?_, ?_, ?_, ?_, ?_, ?_, ?_, ?_, ?_, ?_⟩
      · repeat (first | exact But.refl _ _ | (with_reducible refine But.setCell ?_ (by first | exact .inl (.inl rfl) | exact .inl (.inr rfl)) _) | (with_reducible refine But.alloc ?_ _ _) | (with_reducible refine But.drew ?_))
      · omega
      · omega
      · omega
      · omega
      · omega
      · omega
      · omega
      · omega
      · (repeat (first | assumption | (with_reducible refine past4 ?_ ?_; focus (first | assumption | omega | (simp; omega))) | (with_reducible refine past2 ?_) | (with_reducible refine k2.some ?_) | (with_reducible refine past3 ?_)))
      · (repeat (first | assumption | (with_reducible refine past4 ?_ ?_; focus (first | assumption | omega | (simp; omega))) | (with_reducible refine past2 ?_) | (with_reducible refine k2.some ?_) | (with_reducible refine past3 ?_)))
      · (repeat (first | assumption | (with_reducible refine past4 ?_ ?_; focus (first | assumption | omega | (simp; omega))) | (with_reducible refine past2 ?_) | (with_reducible refine k2.some ?_) | (with_reducible refine past3 ?_)))
      · (repeat (first | assumption | (with_reducible refine past5 (x := .slice none 0 0) ?_) | (refine cell_new _ _ _ _ 0 ?_; focus (simp; done)) | (with_reducible refine past4 ?_ ?_; focus (first | assumption | omega | (simp; omega))) | (with_reducible refine past2 ?_) | (with_reducible refine k2.some ?_) | (with_reducible refine past3 ?_)))
      · intro j hj
        rw [hNt] at hj
        repeat (first | (exact e0 j hj) | (exact e1 j hj) | (exact e2 j hj) | (with_reducible refine past4 ?_ ?_; focus (first | assumption | omega | (simp; omega))) | (refine (cell_new _ _ _ _ j ?_).trans (HZ.out j hj); focus (simp; done)) | (with_reducible refine past2 ?_) | (with_reducible refine past3 ?_))
      · intro j
        repeat (first | (exact z0 j) | (exact z1 j) | (exact z2 j) | (with_reducible refine zast4 ?_) | (with_reducible refine frozen_at _ _ _ _ _ ?_; focus (simp; done)) | (with_reducible refine zast2 ?_ ?_; focus (first | omega | (simp; done) | (simp; omega))) | (with_reducible refine zast3 ?_))
  case rest =>
    obtain ⟨A5, A6, G, a, c, rfl, rfl, hb⟩ := hcut
    have HB := Lib.hid hb
    obtain ⟨t0, t1, t2, b5, b6, _, g00, _, _, _, _, _, _⟩ := hb
    have hA5 := lt_of_cell b5
    have hA6 := lt_of_cell b6
    have hG0 := lt_of_cell (g00 0 (by omega))
    clear a0 a1 a2 g00
    go_wp2_with fail
    refine (pins_any S 0 _).mono ?_
    rintro e w3 ⟨pa, pb, rfl, la, lb, ha, hbq, bs, k3⟩
    have SI : Hid (PnI w w3 A5 A6 G pa pb a c n f S [] w3) := Lib.hid ⟨by simp; omega, bs, k3.some b5, k3.some b6, HB.out.ws.kept k3, fun j hj => by simpa using k3.some (HB.out.g0 j hj), fun j => k3.soft hG0 (HB.out.gf j), But.refl _ _⟩
    have SF : Hid (PnF w w3 A5 A6 G pa pb a c n) := Lib.hid ⟨HB.out.kept.trans k3, HB.out.lG, by have := k3.size; omega, by have := k3.size; omega, by have := k3.size; omega, ha, hbq, HB.out.n5, HB.out.n6, by omega, by omega, fun g hg => ⟨HB.out.nw g hg, by
      rcases HB.out.ws with ⟨_, h⟩ | ⟨g', c', h, hlt, _⟩
      · rw [h] at hg; simp [Value.ownBlock] at hg
      · rw [h] at hg
        have : g' = g := by simpa [Value.ownBlock] using hg
        have := k3.size
        omega⟩⟩
    have hG3 := SF.out.hG
    clear t0 t1 t2 b5 b6 hA5 hA6 la lb ha hbq bs HB hG0 k3
    go_wp2_with fail
    rw [← wpIn_wide (n := 6)]
    refine range_manyN (Bs := fun k => k = G ∨ w3.heap.size + 1 + 1 ≤ k) (by decide) (gf := 96) (lb := #[.pointer (some ⟨pb, 0, none⟩), .pointer (some ⟨pa, 0, none⟩)]) rfl (enters_of Try.func96 (by kernel_rfl) rfl) (fun x : Int => #[Value.int .i64 x, Value.int .i64 (S.K + x)]) (fun _ => rfl)
      (fun k h => by rcases h with h | h <;> omega)
      (fun pre X => PnI w w3 A5 A6 G pa pb a c n f S pre X)
      (fun cd pre X => False)
      (fun pre x => pre = cs 0 pre.length ∧ x = 0 + (pre.length : Int) ∧ x < S.N) (fun xs => ∃ k : Nat, xs = cs 0 k ∧ S.N ≤ 0 + (k : Int))
      ?_ ?_ ?_ ?_ ?_ ?_
      (fun x => { tmps := #[.agg #[.int .i64 S.T, .int .i64 S.K, .int .i64 S.N], mv, .pointer (some ⟨w.heap.size, 0, none⟩), undef, .slice none 0 0, .pointer (some ⟨A5, 0, none⟩), .pointer (some ⟨A6, 0, none⟩), .int .i64 x, .int .i64 (S.K + x), .agg #[.int .i64 S.T, .int .i64 S.K, .int .i64 S.N], .bool true, .bool false, u12, u13, u14, u15, u16, .agg #[.int .i64 S.T, .int .i64 S.K, .int .i64 S.N],
        .func (.func 96) #[] #[.pointer (some ⟨pb, 0, none⟩), .pointer (some ⟨pa, 0, none⟩)], .int .i64 x, .int .i64 (S.K + x), undef, undef, undef, undef, undef, undef, undef, undef], defers := [] })
      ?_ ?_ ?_ ?_
    · exact fun X k => SI.out.keep SF.out k
    · exact fun pre X X' h k => h.keep SF.out k
    · exact fun pre X l y y' hl hy h => h.turn SF.out hl hy
    · exact fun cd pre X X' h k => h
    · exact fun cd pre X l y y' hl hy h => h
    · intro l X0 J Jx k0 z0 hl hJk hJb hY h0
      exact pins_in 5 (by decide) l pa pb S 0 (by omega) (by omega) (by omega) (by omega) (by omega) J Jx hJk (fun pre X h => (hJb pre X h).1.bx) hY X0 h0
    · intro l x X K hK
      gi_wp2
      exact hK
    · intro l pre x X hI hso hsz hbut
      obtain ⟨hso1, hso2, hso3⟩ := hso
      have hx : x = (pre.length : Int) := by rw [hso2, Int.zero_add]
      obtain ⟨q, hq⟩ : ∃ q : Nat, pre.length = q := ⟨_, rfl⟩
      rw [hq] at hx
      have HI := Lib.hid hI
      have c5 := hI.b5
      have c6 := hI.b6
      have cG := hI.g0 q (by omega)
      have fG := hI.gf
      have LE := Lib.hid (show ((pre ++ [x]).length : Int) ≤ S.N by simp; omega)
      subst hx
      clear hI hso1 hso2
      obtain ⟨v0, v1⟩ := hv_in HF.out (S.K + (q : Int))
      have HE := Lib.hid (fun (W : World) (k : Kept X W) => held_any (HI.out.ws.kept k) HF.out hn (S.K + (q : Int)))
      have PA := Lib.hid (fun (W : World) => pinnedAt_any (hv n f (S.K + (q : Int))) v0 v1 W)
      have GL : G < X.heap.size := lt_of_cell cG
      have hqm : (q : Int) < max S.N 0 := by omega
      gi_wp2
      have hfm : Try.prog.follows .mixedOrders = true := by kernel_rfl
      gi_region_with_o (first
        | (refine ⟨trivial, ?_⟩; gi_at_call 66; refine (CallsIn.inRound l (callsIn_wide.2 (HE.out _ (by repeat (first | (with_reducible exact Kept.refl _) | (with_reducible refine Kept.drew ?_) | (with_reducible refine Kept.drewN ?_ _)))))).mono ?_; rintro e v ⟨rfl, k4⟩; have KX : Kept X v := Kept.trans (b := _) (by repeat (first | (with_reducible exact Kept.refl _) | (with_reducible refine Kept.drew ?_) | (with_reducible refine Kept.drewN ?_ _))) k4; have c6v := KX.some c6; have cGv := KX.some cG; have fGv : (∀ j, v.frozen? ⟨G, j, none⟩ = false) := (fun j => KX.soft GL (fG j)))
        | (refine ⟨trivial, ?_⟩; gi_at_call 65; refine (CallsIn.inRound l (callsIn_wide.2 (PA.out _))).mono ?_; rintro e v' ⟨rfl, k5⟩; have KY : Kept X v' := Kept.trans (b := _) (Kept.trans KX (by repeat (first | (with_reducible exact Kept.refl _) | (with_reducible refine Kept.drew ?_) | (with_reducible refine Kept.drewN ?_ _)))) k5; have c6w := KY.some c6; have cGw := KY.some cG; have fGw : (∀ j, v'.frozen? ⟨G, j, none⟩ = false) := (fun j => KY.soft GL (fG j))))
      all_goals gi_wp2
      all_goals exact pn_round HI.out SF.out KY hq hso3 LE.out
    · intro D xs X hN hI hbut hD hd
      obtain ⟨k, hx, hneg⟩ := hN
      have hk : xs.length = S.N.toNat := by
        have h1 := cs_length 0 k
        rw [← hx] at h1
        have h2 := hI.le
        omega
      have HI := Lib.hid hI
      have HK := Lib.hid hk
      have HS := Lib.hid hI.but.size
      have c6 := hI.b6
      have hDG : D ≠ G := by omega
      clear hI hx hneg hk hbut
      have bD : But (fun k => k = D) X (X.putObj D (.deferred none)) := Sk.but_turned (But.refl _ _) hd rfl rfl (.inl rfl)
      have F := SF
      have POST : Hid (G < (X.putObj D (.deferred none)).heap.size ∧ (∀ j, j < S.N.toNat → (X.putObj D (.deferred none)).cell? ⟨G, j, none⟩ = some (.int .i64 (pinL n f S j))) ∧ (∀ j, (X.putObj D (.deferred none)).frozen? ⟨G, j, none⟩ = false) ∧ Kept w (X.putObj D (.deferred none))) := Lib.hid ⟨by have := bD.size; have := HS.out; omega, fun j hj => by
          have h := bD.some (HI.out.g0 j hj) (fun e => hDG e.symm)
          rw [HK.out, if_pos hj] at h
          exact h, fun j => bD.soft (by have := HS.out; omega) (HI.out.gf j), by
          have h1 := (F.out.k3.but (fun k => k = G)).trans HI.out.but (fun _ _ h => h)
          have h2 := Sk.but_turned (o' := .deferred none) h1 hd rfl rfl (.inr (by have := F.out.k3.size; omega))
          exact h2.kept (fun i hi e => by have := F.out.lG; omega)⟩
      go_wp2
      refine ⟨by simp, .inl ⟨_, _, rfl, run_takeDeferred hd, ?_⟩⟩
      have h6 := F.out.h6
      have hr := bD.some c6 (by omega)
      exact ⟨.slice (some ⟨G, 0, none⟩) S.N.toNat S.N.toNat, by simp [results, Try.results15, go_sem, hr], G, rfl, Nat.le_of_lt F.out.lG, POST.out⟩
    · intro D cd xs X hI hbut hD hd
      exact hI.elim
end Go.Proofs.Ytmfbjlaajcdbnaa.Ep
