/- Level and Live, the program's: ranges over the iterator that collect. Written by gen15n.py. -/
import Derived.Test.YtejiogggocnldaaGreatG25
import Derived.Test.YtejiogggocnldaaGreatG23
import Derived.Test.YtejiogggocnldaaGreatG04
import Derived.Laws.OwnMore
import Derived.Test.YtejiogggocnldaaGreatProg
import Derived.Test.YtejiogggocnldaaGreatG00
import Derived.WalkLawsBesides
import Derived.Deep.AppendSrc
import Derived.ChangeSlices
import Derived.WalkKit
import Derived.ProofKit
import Derived.Lib.Hide
set_option linter.unusedVariables false
set_option linter.unusedSimpArgs false

namespace Go.Proofs.YtejiogggocnldaaGreat.Tw
set_option maxRecDepth 100000
open Go.RowKit Go.Shelf
open Wo (St acc wordAt PMem RefIs)
open Sk (Stk Arn idx Wd pmem_kept p_words Blk g_top leaves kept_of)
attribute [local go_sem] Oper.semAt_some
attribute [local go_sem ↓] app_named

theorem infoInt : (Tryz.prog.info? 3).map (fun i => (i.zero, i.size, i.bytes)) = some (some (.int .i64 0), 1, 8) := by kernel_rfl
def RetI (w : World) (l : List Int) (ed : Ending) (w' : World) : Prop := ∃ a c, ed = .returned (.slice a l.length c) ∧ Kept w w' ∧ w'.ownsRow w.heap.size 3 1 (.slice a l.length c) l.length (ints l)
theorem ints_app (l m : List Int) : ints (l ++ m) = ints l ++ ints m := by simp [ints]
theorem int_append {W : World} {N B : Nat} {v : Value} {l : List Int} (hrow : W.ownsRow N 3 1 v l.length (ints l)) (hx : Boxed W B 71 v) (hN : N ≤ W.heap.size) (hB : B < N) (hl : l.length ≤ 5000) (x : Int) :
    ∃ a c w1, (appSem #[71, 71] 71 #[v, .slice (some ⟨W.heap.size, 0, none⟩) 1 1]).run Tryz.prog (W.alloc (.cells #[.int .i64 x] 3)) = .ok (.slice a (l.length + 1) c) w1 ∧
      w1.cell? ⟨B, 0, none⟩ = some v ∧ w1.frozen? ⟨B, 0, none⟩ = false ∧ Boxed (w1.setCell ⟨B, 0, none⟩ (.slice a (l.length + 1) c)) B 71 (.slice a (l.length + 1) c) ∧
      (w1.setCell ⟨B, 0, none⟩ (.slice a (l.length + 1) c)).ownsRow N 3 1 (.slice a (l.length + 1) c) (l ++ [x]).length (ints (l ++ [x])) ∧
      But (fun j => v.ownBlock = some j ∨ j = B) W (w1.setCell ⟨B, 0, none⟩ (.slice a (l.length + 1) c)) := by
  obtain ⟨i0, hi, hz0, hz1, hz2⟩ := info_parts infoInt
  have kA : Kept W (W.alloc (.cells #[.int .i64 x] 3)) := (Kept.refl _).alloc _ _
  obtain ⟨a, c, w1, hr, own, but, at_⟩ := append_lay (P := Tryz.prog) (W.alloc (.cells #[.int .i64 x] 3)) N 71 71 3 i0 _ 1 8 Tryz.underlying71 hi hz0 hz1 hz2 (by rfl) (by decide) v l.length (ints l) (own_keep hrow kA) (.slice (some ⟨W.heap.size, 0, none⟩) 1 1) 1 [.int .i64 x]
    rfl (lay_new (heap_alloc_new _ _) (by omega)) (by simp [Value.oneCell']) (by unfold maxLen; omega) (by omega) (by simp; omega)
  rw [app_named] at hr
  have hBW := hx.lt
  have bx1 : Boxed w1 B 71 v := (but.block B (by simp; omega) (fun h => by have := (hrow.lt B h).1; omega)).trans ((kA.below.block B hBW).trans hx)
  have b1 : But (fun j => v.ownBlock = some j ∨ j = B) W w1 := (kA.but _).trans (but.mono fun _ _ h => Or.inl h) (fun _ _ h => h)
  have b2 : But (fun j => v.ownBlock = some j ∨ j = B) W (w1.setCell ⟨B, 0, none⟩ (.slice a (l.length + 1) c)) := b1.setCell (p := ⟨B, 0, none⟩) (Or.inl (Or.inr rfl)) _
  refine ⟨a, c, w1, hr, bx1.cell, bx1.frozen, bx1.set _, ?_, b2⟩
  have := own_same (w' := w1.setCell ⟨B, 0, none⟩ (.slice a (l.length + 1) c)) own (fun g hg => Below.heap_setCell _ _ _ _ (by have := (own.lt g hg).1; simp; omega))
  rw [List.length_append, ints_app]
  exact this
structure LvI (w0 : World) (L a b c N0 : Nat) (t : Twr) (v : Value) (l : Int) (n : Nat) (f : Nat → Int) (sel : Int → Bool) (pre : List Int) (W : World) : Prop where
  box : ∃ u, Boxed W L 71 u ∧ W.ownsRow (N0 + 2) 3 1 u (pre.filter sel).length (ints (pre.filter sel))
  bx : LBx W a b t v l n f
  ex : VB W c t v
  kept : Kept w0 W
  sz : N0 ≤ W.heap.size
  p1 : pre = idsL n f t l pre.length
  p2 : pre.length ≤ t.A.F.N.toNat
  p3 : ∀ i, i < pre.length → 0 ≤ itL n f t l (i + 1)
structure LvB (w0 : World) (L a b c N0 : Nat) (v : Value) : Prop where
  hl : L < N0
  ha : a < N0
  hb : b < N0
  hc : c < N0
  la : L ≠ a
  lb : L ≠ b
  lc : L ≠ c
  hv : ∀ g, v.ownBlock = some g → g < N0 ∧ L ≠ g
  wl : w0.heap.size ≤ L
theorem LBx.but {w w' : World} {a b : Nat} {t : Twr} {v : Value} {l : Int} {n : Nat} {f : Nat → Int} (h : LBx w a b t v l n f) {T : Nat → Prop} (k : But T w w') (ha : ¬ T a) (hb : ¬ T b) (hg : ∀ g, v.ownBlock = some g → ¬ T g) : LBx w' a b t v l n f := ⟨h.vb.but k ha, k.some h.lc hb, h.ws.but k hg⟩
theorem LvI.keep {w0 : World} {L a b c N0 : Nat} {t : Twr} {v : Value} {l : Int} {n : Nat} {f : Nat → Int} {sel : Int → Bool} {pre : List Int} {W W' : World} (h : LvI w0 L a b c N0 t v l n f sel pre W) (k : Kept W W') (hb : LvB w0 L a b c N0 v) : LvI w0 L a b c N0 t v l n f sel pre W' := by
  obtain ⟨⟨u, h1, h2⟩, h3, h4, h5, h6, h7, h8, h9⟩ := h
  exact ⟨⟨u, (k.below.block _ (by have := hb.hl; omega)).trans h1, own_keep h2 k⟩, h3.kept k, h4.kept k, h5.trans k, Nat.le_trans h6 k.size, h7, h8, h9⟩
theorem LvI.turn {w0 : World} {L a b c N0 : Nat} {t : Twr} {v : Value} {l : Int} {n : Nat} {f : Nat → Int} {sel : Int → Bool} {pre : List Int} {W : World} {r : Nat} {y y' : Loop} (h : LvI w0 L a b c N0 t v l n f sel pre W) (hb : LvB w0 L a b c N0 v) (hr : N0 ≤ r) (hy : W.heap[r]? = some (.loop y)) : LvI w0 L a b c N0 t v l n f sel pre (W.putObj r (.loop y')) := by
  obtain ⟨⟨u, h1, h2⟩, h3, h4, h5, h6, h7, h8, h9⟩ := h
  have k : But (fun k => k = r) W (W.putObj r (.loop y')) := Sk.but_turned (But.refl _ _) hy rfl rfl (.inl rfl)
  have := hb.hl
  have := hb.ha
  have := hb.hb
  have := hb.hc
  have := hb.wl
  refine ⟨⟨u, (World.putObj_heap_other (by omega)).trans h1, ownsRow_putObj h2 _ hy rfl⟩, h3.but k (by omega) (by omega) (fun g hg e => by have := (hb.hv g hg).1; omega), h4.but k (by omega), ?_, Nat.le_trans h6 k.size, h7, h8, h9⟩
  exact (Sk.but_turned (h5.but (fun _ => False)) hy rfl rfl (.inr (by omega))).kept fun _ _ h => h
theorem lv_pre {n : Nat} {f : Nat → Int} {t : Twr} {l : Int} {pre : List Int} {x : Int} (p1 : pre = idsL n f t l pre.length) (p2 : pre.length ≤ t.A.F.N.toNat) (p3 : ∀ i, i < pre.length → 0 ≤ itL n f t l (i + 1)) (h : LSo n f t l pre x) :
    pre ++ [x] = idsL n f t l (pre ++ [x]).length ∧ (pre ++ [x]).length ≤ t.A.F.N.toNat ∧ ∀ i, i < (pre ++ [x]).length → 0 ≤ itL n f t l (i + 1) := by
  obtain ⟨_, h2, h3, h4⟩ := h
  have hlx : (pre ++ [x]).length = pre.length + 1 := by simp
  rw [hlx]
  refine ⟨by rw [idsL_succ, ← h2, ← p1], by omega, fun i hi => ?_⟩
  by_cases e : i = pre.length
  · rw [e, ← h2]; exact h4
  · exact p3 i (by omega)
theorem lv_skip {w0 : World} {L a b c N0 : Nat} {t : Twr} {v : Value} {l : Int} {n : Nat} {f : Nat → Int} {sel : Int → Bool} {pre : List Int} {x : Int} {W W' : World} (h : LvI w0 L a b c N0 t v l n f sel pre W) (hb : LvB w0 L a b c N0 v) (hs : LSo n f t l pre x) (k : Kept W W') (hx : sel x = false) :
    LvI w0 L a b c N0 t v l n f sel (pre ++ [x]) W' ∧ Blk (fun k => k = L ∨ N0 + 1 + 1 ≤ k) W W' := by
  obtain ⟨⟨u, h1, h2⟩, h3, h4, h5, h6, _, _, _⟩ := h.keep k hb
  obtain ⟨q1, q2, q3⟩ := lv_pre h.p1 h.p2 h.p3 hs
  exact ⟨⟨⟨u, h1, by rw [List.filter_append, show [x].filter sel = [] from by simp [hx], List.append_nil]; exact h2⟩, h3, h4, h5, h6, q1, q2, q3⟩, .of (k.but _)⟩
theorem lv_round {w0 : World} {L a b c N0 : Nat} {t : Twr} {v : Value} {l : Int} {n : Nat} {f : Nat → Int} {sel : Int → Bool} {pre : List Int} {x : Int} {W W1 W9 : World} {u u' : Value} (h : LvI w0 L a b c N0 t v l n f sel pre W) (hb : LvB w0 L a b c N0 v) (hs : LSo n f t l pre x) (k : Kept W W1) (hx : sel x = true)
    (hu : W1.ownsRow (N0 + 2) 3 1 u (pre.filter sel).length (ints (pre.filter sel)))
    (bx : Boxed W9 L 71 u') (own : W9.ownsRow (N0 + 2) 3 1 u' (pre.filter sel ++ [x]).length (ints (pre.filter sel ++ [x]))) (but : But (fun j => u.ownBlock = some j ∨ j = L) W1 W9) :
    LvI w0 L a b c N0 t v l n f sel (pre ++ [x]) W9 ∧ Blk (fun k => k = L ∨ N0 + 1 + 1 ≤ k) W W9 := by
  obtain ⟨_, h3, h4, h5, h6, _, _, _⟩ := h.keep k hb
  obtain ⟨q1, q2, q3⟩ := lv_pre h.p1 h.p2 h.p3 hs
  have nO : ∀ g, u.ownBlock = some g → N0 + 2 ≤ g := fun g hg => (hu.lt g hg).1
  have nB : ∀ j, j < N0 → L ≠ j → ¬ (u.ownBlock = some j ∨ j = L) := fun j h1 h2 e => e.elim (fun e => by have := nO j e; omega) (fun e => h2 e.symm)
  have hwl := hb.wl
  have hl := hb.hl
  refine ⟨⟨⟨u', bx, by rw [List.filter_append, show [x].filter sel = [x] from by simp [hx]]; exact own⟩, h3.but but (nB _ hb.ha hb.la) (nB _ hb.hb hb.lb) (fun g hg => nB g (hb.hv g hg).1 (hb.hv g hg).2), h4.but but (nB _ hb.hc hb.lc), ?_, Nat.le_trans h6 but.size, q1, q2, q3⟩, ?_⟩
  · exact ((h5.but _).trans but (fun _ _ h => h)).kept (fun i hi e => e.elim (fun e => by have := nO i e; omega) (fun e => by omega))
  · exact (Blk.of (k.but _)).trans ((Blk.of but).mono (T := fun k => k = L ∨ N0 + 1 + 1 ≤ k) (fun j _ e => e.elim (fun e => .inr (nO j e)) .inl)) (fun _ _ h => h)
theorem lv_end {w0 : World} {L a b c N0 : Nat} {t : Twr} {v : Value} {l : Int} {n : Nat} {f : Nat → Int} {sel : Int → Bool} {xs : List Int} {W : World} (h : LvI w0 L a b c N0 t v l n f sel xs W) (hN : LNn n f t l xs) : xs.filter sel = (levelL n f t l).filter sel := by
  obtain ⟨k, hx, h2, h3⟩ := hN
  have hk : xs.length = k := by rw [hx]; exact idsL_len _ _ _ _ _
  rw [hx, level_ids h2 (fun m hm => h.p3 m (by omega)) h3]
set_option maxHeartbeats 4000000 in
theorem level_told (t : Twr) (hN64 : t.A.F.N ≤ 5000) (l : Int) (hl64 : I64 l) (mv : Value) (n : Nat) (f : Nat → Int) (hf : Wf n f) (hn : n ≤ 100000) (w : World) (hg : GivesWords mv n f w) :
    Calls Tryz.prog 38 #[towV t, .int .i64 l, mv] w (RetI w ((levelL n f t l).filter (fun _ => true))) := by
  have HF := Lib.hid hf
  have LK : ∀ W, Kept w W → Hid (Calls Tryz.prog 104 #[towV t, mv] W fun e w' => ∃ v, e = .returned (viewV t v) ∧ Wds w' v n f ∧ (∀ g, v.ownBlock = some g → W.heap.size ≤ g) ∧ Kept W w') := fun W k => Lib.hid (look_any t mv n f W (hg.kept k))
  clear hg hf
  refine (callsIn_wide (n := 6)).1 ?_
  refine callsIn_of_wp_marks Tryz.func38 rfl trivial ?_ rfl
  simp only [Tryz.ntmps38, List.size_toArray, List.length_cons, List.length_nil, Nat.reduceAdd, Nat.reduceSub, Array.replicate_succ, Array.replicate_zero, List.push_toArray, List.append_toArray, List.nil_append, List.cons_append]
  rw [wpIn_wide]
  go_wp2_with fail
  refine (LK _ (by (go_light; repeat (first | (with_reducible exact Kept.refl _) | (with_reducible assumption) | (with_reducible refine Kept.alloc ?_ _ _) | (with_reducible refine Kept.drew ?_) | (with_reducible refine Kept.drewN ?_ _) | ((with_reducible refine Kept.setCell ?_ ?_ _); rotate_left; focus (first | (simp; done) | (simp; omega))) | refine Kept.trans ?_ (by assumption))))).out.mono ?_
  rintro e w1 ⟨v, rfl, wv, fv, k1⟩
  obtain ⟨av, cv, rfl⟩ := wv.form
  have bL : Boxed w1 (w.heap.size + 1) 71 (.slice none 0 0) := (k1.below.block _ (by simp)).trans (by have h0 := Boxed.new (w.alloc (.cells #[.int .i64 t.D, .int .i64 t.H, .int .i64 t.G, .int .i64 t.A.F.T, .int .i64 t.A.F.K, .int .i64 t.A.F.N, .int .i64 t.A.G, .int .i64 t.A.V, .int .i64 t.A.L, .int .i64 t.E.T, .int .i64 t.E.K, .int .i64 t.E.N, .int .i64 t.P] 31)) 71 (.slice none 0 0); rw [show (w.alloc (.cells #[.int .i64 t.D, .int .i64 t.H, .int .i64 t.G, .int .i64 t.A.F.T, .int .i64 t.A.F.K, .int .i64 t.A.F.N, .int .i64 t.A.G, .int .i64 t.A.V, .int .i64 t.A.L, .int .i64 t.E.T, .int .i64 t.E.K, .int .i64 t.E.N, .int .i64 t.P] 31)).heap.size = w.heap.size + 1 from by simp] at h0; exact h0)
  have K1 : Kept w w1 := (((Kept.refl w).alloc _ _).alloc _ _).trans k1
  have f1 : ∀ g, (Value.slice av n cv).ownBlock = some g → w.heap.size + 2 ≤ g ∧ g < w1.heap.size := fun g hg => ⟨by have := fv g hg; simpa using this, wv.lt g hg⟩
  have z1 : w.heap.size + 2 ≤ w1.heap.size := by have := k1.size; simpa using this
  clear k1 fv
  go_wp2_with fail
  refine (level_any t (.slice av n cv) l n f _ wv).mono ?_
  rintro e w2 ⟨a, b, rfl, la, lb, ha, hb, vb, lc, k2⟩
  have HB : Hid (LvB w (w.heap.size + 1) a b a w2.heap.size (.slice av n cv)) := Lib.hid ⟨by have := k2.size; omega, ha, hb, ha, by omega, by omega, by omega, fun g hg => by have := f1 g hg; have := k2.size; omega, by omega⟩
  have HI : Hid (LvI w (w.heap.size + 1) a b a w2.heap.size t (.slice av n cv) l n f (fun _ => true) [] w2) := Lib.hid ⟨⟨_, (k2.below.block _ (by omega)).trans bL, World.ownsRow_nil _ _ _ _⟩, ⟨vb, lc, wv.kept k2⟩, vb, K1.trans k2, Nat.le_refl _, rfl, Nat.zero_le _, fun i h => absurd h (Nat.not_lt_zero _)⟩
  have hL : w.heap.size + 1 < w2.heap.size := by have := k2.size; omega
  clear bL K1 f1 z1 wv la lb ha hb vb lc k2
  go_wp2_with fail
  rename_i K hK0
  rw [← wpIn_wide (n := 6)]
  refine Sk.range_many (Bs := fun k => k = w.heap.size + 1 ∨ w2.heap.size + 1 + 1 ≤ k) (by decide) (gf := 165) (lb := #[.pointer (some ⟨a, 0, none⟩), .pointer (some ⟨b, 0, none⟩)]) rfl (enters_of Tryz.func165 (by kernel_rfl) rfl) (fun x : Int => Value.int .i64 x)
    (fun k h => h.elim (fun h => .inl (by omega)) .inr)
    (fun pre W => LvI w (w.heap.size + 1) a b a w2.heap.size t (.slice av n cv) l n f (fun _ => true) pre W)
    (fun cd pre W => False)
    (fun pre x => LSo n f t l pre x) (fun xs => LNn n f t l xs)
    ?_ ?_ ?_ ?_ ?_ ?_
    (fun x => { tmps := #[towV t, .int .i64 l, mv, .pointer (some ⟨w.heap.size, 0, none⟩), undef, undef, .slice none 0 0, .pointer (some ⟨w.heap.size + 1, 0, none⟩), .int .i64 x, towV t, mv, viewV t (.slice av n cv), .int .i64 l, .func (.func 165) #[] #[.pointer (some ⟨a, 0, none⟩), .pointer (some ⟨b, 0, none⟩)], .int .i64 x, undef, undef, undef, undef, undef], defers := [] }) ?_ ?_ ?_ ?_
  · exact fun W k => HI.out.keep k HB.out
  · exact fun pre W W' h k => h.keep k HB.out
  · exact fun pre W r y y' hr hy h => h.turn HB.out hr hy
  · exact fun cd pre W W' h k => h
  · exact fun cd pre W r y y' hr hy h => h
  · intro r W0 J Jx k0 z0 hr hJk hJb hY h0
    exact level_in 5 (by decide) r a b t av cv l hl64 (by omega) n f HF.out hn J Jx hJk (fun pre W h => (hJb pre W h).1.bx) hY W0 h0
  · intro r x W K hK
    gi_wp2
    exact hK
  · intro r pre x W hI hso hsz hbut
    obtain ⟨u, hu, hrow⟩ := hI.box
    have hle : (pre.filter (fun _ => true)).length ≤ 5000 := by have h1 := hI.p2; have h2 := List.length_filter_le (fun _ : Int => true) pre; omega
    obtain ⟨a', c', w7, hrun, hc7, hf7, bx7, own7, but7⟩ := int_append hrow hu (by omega) (by omega) hle x
    have RND := Lib.hid (lv_round hI HB.out hso (Kept.refl W) rfl hrow bx7 own7 but7)
    have hcell := hu.cell
    have hltl := lt_of_cell hcell
    obtain ⟨au, cu, rfl⟩ := own_form hrow
    generalize (pre.filter (fun _ => true)).length = lv at *
    clear hI hso hbut hrow hu bx7 own7 but7
    gi_wp2
    exact RND.out
  · intro D xs W hN hI hbut hD hd
    have hc := lv_end hI hN
    obtain ⟨⟨u, hu, hrow⟩, _, _, hk, _, _, _, _⟩ := hI
    have kD : Kept w (W.putObj D (.deferred none)) := (Blk.turned (S := fun _ => False) (Blk.of (hk.but _)) hd (Or.inr (by omega))).kept (fun _ _ h => h)
    rw [hc] at hrow
    have hcell := hu.cell
    obtain ⟨a', c', rfl⟩ := own_form hrow
    have hrow2 := Lib.hid (own_mono (ownsRow_putObj hrow (.deferred none) hd rfl) (show w.heap.size ≤ w2.heap.size + 2 by omega))
    obtain ⟨R, hR⟩ : ∃ R, R = (levelL n f t l).filter (fun _ => true) := ⟨_, rfl⟩
    rw [← hR] at hcell
    rw [← hR] at hrow2
    have HR := Lib.hid hR
    clear hc hrow hbut hR hu
    apply hK0
    go_wp2
    refine ⟨by simp, .inl ⟨_, _, rfl, run_takeDeferred hd, ?_⟩⟩
    rw [← HR.out]
    exact ⟨.slice a' R.length c', by simp [results, Tryz.results38, go_sem], a', c', rfl, kD, hrow2.out⟩
  · intro D cd xs W hI hbut hD hd
    exact hI.elim
def selM (n : Nat) (f : Nat → Int) (t : Twr) (x : Int) : Bool := !Wo.markOf (hw n f (nextI t x 0))
def liveM (n : Nat) (f : Nat → Int) (t : Twr) : List Int := (levelL n f t 0).filter (selM n f t)
set_option maxHeartbeats 4000000 in
theorem live_told (t : Twr) (hN64 : t.A.F.N ≤ 5000) (mv : Value) (n : Nat) (f : Nat → Int) (hf : Wf n f) (hn : n ≤ 100000) (w : World) (hg : GivesWords mv n f w) :
    Calls Tryz.prog 39 #[towV t, mv] w (RetI w (liveM n f t)) := by
  have HF := Lib.hid hf
  have LK : ∀ W, Kept w W → Hid (Calls Tryz.prog 104 #[towV t, mv] W fun e w' => ∃ v, e = .returned (viewV t v) ∧ Wds w' v n f ∧ (∀ g, v.ownBlock = some g → W.heap.size ≤ g) ∧ Kept W w') := fun W k => Lib.hid (look_any t mv n f W (hg.kept k))
  clear hg hf
  refine (callsIn_wide (n := 6)).1 ?_
  refine callsIn_of_wp_marks Tryz.func39 rfl trivial ?_ rfl
  simp only [Tryz.ntmps39, List.size_toArray, List.length_cons, List.length_nil, Nat.reduceAdd, Nat.reduceSub, Array.replicate_succ, Array.replicate_zero, List.push_toArray, List.append_toArray, List.nil_append, List.cons_append]
  rw [wpIn_wide]
  go_wp2_with fail
  refine (LK _ (by (go_light; repeat (first | (with_reducible exact Kept.refl _) | (with_reducible assumption) | (with_reducible refine Kept.alloc ?_ _ _) | (with_reducible refine Kept.drew ?_) | (with_reducible refine Kept.drewN ?_ _) | ((with_reducible refine Kept.setCell ?_ ?_ _); rotate_left; focus (first | (simp; done) | (simp; omega))) | refine Kept.trans ?_ (by assumption))))).out.mono ?_
  rintro e w1 ⟨v, rfl, wv, fv, k1⟩
  obtain ⟨av, cv, rfl⟩ := wv.form
  have K1 : Kept w w1 := ((Kept.refl w).alloc _ _).trans k1
  have f1 : ∀ g, (Value.slice av n cv).ownBlock = some g → w.heap.size + 1 ≤ g ∧ g < w1.heap.size := fun g hg => ⟨by have := fv g hg; simpa using this, wv.lt g hg⟩
  have z1 : w.heap.size + 1 ≤ w1.heap.size := by have := k1.size; simpa using this
  clear k1 fv
  go_wp2_with fail
  obtain ⟨W0, hW0⟩ : ∃ W0, W0 = ((w1.alloc (.cells #[.int .i64 t.D, .int .i64 t.H, .int .i64 t.G, .int .i64 t.A.F.T, .int .i64 t.A.F.K, .int .i64 t.A.F.N, .int .i64 t.A.G, .int .i64 t.A.V, .int .i64 t.A.L, .int .i64 t.E.T, .int .i64 t.E.K, .int .i64 t.E.N, .int .i64 t.P, .slice av n cv] 176)).alloc (.cells #[.slice none 0 0] 71)) := ⟨_, rfl⟩
  have bL : Boxed W0 (w1.heap.size + 1) 71 (.slice none 0 0) := by
    have h0 := Boxed.new (w1.alloc (.cells #[.int .i64 t.D, .int .i64 t.H, .int .i64 t.G, .int .i64 t.A.F.T, .int .i64 t.A.F.K, .int .i64 t.A.F.N, .int .i64 t.A.G, .int .i64 t.A.V, .int .i64 t.A.L, .int .i64 t.E.T, .int .i64 t.E.K, .int .i64 t.E.N, .int .i64 t.P, .slice av n cv] 176)) 71 (.slice none 0 0)
    rw [show (w1.alloc (.cells #[.int .i64 t.D, .int .i64 t.H, .int .i64 t.G, .int .i64 t.A.F.T, .int .i64 t.A.F.K, .int .i64 t.A.F.N, .int .i64 t.A.G, .int .i64 t.A.V, .int .i64 t.A.L, .int .i64 t.E.T, .int .i64 t.E.K, .int .i64 t.E.N, .int .i64 t.P, .slice av n cv] 176)).heap.size = w1.heap.size + 1 from by simp] at h0
    rw [hW0]; exact h0
  have V0 : VB W0 w1.heap.size t (.slice av n cv) := by rw [hW0]; exact (VB.new w1 _ 176 rfl t _).kept ((Kept.refl _).alloc _ _)
  have k01 : Kept w1 W0 := by rw [hW0]; exact ((Kept.refl _).alloc _ _).alloc _ _
  have s0 : W0.heap.size = w1.heap.size + 2 := by rw [hW0]; simp
  have K0 := K1.trans k01
  rw [← hW0]
  clear hW0 K1
  refine (level_any t (.slice av n cv) 0 n f _ (wv.kept k01)).mono ?_
  rintro e w2 ⟨a, b, rfl, la, lb, ha, hb, vb, lc, k2⟩
  have HB : Hid (LvB w (w1.heap.size + 1) a b w1.heap.size w2.heap.size (.slice av n cv)) := Lib.hid ⟨by have := k2.size; omega, ha, hb, by have := k2.size; omega, by omega, by omega, by omega, fun g hg => by have := f1 g hg; have := k2.size; omega, by omega⟩
  have HI : Hid (LvI w (w1.heap.size + 1) a b w1.heap.size w2.heap.size t (.slice av n cv) 0 n f (selM n f t) [] w2) := Lib.hid ⟨⟨_, (k2.below.block _ (by omega)).trans bL, World.ownsRow_nil _ _ _ _⟩, ⟨vb, lc, (wv.kept k01).kept k2⟩, V0.kept k2, K0.trans k2, Nat.le_refl _, rfl, Nat.zero_le _, fun i h => absurd h (Nat.not_lt_zero _)⟩
  have hL : w1.heap.size + 1 < w2.heap.size := by have := k2.size; omega
  clear bL K0 k01 V0 f1 wv la lb ha hb vb lc k2 s0
  go_wp2_with fail
  rename_i K hK0
  rw [← wpIn_wide (n := 6)]
  refine Sk.range_many (Bs := fun k => k = w1.heap.size + 1 ∨ w2.heap.size + 1 + 1 ≤ k) (by decide) (gf := 165) (lb := #[.pointer (some ⟨a, 0, none⟩), .pointer (some ⟨b, 0, none⟩)]) rfl (enters_of Tryz.func165 (by kernel_rfl) rfl) (fun x : Int => Value.int .i64 x)
    (fun k h => h.elim (fun h => .inl (by omega)) .inr)
    (fun pre W => LvI w (w1.heap.size + 1) a b w1.heap.size w2.heap.size t (.slice av n cv) 0 n f (selM n f t) pre W)
    (fun cd pre W => False)
    (fun pre x => LSo n f t 0 pre x) (fun xs => LNn n f t 0 xs)
    ?_ ?_ ?_ ?_ ?_ ?_
    (fun x => { tmps := #[towV t, mv, .pointer (some ⟨w.heap.size, 0, none⟩), undef, .slice none 0 0, .pointer (some ⟨w1.heap.size, 0, none⟩), .pointer (some ⟨w1.heap.size + 1, 0, none⟩), .int .i64 x, towV t, mv, viewV t (.slice av n cv), viewV t (.slice av n cv), .func (.func 165) #[] #[.pointer (some ⟨a, 0, none⟩), .pointer (some ⟨b, 0, none⟩)], .int .i64 x, undef, undef, undef, undef, undef, undef, undef, undef, undef, undef], defers := [] }) ?_ ?_ ?_ ?_
  · exact fun W k => HI.out.keep k HB.out
  · exact fun pre W W' h k => h.keep k HB.out
  · exact fun pre W r y y' hr hy h => h.turn HB.out hr hy
  · exact fun cd pre W W' h k => h
  · exact fun cd pre W r y y' hr hy h => h
  · intro r W0 J Jx k0 z0 hr hJk hJb hY h0
    exact level_in 5 (by decide) r a b t av cv 0 (by unfold I64; omega) (by omega) n f HF.out hn J Jx hJk (fun pre W h => (hJb pre W h).1.bx) hY W0 h0
  · intro r x W K hK
    gi_wp2
    exact hK
  · intro r pre x W hI hso hsz hbut
    have HII := Lib.hid hI
    have HSO := Lib.hid hso
    obtain ⟨⟨v0, v1, v2, v3, v4, v5, v6, v7, v8, v9, v10, v11, v12⟩, v13⟩ := And.intro hI.ex.t hI.ex.v
    have NX : ∀ X, Kept W X → Hid (Calls Tryz.prog 107 #[viewV t (.slice av n cv), .int .i64 x, .int .i64 0] X fun e w' => e = .returned (.int .u64 (hw n f (nextI t x 0))) ∧ Kept X w') := fun X kk => Lib.hid (vnext_any t (hI.bx.ws.kept kk) hn x 0 (by unfold I64; omega))
    have MK := fun X => Lib.hid (show Calls Tryz.prog 106 #[.int .u64 (hw n f (nextI t x 0))] X fun e w' => e = .returned (.bool (Wo.markOf (hw n f (nextI t x 0)))) ∧ X = w' from Wo.marked_any _ X)
    have SX : Hid (selM n f t x = !Wo.markOf (hw n f (nextI t x 0))) := Lib.hid rfl
    generalize hw n f (nextI t x 0) = q at *
    generalize Wo.markOf q = mk at *
    clear hI hso hbut
    gi_wp2_with fail
    refine ⟨trivial, ?_⟩
    gi_at_call 107
    refine (CallsIn.inRound r (callsIn_wide.2 (NX _ (Kept.refl _)).out)).mono ?_
    rintro e y1 ⟨rfl, ky⟩
    have KY := Lib.hid ky
    clear NX ky
    gi_wp2_with fail
    refine ⟨trivial, ?_⟩
    gi_at_call 106
    refine (CallsIn.inRound r (callsIn_wide.2 (MK _).out)).mono ?_
    rintro e y2 ⟨rfl, rfl⟩
    clear MK
    cases mk
    · have hI1 := HII.out.keep KY.out HB.out
      obtain ⟨u, hu, hrow⟩ := hI1.box
      have hle : (pre.filter (selM n f t)).length ≤ 5000 := by have h1 := hI1.p2; have h2 := List.length_filter_le (selM n f t) pre; omega
      have hsz1 := KY.out.size
      obtain ⟨a', c', w7, hrun, hc7, hf7, bx7, own7, but7⟩ := int_append hrow hu (by omega) (by omega) hle x
      have RND := Lib.hid (lv_round HII.out HB.out HSO.out KY.out (by rw [SX.out]; rfl) hrow bx7 own7 but7)
      have hcell := hu.cell
      have hltl := lt_of_cell hcell
      obtain ⟨au, cu, rfl⟩ := own_form hrow
      generalize (pre.filter (selM n f t)).length = lv at *
      clear hI1 hrow hu bx7 own7 but7
      gi_wp2
      exact RND.out
    · have RND := Lib.hid (lv_skip HII.out HB.out HSO.out KY.out (by rw [SX.out]; rfl))
      gi_wp2
      exact RND.out
  · intro D xs W hN hI hbut hD hd
    have hc := lv_end hI hN
    obtain ⟨⟨u, hu, hrow⟩, _, _, hk, _, _, _, _⟩ := hI
    have kD : Kept w (W.putObj D (.deferred none)) := (Blk.turned (S := fun _ => False) (Blk.of (hk.but _)) hd (Or.inr (by omega))).kept (fun _ _ h => h)
    rw [hc] at hrow
    have hcell := hu.cell
    obtain ⟨a', c', rfl⟩ := own_form hrow
    have hrow2 := Lib.hid (own_mono (ownsRow_putObj hrow (.deferred none) hd rfl) (show w.heap.size ≤ w2.heap.size + 2 by omega))
    obtain ⟨R, hR⟩ : ∃ R, R = liveM n f t := ⟨_, rfl⟩
    rw [show (levelL n f t 0).filter (selM n f t) = R from hR.symm] at hcell hrow2
    have HR := Lib.hid hR
    clear hc hrow hbut hR hu
    apply hK0
    go_wp2
    refine ⟨by simp, .inl ⟨_, _, rfl, run_takeDeferred hd, ?_⟩⟩
    rw [← HR.out]
    exact ⟨.slice a' R.length c', by simp [results, Tryz.results39, go_sem], a', c', rfl, kD, hrow2.out⟩
  · intro D cd xs W hI hbut hD hd
    exact hI.elim
end Go.Proofs.YtejiogggocnldaaGreat.Tw

namespace Go.Proofs.YtejiogggocnldaaGreat
open Go.RowKit Go.ChangeShapes Go.WideShapes

structure Nums (f : Nat → Int) (len : Nat) : Prop where
  lo : ∀ i, -9223372036854775808 ≤ f i
  hi : ∀ i, f i ≤ 9223372036854775807
  zero : ∀ i, len ≤ i → f i = 0

def Row (w : World) (a : Option Addr) (len cap : Nat) (f : Nat → Int) : Prop :=
  Nums f len ∧ len ≤ cap ∧ cap ≤ maxLen ∧ ((a = none ∧ len = 0 ∧ cap = 0) ∨ (∃ x, a = some x ∧ len = 0) ∨
    ∃ b off, a = some ⟨b, off, none⟩ ∧ b < w.heap.size ∧ ∀ i, i < len → w.cell? ⟨b, off + i, none⟩ = some (.int .i64 (f i)))

theorem wf_i64 (x : Int) (h : (Lit.int .i64 x).wf = true) : -9223372036854775808 ≤ x ∧ x ≤ 9223372036854775807 := by
  have e : IntKind.i64.min = -9223372036854775808 := by decide
  simpa [Lit.wf, e] using h
theorem getD_mem (zs : List Int) (i : Nat) (h : i < zs.length) : zs.getD i 0 ∈ zs := by
  have e : zs.getD i 0 = zs[i]'h := by simp [h]
  rw [e]
  exact List.getElem_mem _

theorem open_row {H : Type} {enc : TypeId × Value → H} {w : World} {base : Nat} {spare : Nat → Bool} {held : Bool} {fuel : Nat} {a : Option Addr} {len cap : Nat} {x : DataW H × List MemPlace}
    (h : DataW.trod enc Tryz.prog w base spare held fuel 71 [.slice a len cap] = some x) : ∃ f, Row w a len cap f := by
  rcases open_ints Tryz.underlying71 Tryz.underlying3 (by kernel_rfl) h with h0 | ⟨x, len', cap', zs, hcs, _, hl, hm, hz, _, hc, hw⟩
  · obtain ⟨rfl, rfl, rfl⟩ : a = none ∧ len = 0 ∧ cap = 0 := by simpa using h0.1
    exact ⟨fun _ => 0, ⟨by intro i; omega, by intro i; omega, fun _ _ => rfl⟩, Nat.le_refl _, Nat.zero_le _, .inl ⟨rfl, rfl, rfl⟩⟩
  · obtain ⟨rfl, rfl, rfl⟩ : a = some x ∧ len = len' ∧ cap = cap' := by simpa using hcs
    have hle : len ≤ zs.length := by rw [hz]; split <;> omega
    refine ⟨fun i => if i < len then zs.getD i 0 else 0, ⟨fun i => ?_, fun i => ?_, fun i hi => by simp; omega⟩, hl, hm, ?_⟩
    · by_cases hi : i < len
      · simp only [hi, if_true]
        exact (wf_i64 _ (hw _ (getD_mem zs i (by omega)))).1
      · simp [hi]
    · by_cases hi : i < len
      · simp only [hi, if_true]
        exact (wf_i64 _ (hw _ (getD_mem zs i (by omega)))).2
      · simp [hi]
    · by_cases h0 : len = 0
      · exact .inr (.inl ⟨x, rfl, h0⟩)
      · obtain ⟨b, off, spot⟩ := x
        have hc0 := hc 0 (by omega)
        have hs : spot = none := by simpa [Addr.add] using World.cell?_spot hc0
        subst hs
        refine .inr (.inr ⟨b, off, rfl, ?_, fun i hi => ?_⟩)
        · have := World.block_lt_of_cell? w _ hc0
          simpa [Addr.add] using this
        · have h := hc i (by omega)
          have e : (Addr.add ⟨b, off, none⟩ i) = ⟨b, off + i, none⟩ := by
            unfold Addr.add
            split <;> simp_all
          rw [e] at h
          simp only [hi, if_true]
          exact h

theorem infoInt : (Tryz.prog.info? 3).map (fun i => (i.zero, i.size, i.bytes)) = some (some (.int .i64 0), 1, 8) := by kernel_rfl

structure Made (W w' : World) (b len cap : Nat) (f : Nat → Int) : Prop where
  new : W.heap.size ≤ b
  old : b < w'.heap.size
  room : len ≤ cap
  most : cap ≤ maxLen
  cell : ∀ i, i < len → w'.cell? ⟨b, i, none⟩ = some (.int .i64 (f i))
  soft : ∀ i, w'.frozen? ⟨b, i, none⟩ = false

theorem copy_run (ty : TypeId) (W : World) (a : Option Addr) (len cap : Nat) (f : Nat → Int) (h : Row W a len cap f) (hs : len ≤ 1000000) :
    ∃ b C W', (Builtin.append_ #[71, 71] ty #[.slice (some ⟨W.heap.size, 0, none⟩) 0 0, .slice a len cap]).run Tryz.prog (W.alloc (.cells #[] 3)) = .ok (.slice (some ⟨b, 0, none⟩) len C) W' ∧
      Kept W W' ∧ Made W W' b len C f := by
  obtain ⟨i0, hi, hz0, hz1, hz2⟩ := info_parts infoInt
  obtain ⟨hn, hlc, hcm, h⟩ := h
  have k1 : Kept W (W.alloc (.cells #[] 3)) := (Kept.refl W).alloc _ _
  by_cases h0 : len = 0
  · subst h0
    have src : Src Tryz.prog i0.size 71 (.slice a 0 cap) 0 [] (W.alloc (.cells #[] 3)) := by
      cases a with
      | none => exact Src.ofNil _ Tryz.underlying71 cap
      | some x => exact Src.ofSlice _ Tryz.underlying71 x 0 cap [] (by simp) (fun j u hj => by simp at hj) (fun u hu => by cases hu)
    have hr := run_append_room_src (P := Tryz.prog) (W.alloc (.cells #[] 3)) 71 71 ty 3 i0 Tryz.underlying71 hi W.heap.size 0 0 0 (.slice a 0 cap) 0 [] src (Nat.le_refl _) (fun j hj => by simp at hj) (fun j hj => by simp at hj)
    refine ⟨W.heap.size, 0, _, hr, ?_, Nat.le_refl _, by simp [World.setCells], Nat.le_refl _, Nat.zero_le _, fun i hi => absurd hi (Nat.not_lt_zero i), fun i => ?_⟩
    · simpa [World.setCells] using k1
    · have e : ((W.alloc (.cells #[] 3)).setCells W.heap.size (0 + 0 * i0.size) []).frozen? ⟨W.heap.size, i, none⟩ = (W.alloc (.cells #[] 3)).frozen? ⟨W.heap.size, i, none⟩ := by simp [World.setCells]
      rw [e, frozen?_alloc_cells]
      simp [World.frozen?]
  · obtain ⟨b, off, rfl, hb, hc⟩ : ∃ b off, a = some ⟨b, off, none⟩ ∧ b < W.heap.size ∧ ∀ i, i < len → W.cell? ⟨b, off + i, none⟩ = some (.int .i64 (f i)) := by
      rcases h with ⟨_, h, _⟩ | ⟨_, _, h⟩ | h
      · omega
      · omega
      · exact h
    have src : Src Tryz.prog i0.size 71 (.slice (some ⟨b, off, none⟩) len cap) len ((List.range len).map fun i => Value.int .i64 (f i)) (W.alloc (.cells #[] 3)) := by
      refine Src.ofSlice _ Tryz.underlying71 _ len cap _ (by simp [hz1]) (fun j u hj => ?_) (fun u hu => by obtain ⟨i, _, rfl⟩ := List.mem_map.1 hu; rfl)
      have hjl : j < len := by have := (List.getElem?_eq_some_iff.1 hj).1; simpa using this
      have e : (Addr.add ⟨b, off, none⟩ j) = ⟨b, off + j, none⟩ := by unfold Addr.add; split <;> simp_all
      rw [e, World.cell?_alloc_past _ _ _ hb, hc j hjl]
      simpa [hjl] using hj
    have hold : (Builtin.firstCells i0.size 0 (.slice (some ⟨W.heap.size, 0, none⟩) 0 0)).run Tryz.prog (W.alloc (.cells #[] 3)).drew = .ok (([] : List Value).toArray) (W.alloc (.cells #[] 3)).drew := by
      exact run_firstCells_some _ i0.size 0 ⟨W.heap.size, 0, none⟩ 0 0 [] (by simp) (fun j u hj => by simp at hj)
    have hr := run_append_grow_src (P := Tryz.prog) (W.alloc (.cells #[] 3)) 71 71 ty 3 i0 (.int .i64 0) Tryz.underlying71 hi hz0 (some ⟨W.heap.size, 0, none⟩) 0 0 [] hold (.slice (some ⟨b, off, none⟩) len cap) len _ src (by omega) (by omega)
      (by rw [hz2]; have := growslice_fits (old := 0) (need := 0 + len) (bytes := 8) (by omega) (by omega); exact this)
    have hge := grownCap_ge (W.alloc (.cells #[] 3)) (0 + len) 0 3
    have hle := grownCap_le_maxLen (W.alloc (.cells #[] 3)) (0 + len) 0 3 (by unfold maxLen; omega)
    simp only [Nat.zero_add, List.nil_append, World.size_alloc] at hr hge hle
    refine ⟨_, _, _, hr, (k1.drew).alloc _ _, by omega, by simp [World.drew], hge, hle, fun i hi => ?_, fun i => ?_⟩
    · rw [cell_new _ _ _ (W.heap.size + 1) i (by simp), Array.getElem?_append_left (by simpa using hi)]
      simp [hi]
    · rw [frozen?_alloc_cells]
      simp [World.frozen?, World.drew]

theorem wpList_copy {ops : Array Oper} {rest : List Oper} {o : Oper} {A : Act} {Q : Exit → Act → World → Prop} (hg : o.guard = none) (s x : Operand)
    (ho : o.op = .call { callee := .builtin .append, args := #[s, x], argTypes := #[71, 71] })
    (W : World) (a : Option Addr) (len cap : Nat) (f : Nat → Int) (hr : Row W a len cap f) (hs : len ≤ 1000000) (e1 : A.eval s = .slice (some ⟨W.heap.size, 0, none⟩) 0 0) (e2 : A.eval x = .slice a len cap)
    (h : ∀ b C W', Kept W W' → Made W W' b len C f → wpList Tryz.prog ops Q rest (A.put o.dst (.slice (some ⟨b, 0, none⟩) len C)) W') :
    wpList Tryz.prog ops Q (o :: rest) A (W.alloc (.cells #[] 3)) := by
  refine wpList_plain hg fun K hK => ?_
  obtain ⟨b, C, W', hrun, hk, hm⟩ := copy_run o.type W a len cap f hr hs
  unfold Oper.wp execOp
  simp only [ho, resolve, invoke, builtin, Sem.run_bind, Sem.run_pure, Result.andThen_ok, List.map_toArray, List.map_cons, List.map_nil, e1, e2, hrun]
  exact hK _ _ (h b C W' hk hm)

def Reads (w : World) (a : Option Addr) (len : Nat) (f : Nat → Int) : Prop :=
  len = 0 ∨ ∃ b o, a = some ⟨b, o, none⟩ ∧ ∀ i, i < len → w.cell? ⟨b, o + i, none⟩ = some (.int .i64 (f i))
theorem Row.reads {w : World} {a : Option Addr} {len cap : Nat} {f : Nat → Int} (h : Row w a len cap f) : Reads w a len f := by
  rcases h.2.2.2 with h | ⟨_, _, h⟩ | ⟨b, o, h, _, hc⟩
  · exact .inl h.2.1
  · exact .inl h
  · exact .inr ⟨b, o, h, hc⟩
theorem Reads.kept {w w' : World} {a : Option Addr} {len : Nat} {f : Nat → Int} (h : Reads w a len f) (k : Kept w w') : Reads w' a len f := by
  rcases h with h | ⟨b, o, h, hc⟩
  · exact .inl h
  · exact .inr ⟨b, o, h, fun i hi => k.some (hc i hi)⟩
theorem Row.kept {w w' : World} {a : Option Addr} {len cap : Nat} {f : Nat → Int} (h : Row w a len cap f) (k : Kept w w') : Row w' a len cap f := by
  refine ⟨h.1, h.2.1, h.2.2.1, ?_⟩
  rcases h.2.2.2 with h | h | ⟨b, o, h, hb, hc⟩
  · exact .inl h
  · exact .inr (.inl h)
  · exact .inr (.inr ⟨b, o, h, Nat.lt_of_lt_of_le hb k.size, fun i hi => k.some (hc i hi)⟩)
theorem Made.reads {W w : World} {b len cap : Nat} {f : Nat → Int} (h : Made W w b len cap f) : Reads w (some ⟨b, 0, none⟩) len f :=
  .inr ⟨b, 0, rfl, fun i hi => by rw [Nat.zero_add]; exact h.cell i hi⟩
theorem Made.kept {W w w' : World} {b len cap : Nat} {f : Nat → Int} (h : Made W w b len cap f) (k : Kept w w') : Made W w' b len cap f :=
  ⟨h.new, Nat.lt_of_lt_of_le h.old k.size, h.room, h.most, fun i hi => k.some (h.cell i hi), fun i => k.soft h.old (h.soft i)⟩
theorem Made.row {W w : World} {b len cap : Nat} {f : Nat → Int} (h : Made W w b len cap f) (hn : Nums f len) : Row w (some ⟨b, 0, none⟩) len cap f :=
  ⟨hn, h.room, h.most, .inr (.inr ⟨b, 0, rfl, h.old, fun i hi => by rw [Nat.zero_add]; exact h.cell i hi⟩)⟩
end Go.Proofs.YtejiogggocnldaaGreat
