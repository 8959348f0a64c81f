/- Node: what is in a node's cells. Written by gen15i.py. -/
import Derived.Test.YtejiogggocnldaaGreatG22
import Derived.Test.YtejiogggocnldaaGreatG10
import Derived.Laws.OwnMore
import Derived.Deep.DeepCutAuto
import Derived.Deep.RegionHeld3
set_option linter.unusedVariables false
set_option linter.unusedSimpArgs false

namespace Go.Proofs.YtejiogggocnldaaGreat.Tw
set_option maxRecDepth 20000
open Go.RowKit Go.Shelf
open Wo (St acc wordAt PMem RefIs)
open Sk (Stk Arn idx Wd pmem_kept p_words Blk)

def appSem (ts : Array TypeId) (ty : TypeId) (args : Array Value) : Sem Value := Builtin.append_ ts ty args
theorem app_named (ts : Array TypeId) (ty : TypeId) (args : Array Value) : Builtin.append_ ts ty args = appSem ts ty args := rfl
attribute [local go_sem ↓] app_named
theorem infoW : (Tryz.prog.info? 44).map (fun i => (i.zero, i.size, i.bytes)) = some (some (.int .u64 0), 1, 8) := by kernel_rfl
def words (l : List Int) : List Value := l.map (Value.int .u64)
theorem words_append (l m : List Int) : words (l ++ m) = words l ++ words m := by simp [words]
theorem own_keep {w w' : World} {base : Nat} {e : TypeId} {size : Nat} {v : Value} {n : Nat} {xs : List Value} (h : w.ownsRow base e size v n xs) (k : Kept w w') : w'.ownsRow base e size v n xs := own_same h (fun g hg => k.below.block g (h.lt g hg).2)
theorem own_but {w w' : World} {base : Nat} {e : TypeId} {size : Nat} {v : Value} {n : Nat} {xs : List Value} (h : w.ownsRow base e size v n xs) {T : Nat → Prop} (b : But T w w') (hT : ∀ g, v.ownBlock = some g → ¬ T g) : w'.ownsRow base e size v n xs :=
  own_same h fun g hg => b.block g (h.lt g hg).2 (hT g hg)
theorem lay_new {w : World} {g : Nat} {xs : List Value} {n : Nat} {t : TypeId} {fr : Nat × Nat} (h : w.heap[g]? = some (.cells xs.toArray t fr)) (hn : n ≤ 100000) : Lay w (.slice (some ⟨g, 0, none⟩) n n) n xs :=
  .inl (.inr ⟨g, 0, n, rfl, Nat.le_refl _, by unfold maxLen; omega, fun j u hu => by
    have := World.news_of_block h j u (by simpa using hu)
    rwa [add_none] at this⟩)
theorem word_append {W W5 : World} {N : Nat} {v : Value} {l : List Int} (hrow : W.ownsRow N 44 1 v l.length (words l)) (k : Kept W W5) (hN : N ≤ W.heap.size) (hl : l.length ≤ 5000) (x : Int) :
    ∃ a c w1, (appSem #[32, 32] 32 #[v, .slice (some ⟨W5.heap.size, 0, none⟩) 1 1]).run Tryz.prog (W5.alloc (.cells #[.int .u64 x] 44)) = .ok (.slice a (l.length + 1) c) w1 ∧
      w1.ownsRow N 44 1 (.slice a (l.length + 1) c) (l ++ [x]).length (words (l ++ [x])) ∧ But (fun j => v.ownBlock = some j) W w1 := by
  obtain ⟨i0, hi, hz0, hz1, hz2⟩ := info_parts infoW
  have kA : Kept W (W5.alloc (.cells #[.int .u64 x] 44)) := k.alloc _ _
  obtain ⟨a, c, w1, hr, own, but, at_⟩ := append_lay (P := Tryz.prog) (W5.alloc (.cells #[.int .u64 x] 44)) N 32 32 44 i0 _ 1 8 Tryz.underlying32 hi hz0 hz1 hz2 (by rfl) (by decide) v l.length (words l) (own_keep hrow kA) (.slice (some ⟨W5.heap.size, 0, none⟩) 1 1) 1 [.int .u64 x]
    rfl (lay_new (heap_alloc_new _ _) (by omega)) (by simp [Value.oneCell']) (by unfold maxLen; omega) (by omega) (by have := k.size; simp; omega)
  rw [app_named] at hr
  refine ⟨a, c, w1, hr, ?_, (kA.but _).trans but (fun _ _ h => h)⟩
  rw [List.length_append, words_append]
  exact own
theorem Wds.lt {w : World} {v : Value} {n : Nat} {f : Nat → Int} (h : Wds w v n f) (g : Nat) (hg : v.ownBlock = some g) : g < w.heap.size := by
  rcases h with ⟨_, rfl⟩ | ⟨b, c, rfl, h2, _⟩
  · simp [Value.ownBlock] at hg
  · have : b = g := by simpa [Value.ownBlock] using hg
    omega
structure NB (w : World) (nb base : Nat) (q0 q1 q2 q3 : Int) (l : List Int) (u : Value) : Prop where
  c0 : w.cell? ⟨nb, 0, none⟩ = some (.int .u64 q0)
  c1 : w.cell? ⟨nb, 1, none⟩ = some (.int .u64 q1)
  c2 : w.cell? ⟨nb, 2, none⟩ = some (.int .u64 q2)
  c3 : w.cell? ⟨nb, 3, none⟩ = some (.int .u64 q3)
  c4 : w.cell? ⟨nb, 4, none⟩ = some u
  f : ∀ i, w.frozen? ⟨nb, i, none⟩ = false
  own : w.ownsRow base 44 1 u l.length (words l)
theorem NB.kept {w w' : World} {nb base : Nat} {q0 q1 q2 q3 : Int} {l : List Int} {u : Value} (h : NB w nb base q0 q1 q2 q3 l u) (k : Kept w w') : NB w' nb base q0 q1 q2 q3 l u :=
  ⟨k.some h.c0, k.some h.c1, k.some h.c2, k.some h.c3, k.some h.c4, fun i => k.soft (lt_of_cell h.c0) (h.f i), own_keep h.own k⟩
theorem NB.put {w w1 W : World} {nb base : Nat} {q0 q1 q2 q3 : Int} {l l' : List Int} {u u' : Value} (h : NB w nb base q0 q1 q2 q3 l u) (hb : nb < base) (b : But (fun j => u.ownBlock = some j) w w1) (own : w1.ownsRow base 44 1 u' l'.length (words l')) (e : W = w1.setCell ⟨nb, 4, none⟩ u') :
    NB W nb base q0 q1 q2 q3 l' u' ∧ But (fun j => j = nb ∨ u.ownBlock = some j) w W := by
  have hn : ¬ u.ownBlock = some nb := fun e => by have := (h.own.lt nb e).1; omega
  have bn : But (fun j => j = nb) w1 W := by rw [e]; exact (But.refl _ _).here _ _
  have bb : But (fun j => j = nb ∨ u.ownBlock = some j) w W := (b.mono (fun _ _ h => .inr h)).trans bn (fun _ _ h => .inl h)
  subst e
  refine ⟨⟨?_, ?_, ?_, ?_, ?_, fun i => bb.soft (lt_of_cell h.c0) (h.f i), own_but own bn (fun g hg e => by have e : g = nb := e; have := (own.lt g hg).1; omega)⟩, bb⟩
  · rw [cell_set, if_neg (by decide)]; exact b.some h.c0 hn
  · rw [cell_set, if_neg (by decide)]; exact b.some h.c1 hn
  · rw [cell_set, if_neg (by decide)]; exact b.some h.c2 hn
  · rw [cell_set, if_neg (by decide)]; exact b.some h.c3 hn
  · rw [cell_set, if_pos rfl, b.some h.c4 hn]; rfl
theorem NB.new (w : World) (nb base : Nat) (ty : TypeId) (hb : nb = w.heap.size) (q0 q1 q2 q3 : Int) : NB (w.alloc (.cells #[.int .u64 q0, .int .u64 q1, .int .u64 q2, .int .u64 q3, .slice none 0 0] ty)) nb base q0 q1 q2 q3 [] (.slice none 0 0) :=
  ⟨cell_new _ _ _ _ 0 hb, cell_new _ _ _ _ 1 hb, cell_new _ _ _ _ 2 hb, cell_new _ _ _ _ 3 hb, cell_new _ _ _ _ 4 hb, fun i => by subst hb; simp, World.ownsRow_nil _ _ _ _⟩
theorem nbox {W v : World} {t : TypeId} (k : Kept (W.alloc (.cells #[.int .u64 0, .int .u64 0, .int .u64 0, .int .u64 0, .slice none 0 0] t)) v) (base : Nat) : NB v W.heap.size base 0 0 0 0 [] (.slice none 0 0) := (NB.new W _ base t rfl 0 0 0 0).kept k
theorem nboxd {W v : World} {t : TypeId} (k : Kept (W.alloc (.cells #[.int .u64 0, .int .u64 0, .int .u64 0, .int .u64 0, .slice none 0 0] t)).drew v) (base : Nat) : NB v W.heap.size base 0 0 0 0 [] (.slice none 0 0) := ((NB.new W _ base t rfl 0 0 0 0).kept (Kept.refl _).drew).kept k
theorem NB.zero {W : World} {b base : Nat} (h : NB W b base 0 0 0 0 [] (.slice none 0 0)) : W.cell? ⟨b, 0, none⟩ = some (.int .u64 0) ∧ W.cell? ⟨b, 1, none⟩ = some (.int .u64 0) ∧ W.cell? ⟨b, 2, none⟩ = some (.int .u64 0) ∧ W.cell? ⟨b, 3, none⟩ = some (.int .u64 0) ∧ W.cell? ⟨b, 4, none⟩ = some (.slice none 0 0) ∧ ∀ i, W.frozen? ⟨b, i, none⟩ = false :=
  ⟨h.c0, h.c1, h.c2, h.c3, h.c4, h.f⟩
theorem NB.fill {W v : World} {b base : Nat} (h : NB W b base 0 0 0 0 [] (.slice none 0 0)) (hb : b < base) {q0 q1 q2 q3 : Int} (e : v = (((((W.setCell ⟨b, 0, none⟩ (.int .u64 q0)).setCell ⟨b, 1, none⟩ (.int .u64 q1)).setCell ⟨b, 2, none⟩ (.int .u64 q2)).setCell ⟨b, 3, none⟩ (.int .u64 q3)).setCell ⟨b, 4, none⟩ (.slice none 0 0))) :
    NB v b base q0 q1 q2 q3 [] (.slice none 0 0) ∧ But (fun k => k = b) W v := by
  have bb : But (fun k => k = b) W v := by rw [e]; exact ((((((But.refl _ _).here _ _).here _ _).here _ _).here _ _).here _ _)
  subst e
  exact ⟨⟨by simp [cell_set, h.c0], by simp [cell_set, h.c1], by simp [cell_set, h.c2], by simp [cell_set, h.c3], by simp [cell_set, h.c4], fun i => bb.soft (lt_of_cell h.c0) (h.f i), World.ownsRow_nil _ _ _ _⟩, bb⟩
theorem vb_all {W : World} {t : Twr} {b : Nat} {v : Value} (h : VB W b t v) : W.cell? ⟨b, 0, none⟩ = some (.int .i64 t.D) ∧ W.cell? ⟨b, 1, none⟩ = some (.int .i64 t.H) ∧ W.cell? ⟨b, 2, none⟩ = some (.int .i64 t.G) ∧ W.cell? ⟨b, 3, none⟩ = some (.int .i64 t.A.F.T) ∧ W.cell? ⟨b, 4, none⟩ = some (.int .i64 t.A.F.K) ∧ W.cell? ⟨b, 5, none⟩ = some (.int .i64 t.A.F.N) ∧ W.cell? ⟨b, 6, none⟩ = some (.int .i64 t.A.G) ∧ W.cell? ⟨b, 7, none⟩ = some (.int .i64 t.A.V) ∧ W.cell? ⟨b, 8, none⟩ = some (.int .i64 t.A.L) ∧ W.cell? ⟨b, 9, none⟩ = some (.int .i64 t.E.T) ∧ W.cell? ⟨b, 10, none⟩ = some (.int .i64 t.E.K) ∧ W.cell? ⟨b, 11, none⟩ = some (.int .i64 t.E.N) ∧ W.cell? ⟨b, 12, none⟩ = some (.int .i64 t.P) ∧ W.cell? ⟨b, 13, none⟩ = some v := ⟨h.t.c0, h.t.c1, h.t.c2, h.t.c3, h.t.c4, h.t.c5, h.t.c6, h.t.c7, h.t.c8, h.t.c9, h.t.c10, h.t.c11, h.t.c12, h.v⟩
def NodeCut (W4 : World) (base : Nat) (q0 q1 q2 q3 : Int) (g : Value) (wx : World) : Prop := ∃ nb, g = .pointer (some ⟨nb, 0, none⟩) ∧ NB wx nb (nb + 1) q0 q1 q2 q3 [] (.slice none 0 0) ∧ Kept W4 wx ∧ W4.heap.size ≤ nb ∧ nb < wx.heap.size
theorem nodecut_of {W4 x3 v : World} {nb base : Nat} {q0 q1 q2 q3 : Int} (h : Hid (NB x3 nb base 0 0 0 0 [] (.slice none 0 0))) (k : Kept W4 x3) (hs : W4.heap.size ≤ nb) (e : v = (((((x3.setCell ⟨nb, 0, none⟩ (.int .u64 q0)).setCell ⟨nb, 1, none⟩ (.int .u64 q1)).setCell ⟨nb, 2, none⟩ (.int .u64 q2)).setCell ⟨nb, 3, none⟩ (.int .u64 q3)).setCell ⟨nb, 4, none⟩ (.slice none 0 0))) : NodeCut W4 0 q0 q1 q2 q3 (.pointer (some ⟨nb, 0, none⟩)) v := by
  obtain ⟨h0, h1, h2, h3, h4, h5, _⟩ := h.out
  obtain ⟨f1, f2⟩ := NB.fill (base := nb + 1) ⟨h0, h1, h2, h3, h4, h5, World.ownsRow_nil _ _ _ _⟩ (Nat.lt_succ_self _) e
  exact ⟨nb, rfl, f1, ((k.but _).trans f2 (fun _ _ h => h)).kept (fun i hi e => by have e : i = nb := e; omega), hs, Nat.lt_of_lt_of_le (lt_of_cell h0) f2.size⟩
theorem NB.tell {W v : World} {b base : Nat} (h : NB W b base 0 0 0 0 [] (.slice none 0 0)) {q0 q1 q2 q3 : Int} {u : Value} (e : v = (((((W.setCell ⟨b, 0, none⟩ (.int .u64 q0)).setCell ⟨b, 1, none⟩ (.int .u64 q1)).setCell ⟨b, 2, none⟩ (.int .u64 q2)).setCell ⟨b, 3, none⟩ (.int .u64 q3)).setCell ⟨b, 4, none⟩ u)) :
    (v.cell? ⟨b, 0, none⟩ = some (.int .u64 q0) ∧ v.cell? ⟨b, 1, none⟩ = some (.int .u64 q1) ∧ v.cell? ⟨b, 2, none⟩ = some (.int .u64 q2) ∧ v.cell? ⟨b, 3, none⟩ = some (.int .u64 q3) ∧ v.cell? ⟨b, 4, none⟩ = some u) ∧ But (fun k => k = b) W v := by
  refine ⟨?_, by rw [e]; exact ((((((But.refl _ _).here _ _).here _ _).here _ _).here _ _).here _ _)⟩
  subst e
  exact ⟨by simp [cell_set, h.c0], by simp [cell_set, h.c1], by simp [cell_set, h.c2], by simp [cell_set, h.c3], by simp [cell_set, h.c4]⟩
theorem NB.but {w w' : World} {nb base : Nat} {q0 q1 q2 q3 : Int} {l : List Int} {u : Value} (h : NB w nb base q0 q1 q2 q3 l u) {T : Nat → Prop} (k : But T w w') (h1 : ¬ T nb) (h2 : ∀ g, u.ownBlock = some g → ¬ T g) : NB w' nb base q0 q1 q2 q3 l u :=
  ⟨k.some h.c0 h1, k.some h.c1 h1, k.some h.c2 h1, k.some h.c3 h1, k.some h.c4 h1, fun i => k.soft (lt_of_cell h.c0) (h.f i), own_but h.own k h2⟩
def nextL (n : Nat) (f : Nat → Int) (t : Twr) (i : Int) (k : Nat) : List Int := (List.range k).map fun (l : Nat) => hw n f (nextI t i l)
theorem nextL_succ (n : Nat) (f : Nat → Int) (t : Twr) (i : Int) (k : Nat) : nextL n f t i (k + 1) = nextL n f t i k ++ [hw n f (nextI t i k)] := by simp [nextL, List.range_succ]
theorem nextL_len (n : Nat) (f : Nat → Int) (t : Twr) (i : Int) (k : Nat) : (nextL n f t i k).length = k := by simp [nextL]
def NLoop (wc : World) (nb : Nat) (q0 q1 q2 q3 : Int) (n : Nat) (f : Nat → Int) (t : Twr) (i : Int) (m : Nat) (x _y : Value) (wr : World) : Prop :=
  ∃ k : Nat, k ≤ m ∧ x = .int .i64 k ∧ ∃ u, NB wr nb wc.heap.size q0 q1 q2 q3 (nextL n f t i k) u ∧ But (fun j => j = nb) wc wr
def NodePost (n : Nat) (f : Nat → Int) (t : Twr) (i : Int) (w : World) (e : Ending) (w' : World) : Prop :=
  ∃ a c, e = .returned (.tuple #[.agg #[.int .u64 (hw n f (atI t i 0)), .int .u64 (hw n f (atI t i 1)), .int .u64 (hw n f (atI t i 2)), .int .u64 (hw n f (atI t i 3)), .slice a t.G.toNat c], .bool true]) ∧ Kept w w' ∧ w'.ownsRow w.heap.size 44 1 (.slice a t.G.toNat c) t.G.toNat (words (nextL n f t i t.G.toNat))
set_option maxHeartbeats 4000000 in
theorem node_yes (t : Twr) (hS : t.Sound) (i : Int) (hi : 0 ≤ i ∧ i < t.A.F.N) (mv : Value) (n : Nat) (f : Nat → Int) (hn : n ≤ 100000) (w : World) (hg : GivesWords mv n f w) : Calls Tryz.prog 45 #[towV t, .int .i64 i, mv] w (NodePost n f t i w) := by
  have G1 := hS.G1
  have G2 := hS.G2
  have SY := fun W => Lib.hid (sound_in t hS W)
  have NY := fun W => Lib.hid (isNode_yes t i hi.1 hi.2 W)
  have LK : ∀ W, Kept w W → Hid (Calls Tryz.prog 104 #[towV t, mv] W fun e w' => ∃ v, e = .returned (viewV t v) ∧ Wds w' v n f ∧ (∀ g, v.ownBlock = some g → W.heap.size ≤ g) ∧ Kept W w') := fun W k => Lib.hid (look_any t mv n f W (hg.kept k))
  clear hS hg hi
  go_enter Tryz.func45, Tryz.ntmps45
  go_wp2_with fail
  refine (SY _).out.mono ?_
  rintro e w1 ⟨rfl, k1⟩
  obtain ⟨a0, a1, a2, a3, a4, a5, a6, a7, a8, a9, a10, a11, a12⟩ := TB.kept (TB.kept (TB.new w w.heap.size 31 rfl t) ((Kept.refl _).alloc #[.int .u64 0, .int .u64 0, .int .u64 0, .int .u64 0, .slice none 0 0] 82)) k1
  have RB : NB w1 (w.heap.size + 1) 0 0 0 0 0 [] (.slice none 0 0) := NB.kept ⟨cell_new _ _ _ _ 0 (by simp), cell_new _ _ _ _ 1 (by simp), cell_new _ _ _ _ 2 (by simp), cell_new _ _ _ _ 3 (by simp), cell_new _ _ _ _ 4 (by simp), fun i => by simp, World.ownsRow_nil _ _ _ _⟩ k1
  have K1 : Hid (Kept w w1) := Lib.hid ((((Kept.refl w).alloc _ _).alloc _ _).trans k1)
  have RH := Lib.hid RB
  clear k1 RB
  go_wp2_with fail
  refine (NY _).out.mono ?_
  rintro e w2 ⟨rfl, k2⟩
  obtain ⟨a0, a1, a2, a3, a4, a5, a6, a7, a8, a9, a10, a11, a12⟩ := TB.kept ⟨a0, a1, a2, a3, a4, a5, a6, a7, a8, a9, a10, a11, a12⟩ k2
  have RH := Lib.hid (RH.out.kept k2)
  have K2 := Lib.hid (K1.out.trans k2)
  clear k2 K1
  go_wp2_with fail
  refine (LK _ K2.out).out.mono ?_
  rintro e w3 ⟨v, rfl, wv, fv, k3⟩
  obtain ⟨av, cv, rfl⟩ := wv.form
  obtain ⟨a0, a1, a2, a3, a4, a5, a6, a7, a8, a9, a10, a11, a12⟩ := TB.kept ⟨a0, a1, a2, a3, a4, a5, a6, a7, a8, a9, a10, a11, a12⟩ k3
  have RH := Lib.hid (RH.out.kept k3)
  have K3 := Lib.hid (K2.out.trans k3)
  have WV := Lib.hid wv
  have FV := Lib.hid fv
  have GL0 : Hid (∀ g, (Value.slice av n cv).ownBlock = some g → g < w3.heap.size) := Lib.hid (fun g hg => wv.lt g hg)
  have lz := lt_of_cell a0
  have lr := lt_of_cell RH.out.c0
  clear k3 wv fv K2
  go_wp2_with fail
  obtain ⟨W4, hW4⟩ : ∃ W4, W4 = w3.alloc (.cells #[.int .i64 t.D, .int .i64 t.H, .int .i64 t.G, .int .i64 t.A.F.T, .int .i64 t.A.F.K, .int .i64 t.A.F.N, .int .i64 t.A.G, .int .i64 t.A.V, .int .i64 t.A.L, .int .i64 t.E.T, .int .i64 t.E.K, .int .i64 t.E.N, .int .i64 t.P, .slice av n cv] 176) := ⟨_, rfl⟩
  have V4 : VB W4 w3.heap.size t (.slice av n cv) := by rw [hW4]; exact VB.new w3 _ _ rfl t _
  have k34 : Kept w3 W4 := by rw [hW4]; exact (Kept.refl _).alloc _ _
  have T4 : TB W4 w.heap.size t := TB.kept ⟨a0, a1, a2, a3, a4, a5, a6, a7, a8, a9, a10, a11, a12⟩ k34
  have RH := Lib.hid (RH.out.kept k34)
  have K4 := Lib.hid (K3.out.trans k34)
  have WV := Lib.hid (WV.out.kept k34)
  have z4 : w3.heap.size + 1 = W4.heap.size := by rw [hW4]; simp
  rw [← hW4]
  clear hW4 k34 K3 a0 a1 a2 a3 a4 a5 a6 a7 a8 a9 a10 a11 a12
  have VH := Lib.hid V4
  have TH := Lib.hid T4
  obtain ⟨⟨v0, v1, v2, v3, v4, v5, v6, v7, v8, v9, v10, v11, v12⟩, v13⟩ := V4
  have P0 : ∀ W, Kept W4 W → Hid (Calls Tryz.prog 110 #[viewV t (.slice av n cv), .int .i64 i, .int .i64 0] W fun e w' => e = .returned (.int .u64 (hw n f (atI t i 0))) ∧ Kept W w') := fun W k => Lib.hid (vpart_any t (WV.out.kept k) hn i 0 (by unfold I64; omega))
  have P1 : ∀ W, Kept W4 W → Hid (Calls Tryz.prog 110 #[viewV t (.slice av n cv), .int .i64 i, .int .i64 1] W fun e w' => e = .returned (.int .u64 (hw n f (atI t i 1))) ∧ Kept W w') := fun W k => Lib.hid (vpart_any t (WV.out.kept k) hn i 1 (by unfold I64; omega))
  have P2 : ∀ W, Kept W4 W → Hid (Calls Tryz.prog 110 #[viewV t (.slice av n cv), .int .i64 i, .int .i64 2] W fun e w' => e = .returned (.int .u64 (hw n f (atI t i 2))) ∧ Kept W w') := fun W k => Lib.hid (vpart_any t (WV.out.kept k) hn i 2 (by unfold I64; omega))
  have P3 : ∀ W, Kept W4 W → Hid (Calls Tryz.prog 110 #[viewV t (.slice av n cv), .int .i64 i, .int .i64 3] W fun e w' => e = .returned (.int .u64 (hw n f (atI t i 3))) ∧ Kept W w') := fun W k => Lib.hid (vpart_any t (WV.out.kept k) hn i 3 (by unfold I64; omega))
  have KT : Kept W4 W4 := Kept.refl _
  obtain ⟨q0, hq0⟩ : ∃ q, q = hw n f (atI t i 0) := ⟨_, rfl⟩
  simp only [← hq0] at P0
  have Q0 := Lib.hid hq0
  clear hq0
  obtain ⟨q1, hq1⟩ : ∃ q, q = hw n f (atI t i 1) := ⟨_, rfl⟩
  simp only [← hq1] at P1
  have Q1 := Lib.hid hq1
  clear hq1
  obtain ⟨q2, hq2⟩ : ∃ q, q = hw n f (atI t i 2) := ⟨_, rfl⟩
  simp only [← hq2] at P2
  have Q2 := Lib.hid hq2
  clear hq2
  obtain ⟨q3, hq3⟩ : ∃ q, q = hw n f (atI t i 3) := ⟨_, rfl⟩
  simp only [← hq3] at P3
  have Q3 := Lib.hid hq3
  clear hq3
  go_cut [9] (NodeCut W4 0 q0 q1 q2 q3)
  case first =>
   go_region_held3 (fun w' => w'.cell? ⟨w3.heap.size, 0, none⟩ = some (.int .i64 t.D) ∧ w'.cell? ⟨w3.heap.size, 1, none⟩ = some (.int .i64 t.H) ∧ w'.cell? ⟨w3.heap.size, 2, none⟩ = some (.int .i64 t.G) ∧ w'.cell? ⟨w3.heap.size, 3, none⟩ = some (.int .i64 t.A.F.T) ∧ w'.cell? ⟨w3.heap.size, 4, none⟩ = some (.int .i64 t.A.F.K) ∧ w'.cell? ⟨w3.heap.size, 5, none⟩ = some (.int .i64 t.A.F.N) ∧ w'.cell? ⟨w3.heap.size, 6, none⟩ = some (.int .i64 t.A.G) ∧ w'.cell? ⟨w3.heap.size, 7, none⟩ = some (.int .i64 t.A.V) ∧ w'.cell? ⟨w3.heap.size, 8, none⟩ = some (.int .i64 t.A.L) ∧ w'.cell? ⟨w3.heap.size, 9, none⟩ = some (.int .i64 t.E.T) ∧ w'.cell? ⟨w3.heap.size, 10, none⟩ = some (.int .i64 t.E.K) ∧ w'.cell? ⟨w3.heap.size, 11, none⟩ = some (.int .i64 t.E.N) ∧ w'.cell? ⟨w3.heap.size, 12, none⟩ = some (.int .i64 t.P) ∧ w'.cell? ⟨w3.heap.size, 13, none⟩ = some (.slice av n cv)) (first | with_reducible exact vb_all (VH.out.kept KT) | with_reducible exact vb_all (VH.out.kept KT.drew) | with_reducible exact vb_all (VH.out.kept (KT.alloc _ _)) | with_reducible exact vb_all (VH.out.kept ((KT.alloc _ _).drew)) | with_reducible exact vb_all (VH.out.kept ((KT.drew.alloc _ _))) | exact vb_all ((VH.out.kept KT).but ((((((But.refl _ _).here _ _).here _ _).here _ _).here _ _).here _ _) (by omega))) (first
    | (go_at_call 110; (with_reducible refine Calls.mono (P0 _ (by repeat (first | with_reducible exact KT | with_reducible exact Kept.refl _ | with_reducible refine Kept.alloc ?_ _ _ | with_reducible refine Kept.drew ?_))).out ?_); rintro e x0 ⟨rfl, y0⟩; have KT : Kept W4 x0 := Kept.trans (by repeat (first | with_reducible exact KT | with_reducible exact Kept.refl _ | with_reducible refine Kept.alloc ?_ _ _ | with_reducible refine Kept.drew ?_)) y0; have sz := KT.size; (first | (have BX := Lib.hid (BX.out.kept y0); obtain ⟨z0, z1, z2, z3, z4, zf⟩ := BX.out.zero) | (have BX := Lib.hid (nbox y0 0); obtain ⟨z0, z1, z2, z3, z4, zf⟩ := BX.out.zero) | (have BX := Lib.hid (nboxd y0 0); obtain ⟨z0, z1, z2, z3, z4, zf⟩ := BX.out.zero) | skip))
    | (go_at_call 110; (with_reducible refine Calls.mono (P1 _ (by repeat (first | with_reducible exact KT | with_reducible exact Kept.refl _ | with_reducible refine Kept.alloc ?_ _ _ | with_reducible refine Kept.drew ?_))).out ?_); rintro e x1 ⟨rfl, y1⟩; have KT : Kept W4 x1 := Kept.trans (by repeat (first | with_reducible exact KT | with_reducible exact Kept.refl _ | with_reducible refine Kept.alloc ?_ _ _ | with_reducible refine Kept.drew ?_)) y1; have sz := KT.size; (first | (have BX := Lib.hid (BX.out.kept y1); obtain ⟨z0, z1, z2, z3, z4, zf⟩ := BX.out.zero) | (have BX := Lib.hid (nbox y1 0); obtain ⟨z0, z1, z2, z3, z4, zf⟩ := BX.out.zero) | (have BX := Lib.hid (nboxd y1 0); obtain ⟨z0, z1, z2, z3, z4, zf⟩ := BX.out.zero) | skip))
    | (go_at_call 110; (with_reducible refine Calls.mono (P2 _ (by repeat (first | with_reducible exact KT | with_reducible exact Kept.refl _ | with_reducible refine Kept.alloc ?_ _ _ | with_reducible refine Kept.drew ?_))).out ?_); rintro e x2 ⟨rfl, y2⟩; have KT : Kept W4 x2 := Kept.trans (by repeat (first | with_reducible exact KT | with_reducible exact Kept.refl _ | with_reducible refine Kept.alloc ?_ _ _ | with_reducible refine Kept.drew ?_)) y2; have sz := KT.size; (first | (have BX := Lib.hid (BX.out.kept y2); obtain ⟨z0, z1, z2, z3, z4, zf⟩ := BX.out.zero) | (have BX := Lib.hid (nbox y2 0); obtain ⟨z0, z1, z2, z3, z4, zf⟩ := BX.out.zero) | (have BX := Lib.hid (nboxd y2 0); obtain ⟨z0, z1, z2, z3, z4, zf⟩ := BX.out.zero) | skip))
    | (go_at_call 110; (with_reducible refine Calls.mono (P3 _ (by repeat (first | with_reducible exact KT | with_reducible exact Kept.refl _ | with_reducible refine Kept.alloc ?_ _ _ | with_reducible refine Kept.drew ?_))).out ?_); rintro e x3 ⟨rfl, y3⟩; have KT : Kept W4 x3 := Kept.trans (by repeat (first | with_reducible exact KT | with_reducible exact Kept.refl _ | with_reducible refine Kept.alloc ?_ _ _ | with_reducible refine Kept.drew ?_)) y3; have sz := KT.size; (first | (have BX := Lib.hid (BX.out.kept y3); obtain ⟨z0, z1, z2, z3, z4, zf⟩ := BX.out.zero) | (have BX := Lib.hid (nbox y3 0); obtain ⟨z0, z1, z2, z3, z4, zf⟩ := BX.out.zero) | (have BX := Lib.hid (nboxd y3 0); obtain ⟨z0, z1, z2, z3, z4, zf⟩ := BX.out.zero) | skip)))
   all_goals
     go_wp2
     go_meet
     case rel => first | exact ⟨_, rfl, NB.new x3 _ _ _ rfl _ _ _ _, KT.alloc _ _, sz, by simp⟩ | exact nodecut_of BX KT (by omega) rfl
  case rest =>
    obtain ⟨nb, rfl, N0, kc, l1, l2⟩ := hcut
    have TC := Lib.hid (TH.out.kept kc)
    have tg := TC.out.c2
    have NC : Hid (NB wc nb wc.heap.size q0 q1 q2 q3 (nextL n f t i 0) (.slice none 0 0)) := Lib.hid ⟨N0.c0, N0.c1, N0.c2, N0.c3, N0.c4, N0.f, World.ownsRow_nil _ _ _ _⟩
    have VC := Lib.hid (VH.out.kept kc)
    have WC := Lib.hid (WV.out.kept kc)
    have RC := Lib.hid (RH.out.kept kc)
    have KC := Lib.hid (K4.out.trans kc)
    have ltg := lt_of_cell tg
    obtain ⟨m, hmm⟩ : ∃ m : Nat, (m : Int) = t.G := ⟨t.G.toNat, by omega⟩
    have HMM := Lib.hid hmm
    clear N0 v0 v1 v2 v3 v4 v5 v6 v7 v8 v9 v10 v11 v12 v13 kc P0 P1 P2 P3 LK SY NY KT hmm
    go_wp2_with fail
    go_loopw [39, 10] (NLoop wc nb q0 q1 q2 q3 n f t i m) (fun i _ _ => m - (intOf i).toNat)
    case atStart => exact ⟨0, Nat.zero_le _, rfl, _, NC.out, But.refl _ _⟩
    case round =>
      obtain ⟨k, hk, rfl, u, nr, br⟩ := hrel
      have nV : ¬ w3.heap.size = nb := by omega
      have nT : ¬ w.heap.size = nb := by omega
      have nR : ¬ w.heap.size + 1 = nb := by omega
      have VR := Lib.hid (VC.out.but br nV)
      have TR := Lib.hid (TC.out.but br nT)
      have RR := Lib.hid (RC.out.but br nR (fun g hg => by simp [Value.ownBlock] at hg))
      have WR : Hid (Wds wr (.slice av n cv) n f) := Lib.hid (WC.out.but br (fun g hg e => by have e : g = nb := e; have := GL0.out g hg; omega))
      have hmm := HMM.out
      have BR := Lib.hid br
      have NR := Lib.hid nr
      have OW := nr.own
      rw [nextL_len] at OW
      obtain ⟨au, cu, rfl⟩ := own_form OW
      have hNr : wc.heap.size ≤ wr.heap.size := BR.out.size
      clear br tg OW nr
      by_cases hlt : k < m
      · have hl : (k : Int) < t.G := by omega
        have NX : ∀ W, Kept wr W → Hid (Calls Tryz.prog 107 #[viewV t (.slice av n cv), .int .i64 i, .int .i64 k] W fun e w' => e = .returned (.int .u64 (hw n f (nextI t i k))) ∧ Kept W w') := fun W kk => Lib.hid (vnext_any t (WR.out.kept kk) hn i k (by unfold I64; omega))
        have APP := Lib.hid (fun W5 (kk : Kept wr W5) => word_append (W5 := W5) NR.out.own kk hNr (by rw [nextL_len]; omega) (hw n f (nextI t i k)))
        rw [nextL_len] at APP
        have LS := Lib.hid (nextL_succ n f t i k)
        generalize hw n f (nextI t i k) = q at *
        have n4 := NR.out.c4
        have nf := NR.out.f
        have ln := lt_of_cell n4
        obtain ⟨⟨v0, v1, v2, v3, v4, v5, v6, v7, v8, v9, v10, v11, v12⟩, v13⟩ := VR.out
        have KT : Kept wr wr := Kept.refl _
        clear hmm
        go_wp2_with fail
        go_region_law (first | (go_simp; go_at_call 107; refine ((NX _ (by first | exact KT | exact KT.drew | exact KT.drewN _)).out).mono ?_; rintro e y ⟨rfl, ky⟩; have KT : Kept wr y := Kept.trans (b := _) (by first | exact KT | exact KT.drew | exact KT.drewN _) ky; obtain ⟨a', c', w7, hrun, own7, but7⟩ := APP.out y KT; have n4 := KT.some NR.out.c4; have nf : (∀ i, y.frozen? ⟨nb, i, none⟩ = false) := (fun i => KT.soft ln (NR.out.f i)); have ly := KT.size; have lny : nb < y.heap.size := (by omega); have n7 := but7.some NR.out.c4 (fun e => by have := (NR.out.own.lt nb e).1; omega); have f7 : (∀ i, w7.frozen? ⟨nb, i, none⟩ = false) := (fun i => but7.soft ln (NR.out.f i)); obtain ⟨⟨v0, v1, v2, v3, v4, v5, v6, v7, v8, v9, v10, v11, v12⟩, v13⟩ := VR.out.kept KT))
        all_goals
          go_wp2
          obtain ⟨NF, BF⟩ := NB.put NR.out l2 but7 own7 rfl
          rw [← LS.out] at NF
          refine ⟨⟨k + 1, by omega, by go_num, _, NF, BR.out.trans BF (fun j hj e => e.elim id (fun e => by have := (NR.out.own.lt j e).1; omega))⟩, ?_⟩
          simp [intOf]
          omega
      · have hl : t.G ≤ (k : Int) := by omega
        have hkm : k = t.G.toNat := by omega
        have HKM := Lib.hid hkm
        obtain ⟨n0, n1, n2, n3, n4, nf, _⟩ := NR.out
        obtain ⟨r0, r1, r2, r3, r4, rf, _⟩ := RR.out
        clear hmm hkm
        go_wp2
        obtain ⟨W9, hW9⟩ : ∃ W9, W9 = (((((wr.setCell ⟨w.heap.size + 1, 0, none⟩ (.int .u64 q0)).setCell ⟨w.heap.size + 1, 1, none⟩ (.int .u64 q1)).setCell ⟨w.heap.size + 1, 2, none⟩ (.int .u64 q2)).setCell ⟨w.heap.size + 1, 3, none⟩ (.int .u64 q3)).setCell ⟨w.heap.size + 1, 4, none⟩ (.slice au k cu)) := ⟨_, rfl⟩
        obtain ⟨⟨e0, e1, e2, e3, e4⟩, b9⟩ := NB.tell RR.out hW9
        rw [← hW9]
        have OW := NR.out.own
        rw [nextL_len] at OW
        have kk : But (fun j => j = w.heap.size + 1 ∨ j = nb) w W9 := ((KC.out.but _).trans BR.out (fun _ _ h => .inr h)).trans b9 (fun _ _ h => .inl h)
        have KW : Kept w W9 := kk.kept (fun j hj e => by have := KC.out.size; omega)
        refine bodyPost_ret (v := .tuple #[.agg #[.int .u64 q0, .int .u64 q1, .int .u64 q2, .int .u64 q3, .slice au k cu], .bool true]) (by simp [results, Tryz.results45, go_sem, e0, e1, e2, e3, e4]) rfl ?_
        unfold NodePost
        rw [← HKM.out, ← Q0.out, ← Q1.out, ← Q2.out, ← Q3.out]
        exact ⟨au, cu, rfl, KW, own_mono (own_but OW b9 (fun g hg e => by have e : g = w.heap.size + 1 := e; have := (OW.lt g hg).1; omega)) (by have := KC.out.size; omega)⟩
end Go.Proofs.YtejiogggocnldaaGreat.Tw
