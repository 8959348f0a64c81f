/- Node: what is in a node's cells. Written by gen15i.py. -/
import Derived.Test.YtejiogggocnldaaG17
import Derived.Test.YtejiogggocnldaaG15
import Derived.Laws.OwnMore
import Derived.Deep.DeepCutAuto
import Derived.Deep.RegionHeld3
import Derived.Test.YtejiogggocnldaaProg
import Derived.Test.YtejiogggocnldaaG00
import Derived.WalkLawsBesides
import Derived.Deep.AppendSrc
import Derived.ChangeSlices
import Derived.WalkKit
import Derived.ProofKit
import Derived.Lib.Hide
import Derived.Deep.QuietTactic
import Derived.BigQuiet
import Derived.OwnWalk
import Derived.LoopN
set_option linter.unusedVariables false
set_option linter.unusedSimpArgs false

namespace Go.Proofs.Ytejiogggocnldaa.Tw
set_option maxRecDepth 20000
open Go.RowKit Go.Shelf
open Wo (St acc wordAt PMem RefIs)
open Sk (Stk Arn idx Wd pmem_kept p_words Blk)

def appSem (ts : Array TypeId) (ty : TypeId) (args : Array Value) : Sem Value := Builtin.append_ ts ty args
theorem app_named (ts : Array TypeId) (ty : TypeId) (args : Array Value) : Builtin.append_ ts ty args = appSem ts ty args := rfl
attribute [local go_sem ↓] app_named
theorem infoW : (Try.prog.info? 52).map (fun i => (i.zero, i.size, i.bytes)) = some (some (.int .u64 0), 1, 8) := by kernel_rfl
def words (l : List Int) : List Value := l.map (Value.int .u64)
theorem words_append (l m : List Int) : words (l ++ m) = words l ++ words m := by simp [words]
theorem own_keep {w w' : World} {base : Nat} {e : TypeId} {size : Nat} {v : Value} {n : Nat} {xs : List Value} (h : w.ownsRow base e size v n xs) (k : Kept w w') : w'.ownsRow base e size v n xs := own_same h (fun g hg => k.below.block g (h.lt g hg).2)
theorem own_but {w w' : World} {base : Nat} {e : TypeId} {size : Nat} {v : Value} {n : Nat} {xs : List Value} (h : w.ownsRow base e size v n xs) {T : Nat → Prop} (b : But T w w') (hT : ∀ g, v.ownBlock = some g → ¬ T g) : w'.ownsRow base e size v n xs :=
  own_same h fun g hg => b.block g (h.lt g hg).2 (hT g hg)
theorem lay_new {w : World} {g : Nat} {xs : List Value} {n : Nat} {t : TypeId} {fr : Nat × Nat} (h : w.heap[g]? = some (.cells xs.toArray t fr)) (hn : n ≤ 100000) : Lay w (.slice (some ⟨g, 0, none⟩) n n) n xs :=
  .inl (.inr ⟨g, 0, n, rfl, Nat.le_refl _, by unfold maxLen; omega, fun j u hu => by
    have := World.news_of_block h j u (by simpa using hu)
    rwa [add_none] at this⟩)
theorem word_append {W W5 : World} {N : Nat} {v : Value} {l : List Int} (hrow : W.ownsRow N 52 1 v l.length (words l)) (k : Kept W W5) (hN : N ≤ W.heap.size) (hl : l.length ≤ 5000) (x : Int) :
    ∃ a c w1, (appSem #[66, 66] 66 #[v, .slice (some ⟨W5.heap.size, 0, none⟩) 1 1]).run Try.prog (W5.alloc (.cells #[.int .u64 x] 52)) = .ok (.slice a (l.length + 1) c) w1 ∧
      w1.ownsRow N 52 1 (.slice a (l.length + 1) c) (l ++ [x]).length (words (l ++ [x])) ∧ But (fun j => v.ownBlock = some j) W w1 := by
  obtain ⟨i0, hi, hz0, hz1, hz2⟩ := info_parts infoW
  have kA : Kept W (W5.alloc (.cells #[.int .u64 x] 52)) := k.alloc _ _
  obtain ⟨a, c, w1, hr, own, but, at_⟩ := append_lay (P := Try.prog) (W5.alloc (.cells #[.int .u64 x] 52)) N 66 66 52 i0 _ 1 8 Try.underlying66 hi hz0 hz1 hz2 (by rfl) (by decide) v l.length (words l) (own_keep hrow kA) (.slice (some ⟨W5.heap.size, 0, none⟩) 1 1) 1 [.int .u64 x]
    rfl (lay_new (heap_alloc_new _ _) (by omega)) (by simp [Value.oneCell']) (by unfold maxLen; omega) (by omega) (by have := k.size; simp; omega)
  rw [app_named] at hr
  refine ⟨a, c, w1, hr, ?_, (kA.but _).trans but (fun _ _ h => h)⟩
  rw [List.length_append, words_append]
  exact own
theorem Wds.lt {w : World} {v : Value} {n : Nat} {f : Nat → Int} (h : Wds w v n f) (g : Nat) (hg : v.ownBlock = some g) : g < w.heap.size := by
  rcases h with ⟨_, rfl⟩ | ⟨b, c, rfl, h2, _⟩
  · simp [Value.ownBlock] at hg
  · have : b = g := by simpa [Value.ownBlock] using hg
    omega
structure NB (w : World) (nb base : Nat) (q0 q1 q2 q3 : Int) (l : List Int) (u : Value) : Prop where
  c0 : w.cell? ⟨nb, 0, none⟩ = some (.int .u64 q0)
  c1 : w.cell? ⟨nb, 1, none⟩ = some (.int .u64 q1)
  c2 : w.cell? ⟨nb, 2, none⟩ = some (.int .u64 q2)
  c3 : w.cell? ⟨nb, 3, none⟩ = some (.int .u64 q3)
  c4 : w.cell? ⟨nb, 4, none⟩ = some u
  f : ∀ i, w.frozen? ⟨nb, i, none⟩ = false
  own : w.ownsRow base 52 1 u l.length (words l)
theorem NB.kept {w w' : World} {nb base : Nat} {q0 q1 q2 q3 : Int} {l : List Int} {u : Value} (h : NB w nb base q0 q1 q2 q3 l u) (k : Kept w w') : NB w' nb base q0 q1 q2 q3 l u :=
  ⟨k.some h.c0, k.some h.c1, k.some h.c2, k.some h.c3, k.some h.c4, fun i => k.soft (lt_of_cell h.c0) (h.f i), own_keep h.own k⟩
theorem NB.put {w w1 W : World} {nb base : Nat} {q0 q1 q2 q3 : Int} {l l' : List Int} {u u' : Value} (h : NB w nb base q0 q1 q2 q3 l u) (hb : nb < base) (b : But (fun j => u.ownBlock = some j) w w1) (own : w1.ownsRow base 52 1 u' l'.length (words l')) (e : W = w1.setCell ⟨nb, 4, none⟩ u') :
    NB W nb base q0 q1 q2 q3 l' u' ∧ But (fun j => j = nb ∨ u.ownBlock = some j) w W := by
  have hn : ¬ u.ownBlock = some nb := fun e => by have := (h.own.lt nb e).1; omega
  have bn : But (fun j => j = nb) w1 W := by rw [e]; exact (But.refl _ _).here _ _
  have bb : But (fun j => j = nb ∨ u.ownBlock = some j) w W := (b.mono (fun _ _ h => .inr h)).trans bn (fun _ _ h => .inl h)
  subst e
  refine ⟨⟨?_, ?_, ?_, ?_, ?_, fun i => bb.soft (lt_of_cell h.c0) (h.f i), own_but own bn (fun g hg e => by have e : g = nb := e; have := (own.lt g hg).1; omega)⟩, bb⟩
  · rw [cell_set, if_neg (by decide)]; exact b.some h.c0 hn
  · rw [cell_set, if_neg (by decide)]; exact b.some h.c1 hn
  · rw [cell_set, if_neg (by decide)]; exact b.some h.c2 hn
  · rw [cell_set, if_neg (by decide)]; exact b.some h.c3 hn
  · rw [cell_set, if_pos rfl, b.some h.c4 hn]; rfl
theorem NB.new (w : World) (nb base : Nat) (ty : TypeId) (hb : nb = w.heap.size) (q0 q1 q2 q3 : Int) : NB (w.alloc (.cells #[.int .u64 q0, .int .u64 q1, .int .u64 q2, .int .u64 q3, .slice none 0 0] ty)) nb base q0 q1 q2 q3 [] (.slice none 0 0) :=
  ⟨cell_new _ _ _ _ 0 hb, cell_new _ _ _ _ 1 hb, cell_new _ _ _ _ 2 hb, cell_new _ _ _ _ 3 hb, cell_new _ _ _ _ 4 hb, fun i => by subst hb; simp, World.ownsRow_nil _ _ _ _⟩
theorem nbox {W v : World} {t : TypeId} (k : Kept (W.alloc (.cells #[.int .u64 0, .int .u64 0, .int .u64 0, .int .u64 0, .slice none 0 0] t)) v) (base : Nat) : NB v W.heap.size base 0 0 0 0 [] (.slice none 0 0) := (NB.new W _ base t rfl 0 0 0 0).kept k
theorem nboxd {W v : World} {t : TypeId} (k : Kept (W.alloc (.cells #[.int .u64 0, .int .u64 0, .int .u64 0, .int .u64 0, .slice none 0 0] t)).drew v) (base : Nat) : NB v W.heap.size base 0 0 0 0 [] (.slice none 0 0) := ((NB.new W _ base t rfl 0 0 0 0).kept (Kept.refl _).drew).kept k
theorem NB.zero {W : World} {b base : Nat} (h : NB W b base 0 0 0 0 [] (.slice none 0 0)) : W.cell? ⟨b, 0, none⟩ = some (.int .u64 0) ∧ W.cell? ⟨b, 1, none⟩ = some (.int .u64 0) ∧ W.cell? ⟨b, 2, none⟩ = some (.int .u64 0) ∧ W.cell? ⟨b, 3, none⟩ = some (.int .u64 0) ∧ W.cell? ⟨b, 4, none⟩ = some (.slice none 0 0) ∧ ∀ i, W.frozen? ⟨b, i, none⟩ = false :=
  ⟨h.c0, h.c1, h.c2, h.c3, h.c4, h.f⟩
theorem NB.fill {W v : World} {b base : Nat} (h : NB W b base 0 0 0 0 [] (.slice none 0 0)) (hb : b < base) {q0 q1 q2 q3 : Int} (e : v = (((((W.setCell ⟨b, 0, none⟩ (.int .u64 q0)).setCell ⟨b, 1, none⟩ (.int .u64 q1)).setCell ⟨b, 2, none⟩ (.int .u64 q2)).setCell ⟨b, 3, none⟩ (.int .u64 q3)).setCell ⟨b, 4, none⟩ (.slice none 0 0))) :
    NB v b base q0 q1 q2 q3 [] (.slice none 0 0) ∧ But (fun k => k = b) W v := by
  have bb : But (fun k => k = b) W v := by rw [e]; exact ((((((But.refl _ _).here _ _).here _ _).here _ _).here _ _).here _ _)
  subst e
  exact ⟨⟨by simp [cell_set, h.c0], by simp [cell_set, h.c1], by simp [cell_set, h.c2], by simp [cell_set, h.c3], by simp [cell_set, h.c4], fun i => bb.soft (lt_of_cell h.c0) (h.f i), World.ownsRow_nil _ _ _ _⟩, bb⟩
theorem vb_all {W : World} {t : Twr} {b : Nat} {v : Value} (h : VB W b t v) : W.cell? ⟨b, 0, none⟩ = some (.int .i64 t.D) ∧ W.cell? ⟨b, 1, none⟩ = some (.int .i64 t.H) ∧ W.cell? ⟨b, 2, none⟩ = some (.int .i64 t.G) ∧ W.cell? ⟨b, 3, none⟩ = some (.int .i64 t.A.F.T) ∧ W.cell? ⟨b, 4, none⟩ = some (.int .i64 t.A.F.K) ∧ W.cell? ⟨b, 5, none⟩ = some (.int .i64 t.A.F.N) ∧ W.cell? ⟨b, 6, none⟩ = some (.int .i64 t.A.G) ∧ W.cell? ⟨b, 7, none⟩ = some (.int .i64 t.A.V) ∧ W.cell? ⟨b, 8, none⟩ = some (.int .i64 t.A.L) ∧ W.cell? ⟨b, 9, none⟩ = some (.int .i64 t.E.T) ∧ W.cell? ⟨b, 10, none⟩ = some (.int .i64 t.E.K) ∧ W.cell? ⟨b, 11, none⟩ = some (.int .i64 t.E.N) ∧ W.cell? ⟨b, 12, none⟩ = some (.int .i64 t.P) ∧ W.cell? ⟨b, 13, none⟩ = some v := ⟨h.t.c0, h.t.c1, h.t.c2, h.t.c3, h.t.c4, h.t.c5, h.t.c6, h.t.c7, h.t.c8, h.t.c9, h.t.c10, h.t.c11, h.t.c12, h.v⟩
def NodeCut (W4 : World) (base : Nat) (q0 q1 q2 q3 : Int) (g : Value) (wx : World) : Prop := ∃ nb, g = .pointer (some ⟨nb, 0, none⟩) ∧ NB wx nb (nb + 1) q0 q1 q2 q3 [] (.slice none 0 0) ∧ Kept W4 wx ∧ W4.heap.size ≤ nb ∧ nb < wx.heap.size
theorem nodecut_of {W4 x3 v : World} {nb base : Nat} {q0 q1 q2 q3 : Int} (h : Hid (NB x3 nb base 0 0 0 0 [] (.slice none 0 0))) (k : Kept W4 x3) (hs : W4.heap.size ≤ nb) (e : v = (((((x3.setCell ⟨nb, 0, none⟩ (.int .u64 q0)).setCell ⟨nb, 1, none⟩ (.int .u64 q1)).setCell ⟨nb, 2, none⟩ (.int .u64 q2)).setCell ⟨nb, 3, none⟩ (.int .u64 q3)).setCell ⟨nb, 4, none⟩ (.slice none 0 0))) : NodeCut W4 0 q0 q1 q2 q3 (.pointer (some ⟨nb, 0, none⟩)) v := by
  obtain ⟨h0, h1, h2, h3, h4, h5, _⟩ := h.out
  obtain ⟨f1, f2⟩ := NB.fill (base := nb + 1) ⟨h0, h1, h2, h3, h4, h5, World.ownsRow_nil _ _ _ _⟩ (Nat.lt_succ_self _) e
  exact ⟨nb, rfl, f1, ((k.but _).trans f2 (fun _ _ h => h)).kept (fun i hi e => by have e : i = nb := e; omega), hs, Nat.lt_of_lt_of_le (lt_of_cell h0) f2.size⟩
theorem NB.tell {W v : World} {b base : Nat} (h : NB W b base 0 0 0 0 [] (.slice none 0 0)) {q0 q1 q2 q3 : Int} {u : Value} (e : v = (((((W.setCell ⟨b, 0, none⟩ (.int .u64 q0)).setCell ⟨b, 1, none⟩ (.int .u64 q1)).setCell ⟨b, 2, none⟩ (.int .u64 q2)).setCell ⟨b, 3, none⟩ (.int .u64 q3)).setCell ⟨b, 4, none⟩ u)) :
    (v.cell? ⟨b, 0, none⟩ = some (.int .u64 q0) ∧ v.cell? ⟨b, 1, none⟩ = some (.int .u64 q1) ∧ v.cell? ⟨b, 2, none⟩ = some (.int .u64 q2) ∧ v.cell? ⟨b, 3, none⟩ = some (.int .u64 q3) ∧ v.cell? ⟨b, 4, none⟩ = some u) ∧ But (fun k => k = b) W v := by
  refine ⟨?_, by rw [e]; exact ((((((But.refl _ _).here _ _).here _ _).here _ _).here _ _).here _ _)⟩
  subst e
  exact ⟨by simp [cell_set, h.c0], by simp [cell_set, h.c1], by simp [cell_set, h.c2], by simp [cell_set, h.c3], by simp [cell_set, h.c4]⟩
theorem NB.but {w w' : World} {nb base : Nat} {q0 q1 q2 q3 : Int} {l : List Int} {u : Value} (h : NB w nb base q0 q1 q2 q3 l u) {T : Nat → Prop} (k : But T w w') (h1 : ¬ T nb) (h2 : ∀ g, u.ownBlock = some g → ¬ T g) : NB w' nb base q0 q1 q2 q3 l u :=
  ⟨k.some h.c0 h1, k.some h.c1 h1, k.some h.c2 h1, k.some h.c3 h1, k.some h.c4 h1, fun i => k.soft (lt_of_cell h.c0) (h.f i), own_but h.own k h2⟩
def nextL (n : Nat) (f : Nat → Int) (t : Twr) (i : Int) (k : Nat) : List Int := (List.range k).map fun (l : Nat) => hw n f (nextI t i l)
theorem nextL_succ (n : Nat) (f : Nat → Int) (t : Twr) (i : Int) (k : Nat) : nextL n f t i (k + 1) = nextL n f t i k ++ [hw n f (nextI t i k)] := by simp [nextL, List.range_succ]
theorem nextL_len (n : Nat) (f : Nat → Int) (t : Twr) (i : Int) (k : Nat) : (nextL n f t i k).length = k := by simp [nextL]
def NLoop (wc : World) (nb : Nat) (q0 q1 q2 q3 : Int) (n : Nat) (f : Nat → Int) (t : Twr) (i : Int) (m : Nat) (x _y : Value) (wr : World) : Prop :=
  ∃ k : Nat, k ≤ m ∧ x = .int .i64 k ∧ ∃ u, NB wr nb wc.heap.size q0 q1 q2 q3 (nextL n f t i k) u ∧ But (fun j => j = nb) wc wr
def NodePost (n : Nat) (f : Nat → Int) (t : Twr) (i : Int) (w : World) (e : Ending) (w' : World) : Prop :=
  ∃ a c, e = .returned (.tuple #[.agg #[.int .u64 (hw n f (atI t i 0)), .int .u64 (hw n f (atI t i 1)), .int .u64 (hw n f (atI t i 2)), .int .u64 (hw n f (atI t i 3)), .slice a t.G.toNat c], .bool true]) ∧ Kept w w' ∧ w'.ownsRow w.heap.size 52 1 (.slice a t.G.toNat c) t.G.toNat (words (nextL n f t i t.G.toNat))
end Go.Proofs.Ytejiogggocnldaa.Tw

namespace Go.Proofs.Ytejiogggocnldaa.Tw
set_option maxRecDepth 20000
open Go.RowKit
open Wo (St acc wordAt PMem RefIs)
open Sk (Stk Arn idx Wd p_store p_new pmem_lt pmem_kept pmem_frame kept_of)

theorem pmem_eq {w : World} {M B n : Nat} {s s' : St} (hm : PMem w M B n s) (h : ∀ i, i < n → s'.ws i = s.ws i) (h1 : s'.kind = s.kind) (h2 : s'.at_ = s.at_) (h3 : s'.old = s.old) (h4 : s'.new = s.new) (h5 : s'.held = s.held) (h6 : s'.cnt = s.cnt) : PMem w M B n s' :=
  ⟨hm.p, fun i hi => by obtain ⟨x, a, b⟩ := hm.words i hi; exact ⟨x, a, fun hin => (b hin).trans (h i hin).symm⟩, hm.size, by rw [h1]; exact hm.c0, by rw [h2]; exact hm.c1, by rw [h3]; exact hm.c2, by rw [h4]; exact hm.c3, by rw [h5]; exact hm.c4, by rw [h6]; exact hm.cnt, hm.fB, hm.ne, hm.hn⟩
def litS (s : St) (l : List Int) : St := ⟨fun i => l.getD i 0, s.kind, s.at_, s.old, s.new, s.held, s.cnt⟩
theorem listAt {f : Nat → Int} {l : List Int} {n : Nat} (h : (List.range n).map f = l) (i : Nat) (hi : i < n) : l.getD i 0 = f i := by
  subst h
  simp [hi]
theorem pmem_lit {w : World} {M B n : Nat} {s : St} {l : List Int} (hm : PMem w M B n s) (h : (List.range n).map s.ws = l) : PMem w M B n (litS s l) :=
  pmem_eq hm (fun i hi => listAt h i hi) rfl rfl rfl rfl rfl rfl
def T0 : Twr := ⟨16, 14, 2, ⟨⟨0, 1, 3⟩, 4, 7, 9⟩, ⟨8, 9, 2⟩, 11⟩
theorem sndT0 : T0.Sound := ⟨by decide, by decide, by decide, by decide, by decide, by decide, by decide, by decide⟩
theorem okT0 : LOk T0 34 := ⟨⟨⟨by decide, by decide, by decide, by decide, by decide, by decide, by decide, by decide, by decide⟩, by decide, by decide, by decide, by decide, by decide, by decide⟩, by decide, by decide, by decide, by decide, by decide, by decide⟩
structure In (w0 : World) (M B : Nat) (s : St) (w : World) : Prop where
  mem : PMem w M B 34 s
  kept : Kept w0 w
  lM : w0.heap.size ≤ M
  lB : w0.heap.size ≤ B
theorem In.grow {w0 w w' : World} {M B : Nat} {s : St} (h : In w0 M B s w) (k : Kept w w') : In w0 M B s w' := ⟨pmem_kept h.mem k, h.kept.trans k, h.lM, h.lB⟩
theorem In.put {w0 w w' : World} {M B P : Nat} {s s' : St} (h : In w0 M B s w) (m : PMem w' M B 34 s') (b : But (fun k => k = P ∨ k = B) w w') (hP : w0.heap.size ≤ P) : In w0 M B s' w' :=
  ⟨m, ((h.kept.but _).trans b (fun _ _ h => h)).kept (fun i hi e => by have := h.lB; rcases e with e | e <;> omega), h.lM, h.lB⟩
theorem In.lit {w0 w : World} {M B : Nat} {s : St} {l : List Int} (h : In w0 M B s w) (hl : (List.range 34).map s.ws = l) : In w0 M B (litS s l) w := ⟨pmem_lit h.mem hl, h.kept, h.lM, h.lB⟩
theorem eqn (M : Nat) (W : World) : (binOp .eql 32 (.pointer (some ⟨M, 0, none⟩)) (.pointer none)).run Try.prog W = .ok (.bool false) W := by kernel_rfl
def sF : St := litS (tfillSt 34 T0 Wo.St.zero) [1, 2, 3, 0, 1, 1, 1, 0, 0, 0, 0, 0, 0, 0, 0, 0, 0, 0, 0, 0, 0, 0, 0, 0, 0, 0, 0, 0, 0, 0, 0, 0, 0, 0]
theorem worF : (List.range 34).map (tfillSt 34 T0 Wo.St.zero).ws = [1, 2, 3, 0, 1, 1, 1, 0, 0, 0, 0, 0, 0, 0, 0, 0, 0, 0, 0, 0, 0, 0, 0, 0, 0, 0, 0, 0, 0, 0, 0, 0, 0, 0] := by decide +kernel
theorem cntF : sF.cnt = 16 := by decide +kernel
def lay0 : LOp := ⟨0, 65538, 1, 7, 5, 2, 14⟩
theorem newL0 : newL T0 65538 7 5 2 = lay0 := by
  have h : laidE T0 65538 5 2 = 0 := by decide +kernel
  have g : gri 65538 = 1 := by decide +kernel
  unfold newL
  rw [if_pos h, g]
  rfl
def lays : Nat → LOp
  | 0 => lay0
  | k + 1 => layOp (lays k)
def sLs : Nat → St
  | 0 => sF
  | k + 1 => laySt 34 T0 (sLs k) (lays k)
def sL : St := litS (sLs 4) [1, 2, 3, 0, 1, 1, 1, 0, 0, 0, 0, 0, 0, 0, 0, 0, 0, 0, 0, 0, 0, 0, 7, 5, 2, 2, 0, 0, 0, 0, 0, 0, 0, 0]
theorem worL : (List.range 34).map (sLs 4).ws = [1, 2, 3, 0, 1, 1, 1, 0, 0, 0, 0, 0, 0, 0, 0, 0, 0, 0, 0, 0, 0, 0, 7, 5, 2, 2, 0, 0, 0, 0, 0, 0, 0, 0] := by decide +kernel
theorem cntL : sL.cnt = 20 := by decide +kernel
theorem cntLs (k : Nat) (h : k < 4) : 0 ≤ (sLs k).cnt ∧ (sLs k).cnt ≤ 1000000 := by
  have : ∀ j : Fin 4, 0 ≤ (sLs j.val).cnt ∧ (sLs j.val).cnt ≤ 1000000 := by decide +kernel
  exact this ⟨k, h⟩
theorem okLs (k : Nat) (h : k ≤ 4) : (lays k).line ≤ 4 ∧ ((lays k).line < 4 → (lays k).er = 14) := by
  have : ∀ j : Fin 5, (lays j.val).line ≤ 4 ∧ ((lays j.val).line < 4 → (lays j.val).er = 14) := by decide +kernel
  exact this ⟨k, by omega⟩
def Chap (s : St) (w : World) (e : Ending) (w' : World) : Prop := ∃ M B, e = .returned (.pointer (some ⟨M, 0, none⟩)) ∧ In w M B s w'
theorem wfL : Wf 34 sL.ws := by
  have : ∀ j : Fin 34, 0 ≤ sL.ws j.val ∧ sL.ws j.val < 18446744073709551616 := by decide +kernel
  exact fun i hi => this ⟨i, hi⟩
theorem nod1 : hw 34 sL.ws (atI T0 1 0) = 7 ∧ hw 34 sL.ws (atI T0 1 1) = 5 ∧ hw 34 sL.ws (atI T0 1 2) = 2 ∧ hw 34 sL.ws (atI T0 1 3) = 2 ∧ nextL 34 sL.ws T0 1 2 = [0, 0] ∧ atI T0 1 0 = 22 ∧ nextI T0 0 1 = 21 := by decide +kernel
theorem zz2 {w : World} {g : Nat} {ty : TypeId} (hb : g = w.heap.size) : ∀ i, i < 2 → (w.alloc (.cells #[.int .u64 0, .int .u64 0] ty)).cell? ⟨g, i, none⟩ = some (.int .u64 0) := by
  intro i hi
  rw [cell_new _ _ _ _ i hb]
  have : i = 0 ∨ i = 1 := by omega
  rcases this with rfl | rfl <;> rfl
theorem zero2 {w : World} {a : Option Addr} {c base : Nat} {g : Nat} (own : w.ownsRow base 52 1 (.slice a 2 c) 2 (words [0, 0])) (hc : ∀ i, i < 2 → w.cell? ⟨g, i, none⟩ = some (.int .u64 0)) :
    Calls Try.prog 23 #[.slice a 2 c, .slice (some ⟨g, 0, none⟩) 2 2] w fun e w' => e = .returned (.bool true) ∧ Kept w w' := by
  rcases own_lies own with ⟨_, e2, _⟩ | ⟨b, o, c', e1, _, _, hcells⟩
  · cases e2
  · injection e1 with e1 _ _
    subst e1
    exact (Wo.sameWords_yes b o c g 0 2 2 (fun _ => 0) w (by decide) (fun i hi => by
      have hj : i = 0 ∨ i = 1 := by omega
      rcases hj with rfl | rfl
      · exact hcells 0 _ rfl
      · exact hcells 1 _ rfl) (fun i hi => by rw [Nat.zero_add]; exact hc i hi)).mono fun _ _ ⟨x, k⟩ => ⟨x, kept_of k⟩
end Go.Proofs.Ytejiogggocnldaa.Tw

namespace Go.Proofs.Ytejiogggocnldaa
open Go.RowKit Go.ChangeShapes Go.WideShapes

structure Nums (f : Nat → Int) (len : Nat) : Prop where
  lo : ∀ i, -9223372036854775808 ≤ f i
  hi : ∀ i, f i ≤ 9223372036854775807
  zero : ∀ i, len ≤ i → f i = 0

def Row (w : World) (a : Option Addr) (len cap : Nat) (f : Nat → Int) : Prop :=
  Nums f len ∧ len ≤ cap ∧ cap ≤ maxLen ∧ ((a = none ∧ len = 0 ∧ cap = 0) ∨ (∃ x, a = some x ∧ len = 0) ∨
    ∃ b off, a = some ⟨b, off, none⟩ ∧ b < w.heap.size ∧ ∀ i, i < len → w.cell? ⟨b, off + i, none⟩ = some (.int .i64 (f i)))

theorem wf_i64 (x : Int) (h : (Lit.int .i64 x).wf = true) : -9223372036854775808 ≤ x ∧ x ≤ 9223372036854775807 := by
  have e : IntKind.i64.min = -9223372036854775808 := by decide
  simpa [Lit.wf, e] using h
theorem getD_mem (zs : List Int) (i : Nat) (h : i < zs.length) : zs.getD i 0 ∈ zs := by
  have e : zs.getD i 0 = zs[i]'h := by simp [h]
  rw [e]
  exact List.getElem_mem _

theorem open_row {H : Type} {enc : TypeId × Value → H} {w : World} {base : Nat} {spare : Nat → Bool} {held : Bool} {fuel : Nat} {a : Option Addr} {len cap : Nat} {x : DataW H × List MemPlace}
    (h : DataW.trod enc Try.prog w base spare held fuel 22 [.slice a len cap] = some x) : ∃ f, Row w a len cap f := by
  rcases open_ints Try.underlying22 Try.underlying3 (by kernel_rfl) h with h0 | ⟨x, len', cap', zs, hcs, _, hl, hm, hz, _, hc, hw⟩
  · obtain ⟨rfl, rfl, rfl⟩ : a = none ∧ len = 0 ∧ cap = 0 := by simpa using h0.1
    exact ⟨fun _ => 0, ⟨by intro i; omega, by intro i; omega, fun _ _ => rfl⟩, Nat.le_refl _, Nat.zero_le _, .inl ⟨rfl, rfl, rfl⟩⟩
  · obtain ⟨rfl, rfl, rfl⟩ : a = some x ∧ len = len' ∧ cap = cap' := by simpa using hcs
    have hle : len ≤ zs.length := by rw [hz]; split <;> omega
    refine ⟨fun i => if i < len then zs.getD i 0 else 0, ⟨fun i => ?_, fun i => ?_, fun i hi => by simp; omega⟩, hl, hm, ?_⟩
    · by_cases hi : i < len
      · simp only [hi, if_true]
        exact (wf_i64 _ (hw _ (getD_mem zs i (by omega)))).1
      · simp [hi]
    · by_cases hi : i < len
      · simp only [hi, if_true]
        exact (wf_i64 _ (hw _ (getD_mem zs i (by omega)))).2
      · simp [hi]
    · by_cases h0 : len = 0
      · exact .inr (.inl ⟨x, rfl, h0⟩)
      · obtain ⟨b, off, spot⟩ := x
        have hc0 := hc 0 (by omega)
        have hs : spot = none := by simpa [Addr.add] using World.cell?_spot hc0
        subst hs
        refine .inr (.inr ⟨b, off, rfl, ?_, fun i hi => ?_⟩)
        · have := World.block_lt_of_cell? w _ hc0
          simpa [Addr.add] using this
        · have h := hc i (by omega)
          have e : (Addr.add ⟨b, off, none⟩ i) = ⟨b, off + i, none⟩ := by
            unfold Addr.add
            split <;> simp_all
          rw [e] at h
          simp only [hi, if_true]
          exact h

theorem infoInt : (Try.prog.info? 3).map (fun i => (i.zero, i.size, i.bytes)) = some (some (.int .i64 0), 1, 8) := by kernel_rfl

structure Made (W w' : World) (b len cap : Nat) (f : Nat → Int) : Prop where
  new : W.heap.size ≤ b
  old : b < w'.heap.size
  room : len ≤ cap
  most : cap ≤ maxLen
  cell : ∀ i, i < len → w'.cell? ⟨b, i, none⟩ = some (.int .i64 (f i))
  soft : ∀ i, w'.frozen? ⟨b, i, none⟩ = false

theorem copy_run (ty : TypeId) (W : World) (a : Option Addr) (len cap : Nat) (f : Nat → Int) (h : Row W a len cap f) (hs : len ≤ 1000000) :
    ∃ b C W', (Builtin.append_ #[22, 22] ty #[.slice (some ⟨W.heap.size, 0, none⟩) 0 0, .slice a len cap]).run Try.prog (W.alloc (.cells #[] 3)) = .ok (.slice (some ⟨b, 0, none⟩) len C) W' ∧
      Kept W W' ∧ Made W W' b len C f := by
  obtain ⟨i0, hi, hz0, hz1, hz2⟩ := info_parts infoInt
  obtain ⟨hn, hlc, hcm, h⟩ := h
  have k1 : Kept W (W.alloc (.cells #[] 3)) := (Kept.refl W).alloc _ _
  by_cases h0 : len = 0
  · subst h0
    have src : Src Try.prog i0.size 22 (.slice a 0 cap) 0 [] (W.alloc (.cells #[] 3)) := by
      cases a with
      | none => exact Src.ofNil _ Try.underlying22 cap
      | some x => exact Src.ofSlice _ Try.underlying22 x 0 cap [] (by simp) (fun j u hj => by simp at hj) (fun u hu => by cases hu)
    have hr := run_append_room_src (P := Try.prog) (W.alloc (.cells #[] 3)) 22 22 ty 3 i0 Try.underlying22 hi W.heap.size 0 0 0 (.slice a 0 cap) 0 [] src (Nat.le_refl _) (fun j hj => by simp at hj) (fun j hj => by simp at hj)
    refine ⟨W.heap.size, 0, _, hr, ?_, Nat.le_refl _, by simp [World.setCells], Nat.le_refl _, Nat.zero_le _, fun i hi => absurd hi (Nat.not_lt_zero i), fun i => ?_⟩
    · simpa [World.setCells] using k1
    · have e : ((W.alloc (.cells #[] 3)).setCells W.heap.size (0 + 0 * i0.size) []).frozen? ⟨W.heap.size, i, none⟩ = (W.alloc (.cells #[] 3)).frozen? ⟨W.heap.size, i, none⟩ := by simp [World.setCells]
      rw [e, frozen?_alloc_cells]
      simp [World.frozen?]
  · obtain ⟨b, off, rfl, hb, hc⟩ : ∃ b off, a = some ⟨b, off, none⟩ ∧ b < W.heap.size ∧ ∀ i, i < len → W.cell? ⟨b, off + i, none⟩ = some (.int .i64 (f i)) := by
      rcases h with ⟨_, h, _⟩ | ⟨_, _, h⟩ | h
      · omega
      · omega
      · exact h
    have src : Src Try.prog i0.size 22 (.slice (some ⟨b, off, none⟩) len cap) len ((List.range len).map fun i => Value.int .i64 (f i)) (W.alloc (.cells #[] 3)) := by
      refine Src.ofSlice _ Try.underlying22 _ len cap _ (by simp [hz1]) (fun j u hj => ?_) (fun u hu => by obtain ⟨i, _, rfl⟩ := List.mem_map.1 hu; rfl)
      have hjl : j < len := by have := (List.getElem?_eq_some_iff.1 hj).1; simpa using this
      have e : (Addr.add ⟨b, off, none⟩ j) = ⟨b, off + j, none⟩ := by unfold Addr.add; split <;> simp_all
      rw [e, World.cell?_alloc_past _ _ _ hb, hc j hjl]
      simpa [hjl] using hj
    have hold : (Builtin.firstCells i0.size 0 (.slice (some ⟨W.heap.size, 0, none⟩) 0 0)).run Try.prog (W.alloc (.cells #[] 3)).drew = .ok (([] : List Value).toArray) (W.alloc (.cells #[] 3)).drew := by
      exact run_firstCells_some _ i0.size 0 ⟨W.heap.size, 0, none⟩ 0 0 [] (by simp) (fun j u hj => by simp at hj)
    have hr := run_append_grow_src (P := Try.prog) (W.alloc (.cells #[] 3)) 22 22 ty 3 i0 (.int .i64 0) Try.underlying22 hi hz0 (some ⟨W.heap.size, 0, none⟩) 0 0 [] hold (.slice (some ⟨b, off, none⟩) len cap) len _ src (by omega) (by omega)
      (by rw [hz2]; have := growslice_fits (old := 0) (need := 0 + len) (bytes := 8) (by omega) (by omega); exact this)
    have hge := grownCap_ge (W.alloc (.cells #[] 3)) (0 + len) 0 3
    have hle := grownCap_le_maxLen (W.alloc (.cells #[] 3)) (0 + len) 0 3 (by unfold maxLen; omega)
    simp only [Nat.zero_add, List.nil_append, World.size_alloc] at hr hge hle
    refine ⟨_, _, _, hr, (k1.drew).alloc _ _, by omega, by simp [World.drew], hge, hle, fun i hi => ?_, fun i => ?_⟩
    · rw [cell_new _ _ _ (W.heap.size + 1) i (by simp), Array.getElem?_append_left (by simpa using hi)]
      simp [hi]
    · rw [frozen?_alloc_cells]
      simp [World.frozen?, World.drew]

theorem wpList_copy {ops : Array Oper} {rest : List Oper} {o : Oper} {A : Act} {Q : Exit → Act → World → Prop} (hg : o.guard = none) (s x : Operand)
    (ho : o.op = .call { callee := .builtin .append, args := #[s, x], argTypes := #[22, 22] })
    (W : World) (a : Option Addr) (len cap : Nat) (f : Nat → Int) (hr : Row W a len cap f) (hs : len ≤ 1000000) (e1 : A.eval s = .slice (some ⟨W.heap.size, 0, none⟩) 0 0) (e2 : A.eval x = .slice a len cap)
    (h : ∀ b C W', Kept W W' → Made W W' b len C f → wpList Try.prog ops Q rest (A.put o.dst (.slice (some ⟨b, 0, none⟩) len C)) W') :
    wpList Try.prog ops Q (o :: rest) A (W.alloc (.cells #[] 3)) := by
  refine wpList_plain hg fun K hK => ?_
  obtain ⟨b, C, W', hrun, hk, hm⟩ := copy_run o.type W a len cap f hr hs
  unfold Oper.wp execOp
  simp only [ho, resolve, invoke, builtin, Sem.run_bind, Sem.run_pure, Result.andThen_ok, List.map_toArray, List.map_cons, List.map_nil, e1, e2, hrun]
  exact hK _ _ (h b C W' hk hm)

def Reads (w : World) (a : Option Addr) (len : Nat) (f : Nat → Int) : Prop :=
  len = 0 ∨ ∃ b o, a = some ⟨b, o, none⟩ ∧ ∀ i, i < len → w.cell? ⟨b, o + i, none⟩ = some (.int .i64 (f i))
theorem Row.reads {w : World} {a : Option Addr} {len cap : Nat} {f : Nat → Int} (h : Row w a len cap f) : Reads w a len f := by
  rcases h.2.2.2 with h | ⟨_, _, h⟩ | ⟨b, o, h, _, hc⟩
  · exact .inl h.2.1
  · exact .inl h
  · exact .inr ⟨b, o, h, hc⟩
theorem Reads.kept {w w' : World} {a : Option Addr} {len : Nat} {f : Nat → Int} (h : Reads w a len f) (k : Kept w w') : Reads w' a len f := by
  rcases h with h | ⟨b, o, h, hc⟩
  · exact .inl h
  · exact .inr ⟨b, o, h, fun i hi => k.some (hc i hi)⟩
theorem Row.kept {w w' : World} {a : Option Addr} {len cap : Nat} {f : Nat → Int} (h : Row w a len cap f) (k : Kept w w') : Row w' a len cap f := by
  refine ⟨h.1, h.2.1, h.2.2.1, ?_⟩
  rcases h.2.2.2 with h | h | ⟨b, o, h, hb, hc⟩
  · exact .inl h
  · exact .inr (.inl h)
  · exact .inr (.inr ⟨b, o, h, Nat.lt_of_lt_of_le hb k.size, fun i hi => k.some (hc i hi)⟩)
theorem Made.reads {W w : World} {b len cap : Nat} {f : Nat → Int} (h : Made W w b len cap f) : Reads w (some ⟨b, 0, none⟩) len f :=
  .inr ⟨b, 0, rfl, fun i hi => by rw [Nat.zero_add]; exact h.cell i hi⟩
theorem Made.kept {W w w' : World} {b len cap : Nat} {f : Nat → Int} (h : Made W w b len cap f) (k : Kept w w') : Made W w' b len cap f :=
  ⟨h.new, Nat.lt_of_lt_of_le h.old k.size, h.room, h.most, fun i hi => k.some (h.cell i hi), fun i => k.soft h.old (h.soft i)⟩
theorem Made.row {W w : World} {b len cap : Nat} {f : Nat → Int} (h : Made W w b len cap f) (hn : Nums f len) : Row w (some ⟨b, 0, none⟩) len cap f :=
  ⟨hn, h.room, h.most, .inr (.inr ⟨b, 0, rfl, h.old, fun i hi => by rw [Nat.zero_add]; exact h.cell i hi⟩)⟩
end Go.Proofs.Ytejiogggocnldaa

namespace Go.Proofs.Ytejiogggocnldaa
open Go.RowKit

set_option maxHeartbeats 1000000 in
theorem sameInts_yes (a a' : Option Addr) (n c c' : Nat) (f : Nat → Int) (w : World) (hn : n ≤ 9223372036854775807) (h : Reads w a n f) (h' : Reads w a' n f) :
    Calls Try.prog 10 #[.slice a n c, .slice a' n c'] w fun e w' => e = .returned (.bool true) ∧ Kept w w' := by
  by_cases h0 : n = 0
  · subst h0
    clear h h' hn
    go_enter Try.func10, Try.ntmps10
    go_wp2
    go_loopw [5, 6] (fun s i wr => s = .bool true ∧ i = .int .i64 0 ∧ wr = w) (fun _ _ _ => 0)
    case atStart => exact ⟨rfl, rfl, rfl⟩
    case round =>
      obtain ⟨rfl, rfl, rfl⟩ := hrel
      go_wp2
      go_ret
      exact ⟨rfl, Kept.refl _⟩
  · obtain ⟨b, o, rfl, hc⟩ := h.resolve_left h0
    obtain ⟨b', o', rfl, hc'⟩ := h'.resolve_left h0
    have HC := Lib.hid hc
    have HC' := Lib.hid hc'
    clear hc hc' h h'
    go_enter Try.func10, Try.ntmps10
    go_wp2
    go_loopw [5, 6] (fun s i wr => ∃ k : Nat, k ≤ n ∧ s = .bool true ∧ i = .int .i64 k ∧ (∃ q, wr = w.drewN q)) (fun _ i _ => n - (intOf i).toNat)
    case atStart => exact ⟨0, Nat.zero_le _, rfl, rfl, 0, rfl⟩
    case round =>
      obtain ⟨k, hk, rfl, rfl, q, rfl⟩ := hrel
      by_cases hlt : k < n
      · have h1 := HC.out k hlt
        have h2 := HC'.out k hlt
        go_wp2
        go_quiet (fail)
        go_wp2
        go_roundw
        case rel => exact ⟨k + 1, by omega, rfl, by go_num, q + nq, rfl⟩
        case measure => simp [intOf]; omega
      · go_wp2
        go_ret
        exact ⟨rfl, (Kept.refl _).drewN _⟩

theorem tmod_up (x n : Int) (hn : 0 < n) (hn' : n ≤ 1000000) (h : x.tmod n < 0) : wrap64 (x.tmod n + n) = x % n := by
  have e := Int.tmod_eq_emod (a := x) (b := n)
  have h1 := Int.emod_nonneg x (show n ≠ 0 by omega)
  have h2 := Int.emod_lt_of_pos x hn
  unfold wrap64
  split at e <;> omega
theorem tmod_at (x n : Int) (hn : 0 < n) (h : 0 ≤ x.tmod n) : x.tmod n = x % n := by
  have e := Int.tmod_eq_emod (a := x) (b := n)
  have h1 := Int.emod_nonneg x (show n ≠ 0 by omega)
  have h2 := Int.emod_lt_of_pos x hn
  split at e <;> omega

set_option maxHeartbeats 400000 in
theorem pick_any (x n : Int) (hn : 1 ≤ n) (hn' : n ≤ 1000000) (w : World) :
    Calls Try.prog 8 #[.int .i64 x, .int .i64 n] w fun e w' => e = .returned (.int .i64 (x % n)) ∧ w = w' := by
  go_enter Try.func8, Try.ntmps8
  go_wp2
  · rename_i _ h
    go_ret
    exact ⟨by show Ending.returned (.int .i64 (wrap64 (x.tmod n + n))) = _; rw [tmod_up x n (by omega) hn' h], rfl⟩
  · rename_i _ h
    go_ret
    exact ⟨by show Ending.returned (.int .i64 (x.tmod n)) = _; rw [tmod_at x n (by omega) h], rfl⟩

set_option maxHeartbeats 1000000 in
theorem copyInts_any (a : Option Addr) (n c : Nat) (f : Nat → Int) (w : World) (hn : n ≤ 1000000) (h : Row w a n c f) :
    Calls Try.prog 108 #[.slice a n c] w fun e w' => ∃ b C, e = .returned (.slice (some ⟨b, 0, none⟩) n C) ∧ Kept w w' ∧ Made w w' b n C f := by
  have H := Lib.hid h
  clear h
  go_enter Try.func108, Try.ntmps108
  go_wp2_with (at_builtin; refine wpList_copy rfl _ _ rfl w a n c f H.out hn rfl rfl ?_; rintro b C W' hk hm)
  go_ret
  exact ⟨b, C, rfl, hk, hm⟩
theorem make_ints (n : Nat) (hn : n ≤ 1000000) : ∃ Z : Array Value, (∀ i, i < n → Z[i]? = some (.int .i64 0)) ∧
    ∀ w : World, (Instr.makeSlice 22 (.int .i64 (n : Int)) (.int .i64 (n : Int))).run Try.prog w = .ok (.slice (some ⟨w.heap.size, 0, none⟩) n n) (w.alloc (.cells Z 3)) := by
  obtain ⟨i0, hi, hz0, hz1, hz2⟩ := info_parts infoInt
  refine ⟨madeCells #[.int .i64 0] n, fun i h => ?_, fun w => ?_⟩
  · have e : (madeCells #[.int .i64 0] n)[i]? = (madeCells #[.int .i64 0] n).toList[i]? := by simp
    rw [e, toList_madeCells_one]
    simp [h]
  · have h := run_makeSlice (P := Try.prog) w 22 3 i0 (.int .i64 0) Try.underlying22 hi hz0 .i64 .i64 (n : Int) (n : Int) (by omega) (Int.le_refl _) (by rw [hz1]; omega) (by rw [hz2]; omega) (by omega)
    rw [h, hz1]
    simp [Value.cells]
end Go.Proofs.Ytejiogggocnldaa
