/- A Find that has ended, or that nobody made: its step. Written by gen16e.py. -/
import Derived.Test.YtejiogggocnldaaG13
import Derived.Test.YtejiogggocnldaaG00
import Derived.WalkKit
import Derived.WalkLawsBesides
import Derived.Maps.AppendAt
import Derived.Deep.AppendLies
import Derived.RegionTactic
import Derived.OwnWalk
set_option linter.unusedVariables false
set_option linter.unusedSimpArgs false

namespace Go.Proofs.Ytejiogggocnldaa.Fd
set_option maxRecDepth 100000
open Go.RowKit Go.Shelf
open Wo (St acc wordAt PMem RefIs)
open Sk (Stk Arn idx Wd Blk leaves)
open Tw (Twr TB towV atI nextI)
attribute [local go_sem] Oper.semAt_some

set_option maxHeartbeats 8000000 in
theorem fstep_over (F g : Nat) (f : Nat → Pos) (g4 : g ≤ 4) (p : Option Addr) (w : World) (h3 : w.cell? ⟨F, 3, none⟩ = some (.int .i64 (g : Int))) (ps : PosAt w F f) (hd : ∀ y, y < g → (f y).x = 4) :
    Calls Try.prog 53 #[.pointer (some ⟨F, 0, none⟩), .pointer p] w fun e w' => e = .returned (.bool true) ∧ Kept w w' := by
  obtain ⟨o, ho⟩ : ∃ o : FOp, o = ⟨f, 0, 0⟩ := ⟨_, rfl⟩
  have hof : o.pos = f := by rw [ho]
  rw [← hof] at ps hd
  have H3 := Lib.hid h3
  have PS := Lib.hid ps
  have HD := Lib.hid hd
  have lF := lt_of_cell h3
  clear h3 ps hd ho hof f
  refine (callsIn_wide (n := 6)).1 ?_
  refine callsIn_of_wp_marks Try.func53 rfl trivial ?_ rfl
  simp only [Try.ntmps53, List.size_toArray, List.length_cons, List.length_nil, Nat.reduceAdd, Nat.reduceSub, Array.replicate_succ, Array.replicate_zero, List.push_toArray, List.append_toArray, List.nil_append, List.cons_append]
  rw [wpIn_wide]
  go_wp2_with fail
  apply wp_scope_straight
  go_wp2_with fail
  apply wp_label
  go_wp2_with fail
  obtain ⟨W0, hW0⟩ : ∃ W0, W0 = (((w.alloc (.cells #[.pointer (some ⟨F, 0, none⟩)] 55)).alloc (.cells #[.pointer p] 32)).alloc (.cells #[.bool false] 4)) := ⟨_, rfl⟩
  have b0 : W0.cell? ⟨w.heap.size, 0, none⟩ = some (.pointer (some ⟨F, 0, none⟩)) := by rw [hW0]; exact (((Kept.refl _).alloc _ _).alloc _ _).some (cell_new _ _ _ _ 0 rfl)
  have b1 : W0.cell? ⟨w.heap.size + 1, 0, none⟩ = some (.pointer p) := by rw [hW0]; exact ((Kept.refl _).alloc _ _).some (cell_new _ _ _ _ 0 (by simp))
  have r0 : W0.cell? ⟨w.heap.size + 1 + 1, 0, none⟩ = some (.bool false) := by rw [hW0]; exact cell_new _ _ _ _ 0 (by simp)
  have rf : ∀ i, W0.frozen? ⟨w.heap.size + 1 + 1, i, none⟩ = false := by
    intro i; rw [hW0]
    exact (box_soft _ _ _ (by simp) i)
  have k0 : Kept w W0 := by rw [hW0]; exact (((Kept.refl w).alloc _ _).alloc _ _).alloc _ _
  rw [← hW0]
  clear hW0
  refine (down_any F _).mono ?_
  rintro e w3 ⟨a, rfl, la, ha, a0, k3⟩
  have SI0 : Hid (SI w w3.heap.size F a o p [] w3) := Lib.hid ⟨k0.trans k3, k3.some b0, k3.some b1, k3.some r0, fun i => k3.soft (lt_of_cell r0) (rf i), a0, Nat.le_refl _, by simp⟩
  have SB0 : Hid (SB w w3.heap.size a) := Lib.hid ⟨Nat.lt_of_lt_of_le (lt_of_cell r0) la, ha⟩
  have hz : w.heap.size + 1 + 1 < w3.heap.size := Nat.lt_of_lt_of_le (lt_of_cell r0) k3.size
  clear b0 b1 r0 rf k0 la ha a0 k3
  go_wp2_with fail
  rename_i K hK0
  rw [← wpIn_wide (n := 6)]
  refine range_manyB (Bs := fun k => k = w.heap.size + 1 + 1) (by decide) (gf := 115) (lb := #[.pointer (some ⟨a, 0, none⟩)]) rfl (enters_of Try.func115 (by kernel_rfl) rfl) (fun x : Nat => #[Value.int .i64 (x : Nat), posV (frm g o.pos x)]) (fun _ => rfl)
    (fun k h => by omega)
    (fun pre X => SI w w3.heap.size F a o p pre X)
    (fun cd pre X => False)
    (fun pre x => pre = lsL g pre.length ∧ x = g - 1 - pre.length ∧ pre.length < g) (fun xs => xs = lsL g g)
    ?_ ?_ ?_ ?_ ?_ ?_ ?_
    (fun x A X => SA g o w3.heap.size F a p w.heap.size x A X)
    ?_ ?_ ?_ ?_ ?_
  · exact fun X k => SI0.out.keep SB0.out k
  · exact fun pre X X' h k => h.keep SB0.out k
  · exact fun pre X l y y' hl hy h => h.turn SB0.out hl hy
  · exact fun pre X X' n hn h k => h.but SB0.out k (fun j e => by have e : j = n := e; omega)
  · exact fun cd pre X X' h k => h
  · exact fun cd pre X l y y' hl hy h => h
  · intro l0 X0 J Jx k0 z0 hl hJk hJw hJb hY h0
    refine down_in 5 (by decide) l0 a F g o.pos g4 (fun k => k = w.heap.size + 1 + 1 ∨ (w3.heap.size ≤ k ∧ k < w3.heap.size + 1 + 1)) J Jx hJk (fun pre X h => ?_) X0 (fun pre X1 X2 n hn => hJw pre X1 X2 n hn) (fun j hj hb => ?_) hY h0
    · have h := (hJb pre X h).1
      exact ⟨h.a0, h.kept.some H3.out, PS.out.but (h.kept.but (fun _ => False)) id⟩
    · omega
  · rintro x A X l0 y y' hl1 hl2 hy ⟨fb, hq, hfb, rfl⟩
    exact ⟨fb, hq.but (Sk.but_turned (But.refl (fun k => k = l0) _) hy rfl rfl (.inl rfl)) (fun e => by omega), hfb, rfl⟩
  · intro l0 x X K hX hK
    have HK := Lib.hid hK
    clear hK
    gi_wp2
    exact HK.out _ _ ⟨X.heap.size, Q5.new _ _ _ rfl _, hX, rfl⟩ ((Kept.refl _).alloc _ _)
  · intro l0 pre x A X hA hI hso hsz hbut
    obtain ⟨fb, hq, hfb, rfl⟩ := hA
    obtain ⟨hso1, hso2, hso3⟩ := hso
    have HI := Lib.hid hI
    have b0 := hI.b0
    have b1 := hI.b1
    have r0 := hI.r
    have rf := hI.rf
    have hxg : x < g := by omega
    have p4 := (PS.out.but (hI.kept.but (fun _ => False)) id).p4 x (by omega)
    have hx := HD.out x hxg
    have x0 : (0 : Int) ≤ (x : Int) := by omega
    have x4 : (x : Int) < 4 := by omega
    rw [hx] at p4
    have HX := Lib.hid hx
    clear hso1 hso2 hso3 hx hq hI hbut
    gi_wp2
    refine ⟨⟨HI.out.kept, HI.out.b0, HI.out.b1, HI.out.r, HI.out.rf, HI.out.a0, HI.out.sz, ?_⟩, Sk.Blk.refl _ _⟩
    intro y hy
    rcases List.mem_append.1 hy with hy | hy
    · exact HI.out.dn y hy
    · rw [List.mem_singleton] at hy
      subst hy
      exact HX.out
  · intro D xs X hN hI hbut hD hd
    have r0 := hI.r
    have rf := hI.rf
    have HI := Lib.hid hI
    have hzD : w.heap.size + 1 + 1 < D := by omega
    clear hN hI hbut
    apply hK0
    go_wp2
    have b6 : But (fun j => j = w.heap.size + 1 + 1) X (X.setCell ⟨w.heap.size + 1 + 1, 0, none⟩ (.bool true)) := (But.refl _ _).here _ _
    have hd6 := (b6.block _ (Array.getElem?_eq_some_iff.1 hd).1 (fun e => by omega)).trans hd
    have bD : But (fun k => k = D) (X.setCell ⟨w.heap.size + 1 + 1, 0, none⟩ (.bool true)) ((X.setCell ⟨w.heap.size + 1 + 1, 0, none⟩ (.bool true)).putObj D (.deferred none)) := Sk.but_turned (But.refl _ _) hd6 rfl rfl (.inl rfl)
    have e0 : ((X.setCell ⟨w.heap.size + 1 + 1, 0, none⟩ (.bool true)).putObj D (.deferred none)).cell? ⟨w.heap.size + 1 + 1, 0, none⟩ = some (.bool true) := bD.some (by rw [cell_set, if_pos rfl, r0]; rfl) (by omega)
    have kk : Kept w ((X.setCell ⟨w.heap.size + 1 + 1, 0, none⟩ (.bool true)).putObj D (.deferred none)) := (((HI.out.kept.but (fun k => k = w.heap.size + 1 + 1 ∨ k = D)).trans b6 (fun _ _ h => .inl h)).trans bD (fun _ _ h => .inr h)).kept fun j hj e => by rcases e with e | e <;> omega
    refine ⟨by simp, .inl ⟨_, _, rfl, run_takeDeferred hd6, ?_⟩⟩
    exact ⟨.bool true, by simp [results, Try.results53, go_sem, e0], rfl, kk⟩
  · intro D cd xs X hI hbut hD hd
    exact hI.elim
end Go.Proofs.Ytejiogggocnldaa.Fd

namespace Go.Proofs.Ytejiogggocnldaa.Fd
set_option maxRecDepth 20000
open Go.RowKit
open Wo (St acc wordAt PMem RefIs)
open Sk (Stk Arn idx Wd p_load p_cas pmem_lt pmem_kept pmem_frame)
open Tw (Twr TB towV atI nextI)

def ansI (n : Nat) (s : St) (a : Ask) : Int := if a.kind = 1 then wordAt n s a.at_ else if wordAt n s a.at_ == a.old then 1 else 0
def accS (n : Nat) (s : St) (a : Ask) : St := if a.kind = 1 then acc n s 1 a.at_ false 0 else acc n s 3 a.at_ (wordAt n s a.at_ == a.old) a.new
def fSt (n : Nat) (t : Twr) (g : Nat) (s : St) (o : FOp) : St :=
  match lvl o.pos g with
  | none => s
  | some l => accS n s (ask t g o.pos l)
def fOp (n : Nat) (t : Twr) (key : Int) (g : Nat) (s : St) (o : FOp) : FOp :=
  match lvl o.pos g with
  | none => o
  | some l => ⟨went t key g o.pos l (ansI n s (ask t g o.pos l)), byI g o.pos l, if (went t key g o.pos l (ansI n s (ask t g o.pos l)) 0).x = 4 then 0 else o.er⟩
def fEnd (n : Nat) (t : Twr) (key : Int) (g : Nat) (s : St) (o : FOp) : Bool :=
  match lvl o.pos g with
  | none => true
  | some _ => decide (((fOp n t key g s o).pos 0).x = 4)
structure Fine (n : Nat) (t : Twr) (f : Nat → Pos) (l : Nat) : Prop where
  x : (f l).x = 0 ∨ (f l).x = 1 ∨ (f l).x = 2 ∨ (f l).x = 3
  c0 : 0 ≤ (f l).c
  c1 : (f l).c < 18446744073709551616
  v0 : 0 ≤ (f l).v
  v1 : (f l).v < 18446744073709551616
  a : (f l).x = 2 → 0 ≤ nextI t (f l).p l ∧ nextI t (f l).p l < n
def FPost (F M B n : Nat) (t : Twr) (key : Int) (g : Nat) (s : St) (o : FOp) (w : World) (e : Ending) (w' : World) : Prop :=
  e = .returned (.bool (fEnd n t key g s o)) ∧ FdAt w' F t key (fOp n t key g s o) ∧ PMem w' M B n (fSt n t g s o) ∧ But (fun j => j = F ∨ j = B) w w'
set_option maxHeartbeats 1000000 in
theorem fstep_of (F : Nat) (p : Option Addr) (b : Bool) (Q : World → Prop) (w : World) (h : Calls Try.prog 53 #[.pointer (some ⟨F, 0, none⟩), .pointer p] w fun e w' => e = .returned (.bool b) ∧ Q w') : Calls Try.prog 13 #[.pointer (some ⟨F, 0, none⟩), .pointer p] w fun e w' => e = .returned (.bool b) ∧ Q w' := by
  have H := Lib.hid h
  have q := fun W => (show (binOp .eql 55 (.pointer (some ⟨F, 0, none⟩)) (.pointer none)).run Try.prog W = .ok (.bool false) W by kernel_rfl)
  clear h
  go_enter Try.func13, Try.ntmps13
  go_wp2_with fail
  refine H.out.mono ?_
  rintro e w1 ⟨rfl, q1⟩
  go_wp2
  go_ret
  exact ⟨rfl, q1⟩
theorem fstep_pm (M B n F : Nat) (t : Twr) (key : Int) (g : Nat) (hg : (g : Int) = t.G) (g4 : g ≤ 4) (s : St) (o : FOp) (w : World) (hm : PMem w M B n s) (h0 : 0 ≤ s.cnt) (h1 : s.cnt ≤ 1000000) (hw : Wd n s) (h : FdAt w F t key o) (hM : F ≠ M) (hB : F ≠ B) (hF : ∀ l, lvl o.pos g = some l → Fine n t o.pos l) :
    Calls Try.prog 13 #[.pointer (some ⟨F, 0, none⟩), .pointer (some ⟨M, 0, none⟩)] w (FPost F M B n t key g s o w) := by
  have lm := pmem_lt hm
  cases hl : lvl o.pos g with
  | none =>
    have e1 : fSt n t g s o = s := by unfold fSt; rw [hl]
    have e2 : fOp n t key g s o = o := by unfold fOp; rw [hl]
    have e3 : fEnd n t key g s o = true := by unfold fEnd; rw [hl]
    unfold FPost
    rw [e1, e2, e3]
    exact fstep_of F _ true _ w ((fstep_over F g o.pos g4 _ w (by rw [hg]; exact h.tf.t2) h.ps (lvl_none hl)).mono fun _ _ ⟨a, k⟩ => ⟨a, h.kept k, pmem_kept hm k, k.but _⟩)
  | some l =>
    obtain ⟨hx, c0, c1, v0, v1, ha⟩ := hF l hl
    obtain ⟨hlg, -, -⟩ := lvl_spec hl
    have hl4 : l < 4 := by omega
    have e1 : fSt n t g s o = accS n s (ask t g o.pos l) := by unfold fSt; rw [hl]
    have e2 : fOp n t key g s o = ⟨went t key g o.pos l (ansI n s (ask t g o.pos l)), byI g o.pos l, if (went t key g o.pos l (ansI n s (ask t g o.pos l)) 0).x = 4 then 0 else o.er⟩ := by unfold fOp; rw [hl]
    have e3 : fEnd n t key g s o = decide ((went t key g o.pos l (ansI n s (ask t g o.pos l)) 0).x = 4) := by unfold fEnd; rw [hl]; show decide (((fOp n t key g s o).pos 0).x = 4) = _; rw [e2]
    unfold FPost
    rw [e1, e2, e3]
    obtain ⟨s', hs⟩ : ∃ x, x = accS n s (ask t g o.pos l) := ⟨_, rfl⟩
    rw [← hs]
    have hT : ∀ j, (fun j => j = B) j → j < w.heap.size := fun j e => by have e : j = B := e; omega
    have fr : ∀ {W W' : World} {s' : St} (S : Nat → Prop), PMem W M B n s' → But S W W' → (∀ j, S j → j = F ∨ w.heap.size ≤ j) → PMem W' M B n s' := fun S hp b hS => pmem_frame hp b (fun e => by rcases hS _ e with e | e <;> omega) (fun e => by rcases hS _ e with e | e <;> omega)
    refine fstep_of F _ _ _ w (fstep_at F t key g hg g4 o _ l hl _ _ (fun W => PMem W M B n s') (fun j => j = B) w hT (fun W W' S hp b hS => fr S hp b hS) h ?_)
    have hQ : ∀ W W', PMem W M B n s' → But (fun j => j = F) W W' → PMem W' M B n s' := fun W W' hp b => fr _ hp b (fun j e => .inl e)
    unfold Does
    rcases hx with hx | hx | hx | hx
    · refine .inl ⟨hx, fun W k => ?_⟩
      have ea : ask t g o.pos l = ⟨1, nextI t (frm g o.pos l).p l, 0, 0⟩ := by unfold ask; rw [if_pos hx]
      have eb : byI g o.pos l = (frm g o.pos l).k := by unfold byI; rw [if_pos hx]
      have ew : ∀ v, went t key g o.pos l v = if markB v then fun _ => Pos.zero else upd o.pos l (faced t.A.F.N (frm g o.pos l) v) := fun v => by unfold went; rw [if_pos hx]
      have ei : ansI n s ⟨1, nextI t (frm g o.pos l).p l, 0, 0⟩ = wordAt n s (nextI t (frm g o.pos l).p l) := by unfold ansI; rw [if_pos rfl]
      have es : accS n s ⟨1, nextI t (frm g o.pos l).p l, 0, 0⟩ = acc n s 1 (nextI t (frm g o.pos l).p l) false 0 := by unfold accS; rw [if_pos rfl]
      rw [ea, eb, ew, ei]
      have hz := k.size
      exact enter_any F t key o l hl4 _ _ _ (hw.word _).1 (hw.word _).2 (fun j => j = B) hB (fun W => PMem W M B n s') hQ W (fun j hj e => by have e : j = B := e; omega) (h.kept k) (fun X b => by
        have := p_load M B n s (nextI t (frm g o.pos l).p l) X (pmem_frame (pmem_kept hm k) b (fun e => hM e.symm) (fun e => hB e.symm)) h0 h1
        rw [hs, ea, es]
        exact this)
    · refine .inr (.inl ⟨hx, fun W k => ?_⟩)
      have ea : ask t g o.pos l = ⟨1, nextI t (idx t.A.F.N (o.pos l).c) l, 0, 0⟩ := by unfold ask; rw [if_neg (by omega), if_pos hx]
      have eb : byI g o.pos l = (o.pos l).c := by unfold byI; rw [if_neg (by omega), if_neg (by omega)]
      have ew : ∀ v, went t key g o.pos l v = upd o.pos l ⟨(o.pos l).p, (o.pos l).k, (o.pos l).c, v, if markB v then 2 else 3⟩ := fun v => by unfold went; rw [if_neg (by omega), if_pos hx]
      have ei : ansI n s ⟨1, nextI t (idx t.A.F.N (o.pos l).c) l, 0, 0⟩ = wordAt n s (nextI t (idx t.A.F.N (o.pos l).c) l) := by unfold ansI; rw [if_pos rfl]
      have es : accS n s ⟨1, nextI t (idx t.A.F.N (o.pos l).c) l, 0, 0⟩ = acc n s 1 (nextI t (idx t.A.F.N (o.pos l).c) l) false 0 := by unfold accS; rw [if_pos rfl]
      rw [ea, eb, ew, ei]
      have hz := k.size
      exact flook_any F t key o l hl4 (by omega) c0 c1 _ _ (fun j => j = B) hB (fun W => PMem W M B n s') hQ W (h.kept k) (fun X b => by
        have := p_load M B n s (nextI t (idx t.A.F.N (o.pos l).c) l) X (pmem_frame (pmem_kept hm k) b (fun e => hM e.symm) (fun e => hB e.symm)) h0 h1
        rw [hs, ea, es]
        exact this)
    · refine .inr (.inr (.inl ⟨hx, fun W k => ?_⟩))
      have ea : ask t g o.pos l = ⟨3, nextI t (o.pos l).p l, (o.pos l).c, unmark (o.pos l).v⟩ := by unfold ask; rw [if_neg (by omega), if_neg (by omega), if_pos hx]
      have eb : byI g o.pos l = (o.pos l).k := by unfold byI; rw [if_neg (by omega), if_pos hx]
      have ew : went t key g o.pos l (ansI n s ⟨3, nextI t (o.pos l).p l, (o.pos l).c, unmark (o.pos l).v⟩) = if wordAt n s (nextI t (o.pos l).p l) == (o.pos l).c then upd o.pos l (faced t.A.F.N (o.pos l) (unmark (o.pos l).v)) else fun _ => Pos.zero := by
        have ei : ansI n s ⟨3, nextI t (o.pos l).p l, (o.pos l).c, unmark (o.pos l).v⟩ = if (wordAt n s (nextI t (o.pos l).p l) == (o.pos l).c) = true then 1 else 0 := by unfold ansI; exact if_neg (show ¬ (3 : Int) = 1 by decide)
        unfold went
        rw [if_neg (by omega), if_neg (by omega), if_pos hx, ei]
        cases wordAt n s (nextI t (o.pos l).p l) == (o.pos l).c <;> simp
      have es : accS n s ⟨3, nextI t (o.pos l).p l, (o.pos l).c, unmark (o.pos l).v⟩ = acc n s 3 (nextI t (o.pos l).p l) (wordAt n s (nextI t (o.pos l).p l) == (o.pos l).c) (unmark (o.pos l).v) := by unfold accS; exact if_neg (show ¬ (3 : Int) = 1 by decide)
      rw [ea, eb, ew]
      have hz := k.size
      exact cut_any F t key o l hl4 _ rfl v0 v1 _ _ (fun j => j = B) hB (fun W => PMem W M B n s') hQ W (fun j hj e => by have e : j = B := e; omega) (h.kept k) (fun X b => by
        have := p_cas M B n s (nextI t (o.pos l).p l) (o.pos l).c (unmark (o.pos l).v) X (pmem_frame (pmem_kept hm k) b (fun e => hM e.symm) (fun e => hB e.symm)) h0 h1 (ha hx).1 (ha hx).2
        rw [hs, ea, es]
        exact this)
    · refine .inr (.inr (.inr ⟨hx, fun W k => ?_⟩))
      have ea : ask t g o.pos l = ⟨1, atI t (idx t.A.F.N (o.pos l).c) 0, 0, 0⟩ := by unfold ask; rw [if_neg (by omega), if_neg (by omega), if_neg (by omega)]
      have eb : byI g o.pos l = (o.pos l).c := by unfold byI; rw [if_neg (by omega), if_neg (by omega)]
      have ew : ∀ v, went t key g o.pos l v = if key ≤ v then upd o.pos l ⟨(o.pos l).p, (o.pos l).k, (o.pos l).c, (o.pos l).v, 4⟩ else upd o.pos l (faced t.A.F.N ⟨idx t.A.F.N (o.pos l).c, (o.pos l).c, (o.pos l).c, (o.pos l).v, (o.pos l).x⟩ (o.pos l).v) := fun v => by unfold went; rw [if_neg (by omega), if_neg (by omega), if_neg (by omega)]
      have ei : ansI n s ⟨1, atI t (idx t.A.F.N (o.pos l).c) 0, 0, 0⟩ = wordAt n s (atI t (idx t.A.F.N (o.pos l).c) 0) := by unfold ansI; rw [if_pos rfl]
      have es : accS n s ⟨1, atI t (idx t.A.F.N (o.pos l).c) 0, 0, 0⟩ = acc n s 1 (atI t (idx t.A.F.N (o.pos l).c) 0) false 0 := by unfold accS; rw [if_pos rfl]
      rw [ea, eb, ew, ei]
      have hz := k.size
      exact comp_any F t key o l hl4 _ rfl c0 c1 v0 v1 _ _ (fun j => j = B) hB (fun W => PMem W M B n s') hQ W (fun W1 W2 hp b => fr _ hp b (fun j e => .inr (by have e : j = W.heap.size := e; omega))) (fun j hj e => by have e : j = B := e; omega) (h.kept k) (fun X b => by
        have := p_load M B n s (atI t (idx t.A.F.N (o.pos l).c) 0) X (pmem_frame (pmem_kept hm k) b (fun e => hM e.symm) (fun e => hB e.symm)) h0 h1
        rw [hs, ea, es]
        exact this)
end Go.Proofs.Ytejiogggocnldaa.Fd

namespace Go.Proofs.Ytejiogggocnldaa
open Go.RowKit

def ints (l : List Int) : List Value := l.map (Value.int .i64)
def flat (l : List (Int × Int × Int)) : List Value := l.flatMap fun d => [.int .i64 d.1, .int .i64 d.2.1, .int .i64 d.2.2]
theorem ints_length (l : List Int) : (ints l).length = l.length * 1 := by simp [ints]
theorem ints_get (l : List Int) (i : Nat) (x : Int) (h : l[i]? = some x) : (ints l)[i]? = some (.int .i64 x) := by simp [ints, h]
theorem ints_append (l m : List Int) : ints (l ++ m) = ints l ++ ints m := by simp [ints]
theorem flat_append (l m : List (Int × Int × Int)) : flat (l ++ m) = flat l ++ flat m := by simp [flat]
theorem flat_cons (d : Int × Int × Int) (l : List (Int × Int × Int)) : flat (d :: l) = .int .i64 d.1 :: .int .i64 d.2.1 :: .int .i64 d.2.2 :: flat l := by simp [flat]
theorem flat_length (l : List (Int × Int × Int)) : (flat l).length = l.length * 3 := by
  induction l with
  | nil => rfl
  | cons d l ih => rw [flat_cons]; simp [ih]; omega
theorem flat_get (l : List (Int × Int × Int)) : ∀ (i : Nat) (d : Int × Int × Int), l[i]? = some d → (flat l)[i * 3]? = some (.int .i64 d.1) ∧ (flat l)[i * 3 + 1]? = some (.int .i64 d.2.1) ∧ (flat l)[i * 3 + 2]? = some (.int .i64 d.2.2) := by
  induction l with
  | nil => intro i d h; simp at h
  | cons c l ih =>
    intro i d h
    rw [flat_cons]
    cases i with
    | zero => simp at h; subst h; simp
    | succ i =>
      have h' : l[i]? = some d := by simpa using h
      obtain ⟨h1, h2, h3⟩ := ih i d h'
      have e1 : (i + 1) * 3 = i * 3 + 1 + 1 + 1 := by omega
      refine ⟨?_, ?_, ?_⟩
      · rw [e1]; simpa using h1
      · rw [show (i + 1) * 3 + 1 = (i * 3 + 1) + 1 + 1 + 1 by omega]; simpa using h2
      · rw [show (i + 1) * 3 + 2 = (i * 3 + 2) + 1 + 1 + 1 by omega]; simpa using h3
theorem flat_take (l : List (Int × Int × Int)) : ∀ k, (flat l).take (k * 3) = flat (l.take k) := by
  induction l with
  | nil => intro k; simp [flat]
  | cons c l ih =>
    intro k
    cases k with
    | zero => simp [flat]
    | succ k =>
      rw [show (k + 1) * 3 = k * 3 + 1 + 1 + 1 by omega, flat_cons, List.take_succ_cons, List.take_succ_cons, List.take_succ_cons, List.take_succ_cons, flat_cons, ih]
theorem flat_one (l : List (Int × Int × Int)) : ∀ u ∈ flat l, u.oneCell' = true := by
  induction l with
  | nil => intro u h; cases h
  | cons c l ih =>
    intro u h
    rw [flat_cons] at h
    simp only [List.mem_cons] at h
    rcases h with rfl | rfl | rfl | h
    · rfl
    · rfl
    · rfl
    · exact ih u h
theorem ints_one (l : List Int) : ∀ u ∈ ints l, u.oneCell' = true := by
  intro u h
  obtain ⟨x, _, rfl⟩ := List.mem_map.1 h
  rfl

def Lies (w : World) (v : Value) (n : Nat) (xs : List Value) : Prop :=
  (v = .slice none 0 0 ∧ n = 0 ∧ xs = []) ∨ ∃ g o c, v = .slice (some ⟨g, o, none⟩) n c ∧ n ≤ c ∧ c ≤ maxLen ∧ ∀ j u, xs[j]? = some u → w.cell? ⟨g, o + j, none⟩ = some u

theorem Lies.form {w : World} {v : Value} {n : Nat} {xs : List Value} (h : Lies w v n xs) : ∃ a c, v = .slice a n c ∧ n ≤ c ∧ c ≤ maxLen := by
  rcases h with ⟨rfl, rfl, _⟩ | ⟨g, o, c, rfl, h1, h2, _⟩
  · exact ⟨_, _, rfl, Nat.le_refl _, Nat.zero_le _⟩
  · exact ⟨_, _, rfl, h1, h2⟩
theorem add_none (b o j : Nat) : (Addr.add ⟨b, o, none⟩ j) = ⟨b, o + j, none⟩ := by
  unfold Addr.add
  split <;> simp_all
theorem Lies.kept {w w' : World} {v : Value} {n : Nat} {xs : List Value} (h : Lies w v n xs) (k : Kept w w') : Lies w' v n xs := by
  rcases h with h | ⟨g, o, c, h1, h2, h3, h4⟩
  · exact .inl h
  · exact .inr ⟨g, o, c, h1, h2, h3, fun j u hu => k.some (h4 j u hu)⟩
theorem Lies.but {S : Nat → Prop} {w w' : World} {v : Value} {n : Nat} {xs : List Value} (h : Lies w v n xs) (k : But S w w') (hS : ∀ g, v.ownBlock = some g → ¬ S g) : Lies w' v n xs := by
  rcases h with h | ⟨g, o, c, rfl, h2, h3, h4⟩
  · exact .inl h
  · exact .inr ⟨g, o, c, rfl, h2, h3, fun j u hu => k.some (h4 j u hu) (hS g rfl)⟩

section
variable {w : World} {base : Nat} {e : TypeId} {size : Nat} {v : Value} {n : Nat} {xs : List Value}
theorem own_form (h : w.ownsRow base e size v n xs) : ∃ a c, v = .slice a n c := by
  rcases h.2 with ⟨rfl, rfl⟩ | ⟨g, cap, cur, rfl, _⟩
  · exact ⟨_, _, rfl⟩
  · exact ⟨_, _, rfl⟩
theorem own_lies (h : w.ownsRow base e size v n xs) : Lies w v n xs := by
  rcases h.2 with ⟨rfl, rfl⟩ | ⟨g, cap, cur, rfl, hb, hg, h1, h2, h3, h4⟩
  · have : xs = [] := List.eq_nil_of_length_eq_zero (by simpa using h.1)
    exact .inl ⟨rfl, rfl, this⟩
  · refine .inr ⟨g, 0, cap, rfl, h1, h2, fun j u hu => ?_⟩
    rw [Nat.zero_add, cell_of_row w g j cur e _ hg]
    rw [← h4] at hu
    have hj : j < n * size := by
      have := (List.getElem?_eq_some_iff.1 hu).1
      rw [List.length_take] at this
      omega
    rw [List.getElem?_take_of_lt hj] at hu
    simpa using hu
theorem own_soft (h : w.ownsRow base e size v n xs) (g : Nat) (hg : v.ownBlock = some g) (i : Nat) : w.frozen? ⟨g, i, none⟩ = false := by
  rcases h.2 with ⟨rfl, _⟩ | ⟨g', cap, cur, rfl, _, hh, _⟩
  · cases hg
  · have e' : g' = g := by simpa [Value.ownBlock] using hg
    subst e'
    exact frozen_of_row w g' i cur e hh
theorem own_same {w' : World} (h : w.ownsRow base e size v n xs) (hs : ∀ g, v.ownBlock = some g → w'.heap[g]? = w.heap[g]?) : w'.ownsRow base e size v n xs := by
  refine ⟨h.1, ?_⟩
  rcases h.2 with hn | ⟨g, cap, cur, rfl, hb, hg, rest⟩
  · exact .inl hn
  · exact .inr ⟨g, cap, cur, rfl, hb, (hs g rfl).trans hg, rest⟩
theorem own_mono {base' : Nat} (h : w.ownsRow base e size v n xs) (hb : base' ≤ base) : w.ownsRow base' e size v n xs := by
  refine ⟨h.1, ?_⟩
  rcases h.2 with hn | ⟨g, cap, cur, rfl, hb', rest⟩
  · exact .inl hn
  · exact .inr ⟨g, cap, cur, rfl, Nat.le_trans hb hb', rest⟩
end

theorem but_of_grown {w w' : World} {row : Option Nat} (h : w.grownBy w' row) (hf : ∀ g, row = some g → g < w.heap.size → ∀ i, w'.frozen? ⟨g, i, none⟩ = w.frozen? ⟨g, i, none⟩) : But (fun k => row = some k) w w' :=
  ⟨h.os, h.tape, h.output, h.size, fun k hk hS => h.block k hk (fun e => hS e.symm), fun a ha => by
    by_cases e : row = some a.block
    · obtain ⟨b, i, s⟩ := a
      cases s with
      | none => exact hf b e ha i
      | some s =>
        have := hf b e ha i
        simpa [World.frozen?] using this
    · exact World.frozen?_of_block (h.block a.block ha (fun h => e h.symm))⟩

section
variable {P : Program} (w : World)
theorem append_any (base : Nat) (t ty e : TypeId) (i : TypeInfo) (z : Value) (size bytes : Nat) (ht : P.underlying t = some (.slice e)) (hi : P.info? e = some i) (hz : i.zero = some z)
    (hsize : i.size = size) (hby : i.bytes = bytes) (hzs : z.cells.size = size) (hsz : 0 < size)
    (v : Value) (n : Nat) (xs : List Value) (hown : w.ownsRow base e size v n xs)
    (x : Value) (m : Nat) (news : List Value) (hl : news.length = m * size) (hx : Lies w x m news) (h1 : ∀ u ∈ news, u.oneCell' = true)
    (h63 : n + m ≤ maxLen) (hbytes : (n + m) * bytes ≤ 140737488355328) (hbase : base ≤ w.heap.size) :
    ∃ a c w', (Builtin.append_ #[t, t] ty #[v, x]).run P w = .ok (.slice a (n + m) c) w' ∧ w'.ownsRow base e size (.slice a (n + m) c) (n + m) (xs ++ news) ∧ But (fun k => v.ownBlock = some k) w w' ∧
      ((Value.slice a (n + m) c).ownBlock = v.ownBlock ∨ (Value.slice a (n + m) c).ownBlock = some w.heap.size) := by
  rcases hx with ⟨rfl, rfl, rfl⟩ | ⟨g, o, c, rfl, _, _, hc⟩
  · obtain ⟨a, c, rfl⟩ := own_form hown
    refine ⟨a, c, w, ?_, by simpa using hown, But.refl _ _, Or.inl rfl⟩
    rcases hown.2 with ⟨hv, rfl⟩ | ⟨g', cap, cur, hv, _, _, hnc, _⟩
    · cases hv
      simp [Builtin.append_, run_underlying ht, sizeOf, typeInfo, hi, Builtin.lenOf, Builtin.firstCells]
    · cases hv
      simp [Builtin.append_, run_underlying ht, sizeOf, typeInfo, hi, Builtin.lenOf, Builtin.firstCells, hnc, storeCells]
  · obtain ⟨v', w', hr, h2, h3, _, h5⟩ := run_append_own_at (P := P) w base t ty e i z size bytes ht hi hz hsize hby hzs hsz v n xs hown ⟨g, o, none⟩ m c news hl (fun j u hu => by rw [add_none]; exact hc j u hu) h1 h63 hbytes hbase
    obtain ⟨a, c', rfl⟩ := own_form h2
    refine ⟨a, c', w', hr, h2, but_of_grown h3 fun g' hg' _ k => ?_, h5⟩
    have hnews : ∀ j u, news[j]? = some u → w.cell? ((⟨g, o, none⟩ : Addr).add j) = some u := fun j u hu => by rw [add_none]; exact hc j u hu
    subst hsize
    subst hby
    rcases hown.2 with ⟨rfl, _⟩ | ⟨g2, cap, cur, rfl, _, hg2, hnc, hcm, hcs, htake⟩
    · cases hg'
    · have e' : g2 = g' := by simpa [Value.ownBlock] using hg'
      subst e'
      by_cases hroom : n + m ≤ cap
      · have hr2 := run_append_room (P := P) w t ty e i ht hi g2 n cap cur hg2 ⟨g, o, none⟩ m c news hl hnews h1 hroom (by rw [hl, hcs, ← Nat.add_mul]; exact Nat.mul_le_mul_right _ hroom)
        rw [hr] at hr2
        injection hr2 with _ hw
        rw [hw, frozen_of_row _ g2 k _ e (setRow_heap w g2 cur _ e _ hg2), frozen_of_row _ g2 k _ e hg2]
      · have hr2 := run_append_grow (P := P) w t ty e i z ht hi hz ⟨g2, 0, none⟩ n cap xs hown.1 (hown.cells (g := g2) rfl) ⟨g, o, none⟩ m c news hl hnews (by omega) (by unfold maxLen at h63; omega) (growslice_fits (by omega) hbytes)
        rw [hr] at hr2
        injection hr2 with _ hw
        rw [hw]
        exact (((Kept.refl w).drew).alloc _ _).froze ⟨g2, k, none⟩ (Array.getElem?_eq_some_iff.1 hg2).1

theorem wp_append_any {o : Oper} {A : Act} {K : Act → World → Prop} {Q : Exit → Act → World → Prop} (s x : Operand) (t : TypeId)
    (ho : o.op = .call { callee := .builtin .append, args := #[s, x], argTypes := #[t, t] })
    (base : Nat) (e : TypeId) (i : TypeInfo) (z : Value) (size bytes : Nat) (ht : P.underlying t = some (.slice e)) (hi : P.info? e = some i) (hz : i.zero = some z)
    (hsize : i.size = size) (hby : i.bytes = bytes) (hzs : z.cells.size = size) (hsz : 0 < size)
    (v : Value) (n : Nat) (xs : List Value) (hs : A.eval s = v) (hown : w.ownsRow base e size v n xs)
    (y : Value) (m : Nat) (news : List Value) (hy : A.eval x = y) (hl : news.length = m * size) (hx : Lies w y m news) (h1 : ∀ u ∈ news, u.oneCell' = true)
    (h63 : n + m ≤ maxLen) (hbytes : (n + m) * bytes ≤ 140737488355328) (hbase : base ≤ w.heap.size)
    (h : ∀ a c w', w'.ownsRow base e size (.slice a (n + m) c) (n + m) (xs ++ news) → But (fun k => v.ownBlock = some k) w w' →
      ((Value.slice a (n + m) c).ownBlock = v.ownBlock ∨ (Value.slice a (n + m) c).ownBlock = some w.heap.size) → K (A.put o.dst (.slice a (n + m) c)) w') : o.wp P A w K Q := by
  obtain ⟨a, c, w', hr, h2, h3, h4⟩ := append_any (P := P) w base t o.type e i z size bytes ht hi hz hsize hby hzs hsz v n xs hown y m news hl hx h1 h63 hbytes hbase
  unfold Oper.wp execOp
  simp only [ho, resolve, invoke, builtin, Sem.run_bind, Sem.run_pure, Result.andThen_ok, List.map_toArray, List.map_cons, List.map_nil, hs, hy, hr]
  exact h a c w' h2 h3 h4

theorem wpList_append_any {ops : Array Oper} {rest : List Oper} {o : Oper} {A : Act} {Q : Exit → Act → World → Prop} (hgd : o.guard = none) (s x : Operand) (t : TypeId)
    (ho : o.op = .call { callee := .builtin .append, args := #[s, x], argTypes := #[t, t] })
    (base : Nat) (e : TypeId) (i : TypeInfo) (z : Value) (size bytes : Nat) (ht : P.underlying t = some (.slice e)) (hi : P.info? e = some i) (hz : i.zero = some z)
    (hsize : i.size = size) (hby : i.bytes = bytes) (hzs : z.cells.size = size) (hsz : 0 < size)
    (v : Value) (n : Nat) (xs : List Value) (hs : A.eval s = v) (hown : w.ownsRow base e size v n xs)
    (y : Value) (m : Nat) (news : List Value) (hy : A.eval x = y) (hl : news.length = m * size) (hx : Lies w y m news) (h1 : ∀ u ∈ news, u.oneCell' = true)
    (h63 : n + m ≤ maxLen) (hbytes : (n + m) * bytes ≤ 140737488355328) (hbase : base ≤ w.heap.size)
    (h : ∀ a c w', w'.ownsRow base e size (.slice a (n + m) c) (n + m) (xs ++ news) → But (fun k => v.ownBlock = some k) w w' →
      ((Value.slice a (n + m) c).ownBlock = v.ownBlock ∨ (Value.slice a (n + m) c).ownBlock = some w.heap.size) → wpList P ops Q rest (A.put o.dst (.slice a (n + m) c)) w') : wpList P ops Q (o :: rest) A w :=
  wpList_plain hgd fun _ hK => wp_append_any w s x t ho base e i z size bytes ht hi hz hsize hby hzs hsz v n xs hs hown y m news hy hl hx h1 h63 hbytes hbase fun a c w' h2 h3 h4 => hK _ _ (h a c w' h2 h3 h4)

theorem step_append_any {ops : Array Oper} {o : Oper} {A : Act} {K : Act → World → Prop} {Q : Exit → Act → World → Prop} {E : Prop} (hgd : o.guard = none) (s x : Operand) (t : TypeId)
    (ho : o.op = .call { callee := .builtin .append, args := #[s, x], argTypes := #[t, t] })
    (base : Nat) (e : TypeId) (i : TypeInfo) (z : Value) (size bytes : Nat) (ht : P.underlying t = some (.slice e)) (hi : P.info? e = some i) (hz : i.zero = some z)
    (hsize : i.size = size) (hby : i.bytes = bytes) (hzs : z.cells.size = size) (hsz : 0 < size)
    (v : Value) (n : Nat) (xs : List Value) (hs : A.eval s = v) (hown : w.ownsRow base e size v n xs)
    (y : Value) (m : Nat) (news : List Value) (hy : A.eval x = y) (hl : news.length = m * size) (hx : Lies w y m news) (h1 : ∀ u ∈ news, u.oneCell' = true)
    (h63 : n + m ≤ maxLen) (hbytes : (n + m) * bytes ≤ 140737488355328) (hbase : base ≤ w.heap.size)
    (h : ∀ a c w', w'.ownsRow base e size (.slice a (n + m) c) (n + m) (xs ++ news) → But (fun k => v.ownBlock = some k) w w' →
      ((Value.slice a (n + m) c).ownBlock = v.ownBlock ∨ (Value.slice a (n + m) c).ownBlock = some w.heap.size) → K (A.put o.dst (.slice a (n + m) c)) w') :
    if Region.wanted o (yielded ops A.tmps) = true then Oper.wp P o A w K Q else E := by
  have hw : Region.wanted o (yielded ops A.tmps) = true := by simp [Region.wanted, hgd]
  rw [if_pos hw]
  exact wp_append_any w s x t ho base e i z size bytes ht hi hz hsize hby hzs hsz v n xs hs hown y m news hy hl hx h1 h63 hbytes hbase h
end
end Go.Proofs.Ytejiogggocnldaa
