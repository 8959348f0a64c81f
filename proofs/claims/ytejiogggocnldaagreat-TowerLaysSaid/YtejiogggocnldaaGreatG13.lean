/- A range over a func of however many values, round by round (as StRange's, which is of one value). -/
import Derived.Test.YtejiogggocnldaaGreatG12
import Derived.Test.YtejiogggocnldaaGreatG03
import Derived.Lib.Hide
import Derived.Deep.Light
import Derived.Deep.RegionHeld3
import Derived.Laws.EntriesVeiled
set_option linter.unusedVariables false
set_option linter.unusedSimpArgs false

namespace Go.Proofs.YtejiogggocnldaaGreat.Ep
set_option maxRecDepth 20000
open Go.RowKit Go.Shelf
open Sk (but_turned Blk leaves)

theorem range_manyN {α : Type} {Bs : Nat → Prop} {n : Nat} {P : Program} {g : Operand} {ps : Array Tmp} {assign body : Code} {Q : Exit → Act → World → Prop} {a : Act} {w : World} (h1 : 1 ≤ n)
    {gf : Nat} {lb : Array Value} (hg : a.eval g = .func (.func gf) #[] lb) (eg : ∀ args w, (callFunc gf args).run P w = .ok (.enter gf args) w) (enc : α → Array Value) (hsz : ∀ x, (enc x).size = ps.size)
    (hBs : ∀ k, Bs k → k < w.heap.size ∨ w.heap.size + 1 + 1 ≤ k)
    (I : List α → World → Prop) (Ix : Code → List α → World → Prop) (So : List α → α → Prop) (Nn : List α → Prop)
    (hI0 : ∀ W, Kept w W → I [] W)
    (hIk : ∀ pre W W', I pre W → Kept W W' → I pre W')
    (hIl : ∀ pre W l y y', w.heap.size ≤ l → W.heap[l]? = some (.loop y) → I pre W → I pre (W.putObj l (.loop y')))
    (hXk : ∀ c pre W W', Ix c pre W → Kept W W' → Ix c pre W')
    (hXl : ∀ c pre W l y y', w.heap.size ≤ l → W.heap[l]? = some (.loop y) → Ix c pre W → Ix c pre (W.putObj l (.loop y')))
    (hseq : ∀ (l : Nat) (W0 : World) (J Jx : List α → World → Prop), Kept w W0 → W0.heap.size = w.heap.size + 1 + 1 → l < W0.heap.size →
      (∀ pre W W', J pre W → Kept W W' → J pre W') → (∀ pre W, J pre W → I pre W ∧ Blk (fun k => Bs k ∨ (w.heap.size ≤ k ∧ k < w.heap.size + 1 + 1)) W0 W) →
      (∀ pre x W1, J pre W1 → So pre x → YieldAt Fence.wide (n - 1 - 1) P l (enc x) W1 fun e W' => (e = .returned (.bool true) ∧ J (pre ++ [x]) W') ∨ (e = .returned (.bool false) ∧ Jx (pre ++ [x]) W')) →
      J [] W0 →
      CallsIn Fence.wide (n - 1) P gf (#[.func (.yield l) #[] #[]] ++ lb) W0 fun e W' => (∃ v, e = .returned v) ∧ ((∃ xs, Nn xs ∧ J xs W') ∨ ∃ pre W1, Jx pre W1 ∧ Kept W1 W'))
    (a1 : α → Act) (hassign : ∀ (l : Nat) (x : α) (W : World) (K : Act → World → Prop), K (a1 x) W → assign.wpIn (Fence.wide.inRound l) (n - 1 - 1) P (Exit.then K (fun _ _ _ => False)) { tmps := (ps.zip (enc x)).foldl (fun (t : Array Value) (q : Tmp × Value) => t.setIfInBounds q.1 q.2) a.tmps, defers := [] } W)
    (hbody : ∀ (l : Nat) (pre : List α) (x : α) (W : World), I pre W → So pre x → w.heap.size + 1 + 1 ≤ W.heap.size → Blk Bs w W →
      body.wpIn (Fence.wide.inRound l) (n - 1 - 1) P (fun e _ W3 => (e = .normal ∧ I (pre ++ [x]) W3 ∧ Blk Bs W W3) ∨ (∃ c, leaves e c ∧ Ix c (pre ++ [x]) W3 ∧ Blk Bs W W3)) (a1 x) W)
    (hdone : ∀ (D : Nat) (xs : List α) (W : World), Nn xs → I xs W → Blk Bs w W → w.heap.size ≤ D → W.heap[D]? = some (.deferred (some [])) → Q .normal { a with defers := { target := .collected D, args := #[] } :: a.defers } W)
    (hstop : ∀ (D : Nat) (c : Code) (xs : List α) (W : World), Ix c xs W → Blk Bs w W → w.heap.size ≤ D → W.heap[D]? = some (.deferred (some [])) → c.wpIn Fence.wide n P Q { a with defers := { target := .collected D, args := #[] } :: a.defers } W) :
    (Code.rangeFunc g ps assign body).wpIn Fence.wide n P Q a w := by
  refine wpIn_rangeFunc fun fn hfn => ?_
  rw [show Fence.wide.round = none from rfl]
  obtain ⟨rc, hrc⟩ : ∃ rc : LoopState → Option Code → Loop, rc = fun st pe => { state := st, pending := pe, fn, tmps := a.tmps, params := ps, assign, body, defers := w.heap.size } := ⟨_, rfl⟩
  obtain ⟨WD, hWD⟩ : ∃ WD, w.alloc (.deferred (some [])) = WD := ⟨_, rfl⟩
  obtain ⟨W0, hW0⟩ : ∃ W0, WD.alloc (.loop (rc .ready none)) = W0 := ⟨_, rfl⟩
  have sD : WD.heap.size = w.heap.size + 1 := by rw [← hWD]; simp
  have s0 : W0.heap.size = w.heap.size + 1 + 1 := by rw [← hW0]; simp [sD]
  have kD : Kept w WD := by rw [← hWD]; exact ⟨(Kept.refl _).below.alloc (Kept.refl _).below.size _⟩
  have k0 : Kept WD W0 := by rw [← hW0]; exact ⟨(Kept.refl _).below.alloc (Kept.refl _).below.size _⟩
  have kW : Kept w W0 := kD.trans k0
  have bL : W0.heap[w.heap.size + 1]? = some (.loop (rc .ready none)) := by
    rw [← hW0, ← sD]; exact World.alloc_heap_new _ _
  have bD : W0.heap[w.heap.size]? = some (.deferred (some [])) := by
    rw [k0.below.block _ (by omega), ← hWD]; exact World.alloc_heap_new _ _
  have h0 : (Instr.enterLoop fn a.tmps ps assign body none).run P w = .ok (w.heap.size + 1, [{ target := .collected w.heap.size, args := #[] }]) W0 := by
    rw [← hW0, ← hWD, hrc]; exact run_enterLoop_outer _ _ _ _ _
  refine ⟨_, _, W0, { target := .fn (.func gf) lb, args := #[.func (.yield (w.heap.size + 1)) #[] #[]] }, W0, gf, #[.func (.yield (w.heap.size + 1)) #[] #[]] ++ lb, W0, h0, ?_, fun _ _ => trivial, ?_, fun _ => h1, ?_⟩
  · simp only [resolve, hg]
    simp [go_sem]
  · simp [invoke, go_sem, eg]
  -- between two rounds, and behind one that leaves
  refine (hseq (w.heap.size + 1) W0
    (fun pre W => I pre W ∧ W.heap[w.heap.size + 1]? = some (.loop (rc .ready none)) ∧ W.heap[w.heap.size]? = some (.deferred (some [])) ∧ Blk (fun k => Bs k ∨ k = w.heap.size + 1) W0 W)
    (fun pre W => ∃ c, Ix c pre W ∧ W.heap[w.heap.size + 1]? = some (.loop (rc .done (some c))) ∧ W.heap[w.heap.size]? = some (.deferred (some [])) ∧ Blk (fun k => Bs k ∨ k = w.heap.size + 1) W0 W)
    kW s0 (by omega) ?_ ?_ ?_ ⟨hI0 _ kW, bL, bD, Sk.Blk.refl _ _⟩).mono ?_
  · rintro pre W W' ⟨hi, hl, hd, hb⟩ k
    exact ⟨hIk _ _ _ hi k, (k.below.block _ (Array.getElem?_eq_some_iff.1 hl).1).trans hl, (k.below.block _ (Array.getElem?_eq_some_iff.1 hd).1).trans hd, hb.then k⟩
  · rintro pre W ⟨hi, _, _, hb⟩
    exact ⟨hi, hb.mono fun k _ h => h.imp id (fun e => by subst e; omega)⟩
  · rintro pre x W1 ⟨hi, hl, hd, hb⟩ hso
    have hy := run_yield (P := P) (args := enc x) hl (by rw [hrc]; exact hsz x)
    rw [hrc] at hy
    have hy' : (Instr.yield (w.heap.size + 1) (enc x)).run P W1 = .ok (.round (w.heap.size + 1) fn ((ps.zip (enc x)).foldl (fun (t : Array Value) (q : Tmp × Value) => t.setIfInBounds q.1 q.2) a.tmps) assign body) W1 := hy
    clear hy
    refine ⟨fn, _, assign, body, hy', roundIn_of_wpIn hfn (hassign _ x W1 _ ?_)⟩
    have hlt := (Array.getElem?_eq_some_iff.1 hl).1
    have hbg := run_beginRound (P := P) hl (by rw [hrc])
    have e1 : ({ rc .ready none with state := .busy } : Loop) = rc .busy none := by rw [hrc]
    rw [e1] at hbg
    have b2 : Blk (fun k => k = w.heap.size + 1) W1 (W1.putObj (w.heap.size + 1) (.loop (rc .busy none))) := (Sk.Blk.refl _ _).turned hl (.inl rfl)
    have z2 : W0.heap.size ≤ (W1.putObj (w.heap.size + 1) (.loop (rc .busy none))).heap.size := Nat.le_trans hb.size b2.size
    have hw2 : Blk Bs w (W1.putObj (w.heap.size + 1) (.loop (rc .busy none))) :=
      ((Sk.Blk.of (kW.but Bs)).trans (hb.trans (b2.mono fun k _ h => Or.inr h) (fun _ _ h => h)) fun k hk h => h.elim id (fun e => by omega))
    refine ⟨_, hbg, wpIn_mono (hbody (w.heap.size + 1) pre x _ (hIl _ _ _ _ _ (by omega) hl hi) hso (by omega) hw2) ?_⟩
    have l2 : (W1.putObj (w.heap.size + 1) (.loop (rc .busy none))).heap[w.heap.size + 1]? = some (.loop (rc .busy none)) := World.putObj_heap_same hlt
    have d2 : (W1.putObj (w.heap.size + 1) (.loop (rc .busy none))).heap[w.heap.size]? = some (.deferred (some [])) := (World.putObj_heap_other (by omega)).trans hd
    have no : ∀ k, w.heap.size ≤ k → k < w.heap.size + 1 + 1 → ¬ Bs k := fun k hk hk' h => absurd (hBs k h) (by omega)
    rintro e a3 W3 (⟨rfl, hi3, b3⟩ | ⟨c, hc, hx3, b3⟩)
    · have l3 := (b3.block _ (by omega) (no _ (by omega) (by omega))).trans l2
      have d3 := (b3.block _ (by omega) (no _ (by omega) (by omega))).trans d2
      have he := run_endRound (P := P) none l3
      have e2 : ({ rc .busy none with state := if (none : Option Code).isNone then .ready else .done, pending := none } : Loop) = rc .ready none := by rw [hrc]; rfl
      rw [e2] at he
      refine ⟨_, _, he, .inl ⟨rfl, hIl _ _ _ _ _ (by omega) l3 hi3, World.putObj_heap_same (Array.getElem?_eq_some_iff.1 l3).1, (World.putObj_heap_other (by omega)).trans d3, ?_⟩⟩
      exact (hb.trans ((b2.mono (T := fun k => Bs k ∨ k = w.heap.size + 1) fun k _ h => Or.inr h).trans (b3.mono fun k _ h => Or.inl h) (fun _ _ h => h)) (fun _ _ h => h)).turned l3 (.inl (.inr rfl))
    · have l3 := (b3.block _ (by omega) (no _ (by omega) (by omega))).trans l2
      have d3 := (b3.block _ (by omega) (no _ (by omega) (by omega))).trans d2
      have he := run_endRound (P := P) (some c) l3
      have e2 : ({ rc .busy none with state := if (some c).isNone then .ready else .done, pending := some c } : Loop) = rc .done (some c) := by rw [hrc]; rfl
      rw [e2] at he
      have fin : ∃ v w', (Instr.endRound (w.heap.size + 1) (some c)).run P W3 = .ok v w' ∧ v = .bool false ∧ (∃ c, Ix c (pre ++ [x]) w' ∧ w'.heap[w.heap.size + 1]? = some (.loop (rc .done (some c))) ∧ w'.heap[w.heap.size]? = some (.deferred (some [])) ∧ Blk (fun k => Bs k ∨ k = w.heap.size + 1) W0 w') :=
        ⟨_, _, he, rfl, ⟨c, hXl _ _ _ _ _ _ (by omega) l3 hx3, World.putObj_heap_same (Array.getElem?_eq_some_iff.1 l3).1, (World.putObj_heap_other (by omega)).trans d3,
          (hb.trans ((b2.mono (T := fun k => Bs k ∨ k = w.heap.size + 1) fun k _ h => Or.inr h).trans (b3.mono fun k _ h => Or.inl h) (fun _ _ h => h)) (fun _ _ h => h)).turned l3 (.inl (.inr rfl))⟩⟩
      clear he
      rcases hc with ⟨rfl, rfl⟩ | ⟨id, rfl, rfl⟩
      · obtain ⟨v, w', he, rfl, rest⟩ := fin
        exact ⟨_, _, he, .inr ⟨rfl, rest⟩⟩
      · obtain ⟨v, w', he, rfl, rest⟩ := fin
        exact ⟨_, _, he, .inr ⟨rfl, rest⟩⟩
  · have end1 : ∀ W, Blk (fun k => Bs k ∨ k = w.heap.size + 1) W0 W → Blk Bs w W := fun W hb => (Sk.Blk.of (kW.but Bs)).trans hb fun k hk h => h.elim id (fun e => by omega)
    rintro e W2 ⟨⟨v, rfl⟩, ⟨xs, hN, hi, hl, hd, hb⟩ | ⟨pre, W1, ⟨c, hx, hl, hd, hb⟩, k⟩⟩
    · have hen := run_endLoop (P := P) hl (by rw [hrc]; simp)
      have e3 : (rc .ready none).pending = none := by rw [hrc]
      rw [e3] at hen
      exact ⟨none, _, hen, hdone _ _ _ hN (hIl _ _ _ _ _ (by omega) hl hi) ((end1 _ hb).turned hl (.inr (by omega))) (Nat.le_refl _) ((World.putObj_heap_other (by omega)).trans hd)⟩
    · have l2 := (k.below.block _ (Array.getElem?_eq_some_iff.1 hl).1).trans hl
      have d2 := (k.below.block _ (Array.getElem?_eq_some_iff.1 hd).1).trans hd
      have hen := run_endLoop (P := P) l2 (by rw [hrc]; simp)
      have e3 : (rc .done (some c)).pending = some c := by rw [hrc]
      rw [e3] at hen
      exact ⟨some c, _, hen, hstop _ _ _ _ (hXl _ _ _ _ _ _ (by omega) l2 (hXk _ _ _ _ hx k)) ((end1 _ (hb.then k)).turned l2 (.inr (by omega))) (Nat.le_refl _) ((World.putObj_heap_other (by omega)).trans d2)⟩
end Go.Proofs.YtejiogggocnldaaGreat.Ep

namespace Go.Proofs.YtejiogggocnldaaGreat.Ep
set_option maxRecDepth 20000
open Go.RowKit Go.Shelf
open Wo (St acc wordAt PMem RefIs)
open Sk (Stk Wd Blk)
attribute [local go_sem] Oper.semAt_some

def cs (i : Int) (k : Nat) : List Int := (List.range k).map (fun j : Nat => i + (j : Int))
theorem cs_succ (i : Int) (k : Nat) : cs i (k + 1) = cs i k ++ [i + (k : Int)] := by simp [cs, List.range_succ]
theorem cs_length (i : Int) (k : Nat) : (cs i k).length = k := by simp [cs]
structure PBoxes (w : World) (a b : Nat) (S : Stk) (i : Int) : Prop where
  a0 : w.cell? ⟨a, 0, none⟩ = some (.int .i64 S.T)
  a1 : w.cell? ⟨a, 1, none⟩ = some (.int .i64 S.K)
  a2 : w.cell? ⟨a, 2, none⟩ = some (.int .i64 S.N)
  b0 : w.cell? ⟨b, 0, none⟩ = some (.int .i64 i)
theorem PBoxes.kept {w w' : World} {a b : Nat} {S : Stk} {i : Int} (h : PBoxes w a b S i) (k : Kept w w') : PBoxes w' a b S i := ⟨k.some h.a0, k.some h.a1, k.some h.a2, k.some h.b0⟩
theorem PBoxes.blk {w w' : World} {a b : Nat} {S : Stk} {i : Int} (h : PBoxes w a b S i) {T : Nat → Prop} (k : Blk T w w') (ha : ¬ T a) (hb : ¬ T b) : PBoxes w' a b S i := by
  have cell : ∀ {b o : Nat} {u : Value}, w.cell? ⟨b, o, none⟩ = some u → ¬ T b → w'.cell? ⟨b, o, none⟩ = some u := fun {b o u} hc hT => (World.cell?_of_block (k.block b (lt_of_cell hc) hT)).trans hc
  exact ⟨cell h.a0 ha, cell h.a1 ha, cell h.a2 ha, cell h.b0 hb⟩

set_option maxHeartbeats 400000 in
theorem pins_any (S : Stk) (i : Int) (w : World) : Calls Tryz.prog 205 #[.agg #[.int .i64 S.T, .int .i64 S.K, .int .i64 S.N], .int .i64 i] w fun e w' => ∃ a b, e = .returned (.func (.func 223) #[] #[.pointer (some ⟨b, 0, none⟩), .pointer (some ⟨a, 0, none⟩)]) ∧ w.heap.size ≤ a ∧ w.heap.size ≤ b ∧ a < w'.heap.size ∧ b < w'.heap.size ∧ PBoxes w' a b S i ∧ Kept w w' := by
  go_enter Tryz.func205, Tryz.ntmps205
  go_wp2
  go_ret
  go_light
  refine ⟨w.heap.size, w.heap.size + 1, rfl, by omega, by omega, by simp; omega, by simp, ⟨?_, ?_, ?_, ?_⟩, by (go_light; repeat (first | (with_reducible exact Kept.refl _) | (with_reducible assumption) | (with_reducible refine Kept.alloc ?_ _ _) | (with_reducible refine Kept.drew ?_) | (with_reducible refine Kept.drewN ?_ _) | ((with_reducible refine Kept.setCell ?_ ?_ _); rotate_left; focus (first | (simp; done) | (simp; omega))) | refine Kept.trans ?_ (by assumption)))⟩
  · exact ((Kept.refl _).alloc _ _).some (cell_new w _ _ _ 0 rfl)
  · exact ((Kept.refl _).alloc _ _).some (cell_new w _ _ _ 1 rfl)
  · exact ((Kept.refl _).alloc _ _).some (cell_new w _ _ _ 2 rfl)
  · exact cell_new _ _ _ _ 0 (by simp)

theorem loop_ghost {F : Fence} {n : Nat} {P : Program} {Q : Exit → Act → World → Prop} {a : Act} {w : World} {c : Code} (NN : Nat) (Rel : Nat → Act → World → Prop) (h0 : Rel 0 a w)
    (hstep : ∀ k a w, Rel k a w → k < NN ∧ ∀ K : Act → World → Prop, (∀ a' w', Rel (k + 1) a' w' → K a' w') → c.wpIn F n P (Exit.then K Q) a w) : (Code.loop c).wpIn F n P Q a w := by
  have key : ∀ m k a w, Rel k a w → NN ≤ k + m → Code.roundsIn F n P c Q m a w := by
    intro m
    induction m with
    | zero => intro k a w h hk; have := (hstep k a w h).1; omega
    | succ m ih => intro k a w h hk; exact (hstep k a w h).2 _ fun a' w' h' => ih (k + 1) a' w' h' (by omega)
  exact wpIn_loop_rounds NN (key NN 0 a w h0 (by omega))
def PAct (l a b : Nat) (c : Int) (x5 x6 x7 x8 x9 x10 x11 x12 x13 x14 x15 x16 x17 x18 x19 x20 : Value) : Act :=
  { tmps := #[.func (.yield l) #[] #[], .pointer (some ⟨b, 0, none⟩), .pointer (some ⟨a, 0, none⟩), undef, .int .i64 c, x5, x6, x7, x8, x9, x10, x11, x12, x13, x14, x15, x16, x17, x18, x19, x20], defers := [] }
def PRel (J : List Int → World → Prop) (S : Stk) (i : Int) (l a b : Nat) (k : Nat) (A : Act) (w : World) : Prop :=
  (k = 0 ∨ i + k ≤ S.N) ∧ J (cs i k) w ∧ ∃ x5 x6 x7 x8 x9 x10 x11 x12 x13 x14 x15 x16 x17 x18 x19 x20, A = PAct l a b (i + k) x5 x6 x7 x8 x9 x10 x11 x12 x13 x14 x15 x16 x17 x18 x19 x20

set_option maxHeartbeats 4000000 in
theorem pins_in (m : Nat) (hm : 1 ≤ m) (l a b : Nat) (S : Stk) (i : Int) (i0 : 0 ≤ i) (i1 : i ≤ 100000) (hN : S.N ≤ 100000) (K0 : -1000000 ≤ S.K) (K1 : S.K ≤ 1000000) (J Jx : List Int → World → Prop)
    (hJk : ∀ pre W W', J pre W → Kept W W' → J pre W') (hJb : ∀ pre W, J pre W → PBoxes W a b S i)
    (hY : ∀ pre x W, J pre W → (pre = cs i pre.length ∧ x = i + (pre.length : Int) ∧ x < S.N) → YieldAt Fence.wide (m - 1) Tryz.prog l #[.int .i64 x, .int .i64 (S.K + x)] W fun e W' =>
      (e = .returned (.bool true) ∧ J (pre ++ [x]) W') ∨ (e = .returned (.bool false) ∧ Jx (pre ++ [x]) W'))
    (W : World) (h0 : J [] W) :
    CallsIn Fence.wide m Tryz.prog 223 #[.func (.yield l) #[] #[], .pointer (some ⟨b, 0, none⟩), .pointer (some ⟨a, 0, none⟩)] W fun e W' => (∃ v, e = .returned v) ∧
      ((∃ xs, (∃ k : Nat, xs = cs i k ∧ S.N ≤ i + k) ∧ J xs W') ∨ (∃ pre W1, Jx pre W1 ∧ Kept W1 W')) := by
  refine callsIn_of_wp Tryz.func223 rfl trivial ?_ rfl
  simp only [Tryz.ntmps223, List.size_toArray, List.length_cons, List.length_nil, Nat.reduceAdd, Nat.reduceSub, Array.replicate_succ, Array.replicate_zero, List.push_toArray, List.append_toArray, List.nil_append, List.cons_append]
  rw [wpIn_wide]
  obtain ⟨a0, a1, a2, b0⟩ := hJb _ _ h0
  have HY := Lib.hid hY
  have HK := Lib.hid hJk
  have HB := Lib.hid hJb
  clear hY hJk hJb
  have hfm : Tryz.prog.follows .mixedOrders = true := by kernel_rfl
  go_wp2_with fail
  rw [← wpIn_wide (n := m)]
  refine loop_ghost ((S.N - i).toNat + 1) (PRel J S i l a b) ⟨.inl rfl, h0, _, _, _, _, _, _, _, _, _, _, _, _, _, _, _, _, by rw [show i + ((0 : Nat) : Int) = i from by simp]; rfl⟩ ?_
  clear h0 a0 a1 a2 b0
  rintro k _ w ⟨hk, hj, x5, x6, x7, x8, x9, x10, x11, x12, x13, x14, x15, x16, x17, x18, x19, x20, rfl⟩
  refine ⟨by omega, fun K hK => ?_⟩
  obtain ⟨a0, a1, a2, b0⟩ := HB.out _ _ hj
  unfold PAct
  obtain ⟨x, hx⟩ : ∃ x : Int, x = i + (k : Int) := ⟨_, rfl⟩
  rw [← hx]
  have HX := Lib.hid hx
  by_cases hs : x < S.N
  · obtain ⟨fn, tmps, assign, body, hy, hR⟩ := HY.out _ x w hj ⟨by rw [cs_length], by rw [cs_length]; exact hx, hs⟩
    have qk : wrap64 (S.K + x) = S.K + x := by unfold wrap64; omega
    have qx : wrap64 (x + 1) = x + 1 := by unfold wrap64; omega
    have x0 : 0 ≤ x := by omega
    have x1 : x ≤ 100000 := by omega
    clear hx hk
    gi_wp2
    refine hR.mono ?_
    rintro e W3 (⟨rfl, hJ3⟩ | ⟨rfl, hJx3⟩)
    · have J3 := Lib.hid hJ3
      obtain ⟨c0, c1, c2, d0⟩ := HB.out _ _ hJ3
      clear hJ3 hy hR hj a0 a1 a2 b0
      gi_wp2
      refine ⟨?_, ?_, _, _, _, _, _, _, _, _, _, _, _, _, _, _, _, _, by rw [show i + ((k + 1 : Nat) : Int) = x + 1 from by rw [HX.out, Int.natCast_add]; omega]; rfl⟩
      · have := HX.out
        exact .inr (by omega)
      · rw [cs_succ, ← HX.out]
        exact J3.out
    · gi_wp2
      go_end0
      exact ⟨⟨_, rfl⟩, .inr ⟨_, _, hJx3, Kept.refl _⟩⟩
  · have HS : S.N ≤ i + (k : Int) := by omega
    have HSS := Lib.hid HS
    clear hx hk HS
    gi_wp2
    refine ⟨fun _ h => (by cases h), ?_⟩
    gi_wp2
    go_end0
    exact ⟨⟨_, rfl⟩, .inl ⟨_, ⟨k, rfl, HSS.out⟩, hj⟩⟩
end Go.Proofs.YtejiogggocnldaaGreat.Ep
