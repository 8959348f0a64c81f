/- A range over a func of one value, round by round: the body goes on, or leaves by a return or an exit; the iterator's contract may lean on what the body keeps, and on how many rounds there can be. -/
import Derived.Test.YtejiogggocnldaaG00
import Derived.RangeFuncNested
import Derived.RangeFuncBound
import Derived.RangeFuncCalls
import Derived.RangeFuncLeaves
import Derived.Shelf.Abstract
import Derived.Shelf.RegionOpen
import Derived.OwnWalkIn
import Derived.TacticsInMore
import Derived.LoopNIn
import Derived.LoopIn
set_option linter.unusedVariables false
set_option linter.unusedSimpArgs false

namespace Go.Proofs.Ytejiogggocnldaa.Sk
set_option maxRecDepth 20000
open Go.RowKit Go.Shelf

theorem but_turned {S : Nat → Prop} {a w : World} {l : Nat} {o o' : Obj} (h : But S a w) (hl : w.heap[l]? = some o) (ho : o.isCells = false) (ho' : o'.isCells = false) (hS : S l ∨ a.heap.size ≤ l) : But S a (w.putObj l o') := by
  have hlt := (Array.getElem?_eq_some_iff.1 hl).1
  refine ⟨h.os, h.tape, h.output, by simpa [World.putObj] using h.size, fun k hk hk' => ?_, fun x hx => ?_⟩
  · have hne : k ≠ l := fun e => hS.elim (fun s => hk' (e ▸ s)) fun s => by omega
    exact (World.putObj_heap_other hne).trans (h.block k hk hk')
  · refine Eq.trans ?_ (h.froze x hx)
    by_cases e : x.block = l
    · have h1 : (w.putObj l o').heap[x.block]? = some o' := by rw [e]; exact World.putObj_heap_same hlt
      have h2 : w.heap[x.block]? = some o := by rw [e]; exact hl
      unfold World.frozen?
      rw [h1, h2]
      cases o <;> cases o' <;> simp_all [Obj.isCells]
    · exact World.frozen?_of_block (World.putObj_heap_other e)

structure Blk (S : Nat → Prop) (w w' : World) : Prop where
  os : w'.os = w.os
  tape : w'.tape = w.tape
  output : w'.output = w.output
  size : w.heap.size ≤ w'.heap.size
  block : ∀ k, k < w.heap.size → ¬ S k → w'.heap[k]? = w.heap[k]?
theorem Blk.of {S : Nat → Prop} {w w' : World} (h : But S w w') : Blk S w w' := ⟨h.os, h.tape, h.output, h.size, h.block⟩
theorem Blk.refl (S : Nat → Prop) (w : World) : Blk S w w := .of (But.refl _ _)
theorem Blk.mono {S T : Nat → Prop} {w w' : World} (h : Blk S w w') (hST : ∀ k, k < w.heap.size → S k → T k) : Blk T w w' :=
  ⟨h.os, h.tape, h.output, h.size, fun k hk hT => h.block k hk (fun hS => hT (hST k hk hS))⟩
theorem Blk.trans {S T : Nat → Prop} {a b c : World} (h : Blk S a b) (k : Blk T b c) (hT : ∀ i, i < a.heap.size → T i → S i) : Blk S a c :=
  ⟨k.os.trans h.os, k.tape.trans h.tape, k.output.trans h.output, Nat.le_trans h.size k.size,
   fun i hi hS => (k.block i (Nat.lt_of_lt_of_le hi h.size) (fun ht => hS (hT i hi ht))).trans (h.block i hi hS)⟩
theorem Blk.then {S : Nat → Prop} {a b c : World} (h : Blk S a b) (k : Kept b c) : Blk S a c := h.trans (.of (k.but S)) (fun _ _ h => h)
theorem Blk.turned {S : Nat → Prop} {a w : World} {l : Nat} {o o' : Obj} (h : Blk S a w) (hl : w.heap[l]? = some o) (hS : S l ∨ a.heap.size ≤ l) : Blk S a (w.putObj l o') := by
  have hlt := (Array.getElem?_eq_some_iff.1 hl).1
  refine ⟨h.os, h.tape, h.output, by simpa [World.putObj] using h.size, fun k hk hk' => ?_⟩
  have hne : k ≠ l := fun e => hS.elim (fun s => hk' (e ▸ s)) fun s => by omega
  exact (World.putObj_heap_other hne).trans (h.block k hk hk')
theorem Blk.kept {S : Nat → Prop} {w w' : World} (h : Blk S w w') (hS : ∀ k, k < w.heap.size → ¬ S k) : Kept w w' :=
  ⟨⟨h.os, h.tape, h.output, h.size, fun k hk => h.block k hk (hS k hk)⟩⟩

def leaves (e : Exit) (c : Code) : Prop := (e = .ret ∧ c = .ret) ∨ ∃ id, e = .exit id ∧ c = .exit id

theorem range_many {α : Type} {Bs : Nat → Prop} {n : Nat} {P : Program} {g : Operand} {p : Tmp} {assign body : Code} {Q : Exit → Act → World → Prop} {a : Act} {w : World} (h1 : 1 ≤ n)
    {gf : Nat} {lb : Array Value} (hg : a.eval g = .func (.func gf) #[] lb) (eg : ∀ args w, (callFunc gf args).run P w = .ok (.enter gf args) w) (enc : α → Value)
    (hBs : ∀ k, Bs k → k < w.heap.size ∨ w.heap.size + 1 + 1 ≤ k)
    (I : List α → World → Prop) (Ix : Code → List α → World → Prop) (So : List α → α → Prop) (Nn : List α → Prop)
    (hI0 : ∀ W, Kept w W → I [] W)
    (hIk : ∀ pre W W', I pre W → Kept W W' → I pre W')
    (hIl : ∀ pre W l y y', w.heap.size ≤ l → W.heap[l]? = some (.loop y) → I pre W → I pre (W.putObj l (.loop y')))
    (hXk : ∀ c pre W W', Ix c pre W → Kept W W' → Ix c pre W')
    (hXl : ∀ c pre W l y y', w.heap.size ≤ l → W.heap[l]? = some (.loop y) → Ix c pre W → Ix c pre (W.putObj l (.loop y')))
    (hseq : ∀ (l : Nat) (W0 : World) (J Jx : List α → World → Prop), Kept w W0 → W0.heap.size = w.heap.size + 1 + 1 → l < W0.heap.size →
      (∀ pre W W', J pre W → Kept W W' → J pre W') → (∀ pre W, J pre W → I pre W ∧ Blk (fun k => Bs k ∨ (w.heap.size ≤ k ∧ k < w.heap.size + 1 + 1)) W0 W) →
      (∀ pre x W1, J pre W1 → So pre x → YieldAt Fence.wide (n - 1 - 1) P l #[enc x] W1 fun e W' => (e = .returned (.bool true) ∧ J (pre ++ [x]) W') ∨ (e = .returned (.bool false) ∧ Jx (pre ++ [x]) W')) →
      J [] W0 →
      CallsIn Fence.wide (n - 1) P gf (#[.func (.yield l) #[] #[]] ++ lb) W0 fun e W' => (∃ v, e = .returned v) ∧ ((∃ xs, Nn xs ∧ J xs W') ∨ ∃ pre W1, Jx pre W1 ∧ Kept W1 W'))
    (a1 : α → Act) (hassign : ∀ (l : Nat) (x : α) (W : World) (K : Act → World → Prop), K (a1 x) W → assign.wpIn (Fence.wide.inRound l) (n - 1 - 1) P (Exit.then K (fun _ _ _ => False)) { tmps := a.tmps.setIfInBounds p (enc x), defers := [] } W)
    (hbody : ∀ (l : Nat) (pre : List α) (x : α) (W : World), I pre W → So pre x → w.heap.size + 1 + 1 ≤ W.heap.size → Blk Bs w W →
      body.wpIn (Fence.wide.inRound l) (n - 1 - 1) P (fun e _ W3 => (e = .normal ∧ I (pre ++ [x]) W3 ∧ Blk Bs W W3) ∨ (∃ c, leaves e c ∧ Ix c (pre ++ [x]) W3 ∧ Blk Bs W W3)) (a1 x) W)
    (hdone : ∀ (D : Nat) (xs : List α) (W : World), Nn xs → I xs W → Blk Bs w W → w.heap.size ≤ D → W.heap[D]? = some (.deferred (some [])) → Q .normal { a with defers := { target := .collected D, args := #[] } :: a.defers } W)
    (hstop : ∀ (D : Nat) (c : Code) (xs : List α) (W : World), Ix c xs W → Blk Bs w W → w.heap.size ≤ D → W.heap[D]? = some (.deferred (some [])) → c.wpIn Fence.wide n P Q { a with defers := { target := .collected D, args := #[] } :: a.defers } W) :
    (Code.rangeFunc g #[p] assign body).wpIn Fence.wide n P Q a w := by
  refine wpIn_rangeFunc fun fn hfn => ?_
  rw [show Fence.wide.round = none from rfl]
  obtain ⟨rc, hrc⟩ : ∃ rc : LoopState → Option Code → Loop, rc = fun st pe => { state := st, pending := pe, fn, tmps := a.tmps, params := #[p], assign, body, defers := w.heap.size } := ⟨_, rfl⟩
  obtain ⟨WD, hWD⟩ : ∃ WD, w.alloc (.deferred (some [])) = WD := ⟨_, rfl⟩
  obtain ⟨W0, hW0⟩ : ∃ W0, WD.alloc (.loop (rc .ready none)) = W0 := ⟨_, rfl⟩
  have sD : WD.heap.size = w.heap.size + 1 := by rw [← hWD]; simp
  have s0 : W0.heap.size = w.heap.size + 1 + 1 := by rw [← hW0]; simp [sD]
  have kD : Kept w WD := by rw [← hWD]; exact ⟨(Kept.refl _).below.alloc (Kept.refl _).below.size _⟩
  have k0 : Kept WD W0 := by rw [← hW0]; exact ⟨(Kept.refl _).below.alloc (Kept.refl _).below.size _⟩
  have kW : Kept w W0 := kD.trans k0
  have bL : W0.heap[w.heap.size + 1]? = some (.loop (rc .ready none)) := by
    rw [← hW0, ← sD]; exact World.alloc_heap_new _ _
  have bD : W0.heap[w.heap.size]? = some (.deferred (some [])) := by
    rw [k0.below.block _ (by omega), ← hWD]; exact World.alloc_heap_new _ _
  have h0 : (Instr.enterLoop fn a.tmps #[p] assign body none).run P w = .ok (w.heap.size + 1, [{ target := .collected w.heap.size, args := #[] }]) W0 := by
    rw [← hW0, ← hWD, hrc]; exact run_enterLoop_outer _ _ _ _ _
  refine ⟨_, _, W0, { target := .fn (.func gf) lb, args := #[.func (.yield (w.heap.size + 1)) #[] #[]] }, W0, gf, #[.func (.yield (w.heap.size + 1)) #[] #[]] ++ lb, W0, h0, ?_, fun _ _ => trivial, ?_, fun _ => h1, ?_⟩
  · simp only [resolve, hg]
    simp [go_sem]
  · simp [invoke, go_sem, eg]
  -- between two rounds, and behind one that leaves
  refine (hseq (w.heap.size + 1) W0
    (fun pre W => I pre W ∧ W.heap[w.heap.size + 1]? = some (.loop (rc .ready none)) ∧ W.heap[w.heap.size]? = some (.deferred (some [])) ∧ Blk (fun k => Bs k ∨ k = w.heap.size + 1) W0 W)
    (fun pre W => ∃ c, Ix c pre W ∧ W.heap[w.heap.size + 1]? = some (.loop (rc .done (some c))) ∧ W.heap[w.heap.size]? = some (.deferred (some [])) ∧ Blk (fun k => Bs k ∨ k = w.heap.size + 1) W0 W)
    kW s0 (by omega) ?_ ?_ ?_ ⟨hI0 _ kW, bL, bD, Blk.refl _ _⟩).mono ?_
  · rintro pre W W' ⟨hi, hl, hd, hb⟩ k
    exact ⟨hIk _ _ _ hi k, (k.below.block _ (Array.getElem?_eq_some_iff.1 hl).1).trans hl, (k.below.block _ (Array.getElem?_eq_some_iff.1 hd).1).trans hd, hb.then k⟩
  · rintro pre W ⟨hi, _, _, hb⟩
    exact ⟨hi, hb.mono fun k _ h => h.imp id (fun e => by subst e; omega)⟩
  · rintro pre x W1 ⟨hi, hl, hd, hb⟩ hso
    have hy := run_yield (P := P) (args := #[enc x]) hl (by rw [hrc]; rfl)
    rw [hrc] at hy
    have e0 : ((#[p]).zip #[enc x]).foldl (fun (t : Array Value) (q : Tmp × Value) => t.setIfInBounds q.1 q.2) a.tmps = a.tmps.setIfInBounds p (enc x) := by simp
    have hy' : (Instr.yield (w.heap.size + 1) #[enc x]).run P W1 = .ok (.round (w.heap.size + 1) fn (a.tmps.setIfInBounds p (enc x)) assign body) W1 := by rw [← e0]; exact hy
    clear hy e0
    refine ⟨fn, _, assign, body, hy', roundIn_of_wpIn hfn (hassign _ x W1 _ ?_)⟩
    have hlt := (Array.getElem?_eq_some_iff.1 hl).1
    have hbg := run_beginRound (P := P) hl (by rw [hrc])
    have e1 : ({ rc .ready none with state := .busy } : Loop) = rc .busy none := by rw [hrc]
    rw [e1] at hbg
    have b2 : Blk (fun k => k = w.heap.size + 1) W1 (W1.putObj (w.heap.size + 1) (.loop (rc .busy none))) := (Blk.refl _ _).turned hl (.inl rfl)
    have z2 : W0.heap.size ≤ (W1.putObj (w.heap.size + 1) (.loop (rc .busy none))).heap.size := Nat.le_trans hb.size b2.size
    have hw2 : Blk Bs w (W1.putObj (w.heap.size + 1) (.loop (rc .busy none))) :=
      ((Blk.of (kW.but Bs)).trans (hb.trans (b2.mono fun k _ h => Or.inr h) (fun _ _ h => h)) fun k hk h => h.elim id (fun e => by omega))
    refine ⟨_, hbg, wpIn_mono (hbody (w.heap.size + 1) pre x _ (hIl _ _ _ _ _ (by omega) hl hi) hso (by omega) hw2) ?_⟩
    have l2 : (W1.putObj (w.heap.size + 1) (.loop (rc .busy none))).heap[w.heap.size + 1]? = some (.loop (rc .busy none)) := World.putObj_heap_same hlt
    have d2 : (W1.putObj (w.heap.size + 1) (.loop (rc .busy none))).heap[w.heap.size]? = some (.deferred (some [])) := (World.putObj_heap_other (by omega)).trans hd
    have no : ∀ k, w.heap.size ≤ k → k < w.heap.size + 1 + 1 → ¬ Bs k := fun k hk hk' h => absurd (hBs k h) (by omega)
    rintro e a3 W3 (⟨rfl, hi3, b3⟩ | ⟨c, hc, hx3, b3⟩)
    · have l3 := (b3.block _ (by omega) (no _ (by omega) (by omega))).trans l2
      have d3 := (b3.block _ (by omega) (no _ (by omega) (by omega))).trans d2
      have he := run_endRound (P := P) none l3
      have e2 : ({ rc .busy none with state := if (none : Option Code).isNone then .ready else .done, pending := none } : Loop) = rc .ready none := by rw [hrc]; rfl
      rw [e2] at he
      refine ⟨_, _, he, .inl ⟨rfl, hIl _ _ _ _ _ (by omega) l3 hi3, World.putObj_heap_same (Array.getElem?_eq_some_iff.1 l3).1, (World.putObj_heap_other (by omega)).trans d3, ?_⟩⟩
      exact (hb.trans ((b2.mono (T := fun k => Bs k ∨ k = w.heap.size + 1) fun k _ h => Or.inr h).trans (b3.mono fun k _ h => Or.inl h) (fun _ _ h => h)) (fun _ _ h => h)).turned l3 (.inl (.inr rfl))
    · have l3 := (b3.block _ (by omega) (no _ (by omega) (by omega))).trans l2
      have d3 := (b3.block _ (by omega) (no _ (by omega) (by omega))).trans d2
      have he := run_endRound (P := P) (some c) l3
      have e2 : ({ rc .busy none with state := if (some c).isNone then .ready else .done, pending := some c } : Loop) = rc .done (some c) := by rw [hrc]; rfl
      rw [e2] at he
      have fin : ∃ v w', (Instr.endRound (w.heap.size + 1) (some c)).run P W3 = .ok v w' ∧ v = .bool false ∧ (∃ c, Ix c (pre ++ [x]) w' ∧ w'.heap[w.heap.size + 1]? = some (.loop (rc .done (some c))) ∧ w'.heap[w.heap.size]? = some (.deferred (some [])) ∧ Blk (fun k => Bs k ∨ k = w.heap.size + 1) W0 w') :=
        ⟨_, _, he, rfl, ⟨c, hXl _ _ _ _ _ _ (by omega) l3 hx3, World.putObj_heap_same (Array.getElem?_eq_some_iff.1 l3).1, (World.putObj_heap_other (by omega)).trans d3,
          (hb.trans ((b2.mono (T := fun k => Bs k ∨ k = w.heap.size + 1) fun k _ h => Or.inr h).trans (b3.mono fun k _ h => Or.inl h) (fun _ _ h => h)) (fun _ _ h => h)).turned l3 (.inl (.inr rfl))⟩⟩
      clear he
      rcases hc with ⟨rfl, rfl⟩ | ⟨id, rfl, rfl⟩
      · obtain ⟨v, w', he, rfl, rest⟩ := fin
        exact ⟨_, _, he, .inr ⟨rfl, rest⟩⟩
      · obtain ⟨v, w', he, rfl, rest⟩ := fin
        exact ⟨_, _, he, .inr ⟨rfl, rest⟩⟩
  · have end1 : ∀ W, Blk (fun k => Bs k ∨ k = w.heap.size + 1) W0 W → Blk Bs w W := fun W hb => (Blk.of (kW.but Bs)).trans hb fun k hk h => h.elim id (fun e => by omega)
    rintro e W2 ⟨⟨v, rfl⟩, ⟨xs, hN, hi, hl, hd, hb⟩ | ⟨pre, W1, ⟨c, hx, hl, hd, hb⟩, k⟩⟩
    · have hen := run_endLoop (P := P) hl (by rw [hrc]; simp)
      have e3 : (rc .ready none).pending = none := by rw [hrc]
      rw [e3] at hen
      exact ⟨none, _, hen, hdone _ _ _ hN (hIl _ _ _ _ _ (by omega) hl hi) ((end1 _ hb).turned hl (.inr (by omega))) (Nat.le_refl _) ((World.putObj_heap_other (by omega)).trans hd)⟩
    · have l2 := (k.below.block _ (Array.getElem?_eq_some_iff.1 hl).1).trans hl
      have d2 := (k.below.block _ (Array.getElem?_eq_some_iff.1 hd).1).trans hd
      have hen := run_endLoop (P := P) l2 (by rw [hrc]; simp)
      have e3 : (rc .done (some c)).pending = some c := by rw [hrc]
      rw [e3] at hen
      exact ⟨some c, _, hen, hstop _ _ _ _ (hXl _ _ _ _ _ _ (by omega) l2 (hXk _ _ _ _ hx k)) ((end1 _ (hb.then k)).turned l2 (.inr (by omega))) (Nat.le_refl _) ((World.putObj_heap_other (by omega)).trans d2)⟩
end Go.Proofs.Ytejiogggocnldaa.Sk

namespace Go.Proofs.Ytejiogggocnldaa.Fd
set_option maxRecDepth 20000
open Go.RowKit Go.Shelf
open Sk (but_turned Blk leaves)

theorem range_manyB {α : Type} {Bs : Nat → Prop} {n : Nat} {P : Program} {g : Operand} {ps : Array Tmp} {assign body : Code} {Q : Exit → Act → World → Prop} {a : Act} {w : World} (h1 : 1 ≤ n)
    {gf : Nat} {lb : Array Value} (hg : a.eval g = .func (.func gf) #[] lb) (eg : ∀ args w, (callFunc gf args).run P w = .ok (.enter gf args) w) (enc : α → Array Value) (hsz : ∀ x, (enc x).size = ps.size)
    (hBs : ∀ k, Bs k → k < w.heap.size ∨ w.heap.size + 1 + 1 ≤ k)
    (I : List α → World → Prop) (Ix : Code → List α → World → Prop) (So : List α → α → Prop) (Nn : List α → Prop)
    (hI0 : ∀ W, Kept w W → I [] W)
    (hIk : ∀ pre W W', I pre W → Kept W W' → I pre W')
    (hIl : ∀ pre W l y y', w.heap.size ≤ l → W.heap[l]? = some (.loop y) → I pre W → I pre (W.putObj l (.loop y')))
    (hIw : ∀ pre W W' n, w.heap.size + 1 + 1 ≤ n → I pre W → But (fun j => j = n) W W' → I pre W')
    (hXk : ∀ c pre W W', Ix c pre W → Kept W W' → Ix c pre W')
    (hXl : ∀ c pre W l y y', w.heap.size ≤ l → W.heap[l]? = some (.loop y) → Ix c pre W → Ix c pre (W.putObj l (.loop y')))
    (hseq : ∀ (l : Nat) (W0 : World) (J Jx : List α → World → Prop), Kept w W0 → W0.heap.size = w.heap.size + 1 + 1 → l < W0.heap.size →
      (∀ pre W W', J pre W → Kept W W' → J pre W') → (∀ pre W W' n, W0.heap.size ≤ n → J pre W → But (fun j => j = n) W W' → J pre W') → (∀ pre W, J pre W → I pre W ∧ Blk (fun k => Bs k ∨ (w.heap.size ≤ k ∧ k < w.heap.size + 1 + 1)) W0 W) →
      (∀ pre x W1, J pre W1 → So pre x → YieldAt Fence.wide (n - 1 - 1) P l (enc x) W1 fun e W' => ((e = .returned (.bool true) ∧ J (pre ++ [x]) W') ∨ (e = .returned (.bool false) ∧ Jx (pre ++ [x]) W')) ∧ Blk (fun k => Bs k ∨ (w.heap.size ≤ k ∧ k < w.heap.size + 1 + 1)) W1 W') →
      J [] W0 →
      CallsIn Fence.wide (n - 1) P gf (#[.func (.yield l) #[] #[]] ++ lb) W0 fun e W' => (∃ v, e = .returned v) ∧ ((∃ xs, Nn xs ∧ J xs W') ∨ ∃ pre W1, Jx pre W1 ∧ Kept W1 W'))
    (As : α → Act → World → Prop) (hAl : ∀ x A W l y y', w.heap.size ≤ l → l < w.heap.size + 1 + 1 → W.heap[l]? = some (.loop y) → As x A W → As x A (W.putObj l (.loop y')))
    (hassign : ∀ (l : Nat) (x : α) (W : World) (K : Act → World → Prop), w.heap.size + 1 + 1 ≤ W.heap.size → (∀ A W', As x A W' → Kept W W' → K A W') → assign.wpIn (Fence.wide.inRound l) (n - 1 - 1) P (Exit.then K (fun _ _ _ => False)) { tmps := (ps.zip (enc x)).foldl (fun (t : Array Value) (q : Tmp × Value) => t.setIfInBounds q.1 q.2) a.tmps, defers := [] } W)
    (hbody : ∀ (l : Nat) (pre : List α) (x : α) (A : Act) (W : World), As x A W → I pre W → So pre x → w.heap.size + 1 + 1 ≤ W.heap.size → Blk Bs w W →
      body.wpIn (Fence.wide.inRound l) (n - 1 - 1) P (fun e _ W3 => (e = .normal ∧ I (pre ++ [x]) W3 ∧ Blk Bs W W3) ∨ (∃ c, leaves e c ∧ Ix c (pre ++ [x]) W3 ∧ Blk Bs W W3)) A W)
    (hdone : ∀ (D : Nat) (xs : List α) (W : World), Nn xs → I xs W → Blk Bs w W → w.heap.size ≤ D → W.heap[D]? = some (.deferred (some [])) → Q .normal { a with defers := { target := .collected D, args := #[] } :: a.defers } W)
    (hstop : ∀ (D : Nat) (c : Code) (xs : List α) (W : World), Ix c xs W → Blk Bs w W → w.heap.size ≤ D → W.heap[D]? = some (.deferred (some [])) → c.wpIn Fence.wide n P Q { a with defers := { target := .collected D, args := #[] } :: a.defers } W) :
    (Code.rangeFunc g ps assign body).wpIn Fence.wide n P Q a w := by
  refine wpIn_rangeFunc fun fn hfn => ?_
  rw [show Fence.wide.round = none from rfl]
  obtain ⟨rc, hrc⟩ : ∃ rc : LoopState → Option Code → Loop, rc = fun st pe => { state := st, pending := pe, fn, tmps := a.tmps, params := ps, assign, body, defers := w.heap.size } := ⟨_, rfl⟩
  obtain ⟨WD, hWD⟩ : ∃ WD, w.alloc (.deferred (some [])) = WD := ⟨_, rfl⟩
  obtain ⟨W0, hW0⟩ : ∃ W0, WD.alloc (.loop (rc .ready none)) = W0 := ⟨_, rfl⟩
  have sD : WD.heap.size = w.heap.size + 1 := by rw [← hWD]; simp
  have s0 : W0.heap.size = w.heap.size + 1 + 1 := by rw [← hW0]; simp [sD]
  have kD : Kept w WD := by rw [← hWD]; exact ⟨(Kept.refl _).below.alloc (Kept.refl _).below.size _⟩
  have k0 : Kept WD W0 := by rw [← hW0]; exact ⟨(Kept.refl _).below.alloc (Kept.refl _).below.size _⟩
  have kW : Kept w W0 := kD.trans k0
  have bL : W0.heap[w.heap.size + 1]? = some (.loop (rc .ready none)) := by
    rw [← hW0, ← sD]; exact World.alloc_heap_new _ _
  have bD : W0.heap[w.heap.size]? = some (.deferred (some [])) := by
    rw [k0.below.block _ (by omega), ← hWD]; exact World.alloc_heap_new _ _
  have h0 : (Instr.enterLoop fn a.tmps ps assign body none).run P w = .ok (w.heap.size + 1, [{ target := .collected w.heap.size, args := #[] }]) W0 := by
    rw [← hW0, ← hWD, hrc]; exact run_enterLoop_outer _ _ _ _ _
  refine ⟨_, _, W0, { target := .fn (.func gf) lb, args := #[.func (.yield (w.heap.size + 1)) #[] #[]] }, W0, gf, #[.func (.yield (w.heap.size + 1)) #[] #[]] ++ lb, W0, h0, ?_, fun _ _ => trivial, ?_, fun _ => h1, ?_⟩
  · simp only [resolve, hg]
    simp [go_sem]
  · simp [invoke, go_sem, eg]
  -- between two rounds, and behind one that leaves
  refine (hseq (w.heap.size + 1) W0
    (fun pre W => I pre W ∧ W.heap[w.heap.size + 1]? = some (.loop (rc .ready none)) ∧ W.heap[w.heap.size]? = some (.deferred (some [])) ∧ Blk (fun k => Bs k ∨ k = w.heap.size + 1) W0 W)
    (fun pre W => ∃ c, Ix c pre W ∧ W.heap[w.heap.size + 1]? = some (.loop (rc .done (some c))) ∧ W.heap[w.heap.size]? = some (.deferred (some [])) ∧ Blk (fun k => Bs k ∨ k = w.heap.size + 1) W0 W)
    kW s0 (by omega) ?_ ?_ ?_ ?_ ⟨hI0 _ kW, bL, bD, Sk.Blk.refl _ _⟩).mono ?_
  · rintro pre W W' ⟨hi, hl, hd, hb⟩ k
    exact ⟨hIk _ _ _ hi k, (k.below.block _ (Array.getElem?_eq_some_iff.1 hl).1).trans hl, (k.below.block _ (Array.getElem?_eq_some_iff.1 hd).1).trans hd, hb.then k⟩
  · rintro pre W W' n hn ⟨hi, hl, hd, hb⟩ k
    exact ⟨hIw _ _ _ n (by omega) hi k, (k.block _ (Array.getElem?_eq_some_iff.1 hl).1 (by omega)).trans hl, (k.block _ (Array.getElem?_eq_some_iff.1 hd).1 (by omega)).trans hd, hb.trans ((Sk.Blk.of k).mono (T := fun k => Bs k ∨ k = w.heap.size + 1 ∨ k = n) (fun j _ e => Or.inr (Or.inr e))) (fun j hj h => h.elim Or.inl (fun h => h.elim Or.inr (fun e => by omega)))⟩
  · rintro pre W ⟨hi, _, _, hb⟩
    exact ⟨hi, hb.mono fun k _ h => h.imp id (fun e => by subst e; omega)⟩
  · rintro pre x W1 ⟨hi, hl, hd, hb⟩ hso
    have hy := run_yield (P := P) (args := enc x) hl (by rw [hrc]; exact hsz x)
    rw [hrc] at hy
    have hy' : (Instr.yield (w.heap.size + 1) (enc x)).run P W1 = .ok (.round (w.heap.size + 1) fn ((ps.zip (enc x)).foldl (fun (t : Array Value) (q : Tmp × Value) => t.setIfInBounds q.1 q.2) a.tmps) assign body) W1 := hy
    clear hy
    refine ⟨fn, _, assign, body, hy', roundIn_of_wpIn hfn (hassign _ x W1 _ (by have := hb.size; omega) (fun A1 V1 hAs kA => ?_))⟩
    have bkA : ∀ {T : Nat → Prop} {V : World}, Blk T V1 V → Blk T W1 V := fun {T V} h => (Sk.Blk.of (kA.but T)).trans h (fun _ _ h => h)
    have hi := hIk _ _ _ hi kA
    have hl := (kA.below.block _ (Array.getElem?_eq_some_iff.1 hl).1).trans hl
    have hd := (kA.below.block _ (Array.getElem?_eq_some_iff.1 hd).1).trans hd
    have hb := hb.then kA
    have hlt := (Array.getElem?_eq_some_iff.1 hl).1
    have hbg := run_beginRound (P := P) hl (by rw [hrc])
    have e1 : ({ rc .ready none with state := .busy } : Loop) = rc .busy none := by rw [hrc]
    rw [e1] at hbg
    have b2 : Blk (fun k => k = w.heap.size + 1) V1 (V1.putObj (w.heap.size + 1) (.loop (rc .busy none))) := (Sk.Blk.refl _ _).turned hl (.inl rfl)
    have z2 : W0.heap.size ≤ (V1.putObj (w.heap.size + 1) (.loop (rc .busy none))).heap.size := Nat.le_trans hb.size b2.size
    have hw2 : Blk Bs w (V1.putObj (w.heap.size + 1) (.loop (rc .busy none))) :=
      ((Sk.Blk.of (kW.but Bs)).trans (hb.trans (b2.mono fun k _ h => Or.inr h) (fun _ _ h => h)) fun k hk h => h.elim id (fun e => by omega))
    refine ⟨_, hbg, wpIn_mono (hbody (w.heap.size + 1) pre x A1 _ (hAl _ _ _ _ _ _ (by omega) (by omega) hl hAs) (hIl _ _ _ _ _ (by omega) hl hi) hso (by omega) hw2) ?_⟩
    have l2 : (V1.putObj (w.heap.size + 1) (.loop (rc .busy none))).heap[w.heap.size + 1]? = some (.loop (rc .busy none)) := World.putObj_heap_same hlt
    have d2 : (V1.putObj (w.heap.size + 1) (.loop (rc .busy none))).heap[w.heap.size]? = some (.deferred (some [])) := (World.putObj_heap_other (by omega)).trans hd
    have no : ∀ k, w.heap.size ≤ k → k < w.heap.size + 1 + 1 → ¬ Bs k := fun k hk hk' h => absurd (hBs k h) (by omega)
    rintro e a3 W3 (⟨rfl, hi3, b3⟩ | ⟨c, hc, hx3, b3⟩)
    · have l3 := (b3.block _ (by omega) (no _ (by omega) (by omega))).trans l2
      have d3 := (b3.block _ (by omega) (no _ (by omega) (by omega))).trans d2
      have he := run_endRound (P := P) none l3
      have e2 : ({ rc .busy none with state := if (none : Option Code).isNone then .ready else .done, pending := none } : Loop) = rc .ready none := by rw [hrc]; rfl
      rw [e2] at he
      refine ⟨_, _, he, .inl ⟨rfl, hIl _ _ _ _ _ (by omega) l3 hi3, World.putObj_heap_same (Array.getElem?_eq_some_iff.1 l3).1, (World.putObj_heap_other (by omega)).trans d3, ?_⟩, bkA ((((b2.mono (T := fun k => Bs k ∨ k = w.heap.size + 1) fun k _ h => Or.inr h).trans (b3.mono fun k _ h => Or.inl h) (fun _ _ h => h)).turned l3 (.inl (.inr rfl))).mono (fun k _ h => h.imp id (fun e => by subst e; omega)))⟩
      exact (hb.trans ((b2.mono (T := fun k => Bs k ∨ k = w.heap.size + 1) fun k _ h => Or.inr h).trans (b3.mono fun k _ h => Or.inl h) (fun _ _ h => h)) (fun _ _ h => h)).turned l3 (.inl (.inr rfl))
    · have l3 := (b3.block _ (by omega) (no _ (by omega) (by omega))).trans l2
      have d3 := (b3.block _ (by omega) (no _ (by omega) (by omega))).trans d2
      have he := run_endRound (P := P) (some c) l3
      have e2 : ({ rc .busy none with state := if (some c).isNone then .ready else .done, pending := some c } : Loop) = rc .done (some c) := by rw [hrc]; rfl
      rw [e2] at he
      have fin : ∃ v w', (Instr.endRound (w.heap.size + 1) (some c)).run P W3 = .ok v w' ∧ v = .bool false ∧ (∃ c, Ix c (pre ++ [x]) w' ∧ w'.heap[w.heap.size + 1]? = some (.loop (rc .done (some c))) ∧ w'.heap[w.heap.size]? = some (.deferred (some [])) ∧ Blk (fun k => Bs k ∨ k = w.heap.size + 1) W0 w') ∧ Blk (fun k => Bs k ∨ (w.heap.size ≤ k ∧ k < w.heap.size + 1 + 1)) W1 w' :=
        ⟨_, _, he, rfl, ⟨c, hXl _ _ _ _ _ _ (by omega) l3 hx3, World.putObj_heap_same (Array.getElem?_eq_some_iff.1 l3).1, (World.putObj_heap_other (by omega)).trans d3,
          (hb.trans ((b2.mono (T := fun k => Bs k ∨ k = w.heap.size + 1) fun k _ h => Or.inr h).trans (b3.mono fun k _ h => Or.inl h) (fun _ _ h => h)) (fun _ _ h => h)).turned l3 (.inl (.inr rfl))⟩, bkA ((((b2.mono (T := fun k => Bs k ∨ k = w.heap.size + 1) fun k _ h => Or.inr h).trans (b3.mono fun k _ h => Or.inl h) (fun _ _ h => h)).turned l3 (.inl (.inr rfl))).mono (fun k _ h => h.imp id (fun e => by subst e; omega)))⟩
      clear he
      rcases hc with ⟨rfl, rfl⟩ | ⟨id, rfl, rfl⟩
      · obtain ⟨v, w', he, rfl, rest⟩ := fin
        exact ⟨_, _, he, .inr ⟨rfl, rest.1⟩, rest.2⟩
      · obtain ⟨v, w', he, rfl, rest⟩ := fin
        exact ⟨_, _, he, .inr ⟨rfl, rest.1⟩, rest.2⟩
  · have end1 : ∀ W, Blk (fun k => Bs k ∨ k = w.heap.size + 1) W0 W → Blk Bs w W := fun W hb => (Sk.Blk.of (kW.but Bs)).trans hb fun k hk h => h.elim id (fun e => by omega)
    rintro e W2 ⟨⟨v, rfl⟩, ⟨xs, hN, hi, hl, hd, hb⟩ | ⟨pre, W1, ⟨c, hx, hl, hd, hb⟩, k⟩⟩
    · have hen := run_endLoop (P := P) hl (by rw [hrc]; simp)
      have e3 : (rc .ready none).pending = none := by rw [hrc]
      rw [e3] at hen
      exact ⟨none, _, hen, hdone _ _ _ hN (hIl _ _ _ _ _ (by omega) hl hi) ((end1 _ hb).turned hl (.inr (by omega))) (Nat.le_refl _) ((World.putObj_heap_other (by omega)).trans hd)⟩
    · have l2 := (k.below.block _ (Array.getElem?_eq_some_iff.1 hl).1).trans hl
      have d2 := (k.below.block _ (Array.getElem?_eq_some_iff.1 hd).1).trans hd
      have hen := run_endLoop (P := P) l2 (by rw [hrc]; simp)
      have e3 : (rc .done (some c)).pending = some c := by rw [hrc]
      rw [e3] at hen
      exact ⟨some c, _, hen, hstop _ _ _ _ (hXl _ _ _ _ _ _ (by omega) l2 (hXk _ _ _ _ hx k)) ((end1 _ (hb.then k)).turned l2 (.inr (by omega))) (Nat.le_refl _) ((World.putObj_heap_other (by omega)).trans d2)⟩
end Go.Proofs.Ytejiogggocnldaa.Fd

namespace Go.Proofs.Ytejiogggocnldaa.Ep
open Wo (St acc wordAt)
open Sk (Stk Wd)

def ep (w : Int) : Int := w % 4294967296
theorem ep_lo (w : Int) : 0 ≤ ep w := by unfold ep; omega
theorem ep_hi (w : Int) : ep w ≤ 4294967295 := by unfold ep; omega
theorem ep_next {w : Int} : ep (ep w + 1) = (ep w + 1) % 4294967296 := rfl

structure EOp where
  line : Nat
  W : Int
  L : Int
  er : Int
def EOp.new : EOp := ⟨1, 0, 0, 14⟩
def EOp.bad : EOp := ⟨9, 0, 0, 3⟩
def EOp.next (x : EOp) : Int := if x.line = 9 then 0 else x.line
structure EOp.Good (x : EOp) : Prop where
  W0 : 0 ≤ x.W
  W1 : x.W < 18446744073709551616

def pinSt (n : Nat) (S : Stk) (c : Int) (s : St) (x : EOp) : St :=
  if x.line = 1 then acc n s 1 S.T false 0
  else if x.line = 2 then acc n s 2 (S.K + c) true (ep x.W + 1)
  else if x.line = 3 then acc n s 1 S.T false 0
  else s
def pinOp (n : Nat) (S : Stk) (s : St) (x : EOp) : EOp :=
  if x.line = 1 then ⟨2, wordAt n s S.T, x.L, x.er⟩
  else if x.line = 2 then ⟨3, x.W, x.L, x.er⟩
  else if x.line = 3 then (if ep (wordAt n s S.T) = ep x.W then ⟨9, wordAt n s S.T, x.L, 0⟩ else ⟨2, wordAt n s S.T, x.L, x.er⟩)
  else x
def unSt (n : Nat) (S : Stk) (c : Int) (s : St) (x : EOp) : St := if x.line = 1 then acc n s 2 (S.K + c) true 0 else s
def unOp (x : EOp) : EOp := if x.line = 1 then ⟨9, x.W, x.L, 0⟩ else x
def skip (c i : Int) : Int := if i = c then i + 1 else i
def seekOp (S : Stk) (c W er i : Int) : EOp := ⟨if skip c i < S.N then 2 else 3, W, skip c i, er⟩
def advSt (n : Nat) (S : Stk) (s : St) (x : EOp) : St :=
  if x.line = 1 then acc n s 1 S.T false 0
  else if x.line = 2 then acc n s 1 (S.K + x.L) false 0
  else if x.line = 3 then acc n s 3 S.T (wordAt n s S.T == x.W) (ep x.W + 1)
  else s
def advOp (n : Nat) (S : Stk) (c p : Int) (s : St) (x : EOp) : EOp :=
  if x.line = 1 then (if ep (wordAt n s S.T) = p then seekOp S c (wordAt n s S.T) x.er x.L else ⟨9, wordAt n s S.T, x.L, 14⟩)
  else if x.line = 2 then (if wordAt n s (S.K + x.L) ≠ 0 ∧ wordAt n s (S.K + x.L) ≠ ep x.W + 1 then ⟨9, x.W, x.L, 14⟩ else seekOp S c x.W x.er (x.L + 1))
  else if x.line = 3 then ⟨9, x.W, x.L, if wordAt n s S.T = x.W then 0 else 14⟩
  else x
def toldAt (x : EOp) : Int := if x.er = 0 then ep x.W else 0

def lines (x : EOp) : Prop := x.line = 1 ∨ x.line = 2 ∨ x.line = 3 ∨ x.line = 9
theorem skip_lo {c i : Int} : i ≤ skip c i ∧ skip c i ≤ i + 1 := by unfold skip; split <;> omega
end Go.Proofs.Ytejiogggocnldaa.Ep
