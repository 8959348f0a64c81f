/- A range over a func of one value, round by round: the body goes on, or leaves by a return or an exit; the iterator's contract may lean on what the body keeps, and on how many rounds there can be. -/
import Derived.Test.YtlfdiffbepfgbaaGreatG01
import Derived.RangeFuncNested
import Derived.RangeFuncBound
import Derived.RangeFuncCalls
import Derived.RangeFuncLeaves
import Derived.Shelf.Abstract
import Derived.Shelf.RegionOpen
import Derived.OwnWalkIn
import Derived.TacticsInMore
import Derived.LoopNIn
import Derived.LoopIn
import Derived.WalkKit
import Derived.WalkLawsBesides
import Derived.Maps.AppendAt
import Derived.Deep.AppendLies
import Derived.RegionTactic
import Derived.OwnWalk
set_option linter.unusedVariables false
set_option linter.unusedSimpArgs false

namespace Go.Proofs.YtlfdiffbepfgbaaGreat.Sk
set_option maxRecDepth 20000
open Go.RowKit Go.Shelf

theorem but_turned {S : Nat → Prop} {a w : World} {l : Nat} {o o' : Obj} (h : But S a w) (hl : w.heap[l]? = some o) (ho : o.isCells = false) (ho' : o'.isCells = false) (hS : S l ∨ a.heap.size ≤ l) : But S a (w.putObj l o') := by
  have hlt := (Array.getElem?_eq_some_iff.1 hl).1
  refine ⟨h.os, h.tape, h.output, by simpa [World.putObj] using h.size, fun k hk hk' => ?_, fun x hx => ?_⟩
  · have hne : k ≠ l := fun e => hS.elim (fun s => hk' (e ▸ s)) fun s => by omega
    exact (World.putObj_heap_other hne).trans (h.block k hk hk')
  · refine Eq.trans ?_ (h.froze x hx)
    by_cases e : x.block = l
    · have h1 : (w.putObj l o').heap[x.block]? = some o' := by rw [e]; exact World.putObj_heap_same hlt
      have h2 : w.heap[x.block]? = some o := by rw [e]; exact hl
      unfold World.frozen?
      rw [h1, h2]
      cases o <;> cases o' <;> simp_all [Obj.isCells]
    · exact World.frozen?_of_block (World.putObj_heap_other e)

structure Blk (S : Nat → Prop) (w w' : World) : Prop where
  os : w'.os = w.os
  tape : w'.tape = w.tape
  output : w'.output = w.output
  size : w.heap.size ≤ w'.heap.size
  block : ∀ k, k < w.heap.size → ¬ S k → w'.heap[k]? = w.heap[k]?
theorem Blk.of {S : Nat → Prop} {w w' : World} (h : But S w w') : Blk S w w' := ⟨h.os, h.tape, h.output, h.size, h.block⟩
theorem Blk.refl (S : Nat → Prop) (w : World) : Blk S w w := .of (But.refl _ _)
theorem Blk.mono {S T : Nat → Prop} {w w' : World} (h : Blk S w w') (hST : ∀ k, k < w.heap.size → S k → T k) : Blk T w w' :=
  ⟨h.os, h.tape, h.output, h.size, fun k hk hT => h.block k hk (fun hS => hT (hST k hk hS))⟩
theorem Blk.trans {S T : Nat → Prop} {a b c : World} (h : Blk S a b) (k : Blk T b c) (hT : ∀ i, i < a.heap.size → T i → S i) : Blk S a c :=
  ⟨k.os.trans h.os, k.tape.trans h.tape, k.output.trans h.output, Nat.le_trans h.size k.size,
   fun i hi hS => (k.block i (Nat.lt_of_lt_of_le hi h.size) (fun ht => hS (hT i hi ht))).trans (h.block i hi hS)⟩
theorem Blk.then {S : Nat → Prop} {a b c : World} (h : Blk S a b) (k : Kept b c) : Blk S a c := h.trans (.of (k.but S)) (fun _ _ h => h)
theorem Blk.turned {S : Nat → Prop} {a w : World} {l : Nat} {o o' : Obj} (h : Blk S a w) (hl : w.heap[l]? = some o) (hS : S l ∨ a.heap.size ≤ l) : Blk S a (w.putObj l o') := by
  have hlt := (Array.getElem?_eq_some_iff.1 hl).1
  refine ⟨h.os, h.tape, h.output, by simpa [World.putObj] using h.size, fun k hk hk' => ?_⟩
  have hne : k ≠ l := fun e => hS.elim (fun s => hk' (e ▸ s)) fun s => by omega
  exact (World.putObj_heap_other hne).trans (h.block k hk hk')
theorem Blk.kept {S : Nat → Prop} {w w' : World} (h : Blk S w w') (hS : ∀ k, k < w.heap.size → ¬ S k) : Kept w w' :=
  ⟨⟨h.os, h.tape, h.output, h.size, fun k hk => h.block k hk (hS k hk)⟩⟩

def leaves (e : Exit) (c : Code) : Prop := (e = .ret ∧ c = .ret) ∨ ∃ id, e = .exit id ∧ c = .exit id

theorem range_many {α : Type} {Bs : Nat → Prop} {n : Nat} {P : Program} {g : Operand} {p : Tmp} {assign body : Code} {Q : Exit → Act → World → Prop} {a : Act} {w : World} (h1 : 1 ≤ n)
    {gf : Nat} {lb : Array Value} (hg : a.eval g = .func (.func gf) #[] lb) (eg : ∀ args w, (callFunc gf args).run P w = .ok (.enter gf args) w) (enc : α → Value)
    (hBs : ∀ k, Bs k → k < w.heap.size ∨ w.heap.size + 1 + 1 ≤ k)
    (I : List α → World → Prop) (Ix : Code → List α → World → Prop) (So : List α → α → Prop) (Nn : List α → Prop)
    (hI0 : ∀ W, Kept w W → I [] W)
    (hIk : ∀ pre W W', I pre W → Kept W W' → I pre W')
    (hIl : ∀ pre W l y y', w.heap.size ≤ l → W.heap[l]? = some (.loop y) → I pre W → I pre (W.putObj l (.loop y')))
    (hXk : ∀ c pre W W', Ix c pre W → Kept W W' → Ix c pre W')
    (hXl : ∀ c pre W l y y', w.heap.size ≤ l → W.heap[l]? = some (.loop y) → Ix c pre W → Ix c pre (W.putObj l (.loop y')))
    (hseq : ∀ (l : Nat) (W0 : World) (J Jx : List α → World → Prop), Kept w W0 → W0.heap.size = w.heap.size + 1 + 1 → l < W0.heap.size →
      (∀ pre W W', J pre W → Kept W W' → J pre W') → (∀ pre W, J pre W → I pre W ∧ Blk (fun k => Bs k ∨ (w.heap.size ≤ k ∧ k < w.heap.size + 1 + 1)) W0 W) →
      (∀ pre x W1, J pre W1 → So pre x → YieldAt Fence.wide (n - 1 - 1) P l #[enc x] W1 fun e W' => (e = .returned (.bool true) ∧ J (pre ++ [x]) W') ∨ (e = .returned (.bool false) ∧ Jx (pre ++ [x]) W')) →
      J [] W0 →
      CallsIn Fence.wide (n - 1) P gf (#[.func (.yield l) #[] #[]] ++ lb) W0 fun e W' => (∃ v, e = .returned v) ∧ ((∃ xs, Nn xs ∧ J xs W') ∨ ∃ pre W1, Jx pre W1 ∧ Kept W1 W'))
    (a1 : α → Act) (hassign : ∀ (l : Nat) (x : α) (W : World) (K : Act → World → Prop), K (a1 x) W → assign.wpIn (Fence.wide.inRound l) (n - 1 - 1) P (Exit.then K (fun _ _ _ => False)) { tmps := a.tmps.setIfInBounds p (enc x), defers := [] } W)
    (hbody : ∀ (l : Nat) (pre : List α) (x : α) (W : World), I pre W → So pre x → w.heap.size + 1 + 1 ≤ W.heap.size → Blk Bs w W →
      body.wpIn (Fence.wide.inRound l) (n - 1 - 1) P (fun e _ W3 => (e = .normal ∧ I (pre ++ [x]) W3 ∧ Blk Bs W W3) ∨ (∃ c, leaves e c ∧ Ix c (pre ++ [x]) W3 ∧ Blk Bs W W3)) (a1 x) W)
    (hdone : ∀ (D : Nat) (xs : List α) (W : World), Nn xs → I xs W → Blk Bs w W → w.heap.size ≤ D → W.heap[D]? = some (.deferred (some [])) → Q .normal { a with defers := { target := .collected D, args := #[] } :: a.defers } W)
    (hstop : ∀ (D : Nat) (c : Code) (xs : List α) (W : World), Ix c xs W → Blk Bs w W → w.heap.size ≤ D → W.heap[D]? = some (.deferred (some [])) → c.wpIn Fence.wide n P Q { a with defers := { target := .collected D, args := #[] } :: a.defers } W) :
    (Code.rangeFunc g #[p] assign body).wpIn Fence.wide n P Q a w := by
  refine wpIn_rangeFunc fun fn hfn => ?_
  rw [show Fence.wide.round = none from rfl]
  obtain ⟨rc, hrc⟩ : ∃ rc : LoopState → Option Code → Loop, rc = fun st pe => { state := st, pending := pe, fn, tmps := a.tmps, params := #[p], assign, body, defers := w.heap.size } := ⟨_, rfl⟩
  obtain ⟨WD, hWD⟩ : ∃ WD, w.alloc (.deferred (some [])) = WD := ⟨_, rfl⟩
  obtain ⟨W0, hW0⟩ : ∃ W0, WD.alloc (.loop (rc .ready none)) = W0 := ⟨_, rfl⟩
  have sD : WD.heap.size = w.heap.size + 1 := by rw [← hWD]; simp
  have s0 : W0.heap.size = w.heap.size + 1 + 1 := by rw [← hW0]; simp [sD]
  have kD : Kept w WD := by rw [← hWD]; exact ⟨(Kept.refl _).below.alloc (Kept.refl _).below.size _⟩
  have k0 : Kept WD W0 := by rw [← hW0]; exact ⟨(Kept.refl _).below.alloc (Kept.refl _).below.size _⟩
  have kW : Kept w W0 := kD.trans k0
  have bL : W0.heap[w.heap.size + 1]? = some (.loop (rc .ready none)) := by
    rw [← hW0, ← sD]; exact World.alloc_heap_new _ _
  have bD : W0.heap[w.heap.size]? = some (.deferred (some [])) := by
    rw [k0.below.block _ (by omega), ← hWD]; exact World.alloc_heap_new _ _
  have h0 : (Instr.enterLoop fn a.tmps #[p] assign body none).run P w = .ok (w.heap.size + 1, [{ target := .collected w.heap.size, args := #[] }]) W0 := by
    rw [← hW0, ← hWD, hrc]; exact run_enterLoop_outer _ _ _ _ _
  refine ⟨_, _, W0, { target := .fn (.func gf) lb, args := #[.func (.yield (w.heap.size + 1)) #[] #[]] }, W0, gf, #[.func (.yield (w.heap.size + 1)) #[] #[]] ++ lb, W0, h0, ?_, fun _ _ => trivial, ?_, fun _ => h1, ?_⟩
  · simp only [resolve, hg]
    simp [go_sem]
  · simp [invoke, go_sem, eg]
  -- between two rounds, and behind one that leaves
  refine (hseq (w.heap.size + 1) W0
    (fun pre W => I pre W ∧ W.heap[w.heap.size + 1]? = some (.loop (rc .ready none)) ∧ W.heap[w.heap.size]? = some (.deferred (some [])) ∧ Blk (fun k => Bs k ∨ k = w.heap.size + 1) W0 W)
    (fun pre W => ∃ c, Ix c pre W ∧ W.heap[w.heap.size + 1]? = some (.loop (rc .done (some c))) ∧ W.heap[w.heap.size]? = some (.deferred (some [])) ∧ Blk (fun k => Bs k ∨ k = w.heap.size + 1) W0 W)
    kW s0 (by omega) ?_ ?_ ?_ ⟨hI0 _ kW, bL, bD, Blk.refl _ _⟩).mono ?_
  · rintro pre W W' ⟨hi, hl, hd, hb⟩ k
    exact ⟨hIk _ _ _ hi k, (k.below.block _ (Array.getElem?_eq_some_iff.1 hl).1).trans hl, (k.below.block _ (Array.getElem?_eq_some_iff.1 hd).1).trans hd, hb.then k⟩
  · rintro pre W ⟨hi, _, _, hb⟩
    exact ⟨hi, hb.mono fun k _ h => h.imp id (fun e => by subst e; omega)⟩
  · rintro pre x W1 ⟨hi, hl, hd, hb⟩ hso
    have hy := run_yield (P := P) (args := #[enc x]) hl (by rw [hrc]; rfl)
    rw [hrc] at hy
    have e0 : ((#[p]).zip #[enc x]).foldl (fun (t : Array Value) (q : Tmp × Value) => t.setIfInBounds q.1 q.2) a.tmps = a.tmps.setIfInBounds p (enc x) := by simp
    have hy' : (Instr.yield (w.heap.size + 1) #[enc x]).run P W1 = .ok (.round (w.heap.size + 1) fn (a.tmps.setIfInBounds p (enc x)) assign body) W1 := by rw [← e0]; exact hy
    clear hy e0
    refine ⟨fn, _, assign, body, hy', roundIn_of_wpIn hfn (hassign _ x W1 _ ?_)⟩
    have hlt := (Array.getElem?_eq_some_iff.1 hl).1
    have hbg := run_beginRound (P := P) hl (by rw [hrc])
    have e1 : ({ rc .ready none with state := .busy } : Loop) = rc .busy none := by rw [hrc]
    rw [e1] at hbg
    have b2 : Blk (fun k => k = w.heap.size + 1) W1 (W1.putObj (w.heap.size + 1) (.loop (rc .busy none))) := (Blk.refl _ _).turned hl (.inl rfl)
    have z2 : W0.heap.size ≤ (W1.putObj (w.heap.size + 1) (.loop (rc .busy none))).heap.size := Nat.le_trans hb.size b2.size
    have hw2 : Blk Bs w (W1.putObj (w.heap.size + 1) (.loop (rc .busy none))) :=
      ((Blk.of (kW.but Bs)).trans (hb.trans (b2.mono fun k _ h => Or.inr h) (fun _ _ h => h)) fun k hk h => h.elim id (fun e => by omega))
    refine ⟨_, hbg, wpIn_mono (hbody (w.heap.size + 1) pre x _ (hIl _ _ _ _ _ (by omega) hl hi) hso (by omega) hw2) ?_⟩
    have l2 : (W1.putObj (w.heap.size + 1) (.loop (rc .busy none))).heap[w.heap.size + 1]? = some (.loop (rc .busy none)) := World.putObj_heap_same hlt
    have d2 : (W1.putObj (w.heap.size + 1) (.loop (rc .busy none))).heap[w.heap.size]? = some (.deferred (some [])) := (World.putObj_heap_other (by omega)).trans hd
    have no : ∀ k, w.heap.size ≤ k → k < w.heap.size + 1 + 1 → ¬ Bs k := fun k hk hk' h => absurd (hBs k h) (by omega)
    rintro e a3 W3 (⟨rfl, hi3, b3⟩ | ⟨c, hc, hx3, b3⟩)
    · have l3 := (b3.block _ (by omega) (no _ (by omega) (by omega))).trans l2
      have d3 := (b3.block _ (by omega) (no _ (by omega) (by omega))).trans d2
      have he := run_endRound (P := P) none l3
      have e2 : ({ rc .busy none with state := if (none : Option Code).isNone then .ready else .done, pending := none } : Loop) = rc .ready none := by rw [hrc]; rfl
      rw [e2] at he
      refine ⟨_, _, he, .inl ⟨rfl, hIl _ _ _ _ _ (by omega) l3 hi3, World.putObj_heap_same (Array.getElem?_eq_some_iff.1 l3).1, (World.putObj_heap_other (by omega)).trans d3, ?_⟩⟩
      exact (hb.trans ((b2.mono (T := fun k => Bs k ∨ k = w.heap.size + 1) fun k _ h => Or.inr h).trans (b3.mono fun k _ h => Or.inl h) (fun _ _ h => h)) (fun _ _ h => h)).turned l3 (.inl (.inr rfl))
    · have l3 := (b3.block _ (by omega) (no _ (by omega) (by omega))).trans l2
      have d3 := (b3.block _ (by omega) (no _ (by omega) (by omega))).trans d2
      have he := run_endRound (P := P) (some c) l3
      have e2 : ({ rc .busy none with state := if (some c).isNone then .ready else .done, pending := some c } : Loop) = rc .done (some c) := by rw [hrc]; rfl
      rw [e2] at he
      have fin : ∃ v w', (Instr.endRound (w.heap.size + 1) (some c)).run P W3 = .ok v w' ∧ v = .bool false ∧ (∃ c, Ix c (pre ++ [x]) w' ∧ w'.heap[w.heap.size + 1]? = some (.loop (rc .done (some c))) ∧ w'.heap[w.heap.size]? = some (.deferred (some [])) ∧ Blk (fun k => Bs k ∨ k = w.heap.size + 1) W0 w') :=
        ⟨_, _, he, rfl, ⟨c, hXl _ _ _ _ _ _ (by omega) l3 hx3, World.putObj_heap_same (Array.getElem?_eq_some_iff.1 l3).1, (World.putObj_heap_other (by omega)).trans d3,
          (hb.trans ((b2.mono (T := fun k => Bs k ∨ k = w.heap.size + 1) fun k _ h => Or.inr h).trans (b3.mono fun k _ h => Or.inl h) (fun _ _ h => h)) (fun _ _ h => h)).turned l3 (.inl (.inr rfl))⟩⟩
      clear he
      rcases hc with ⟨rfl, rfl⟩ | ⟨id, rfl, rfl⟩
      · obtain ⟨v, w', he, rfl, rest⟩ := fin
        exact ⟨_, _, he, .inr ⟨rfl, rest⟩⟩
      · obtain ⟨v, w', he, rfl, rest⟩ := fin
        exact ⟨_, _, he, .inr ⟨rfl, rest⟩⟩
  · have end1 : ∀ W, Blk (fun k => Bs k ∨ k = w.heap.size + 1) W0 W → Blk Bs w W := fun W hb => (Blk.of (kW.but Bs)).trans hb fun k hk h => h.elim id (fun e => by omega)
    rintro e W2 ⟨⟨v, rfl⟩, ⟨xs, hN, hi, hl, hd, hb⟩ | ⟨pre, W1, ⟨c, hx, hl, hd, hb⟩, k⟩⟩
    · have hen := run_endLoop (P := P) hl (by rw [hrc]; simp)
      have e3 : (rc .ready none).pending = none := by rw [hrc]
      rw [e3] at hen
      exact ⟨none, _, hen, hdone _ _ _ hN (hIl _ _ _ _ _ (by omega) hl hi) ((end1 _ hb).turned hl (.inr (by omega))) (Nat.le_refl _) ((World.putObj_heap_other (by omega)).trans hd)⟩
    · have l2 := (k.below.block _ (Array.getElem?_eq_some_iff.1 hl).1).trans hl
      have d2 := (k.below.block _ (Array.getElem?_eq_some_iff.1 hd).1).trans hd
      have hen := run_endLoop (P := P) l2 (by rw [hrc]; simp)
      have e3 : (rc .done (some c)).pending = some c := by rw [hrc]
      rw [e3] at hen
      exact ⟨some c, _, hen, hstop _ _ _ _ (hXl _ _ _ _ _ _ (by omega) l2 (hXk _ _ _ _ hx k)) ((end1 _ (hb.then k)).turned l2 (.inr (by omega))) (Nat.le_refl _) ((World.putObj_heap_other (by omega)).trans d2)⟩
end Go.Proofs.YtlfdiffbepfgbaaGreat.Sk

namespace Go.Proofs.YtlfdiffbepfgbaaGreat
open Go.RowKit

def ints (l : List Int) : List Value := l.map (Value.int .i64)
def flat (l : List (Int × Int × Int)) : List Value := l.flatMap fun d => [.int .i64 d.1, .int .i64 d.2.1, .int .i64 d.2.2]
theorem ints_length (l : List Int) : (ints l).length = l.length * 1 := by simp [ints]
theorem ints_get (l : List Int) (i : Nat) (x : Int) (h : l[i]? = some x) : (ints l)[i]? = some (.int .i64 x) := by simp [ints, h]
theorem ints_append (l m : List Int) : ints (l ++ m) = ints l ++ ints m := by simp [ints]
theorem flat_append (l m : List (Int × Int × Int)) : flat (l ++ m) = flat l ++ flat m := by simp [flat]
theorem flat_cons (d : Int × Int × Int) (l : List (Int × Int × Int)) : flat (d :: l) = .int .i64 d.1 :: .int .i64 d.2.1 :: .int .i64 d.2.2 :: flat l := by simp [flat]
theorem flat_length (l : List (Int × Int × Int)) : (flat l).length = l.length * 3 := by
  induction l with
  | nil => rfl
  | cons d l ih => rw [flat_cons]; simp [ih]; omega
theorem flat_get (l : List (Int × Int × Int)) : ∀ (i : Nat) (d : Int × Int × Int), l[i]? = some d → (flat l)[i * 3]? = some (.int .i64 d.1) ∧ (flat l)[i * 3 + 1]? = some (.int .i64 d.2.1) ∧ (flat l)[i * 3 + 2]? = some (.int .i64 d.2.2) := by
  induction l with
  | nil => intro i d h; simp at h
  | cons c l ih =>
    intro i d h
    rw [flat_cons]
    cases i with
    | zero => simp at h; subst h; simp
    | succ i =>
      have h' : l[i]? = some d := by simpa using h
      obtain ⟨h1, h2, h3⟩ := ih i d h'
      have e1 : (i + 1) * 3 = i * 3 + 1 + 1 + 1 := by omega
      refine ⟨?_, ?_, ?_⟩
      · rw [e1]; simpa using h1
      · rw [show (i + 1) * 3 + 1 = (i * 3 + 1) + 1 + 1 + 1 by omega]; simpa using h2
      · rw [show (i + 1) * 3 + 2 = (i * 3 + 2) + 1 + 1 + 1 by omega]; simpa using h3
theorem flat_take (l : List (Int × Int × Int)) : ∀ k, (flat l).take (k * 3) = flat (l.take k) := by
  induction l with
  | nil => intro k; simp [flat]
  | cons c l ih =>
    intro k
    cases k with
    | zero => simp [flat]
    | succ k =>
      rw [show (k + 1) * 3 = k * 3 + 1 + 1 + 1 by omega, flat_cons, List.take_succ_cons, List.take_succ_cons, List.take_succ_cons, List.take_succ_cons, flat_cons, ih]
theorem flat_one (l : List (Int × Int × Int)) : ∀ u ∈ flat l, u.oneCell' = true := by
  induction l with
  | nil => intro u h; cases h
  | cons c l ih =>
    intro u h
    rw [flat_cons] at h
    simp only [List.mem_cons] at h
    rcases h with rfl | rfl | rfl | h
    · rfl
    · rfl
    · rfl
    · exact ih u h
theorem ints_one (l : List Int) : ∀ u ∈ ints l, u.oneCell' = true := by
  intro u h
  obtain ⟨x, _, rfl⟩ := List.mem_map.1 h
  rfl

def Lies (w : World) (v : Value) (n : Nat) (xs : List Value) : Prop :=
  (v = .slice none 0 0 ∧ n = 0 ∧ xs = []) ∨ ∃ g o c, v = .slice (some ⟨g, o, none⟩) n c ∧ n ≤ c ∧ c ≤ maxLen ∧ ∀ j u, xs[j]? = some u → w.cell? ⟨g, o + j, none⟩ = some u

theorem Lies.form {w : World} {v : Value} {n : Nat} {xs : List Value} (h : Lies w v n xs) : ∃ a c, v = .slice a n c ∧ n ≤ c ∧ c ≤ maxLen := by
  rcases h with ⟨rfl, rfl, _⟩ | ⟨g, o, c, rfl, h1, h2, _⟩
  · exact ⟨_, _, rfl, Nat.le_refl _, Nat.zero_le _⟩
  · exact ⟨_, _, rfl, h1, h2⟩
theorem add_none (b o j : Nat) : (Addr.add ⟨b, o, none⟩ j) = ⟨b, o + j, none⟩ := by
  unfold Addr.add
  split <;> simp_all
theorem Lies.kept {w w' : World} {v : Value} {n : Nat} {xs : List Value} (h : Lies w v n xs) (k : Kept w w') : Lies w' v n xs := by
  rcases h with h | ⟨g, o, c, h1, h2, h3, h4⟩
  · exact .inl h
  · exact .inr ⟨g, o, c, h1, h2, h3, fun j u hu => k.some (h4 j u hu)⟩
theorem Lies.but {S : Nat → Prop} {w w' : World} {v : Value} {n : Nat} {xs : List Value} (h : Lies w v n xs) (k : But S w w') (hS : ∀ g, v.ownBlock = some g → ¬ S g) : Lies w' v n xs := by
  rcases h with h | ⟨g, o, c, rfl, h2, h3, h4⟩
  · exact .inl h
  · exact .inr ⟨g, o, c, rfl, h2, h3, fun j u hu => k.some (h4 j u hu) (hS g rfl)⟩

section
variable {w : World} {base : Nat} {e : TypeId} {size : Nat} {v : Value} {n : Nat} {xs : List Value}
theorem own_form (h : w.ownsRow base e size v n xs) : ∃ a c, v = .slice a n c := by
  rcases h.2 with ⟨rfl, rfl⟩ | ⟨g, cap, cur, rfl, _⟩
  · exact ⟨_, _, rfl⟩
  · exact ⟨_, _, rfl⟩
theorem own_lies (h : w.ownsRow base e size v n xs) : Lies w v n xs := by
  rcases h.2 with ⟨rfl, rfl⟩ | ⟨g, cap, cur, rfl, hb, hg, h1, h2, h3, h4⟩
  · have : xs = [] := List.eq_nil_of_length_eq_zero (by simpa using h.1)
    exact .inl ⟨rfl, rfl, this⟩
  · refine .inr ⟨g, 0, cap, rfl, h1, h2, fun j u hu => ?_⟩
    rw [Nat.zero_add, cell_of_row w g j cur e _ hg]
    rw [← h4] at hu
    have hj : j < n * size := by
      have := (List.getElem?_eq_some_iff.1 hu).1
      rw [List.length_take] at this
      omega
    rw [List.getElem?_take_of_lt hj] at hu
    simpa using hu
theorem own_soft (h : w.ownsRow base e size v n xs) (g : Nat) (hg : v.ownBlock = some g) (i : Nat) : w.frozen? ⟨g, i, none⟩ = false := by
  rcases h.2 with ⟨rfl, _⟩ | ⟨g', cap, cur, rfl, _, hh, _⟩
  · cases hg
  · have e' : g' = g := by simpa [Value.ownBlock] using hg
    subst e'
    exact frozen_of_row w g' i cur e hh
theorem own_same {w' : World} (h : w.ownsRow base e size v n xs) (hs : ∀ g, v.ownBlock = some g → w'.heap[g]? = w.heap[g]?) : w'.ownsRow base e size v n xs := by
  refine ⟨h.1, ?_⟩
  rcases h.2 with hn | ⟨g, cap, cur, rfl, hb, hg, rest⟩
  · exact .inl hn
  · exact .inr ⟨g, cap, cur, rfl, hb, (hs g rfl).trans hg, rest⟩
theorem own_mono {base' : Nat} (h : w.ownsRow base e size v n xs) (hb : base' ≤ base) : w.ownsRow base' e size v n xs := by
  refine ⟨h.1, ?_⟩
  rcases h.2 with hn | ⟨g, cap, cur, rfl, hb', rest⟩
  · exact .inl hn
  · exact .inr ⟨g, cap, cur, rfl, Nat.le_trans hb hb', rest⟩
end

theorem but_of_grown {w w' : World} {row : Option Nat} (h : w.grownBy w' row) (hf : ∀ g, row = some g → g < w.heap.size → ∀ i, w'.frozen? ⟨g, i, none⟩ = w.frozen? ⟨g, i, none⟩) : But (fun k => row = some k) w w' :=
  ⟨h.os, h.tape, h.output, h.size, fun k hk hS => h.block k hk (fun e => hS e.symm), fun a ha => by
    by_cases e : row = some a.block
    · obtain ⟨b, i, s⟩ := a
      cases s with
      | none => exact hf b e ha i
      | some s =>
        have := hf b e ha i
        simpa [World.frozen?] using this
    · exact World.frozen?_of_block (h.block a.block ha (fun h => e h.symm))⟩

section
variable {P : Program} (w : World)
theorem append_any (base : Nat) (t ty e : TypeId) (i : TypeInfo) (z : Value) (size bytes : Nat) (ht : P.underlying t = some (.slice e)) (hi : P.info? e = some i) (hz : i.zero = some z)
    (hsize : i.size = size) (hby : i.bytes = bytes) (hzs : z.cells.size = size) (hsz : 0 < size)
    (v : Value) (n : Nat) (xs : List Value) (hown : w.ownsRow base e size v n xs)
    (x : Value) (m : Nat) (news : List Value) (hl : news.length = m * size) (hx : Lies w x m news) (h1 : ∀ u ∈ news, u.oneCell' = true)
    (h63 : n + m ≤ maxLen) (hbytes : (n + m) * bytes ≤ 140737488355328) (hbase : base ≤ w.heap.size) :
    ∃ a c w', (Builtin.append_ #[t, t] ty #[v, x]).run P w = .ok (.slice a (n + m) c) w' ∧ w'.ownsRow base e size (.slice a (n + m) c) (n + m) (xs ++ news) ∧ But (fun k => v.ownBlock = some k) w w' ∧
      ((Value.slice a (n + m) c).ownBlock = v.ownBlock ∨ (Value.slice a (n + m) c).ownBlock = some w.heap.size) := by
  rcases hx with ⟨rfl, rfl, rfl⟩ | ⟨g, o, c, rfl, _, _, hc⟩
  · obtain ⟨a, c, rfl⟩ := own_form hown
    refine ⟨a, c, w, ?_, by simpa using hown, But.refl _ _, Or.inl rfl⟩
    rcases hown.2 with ⟨hv, rfl⟩ | ⟨g', cap, cur, hv, _, _, hnc, _⟩
    · cases hv
      simp [Builtin.append_, run_underlying ht, sizeOf, typeInfo, hi, Builtin.lenOf, Builtin.firstCells]
    · cases hv
      simp [Builtin.append_, run_underlying ht, sizeOf, typeInfo, hi, Builtin.lenOf, Builtin.firstCells, hnc, storeCells]
  · obtain ⟨v', w', hr, h2, h3, _, h5⟩ := run_append_own_at (P := P) w base t ty e i z size bytes ht hi hz hsize hby hzs hsz v n xs hown ⟨g, o, none⟩ m c news hl (fun j u hu => by rw [add_none]; exact hc j u hu) h1 h63 hbytes hbase
    obtain ⟨a, c', rfl⟩ := own_form h2
    refine ⟨a, c', w', hr, h2, but_of_grown h3 fun g' hg' _ k => ?_, h5⟩
    have hnews : ∀ j u, news[j]? = some u → w.cell? ((⟨g, o, none⟩ : Addr).add j) = some u := fun j u hu => by rw [add_none]; exact hc j u hu
    subst hsize
    subst hby
    rcases hown.2 with ⟨rfl, _⟩ | ⟨g2, cap, cur, rfl, _, hg2, hnc, hcm, hcs, htake⟩
    · cases hg'
    · have e' : g2 = g' := by simpa [Value.ownBlock] using hg'
      subst e'
      by_cases hroom : n + m ≤ cap
      · have hr2 := run_append_room (P := P) w t ty e i ht hi g2 n cap cur hg2 ⟨g, o, none⟩ m c news hl hnews h1 hroom (by rw [hl, hcs, ← Nat.add_mul]; exact Nat.mul_le_mul_right _ hroom)
        rw [hr] at hr2
        injection hr2 with _ hw
        rw [hw, frozen_of_row _ g2 k _ e (setRow_heap w g2 cur _ e _ hg2), frozen_of_row _ g2 k _ e hg2]
      · have hr2 := run_append_grow (P := P) w t ty e i z ht hi hz ⟨g2, 0, none⟩ n cap xs hown.1 (hown.cells (g := g2) rfl) ⟨g, o, none⟩ m c news hl hnews (by omega) (by unfold maxLen at h63; omega) (growslice_fits (by omega) hbytes)
        rw [hr] at hr2
        injection hr2 with _ hw
        rw [hw]
        exact (((Kept.refl w).drew).alloc _ _).froze ⟨g2, k, none⟩ (Array.getElem?_eq_some_iff.1 hg2).1

theorem wp_append_any {o : Oper} {A : Act} {K : Act → World → Prop} {Q : Exit → Act → World → Prop} (s x : Operand) (t : TypeId)
    (ho : o.op = .call { callee := .builtin .append, args := #[s, x], argTypes := #[t, t] })
    (base : Nat) (e : TypeId) (i : TypeInfo) (z : Value) (size bytes : Nat) (ht : P.underlying t = some (.slice e)) (hi : P.info? e = some i) (hz : i.zero = some z)
    (hsize : i.size = size) (hby : i.bytes = bytes) (hzs : z.cells.size = size) (hsz : 0 < size)
    (v : Value) (n : Nat) (xs : List Value) (hs : A.eval s = v) (hown : w.ownsRow base e size v n xs)
    (y : Value) (m : Nat) (news : List Value) (hy : A.eval x = y) (hl : news.length = m * size) (hx : Lies w y m news) (h1 : ∀ u ∈ news, u.oneCell' = true)
    (h63 : n + m ≤ maxLen) (hbytes : (n + m) * bytes ≤ 140737488355328) (hbase : base ≤ w.heap.size)
    (h : ∀ a c w', w'.ownsRow base e size (.slice a (n + m) c) (n + m) (xs ++ news) → But (fun k => v.ownBlock = some k) w w' →
      ((Value.slice a (n + m) c).ownBlock = v.ownBlock ∨ (Value.slice a (n + m) c).ownBlock = some w.heap.size) → K (A.put o.dst (.slice a (n + m) c)) w') : o.wp P A w K Q := by
  obtain ⟨a, c, w', hr, h2, h3, h4⟩ := append_any (P := P) w base t o.type e i z size bytes ht hi hz hsize hby hzs hsz v n xs hown y m news hl hx h1 h63 hbytes hbase
  unfold Oper.wp execOp
  simp only [ho, resolve, invoke, builtin, Sem.run_bind, Sem.run_pure, Result.andThen_ok, List.map_toArray, List.map_cons, List.map_nil, hs, hy, hr]
  exact h a c w' h2 h3 h4

theorem wpList_append_any {ops : Array Oper} {rest : List Oper} {o : Oper} {A : Act} {Q : Exit → Act → World → Prop} (hgd : o.guard = none) (s x : Operand) (t : TypeId)
    (ho : o.op = .call { callee := .builtin .append, args := #[s, x], argTypes := #[t, t] })
    (base : Nat) (e : TypeId) (i : TypeInfo) (z : Value) (size bytes : Nat) (ht : P.underlying t = some (.slice e)) (hi : P.info? e = some i) (hz : i.zero = some z)
    (hsize : i.size = size) (hby : i.bytes = bytes) (hzs : z.cells.size = size) (hsz : 0 < size)
    (v : Value) (n : Nat) (xs : List Value) (hs : A.eval s = v) (hown : w.ownsRow base e size v n xs)
    (y : Value) (m : Nat) (news : List Value) (hy : A.eval x = y) (hl : news.length = m * size) (hx : Lies w y m news) (h1 : ∀ u ∈ news, u.oneCell' = true)
    (h63 : n + m ≤ maxLen) (hbytes : (n + m) * bytes ≤ 140737488355328) (hbase : base ≤ w.heap.size)
    (h : ∀ a c w', w'.ownsRow base e size (.slice a (n + m) c) (n + m) (xs ++ news) → But (fun k => v.ownBlock = some k) w w' →
      ((Value.slice a (n + m) c).ownBlock = v.ownBlock ∨ (Value.slice a (n + m) c).ownBlock = some w.heap.size) → wpList P ops Q rest (A.put o.dst (.slice a (n + m) c)) w') : wpList P ops Q (o :: rest) A w :=
  wpList_plain hgd fun _ hK => wp_append_any w s x t ho base e i z size bytes ht hi hz hsize hby hzs hsz v n xs hs hown y m news hy hl hx h1 h63 hbytes hbase fun a c w' h2 h3 h4 => hK _ _ (h a c w' h2 h3 h4)

theorem step_append_any {ops : Array Oper} {o : Oper} {A : Act} {K : Act → World → Prop} {Q : Exit → Act → World → Prop} {E : Prop} (hgd : o.guard = none) (s x : Operand) (t : TypeId)
    (ho : o.op = .call { callee := .builtin .append, args := #[s, x], argTypes := #[t, t] })
    (base : Nat) (e : TypeId) (i : TypeInfo) (z : Value) (size bytes : Nat) (ht : P.underlying t = some (.slice e)) (hi : P.info? e = some i) (hz : i.zero = some z)
    (hsize : i.size = size) (hby : i.bytes = bytes) (hzs : z.cells.size = size) (hsz : 0 < size)
    (v : Value) (n : Nat) (xs : List Value) (hs : A.eval s = v) (hown : w.ownsRow base e size v n xs)
    (y : Value) (m : Nat) (news : List Value) (hy : A.eval x = y) (hl : news.length = m * size) (hx : Lies w y m news) (h1 : ∀ u ∈ news, u.oneCell' = true)
    (h63 : n + m ≤ maxLen) (hbytes : (n + m) * bytes ≤ 140737488355328) (hbase : base ≤ w.heap.size)
    (h : ∀ a c w', w'.ownsRow base e size (.slice a (n + m) c) (n + m) (xs ++ news) → But (fun k => v.ownBlock = some k) w w' →
      ((Value.slice a (n + m) c).ownBlock = v.ownBlock ∨ (Value.slice a (n + m) c).ownBlock = some w.heap.size) → K (A.put o.dst (.slice a (n + m) c)) w') :
    if Region.wanted o (yielded ops A.tmps) = true then Oper.wp P o A w K Q else E := by
  have hw : Region.wanted o (yielded ops A.tmps) = true := by simp [Region.wanted, hgd]
  rw [if_pos hw]
  exact wp_append_any w s x t ho base e i z size bytes ht hi hz hsize hby hzs hsz v n xs hs hown y m news hy hl hx h1 h63 hbytes hbase h
end
end Go.Proofs.YtlfdiffbepfgbaaGreat
