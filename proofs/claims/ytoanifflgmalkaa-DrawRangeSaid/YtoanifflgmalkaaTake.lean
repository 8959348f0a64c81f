/- take: a range over supply's value that breaks; Next and Skip over it. -/
import Derived.RangeFuncNested
import Derived.RangeFuncBound
import Derived.RangeFuncCalls
import Derived.RangeFuncLeaves
import Derived.RangeFuncFrom
import Derived.Shelf.Abstract
import Derived.Shelf.RegionOpen
import Derived.WalkKit
import Derived.OwnWalkIn
import Derived.TacticsInMore
import Derived.LoopNIn
import Derived.LoopIn
import Derived.WalkMore
import Derived.Deep.RegionHeld3
import Derived.Test.YtoanifflgmalkaaSupply
import Derived.Test.YtoanifflgmalkaaHgt
namespace Go.Proofs.Ytoanifflgmalkaa
open Go.RowKit Go.Shelf
attribute [local go_sem] Oper.semAt_some

/-- The last one of those that came, or 0. -/
def lastOf (xs : List Int) : Int := xs.getLast?.getD 0
theorem lastOf_snoc (xs : List Int) (x : Int) : lastOf (xs ++ [x]) = x := by simp [lastOf]
theorem lastOf_upto (f : Nat → Int) (t k : Nat) : lastOf (upto f t k) = if k = 0 then 0 else f (t + k - 1) := by
  cases k with
  | zero => simp [lastOf, upto]
  | succ k => rw [upto_succ, lastOf_snoc]; simp [Nat.add_sub_cancel]

/-- Two cells that the loop writes, one that it reads. -/
structure Cups (W : World) (B : Nat) (m last count : Int) : Prop where
  c0 : W.cell? ⟨B, 0, none⟩ = some (.int .i64 m)
  c1 : W.cell? ⟨B + 1, 0, none⟩ = some (.int .i64 last)
  c2 : W.cell? ⟨B + 1 + 1, 0, none⟩ = some (.int .i64 count)
  f1 : W.frozen? ⟨B + 1, 0, none⟩ = false
  f2 : W.frozen? ⟨B + 1 + 1, 0, none⟩ = false

theorem Cups.own (B : Nat) (m : Int) (last count : List Int → Int) (P : List Int → Prop) : Own (fun pre W => P pre ∧ Cups W B m (last pre) (count pre)) := fun s A C row hs hg hr =>
  ⟨hs.1, cell_kept hs.2.c0 hg hr, cell_kept hs.2.c1 hg hr, cell_kept hs.2.c2 hg hr, (frozen_kept hs.2.c1 hg hr).trans hs.2.f1, (frozen_kept hs.2.c2 hg hr).trans hs.2.f2⟩

theorem But.below {S : Nat → Prop} {a w w' : World} (h : But S a w) (k : Below a.heap.size w w') : But S a w' :=
  ⟨k.os.trans h.os, k.tape.trans h.tape, k.output.trans h.output, Nat.le_trans h.size k.size, fun i hi hS => (k.block i hi).trans (h.block i hi hS),
    fun x hx => (World.frozen?_of_block (k.block _ hx)).trans (h.froze x hx)⟩
/-- The block for the rounds' deferred calls is turned at the return. -/
theorem below_put {n₀ D : Nat} {W : World} {o o' : Obj} (hD : n₀ ≤ D) (hK : W.heap[D]? = some o) : Below n₀ W (W.putObj D o') :=
  (Below.refl n₀ W).grown (grownBy_putObj' W D o') (by have := (Array.getElem?_eq_some_iff.1 hK).1; omega) (fun k e => by cases e; omega)
theorem upto_drop (f : Nat → Int) (t k : Nat) : (upto f t (k + 1)).dropLast = upto f t k := by rw [upto_succ]; simp

theorem soft_new (w : World) (b i : Nat) (h : w.heap.size ≤ b) : w.frozen? ⟨b, i, none⟩ = false := by
  simp [World.frozen?, Array.getElem?_eq_none h]
/-- The end of the call: the results' cells are written once more, and the block for deferred calls is turned. -/
theorem fin {X : World} {B D n₀ : Nat} {L C u v : Value} (hB : n₀ ≤ B) (hD : n₀ ≤ D) (hK : X.heap[D]? = some (.deferred (some []))) (e1 : X.cell? ⟨B + 1, 0, none⟩ = some u) (e2 : X.cell? ⟨B + 1 + 1, 0, none⟩ = some v) :
    (((X.setCell ⟨B + 1, 0, none⟩ L).setCell ⟨B + 1 + 1, 0, none⟩ C).drew).heap[D]? = some (.deferred (some [])) ∧
    ((((X.setCell ⟨B + 1, 0, none⟩ L).setCell ⟨B + 1 + 1, 0, none⟩ C).drew).putObj D (.deferred none)).cell? ⟨B + 1, 0, none⟩ = some L ∧
    ((((X.setCell ⟨B + 1, 0, none⟩ L).setCell ⟨B + 1 + 1, 0, none⟩ C).drew).putObj D (.deferred none)).cell? ⟨B + 1 + 1, 0, none⟩ = some C ∧
    Below n₀ X ((((X.setCell ⟨B + 1, 0, none⟩ L).setCell ⟨B + 1 + 1, 0, none⟩ C).drew).putObj D (.deferred none)) := by
  have k : (((X.setCell ⟨B + 1, 0, none⟩ L).setCell ⟨B + 1 + 1, 0, none⟩ C).drew).heap[D]? = some (.deferred (some [])) :=
    ((KeepsOthers.setCell X ⟨B + 1, 0, none⟩ L).trans (KeepsOthers.setCell _ ⟨B + 1 + 1, 0, none⟩ C)).same D _ hK rfl
  have c1 : (((X.setCell ⟨B + 1, 0, none⟩ L).setCell ⟨B + 1 + 1, 0, none⟩ C).drew).cell? ⟨B + 1, 0, none⟩ = some L := by
    rw [World.cell?_drew, cell_set_far _ _ _ _ _ _ (by omega), World.cell?_setCell_same _ _ _ e1]
  have c2 : (((X.setCell ⟨B + 1, 0, none⟩ L).setCell ⟨B + 1 + 1, 0, none⟩ C).drew).cell? ⟨B + 1 + 1, 0, none⟩ = some C := by
    rw [World.cell?_drew, World.cell?_setCell_same _ _ _ ((cell_set_far _ _ _ _ _ _ (by omega)).trans e2)]
  exact ⟨k, cell_kept c1 (grownBy_putObj' _ D (.deferred none)) (fun r e => by cases e; exact ⟨_, k, rfl⟩), cell_kept c2 (grownBy_putObj' _ D (.deferred none)) (fun r e => by cases e; exact ⟨_, k, rfl⟩),
    ((((Below.refl _ _).setCell (p := ⟨B + 1, 0, none⟩) (by simp; omega) _).setCell (p := ⟨B + 1 + 1, 0, none⟩) (by simp; omega) _).drew).trans (below_put hD k)⟩

set_option maxRecDepth 100000 in
set_option maxHeartbeats 4000000 in
theorem take_held {w : World} {D S : Nat} {a : Option Addr} {len cap t : Nat} {f : Nat → Int} (h : Held w D S a len cap t f) (m : Int) :
    Calls Try.prog 29 #[.pointer (some ⟨D, 0, none⟩), .int .i64 m] w fun e w' =>
      e = .returned (.tuple #[.int .i64 (lastOf (upto f t (min m.toNat (len - t)))), .int .i64 (min m.toNat (len - t) : Nat)]) ∧ But (fun k => k = S) w w' ∧ Held w' D S a len cap (t + min m.toNat (len - t)) f := by
  obtain ⟨c, hc0⟩ : ∃ c, c = min m.toNat (len - t) := ⟨_, rfl⟩
  rw [← hc0]
  refine (callsIn_wide (n := 6)).1 ?_
  refine callsIn_of_wp_marks Try.func29 rfl trivial ?_ rfl
  simp only [Try.ntmps29, List.size_toArray, List.length_cons, List.length_nil, Nat.reduceAdd, Nat.reduceSub, Array.replicate_succ, Array.replicate_zero, List.push_toArray, List.append_toArray, List.nil_append, List.cons_append]
  rw [wpIn_wide]
  go_wp2
  go_step3
  go_wp2
  go_step3
  go_wp2_with fail; refine (supply_any _ _).mono ?_; rintro e w' ⟨rfl, rfl⟩
  go_wp2
  have s1 := h.most
  have s2 := h.took
  obtain ⟨W0, hW0⟩ : ∃ W0, ((((w.alloc (.cells #[.int .i64 m] 3)).alloc (.cells #[.int .i64 0] 3)).alloc (.cells #[.int .i64 0] 3)).alloc (.cells #[.pointer (some ⟨D, 0, none⟩)] 26)) = W0 := ⟨_, rfl⟩
  have z0 : W0.heap.size = w.heap.size + 4 := by rw [← hW0]; simp
  have kW : Kept w W0 := by rw [← hW0]; exact ((((Kept.refl w).alloc _ _).alloc _ _).alloc _ _).alloc _ _
  have hCups : Cups W0 w.heap.size m 0 0 := by
    rw [← hW0]
    exact ⟨((((Kept.refl _).alloc _ _).alloc _ _).alloc _ _).some (cell_new w _ _ _ 0 rfl), (((Kept.refl _).alloc _ _).alloc _ _).some (cell_new _ _ _ _ 0 (by simp)), ((Kept.refl _).alloc _ _).some (cell_new _ _ _ _ 0 (by simp)),
      by simp only [frozen?_alloc_cells]; exact soft_new _ _ _ (by omega), by simp only [frozen?_alloc_cells]; exact soft_new _ _ _ (by omega)⟩
  have hbox : W0.cell? ⟨w.heap.size + 1 + 1 + 1, 0, none⟩ = some (.pointer (some ⟨D, 0, none⟩)) := by rw [← hW0]; exact cell_new _ _ _ _ 0 (by simp)
  rw [hW0]
  clear hW0
  have hH0 := h.kept kW
  have hbb : ∀ b, a = some ⟨b, 0, none⟩ → b < w.heap.size := by
    intro b e
    rcases h.form with ⟨e', _⟩ | ⟨b', e', hl, _⟩
    · rw [e] at e'; cases e'
    · rw [e] at e'; cases e'; exact hl
  rename_i Q' K hK0
  have tail : ∀ D' W, w.heap.size ≤ D' → Cups W w.heap.size m (lastOf (upto f t c)) c → Below w.heap.size w W → W.heap[D']? = some (.deferred (some [])) →
      K { tmps := #[.pointer (some ⟨D, 0, none⟩), .int .i64 m, undef, .pointer (some ⟨w.heap.size, 0, none⟩), .pointer (some ⟨w.heap.size + 1, 0, none⟩), .pointer (some ⟨w.heap.size + 1 + 1, 0, none⟩), undef, .pointer (some ⟨D, 0, none⟩), .func (.func 32) #[] #[.pointer (some ⟨w.heap.size + 1 + 1 + 1, 0, none⟩)], undef, undef, undef, undef, undef, undef, undef, undef, undef, undef, undef, undef, undef, undef, undef, undef, undef, undef, undef, undef, undef, undef, undef], defers := [{ target := .collected D', args := #[] }] } W := by
    intro D' W hD hc hB hK
    apply hK0
    have e1 := hc.c1
    have e2 := hc.c2
    have e3 := hc.f1
    have e4 := hc.f2
    have g0 : W.cell? ⟨D, 0, none⟩ = some (.pointer (some ⟨S, 0, none⟩)) := (hB.cell (p := ⟨D, 0, none⟩) h.lt.1).trans h.ptr
    have g1 : W.cell? ⟨S, 1, none⟩ = some (.int .i64 t) := (hB.cell (p := ⟨S, 1, none⟩) h.lt.2).trans h.count
    have g2 : W.frozen? ⟨S, 1, none⟩ = false := (World.frozen?_of_block (hB.block S h.lt.2)).trans h.soft
    clear hCups hc hbox
    have hc1 : c ≤ len - t := by omega
    clear hc0
    by_cases h0 : c = 0
    · have hz : ¬ (0 : Int) < c := by omega
      subst h0
      go_wp2
      go_region
      go_wp2
      rw [Exit.noGoto_ret]
      obtain ⟨k, c1, c2, b1⟩ := fin (n₀ := w.heap.size) (L := .int .i64 (lastOf (upto f t 0))) (C := .int .i64 0) (Nat.le_refl _) hD hK e1 e2
      refine ⟨by simp, .inl ⟨_, _, rfl, run_takeDeferred k, ?_⟩⟩
      refine ⟨.tuple #[.int .i64 (lastOf (upto f t 0)), .int .i64 0], by simp [results, Try.results29, go_sem, c1, c2], rfl, ?_, ?_⟩
      · exact ((But.refl _ w).below hB).below b1
      · exact h.kept ⟨hB.trans b1⟩
    · have hpos : (0 : Int) < c := by omega
      go_wp2
      go_region
      obtain ⟨X, hX⟩ : ∃ X, (W.setCell ⟨S, 1, none⟩ (.int .i64 ((t : Int) + c))).drew = X := ⟨_, rfl⟩
      have S0 := h.lt.2
      have x1 : X.cell? ⟨w.heap.size + 1, 0, none⟩ = some (.int .i64 (lastOf (upto f t c))) := by rw [← hX, World.cell?_drew, cell_set_far _ _ _ _ _ _ (by omega)]; exact e1
      have x2 : X.cell? ⟨w.heap.size + 1 + 1, 0, none⟩ = some (.int .i64 c) := by rw [← hX, World.cell?_drew, cell_set_far _ _ _ _ _ _ (by omega)]; exact e2
      have x3 : X.frozen? ⟨w.heap.size + 1, 0, none⟩ = false := by rw [← hX]; exact (World.frozen?_setCell _ _ _ _).trans e3
      have x4 : X.frozen? ⟨w.heap.size + 1 + 1, 0, none⟩ = false := by rw [← hX]; exact (World.frozen?_setCell _ _ _ _).trans e4
      have x5 : X.heap[D']? = some (.deferred (some [])) := by rw [← hX]; exact (KeepsOthers.setCell W ⟨S, 1, none⟩ _).same D' _ hK rfl
      have x6 : X.cell? ⟨S, 1, none⟩ = some (.int .i64 ((t + c : Nat) : Int)) := by rw [← hX, World.cell?_drew, World.cell?_setCell_same _ _ _ g1]; simp
      have x7 : X.cell? ⟨S, 0, none⟩ = some (.slice a len cap) := by
        rw [← hX, World.cell?_drew, World.cell?_setCell_other _ _ _ _ (by simp)]
        exact (hB.cell (p := ⟨S, 0, none⟩) S0).trans h.list
      have x8 : But (fun k => k = S) w X := by rw [← hX]; exact (((But.refl _ w).below hB).here 1 _).drew
      rw [hX]
      clear hX e1 e2 e3 e4 g0 g1 g2 hK
      go_wp2
      go_region
      go_wp2
      rw [Exit.noGoto_ret]
      obtain ⟨k, c1, c2, b1⟩ := fin (n₀ := w.heap.size) (L := .int .i64 (lastOf (upto f t c))) (C := .int .i64 c) (Nat.le_refl _) hD x5 x1 x2
      refine ⟨by simp, .inl ⟨_, _, rfl, run_takeDeferred k, ?_⟩⟩
      refine ⟨.tuple #[.int .i64 (lastOf (upto f t c)), .int .i64 c], by simp [results, Try.results29, go_sem, c1, c2], rfl, x8.below b1, ?_⟩
      exact h.take (x8.below b1) (by omega) ((b1.cell (p := ⟨S, 0, none⟩) S0).trans x7) ((b1.cell (p := ⟨S, 1, none⟩) S0).trans x6)
  rw [← wpIn_wide (n := 6)]
  refine wpIn_rangeFunc_ownF rfl (by decide) (gf := 32) (lb := #[.pointer (some ⟨w.heap.size + 1 + 1 + 1, 0, none⟩)]) rfl trivial (enters_of Try.func32 (by kernel_rfl) rfl)
    (supply_stops 5 (by decide) (w.heap.size + 1 + 1 + 1) w.heap.size D S a len cap t f W0 (by omega) (by omega) hbox hH0 hbb) belowK_t (belowK_b (by omega)) (Below.refl _ _) (fun _ => rfl)
    (fun pre W => (pre.length ≤ m.toNat ∧ Cups W w.heap.size m (lastOf pre) (pre.length : Nat)) ∧ Below w.heap.size w W)
    (fun c pre W => ((c = .exit 0 ∧ pre.length = m.toNat + 1) ∧ Cups W w.heap.size m (lastOf pre.dropLast) ((pre.length - 1 : Nat) : Int)) ∧ Below w.heap.size w W)
    (OwnFrom.and (Own.from (Cups.own _ _ _ _ _) _) (ownFrom_below (Nat.le_refl _) (by omega)))
    (fun c => OwnFrom.and (Own.from (Cups.own _ _ _ _ _) _) (ownFrom_below (Nat.le_refl _) (by omega)))
    ⟨⟨Nat.zero_le _, hCups⟩, kW.below⟩
    (fun x => { tmps := #[.pointer (some ⟨D, 0, none⟩), .int .i64 m, undef, .pointer (some ⟨w.heap.size, 0, none⟩), .pointer (some ⟨w.heap.size + 1, 0, none⟩), .pointer (some ⟨w.heap.size + 1 + 1, 0, none⟩), .int .i64 x, .pointer (some ⟨D, 0, none⟩), .func (.func 32) #[] #[.pointer (some ⟨w.heap.size + 1 + 1 + 1, 0, none⟩)], .int .i64 x, undef, undef, undef, undef, undef, undef, undef, undef, undef, undef, undef, undef, undef, undef, undef, undef, undef, undef, undef, undef, undef, undef], defers := [] }) ?assign ?body ?done ?stop
  case assign =>
    intro l x W K hK
    gi_wp2
    exact hK
  case body =>
    rintro l pre x W ⟨⟨hp, hc⟩, hB⟩ hlt
    have e0 := hc.c0
    have e1 := hc.c1
    have e2 := hc.c2
    have e3 := hc.f1
    have e4 := hc.f2
    clear hc hCups hbox hH0 hbb kW h
    by_cases hm : m ≤ (pre.length : Int)
    · gi_wp2
      exact ⟨KeepsOthers.refl _, ⟨⟨rfl, by simp; omega⟩, ⟨e0, by simpa using e1, by simpa using e2, e3, e4⟩⟩, hB⟩
    · gi_wp2
      refine ⟨(KeepsOthers.setCell _ _ _).trans (KeepsOthers.setCell _ _ _), ((Below.refl _ _).setCell (p := ⟨w.heap.size + 1, 0, none⟩) (by simp) _).setCell (p := ⟨w.heap.size + 1 + 1, 0, none⟩) (by simp; omega) _, ⟨by simp; omega, ?_⟩,
        (hB.setCell (p := ⟨w.heap.size + 1, 0, none⟩) (by simp) _).setCell (p := ⟨w.heap.size + 1 + 1, 0, none⟩) (by simp; omega) _⟩
      refine ⟨?_, ?_, ?_, ?_, ?_⟩
      · rw [cell_set_far _ _ _ _ _ _ (by omega), cell_set_far _ _ _ _ _ _ (by omega)]; exact e0
      · rw [cell_set_far _ _ _ _ _ _ (by omega), World.cell?_setCell_same _ _ _ e1, lastOf_snoc]
      · rw [World.cell?_setCell_same _ _ _ ((cell_set_far _ _ _ _ _ _ (by omega)).trans e2)]
        simp
      · rw [World.frozen?_setCell, World.frozen?_setCell]; exact e3
      · rw [World.frozen?_setCell, World.frozen?_setCell]; exact e4
  case done =>
    rintro D' ys W hD rfl ⟨⟨hp, hc⟩, hB⟩ hK
    rw [upto_length] at hp hc
    rw [show len - t = c by omega] at hc
    exact tail D' W (by omega) hc hB hK
  case stop =>
    rintro D' c pre W hD ⟨k, hk, rfl⟩ ⟨⟨⟨rfl, hl⟩, hc⟩, hB⟩ hK
    rw [upto_length] at hl hc
    subst hl
    rw [upto_drop, Nat.add_sub_cancel] at hc
    rw [show m.toNat = c by omega] at hc
    gi_wp2
    exact tail D' W (by omega) hc hB hK
set_option maxRecDepth 100000 in
set_option maxHeartbeats 4000000 in
theorem take_none {w : World} {p : Option Addr} (h : Nobody w p) (m : Int) :
    Calls Try.prog 29 #[.pointer p, .int .i64 m] w fun e w' => e = .returned (.tuple #[.int .i64 0, .int .i64 0]) ∧ Kept w w' := by
  refine (callsIn_wide (n := 6)).1 ?_
  refine callsIn_of_wp_marks Try.func29 rfl trivial ?_ rfl
  simp only [Try.ntmps29, List.size_toArray, List.length_cons, List.length_nil, Nat.reduceAdd, Nat.reduceSub, Array.replicate_succ, Array.replicate_zero, List.push_toArray, List.append_toArray, List.nil_append, List.cons_append]
  rw [wpIn_wide]
  go_wp2
  go_step3
  go_wp2
  go_step3
  go_wp2_with fail; refine (supply_any _ _).mono ?_; rintro e w' ⟨rfl, rfl⟩
  go_wp2
  obtain ⟨W0, hW0⟩ : ∃ W0, ((((w.alloc (.cells #[.int .i64 m] 3)).alloc (.cells #[.int .i64 0] 3)).alloc (.cells #[.int .i64 0] 3)).alloc (.cells #[.pointer p] 26)) = W0 := ⟨_, rfl⟩
  have z0 : W0.heap.size = w.heap.size + 4 := by rw [← hW0]; simp
  have kW : Kept w W0 := by rw [← hW0]; exact ((((Kept.refl w).alloc _ _).alloc _ _).alloc _ _).alloc _ _
  have hCups : Cups W0 w.heap.size m 0 0 := by
    rw [← hW0]
    exact ⟨((((Kept.refl _).alloc _ _).alloc _ _).alloc _ _).some (cell_new w _ _ _ 0 rfl), (((Kept.refl _).alloc _ _).alloc _ _).some (cell_new _ _ _ _ 0 (by simp)), ((Kept.refl _).alloc _ _).some (cell_new _ _ _ _ 0 (by simp)),
      by simp only [frozen?_alloc_cells]; exact soft_new _ _ _ (by omega), by simp only [frozen?_alloc_cells]; exact soft_new _ _ _ (by omega)⟩
  have hbox : W0.cell? ⟨w.heap.size + 1 + 1 + 1, 0, none⟩ = some (.pointer p) := by rw [← hW0]; exact cell_new _ _ _ _ 0 (by simp)
  rw [hW0]
  clear hW0
  have hH0 := h.kept kW
  rename_i Q' K hK0
  have tail : ∀ D' W, w.heap.size ≤ D' → Cups W w.heap.size m 0 0 → Below w.heap.size w W → W.heap[D']? = some (.deferred (some [])) →
      K { tmps := #[.pointer p, .int .i64 m, undef, .pointer (some ⟨w.heap.size, 0, none⟩), .pointer (some ⟨w.heap.size + 1, 0, none⟩), .pointer (some ⟨w.heap.size + 1 + 1, 0, none⟩), undef, .pointer p, .func (.func 32) #[] #[.pointer (some ⟨w.heap.size + 1 + 1 + 1, 0, none⟩)], undef, undef, undef, undef, undef, undef, undef, undef, undef, undef, undef, undef, undef, undef, undef, undef, undef, undef, undef, undef, undef, undef, undef], defers := [{ target := .collected D', args := #[] }] } W := by
    intro D' W hD hc hB hK
    apply hK0
    have e1 := hc.c1
    have e2 := hc.c2
    have e3 := hc.f1
    have e4 := hc.f2
    clear hCups hc hbox
    go_wp2
    go_region
    go_wp2
    rw [Exit.noGoto_ret]
    obtain ⟨k, c1, c2, b1⟩ := fin (n₀ := w.heap.size) (L := .int .i64 0) (C := .int .i64 0) (Nat.le_refl _) hD hK e1 e2
    refine ⟨by simp, .inl ⟨_, _, rfl, run_takeDeferred k, ?_⟩⟩
    exact ⟨.tuple #[.int .i64 0, .int .i64 0], by simp [results, Try.results29, go_sem, c1, c2], rfl, ⟨hB.trans b1⟩⟩
  rw [← wpIn_wide (n := 6)]
  refine wpIn_rangeFunc_ownF rfl (by decide) (gf := 32) (lb := #[.pointer (some ⟨w.heap.size + 1 + 1 + 1, 0, none⟩)]) rfl trivial (enters_of Try.func32 (by kernel_rfl) rfl)
    (supply_none_stops 5 (w.heap.size + 1 + 1 + 1) w.heap.size p W0 (by omega) hbox hH0) belowK_t (belowK_b (by omega)) (Below.refl _ _) (fun _ => rfl)
    (fun pre W => (pre = [] ∧ Cups W w.heap.size m 0 0) ∧ Below w.heap.size w W)
    (fun _ _ _ => False)
    (OwnFrom.and (Own.from (Cups.own _ _ _ _ _) _) (ownFrom_below (Nat.le_refl _) (by omega)))
    (fun _ _ _ _ _ hs _ _ => hs)
    ⟨⟨rfl, hCups⟩, kW.below⟩
    (fun x => { tmps := #[.pointer p, .int .i64 m, undef, .pointer (some ⟨w.heap.size, 0, none⟩), .pointer (some ⟨w.heap.size + 1, 0, none⟩), .pointer (some ⟨w.heap.size + 1 + 1, 0, none⟩), .int .i64 x, .pointer p, .func (.func 32) #[] #[.pointer (some ⟨w.heap.size + 1 + 1 + 1, 0, none⟩)], .int .i64 x, undef, undef, undef, undef, undef, undef, undef, undef, undef, undef, undef, undef, undef, undef, undef, undef, undef, undef, undef, undef, undef, undef], defers := [] }) ?assign ?body ?done ?stop
  case assign =>
    intro l x W K hK
    gi_wp2
    exact hK
  case body =>
    rintro l pre x W _ hlt
    exact absurd hlt (Nat.not_lt_zero _)
  case done =>
    rintro D' ys W hD _ ⟨⟨_, hc⟩, hB⟩ hK
    exact tail D' W (by omega) hc hB hK
  case stop =>
    rintro D' c pre W hD _ hx hK
    exact hx.elim

/-! ### Next, Skip, the method Height, Copy -/

theorem Nums.at {f : Nat → Int} {len : Nat} (h : Nums f len) (t : Nat) (ht : t ≤ len) : lastOf (upto f t (min (1 : Int).toNat (len - t))) = f t := by
  rw [lastOf_upto]
  by_cases h0 : t = len
  · subst h0; simp [h.zero _ (Nat.le_refl _)]
  · rw [if_neg (by simp; omega)]
    congr 1
    simp
    omega

set_option maxHeartbeats 1000000 in
theorem next_held {w : World} {D S : Nat} {a : Option Addr} {len cap t : Nat} {f : Nat → Int} (h : Held w D S a len cap t f) :
    Calls Try.prog 15 #[.pointer (some ⟨D, 0, none⟩)] w fun e w' => e = .returned (.int .i64 (f t)) ∧ But (fun k => k = S) w w' ∧ Held w' D S a len cap (t + min 1 (len - t)) f := by
  have hv := h.nums.at t h.took
  have H := Lib.hid h
  have HV := Lib.hid hv
  clear h hv
  go_enter Try.func15, Try.ntmps15
  go_wp2_with fail; refine (take_held H.out 1).mono ?_; rintro e w1 ⟨rfl, k1, h1⟩
  go_wp2
  go_ret
  exact ⟨by show Ending.returned (.int .i64 (lastOf (upto f t (min (1 : Int).toNat (len - t))))) = _; rw [HV.out], k1, h1⟩

set_option maxHeartbeats 1000000 in
theorem next_none {w : World} {p : Option Addr} (h : Nobody w p) :
    Calls Try.prog 15 #[.pointer p] w fun e w' => e = .returned (.int .i64 0) ∧ Kept w w' := by
  have H := Lib.hid h
  clear h
  go_enter Try.func15, Try.ntmps15
  go_wp2_with fail; refine (take_none H.out 1).mono ?_; rintro e w1 ⟨rfl, k1⟩
  go_wp2
  go_ret
  exact ⟨rfl, k1⟩

set_option maxHeartbeats 1000000 in
theorem skip_held {w : World} {D S : Nat} {a : Option Addr} {len cap t : Nat} {f : Nat → Int} (h : Held w D S a len cap t f) (m : Int) :
    Calls Try.prog 19 #[.pointer (some ⟨D, 0, none⟩), .int .i64 m] w fun e w' => e = .returned (.int .i64 (min m.toNat (len - t) : Nat)) ∧ But (fun k => k = S) w w' ∧ Held w' D S a len cap (t + min m.toNat (len - t)) f := by
  have H := Lib.hid h
  clear h
  go_enter Try.func19, Try.ntmps19
  go_wp2_with fail; refine (take_held H.out m).mono ?_; rintro e w1 ⟨rfl, k1, h1⟩
  go_wp2
  go_ret
  exact ⟨rfl, k1, h1⟩

set_option maxHeartbeats 1000000 in
theorem skip_none {w : World} {p : Option Addr} (h : Nobody w p) (m : Int) :
    Calls Try.prog 19 #[.pointer p, .int .i64 m] w fun e w' => e = .returned (.int .i64 0) ∧ Kept w w' := by
  have H := Lib.hid h
  clear h
  go_enter Try.func19, Try.ntmps19
  go_wp2_with fail; refine (take_none H.out m).mono ?_; rintro e w1 ⟨rfl, k1⟩
  go_wp2
  go_ret
  exact ⟨rfl, k1⟩

set_option maxHeartbeats 1000000 in
theorem drawHeight_held {w : World} {D S : Nat} {a : Option Addr} {len cap t : Nat} {f : Nat → Int} (h : Held w D S a len cap t f) (m : Int) (h3 : -9223372036854775808 ≤ m) (h4 : m ≤ 9223372036854775807) :
    Calls Try.prog 17 #[.pointer (some ⟨D, 0, none⟩), .int .i64 m] w fun e w' => e = .returned (.int .i64 (hgt (f t) m)) ∧ But (fun k => k = S) w w' ∧ Held w' D S a len cap (t + min 1 (len - t)) f := by
  have l1 := h.nums.lo t
  have l2 := h.nums.hi t
  have H := Lib.hid h
  clear h
  go_enter Try.func17, Try.ntmps17
  go_wp2_with fail; refine (next_held H.out).mono ?_; rintro e w1 ⟨rfl, k1, h1⟩
  go_wp2_with fail; refine (height_any (f t) m l1 l2 h3 h4 _).mono ?_; rintro e w2 ⟨rfl, rfl⟩
  go_wp2
  go_ret
  exact ⟨rfl, k1, h1⟩

set_option maxHeartbeats 1000000 in
theorem drawHeight_none {w : World} {p : Option Addr} (h : Nobody w p) (m : Int) (h3 : -9223372036854775808 ≤ m) (h4 : m ≤ 9223372036854775807) :
    Calls Try.prog 17 #[.pointer p, .int .i64 m] w fun e w' => e = .returned (.int .i64 1) ∧ Kept w w' := by
  have H := Lib.hid h
  clear h
  have HV := Lib.hid (show hgt 0 m = 1 by
    have : ones 0 = 0 := by decide
    unfold hgt
    rw [this]
    omega)
  go_enter Try.func17, Try.ntmps17
  go_wp2_with fail; refine (next_none H.out).mono ?_; rintro e w1 ⟨rfl, k1⟩
  go_wp2_with fail; refine (height_any 0 m (by decide) (by decide) h3 h4 _).mono ?_; rintro e w2 ⟨rfl, rfl⟩
  go_wp2
  go_ret
  exact ⟨by show Ending.returned (.int .i64 (hgt 0 m)) = _; rw [HV.out], k1⟩

/-- Draws that have just been laid. -/
theorem held_new {X : World} {a : Option Addr} {len cap t : Nat} {f : Nat → Int} {T T' : TypeId} (hn : Nums f len) (hm : len ≤ 4096) (hr : len ≤ cap) (hl : cap ≤ maxLen) (ht : t ≤ len)
    (hf : (a = none ∧ len = 0 ∧ cap = 0) ∨ ∃ b, a = some ⟨b, 0, none⟩ ∧ b < X.heap.size ∧ ∀ i, i < len → X.cell? ⟨b, i, none⟩ = some (.int .i64 (f i))) :
    Held ((X.alloc (.cells #[.slice a len cap, .int .i64 t] T)).alloc (.cells #[.pointer (some ⟨X.heap.size, 0, none⟩)] T')) (X.heap.size + 1) X.heap.size a len cap t f := by
  have k : Kept (X.alloc (.cells #[.slice a len cap, .int .i64 t] T)) ((X.alloc (.cells #[.slice a len cap, .int .i64 t] T)).alloc (.cells #[.pointer (some ⟨X.heap.size, 0, none⟩)] T')) := (Kept.refl _).alloc _ _
  have k2 : Kept X ((X.alloc (.cells #[.slice a len cap, .int .i64 t] T)).alloc (.cells #[.pointer (some ⟨X.heap.size, 0, none⟩)] T')) := ((Kept.refl X).alloc _ _).alloc _ _
  exact ⟨hn, hm, hr, hl, ht, cell_new _ _ _ _ 0 (by simp), k.some (cell_new _ _ _ _ 0 rfl), k.some (cell_new _ _ _ _ 1 rfl), by simp only [frozen?_alloc_cells]; exact soft_new _ _ _ (Nat.le_refl _),
    hf.imp id (fun ⟨b, e, hb, hc⟩ => ⟨b, e, Nat.lt_of_lt_of_le hb k2.size, fun i hi => k2.some (hc i hi)⟩)⟩

set_option maxHeartbeats 1000000 in
theorem copy_none {w : World} {p : Option Addr} (h : Nobody w p) :
    Calls Try.prog 21 #[.pointer p] w fun e w' => e = .returned (.pointer none) ∧ Kept w w' := by
  go_enter Try.func21, Try.ntmps21
  go_wp2_with fail; refine (valid_none h).mono ?_; rintro e w1 ⟨rfl, rfl⟩
  go_wp2
  go_ret
  exact ⟨rfl, Kept.refl _⟩

set_option maxHeartbeats 1000000 in
theorem copy_held {w : World} {D S : Nat} {a : Option Addr} {len cap t : Nat} {f : Nat → Int} (h : Held w D S a len cap t f) :
    Calls Try.prog 21 #[.pointer (some ⟨D, 0, none⟩)] w fun e w' => ∃ D' S', e = .returned (.pointer (some ⟨D', 0, none⟩)) ∧ w.heap.size ≤ S' ∧ Kept w w' ∧ Held w' D' S' a len cap t f := by
  have c0 := h.ptr
  have c1 := h.list
  have c2 := h.count
  have H := Lib.hid h
  go_enter Try.func21, Try.ntmps21
  go_wp2_with fail; refine (valid_held h).mono ?_; rintro e w1 ⟨rfl, rfl⟩
  clear h
  go_wp2
  go_ret
  have h := H.out
  exact ⟨_, _, rfl, Nat.le_refl _, ((Kept.refl w).alloc _ _).alloc _ _, held_new h.nums h.most h.room h.lim h.took h.form⟩
end Go.Proofs.Ytoanifflgmalkaa
