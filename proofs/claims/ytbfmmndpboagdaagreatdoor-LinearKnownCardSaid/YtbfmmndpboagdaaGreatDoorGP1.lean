/- The model of a pool: a set of indices, what may be answered, what is free behind it; a word's bits. Nothing of the program. -/
import Derived.Lib.TrailingZeros
import Derived.Test.YtbfmmndpboagdaaGreatDoorProg
import Derived.Test.YtbfmmndpboagdaaGreatDoorGA
import Derived.Deep.Slices
import Derived.WalkKit
import Derived.ProofKit
import Derived.Lib.Hide
import Derived.Deep.MidRow
import Derived.Laws.Tables
import Derived.Laws.Bits64b
import Derived.WalkLawsBesides
import Derived.Deep.QuietTactic
import Derived.BigQuiet
import Derived.Deep.RegionHeld3
import Derived.Deep.Light
import Derived.LoopN
import Derived.Shelf.Spec.TrailingZeros
import Derived.RangeFuncNested
import Derived.RangeFuncBound
import Derived.RangeFuncCalls
import Derived.RangeFuncLeaves
import Derived.RangeFuncFrom
import Derived.RangeFuncBox
import Derived.Shelf.Abstract
import Derived.Shelf.RegionOpen
import Derived.WalkMore
import Derived.OwnWalkIn
import Derived.TacticsInMore
import Derived.LoopNIn
import Derived.LoopIn
import Derived.Maps.AppendAt
import Derived.OwnWalk
namespace Go.Proofs.YtbfmmndpboagdaaGreatDoor.Po

structure Opn where
  k : Int
  a : Int
  b : Int
  u : Int
structure Ann where
  e : Int
  n : Int
  v : Int
deriving DecidableEq
def noAnn : Ann := ⟨0, 0, 0⟩

def memTo (M : Nat → Bool) (n : Nat) : List Nat := (List.range n).filter M
def mem (M : Nat → Bool) : List Nat := memTo M 1024
def cast (l : List Nat) : List Int := l.map fun (i : Nat) => (i : Int)
def memI (M : Nat → Bool) : List Int := cast (mem M)
def setOf (s : List Int) : Nat → Bool := fun i => decide ((i : Int) ∈ s)
def noIdx (x : Int) : Bool := decide (x < 0) || decide (1024 ≤ x)
def asc : List Int → Bool
  | [] => true
  | [_] => true
  | x :: y :: l => decide (x < y) && asc (y :: l)
def chk (s : List Int) : Int := if s.any noIdx then 3 else if asc s then 0 else 9
def upd (M : Nat → Bool) (i : Int) (b : Bool) : Nat → Bool := fun j => if (j : Int) = i then b else M j
def freed (M : Nat → Bool) (a : Int) : Int := if noIdx a then 3 else if M a.toNat then 8 else 0
def outs (M : Nat → Bool) (o : Opn) : List Ann :=
  if o.k = 7 then (memI M).map (fun i => (⟨0, i, 0⟩ : Ann)) ++ [⟨7, 0, 0⟩, ⟨12, 0, 0⟩] else if o.k = 8 then [⟨freed M o.a, 0, 0⟩] else []
def aft (M : Nat → Bool) (o : Opn) (x : Ann) : Nat → Bool :=
  if x.e = 0 ∧ o.k = 7 then upd M x.n false else if x.e = 0 ∧ o.k = 8 then upd M o.a true else M
def allS (s : List Int) (o : Opn) : List Ann := if chk s = 0 then outs (setOf s) o else []
def restM (s : List Int) (n : Nat) : Nat → Bool := fun i => decide (i < n) && !decide ((i : Int) ∈ s)

theorem memTo_succ (M : Nat → Bool) (n : Nat) : memTo M (n + 1) = memTo M n ++ (if M n then [n] else []) := by
  unfold memTo
  rw [List.range_succ, List.filter_append]
  congr 1
  cases h : M n <;> simp [h]
theorem memTo_len (M : Nat → Bool) (n : Nat) : (memTo M n).length ≤ n := by
  have h := List.length_filter_le M (List.range n)
  rw [List.length_range] at h
  exact h
theorem memTo_mem {M : Nat → Bool} {n i : Nat} : i ∈ memTo M n ↔ i < n ∧ M i = true := by simp [memTo]
theorem mem_len (M : Nat → Bool) : (mem M).length ≤ 1024 := memTo_len M 1024
theorem memTo_congr {M N : Nat → Bool} {n : Nat} (h : ∀ i, i < n → M i = N i) : memTo M n = memTo N n := by
  unfold memTo
  apply List.filter_congr
  intro x hx
  exact h x (by simpa using hx)
theorem mem_congr {M N : Nat → Bool} (h : ∀ i, i < 1024 → M i = N i) : mem M = mem N := memTo_congr h
theorem memI_congr {M N : Nat → Bool} (h : ∀ i, i < 1024 → M i = N i) : memI M = memI N := by unfold memI; rw [mem_congr h]
theorem cast_append (l m : List Nat) : cast (l ++ m) = cast l ++ cast m := by simp [cast]
theorem cast_length (l : List Nat) : (cast l).length = l.length := by simp [cast]
theorem memI_mem {M : Nat → Bool} {x : Int} : x ∈ memI M ↔ ∃ i : Nat, i < 1024 ∧ M i = true ∧ x = i := by
  unfold memI cast mem
  simp only [List.mem_map, memTo_mem]
  constructor
  · rintro ⟨i, ⟨h1, h2⟩, rfl⟩; exact ⟨i, h1, h2, rfl⟩
  · rintro ⟨i, h1, h2, rfl⟩; exact ⟨i, ⟨h1, h2⟩, rfl⟩
theorem noIdx_iff {x : Int} : noIdx x = false ↔ ∃ i : Nat, i < 1024 ∧ x = i := by
  unfold noIdx
  constructor
  · intro h
    simp at h
    exact ⟨x.toNat, by omega, by omega⟩
  · rintro ⟨i, h, rfl⟩
    simp
    omega
theorem any_noIdx {s : List Int} : s.any noIdx = false ↔ ∀ x ∈ s, ∃ i : Nat, i < 1024 ∧ x = i := by
  rw [List.any_eq_false]
  constructor
  · intro h x hx; exact noIdx_iff.1 (by simpa using h x hx)
  · intro h x hx; simpa using noIdx_iff.2 (h x hx)

theorem asc_cons {x : Int} {s : List Int} : asc (x :: s) = true ↔ asc s = true ∧ ∀ y ∈ s, x < y := by
  induction s generalizing x with
  | nil => simp [asc]
  | cons y s ih =>
    simp only [asc, Bool.and_eq_true, decide_eq_true_eq, List.mem_cons, forall_eq_or_imp]
    constructor
    · rintro ⟨h1, h2⟩
      exact ⟨h2, h1, fun z hz => Int.lt_trans h1 ((ih.1 h2).2 z hz)⟩
    · rintro ⟨h1, h2, _⟩
      exact ⟨h2, h1⟩
theorem asc_ext : ∀ {s t : List Int}, asc s = true → asc t = true → (∀ x, x ∈ s ↔ x ∈ t) → s = t := by
  intro s
  induction s with
  | nil =>
    intro t _ _ h
    cases t with
    | nil => rfl
    | cons y t => exact absurd ((h y).2 (List.mem_cons_self ..)) (by simp)
  | cons x s ih =>
    intro t hs ht h
    cases t with
    | nil => exact absurd ((h x).1 (List.mem_cons_self ..)) (by simp)
    | cons y t =>
      obtain ⟨hs1, hs2⟩ := asc_cons.1 hs
      obtain ⟨ht1, ht2⟩ := asc_cons.1 ht
      have e : x = y := by
        rcases List.mem_cons.1 ((h x).1 (List.mem_cons_self ..)) with e | hx
        · exact e
        · rcases List.mem_cons.1 ((h y).2 (List.mem_cons_self ..)) with e | hy
          · exact e.symm
          · have := hs2 y hy; have := ht2 x hx; omega
      subst e
      congr 1
      refine ih hs1 ht1 fun z => ⟨fun hz => ?_, fun hz => ?_⟩
      · rcases List.mem_cons.1 ((h z).1 (List.mem_cons_of_mem _ hz)) with e | hz'
        · subst e; exact absurd (hs2 z hz) (Int.lt_irrefl _)
        · exact hz'
      · rcases List.mem_cons.1 ((h z).2 (List.mem_cons_of_mem _ hz)) with e | hz'
        · subst e; exact absurd (ht2 z hz) (Int.lt_irrefl _)
        · exact hz'
theorem asc_snoc {s : List Int} {x : Int} (h : asc s = true) (hx : ∀ y ∈ s, y < x) : asc (s ++ [x]) = true := by
  induction s with
  | nil => rfl
  | cons y s ih =>
    obtain ⟨h1, h2⟩ := asc_cons.1 h
    rw [List.cons_append]
    refine asc_cons.2 ⟨ih h1 (fun z hz => hx z (List.mem_cons_of_mem _ hz)), fun z hz => ?_⟩
    rcases List.mem_append.1 hz with hz | hz
    · exact h2 z hz
    · rw [List.mem_singleton.1 hz]; exact hx y (List.mem_cons_self ..)
theorem asc_memTo (M : Nat → Bool) (n : Nat) : asc (cast (memTo M n)) = true := by
  induction n with
  | zero => rfl
  | succ n ih =>
    rw [memTo_succ, cast_append]
    split
    · refine asc_snoc ih fun y hy => ?_
      obtain ⟨i, hi, rfl⟩ := List.mem_map.1 hy
      have := (memTo_mem.1 hi).1
      simp only []
      omega
    · simpa [cast] using ih
theorem asc_memI (M : Nat → Bool) : asc (memI M) = true := asc_memTo M 1024
theorem chk_memI (M : Nat → Bool) : chk (memI M) = 0 := by
  unfold chk
  rw [if_neg (by rw [any_noIdx.2 (fun x hx => by obtain ⟨i, h, _, e⟩ := memI_mem.1 hx; exact ⟨i, h, e⟩)]; simp), if_pos (asc_memI M)]
theorem chk_ok {s : List Int} (h : chk s = 0) : s.any noIdx = false ∧ asc s = true := by
  unfold chk at h
  split at h
  · omega
  · rename_i h1
    split at h
    · rename_i h2; exact ⟨by simpa using h1, h2⟩
    · omega
theorem memI_setOf {s : List Int} (h : chk s = 0) : memI (setOf s) = s := by
  obtain ⟨h1, h2⟩ := chk_ok h
  refine asc_ext (asc_memI _) h2 fun x => ?_
  rw [memI_mem]
  constructor
  · rintro ⟨i, _, hi, rfl⟩; simpa [setOf] using hi
  · intro hx
    obtain ⟨i, hi, rfl⟩ := any_noIdx.1 h1 x hx
    exact ⟨i, hi, by simpa [setOf] using hx, rfl⟩
structure Rem (M : Nat → Bool) (k p y : Nat) : Prop where
  lt : y < 18446744073709551616
  top : p ≤ 64
  bit : ∀ t, t < 64 → y.testBit t = (decide (p ≤ t) && M (k * 64 + t))
theorem memTo_skip (M : Nat → Bool) (a : Nat) : ∀ d, (∀ t, t < d → M (a + t) = false) → memTo M (a + d) = memTo M a := by
  intro d
  induction d with
  | zero => intro _; rfl
  | succ d ih =>
    intro h
    rw [← Nat.add_assoc, memTo_succ, ih (fun t ht => h t (by omega)), h d (by omega)]
    simp
theorem rem_zero {M : Nat → Bool} {k p : Nat} (h : Rem M k p 0) : memTo M (k * 64 + 64) = memTo M (k * 64 + p) := by
  have hp := h.top
  have := memTo_skip M (k * 64 + p) (64 - p) (fun t ht => by
    have := h.bit (p + t) (by omega)
    simp at this
    rw [Nat.add_assoc]
    exact this)
  rw [← this]
  congr 1
  omega
theorem low_bits (c m : Nat) : (∀ t, t < c → (2 ^ c * (2 * m + 1)).testBit t = false) ∧ (2 ^ c * (2 * m + 1)).testBit c = true ∧
    (∀ t, (2 ^ c * (2 * m + 1) &&& (2 ^ c * (2 * m + 1) - 1)).testBit t = (decide (t ≠ c) && (2 ^ c * (2 * m + 1)).testBit t)) := by
  have hb : ∀ t, (2 ^ c * (2 * m + 1)).testBit t = (decide (c ≤ t) && (2 * m + 1).testBit (t - c)) := fun t => by
    rw [Nat.mul_comm, Nat.testBit_mul_two_pow]
  have hpos : 0 < 2 ^ c := Nat.pow_pos (by decide)
  have e1 : 2 ^ c * (2 * m + 1) - 1 = 2 ^ c * (2 * m) + (2 ^ c - 1) := by
    rw [Nat.mul_add]
    omega
  have hd : ∀ t, (2 ^ c * (2 * m + 1) - 1).testBit t = if t < c then (2 ^ c - 1).testBit t else (2 * m).testBit (t - c) := fun t => by
    rw [e1, Nat.testBit_two_pow_mul_add _ (by omega)]
  refine ⟨fun t ht => by rw [hb]; simp; omega, by rw [hb]; simp, fun t => ?_⟩
  rw [Nat.testBit_and, hd, hb]
  by_cases h1 : t < c
  · have : ¬ c ≤ t := by omega
    simp [this]
  · by_cases h2 : t = c
    · subst h2
      simp
    · obtain ⟨j, rfl⟩ : ∃ j, t = c + (j + 1) := ⟨t - c - 1, by omega⟩
      rw [if_neg h1, show c + (j + 1) - c = j + 1 by omega, Nat.testBit_succ, Nat.testBit_succ]
      have d1 : (2 * m + 1) / 2 = m := by omega
      have d2 : (2 * m) / 2 = m := by omega
      rw [d1, d2]
      cases m.testBit j <;> simp
theorem rem_step {M : Nat → Bool} {k p y : Nat} (h : Rem M k p y) (h0 : y ≠ 0) :
    Lib.ctz 64 y < 64 ∧ memTo M (k * 64 + (Lib.ctz 64 y + 1)) = memTo M (k * 64 + p) ++ [k * 64 + Lib.ctz 64 y] ∧ Rem M k (Lib.ctz 64 y + 1) (y &&& (y - 1)) ∧ (y &&& (y - 1)) < y := by
  obtain ⟨m, hm, hc⟩ := Lib.ctzFrom_spec 64 y (by omega) (by have := h.lt; omega)
  have e : Lib.ctz 64 y = Lib.ctzFrom 64 y := by simp [Lib.ctz, h0]
  rw [e]
  obtain ⟨c, hcc⟩ : ∃ c, c = Lib.ctzFrom 64 y := ⟨_, rfl⟩
  rw [← hcc] at hm hc ⊢
  obtain ⟨b1, b2, b3⟩ := low_bits c m
  rw [← hm] at b1 b2 b3
  have h1 := h.bit c hc
  rw [b2] at h1
  have h2 : p ≤ c ∧ M (k * 64 + c) = true := by simpa using h1.symm
  have hlo : ∀ t, t < c → p ≤ t → M (k * 64 + t) = false := fun t ht hp => by
    have := h.bit t (by omega)
    rw [b1 t ht] at this
    simpa [hp] using this.symm
  have hle : y &&& (y - 1) ≤ y - 1 := Nat.and_le_right
  refine ⟨hc, ?_, ⟨Nat.lt_of_le_of_lt Nat.and_le_left h.lt, by omega, fun t ht => ?_⟩, by omega⟩
  · rw [← Nat.add_assoc, memTo_succ, h2.2, if_pos rfl]
    congr 1
    have := memTo_skip M (k * 64 + p) (c - p) (fun t ht => by
      rw [Nat.add_assoc]
      exact hlo (p + t) (by omega) (by omega))
    rw [← this]
    congr 1
    omega
  · rw [b3, h.bit t ht]
    by_cases htc : t < c
    · have : ¬ c + 1 ≤ t := by omega
      simp only [this, decide_false, Bool.false_and]
      by_cases hp : p ≤ t
      · rw [hlo t htc hp]; simp
      · simp [hp]
    · by_cases htc' : t = c
      · have a0 : ¬ c + 1 ≤ t := by omega
        rw [decide_eq_false (p := t ≠ c) (by simpa using htc'), decide_eq_false a0]
        simp
      · have a1 : c + 1 ≤ t := by omega
        have a2 : p ≤ t := by omega
        simp [htc', a1, a2]
end Go.Proofs.YtbfmmndpboagdaaGreatDoor.Po

namespace Go.Proofs.YtbfmmndpboagdaaGreatDoor.Po
set_option maxRecDepth 20000
open Go.ChangeShapes Go.WideShapes Go.Deep Go.RowKit

def opc (o : Opn) : List Value := [.int .i64 o.k, .int .i64 o.a, .int .i64 o.b, .int .u64 o.u]
def anc (o : Ann) : List Value := [.int .i64 o.e, .int .i64 o.n, .int .u64 o.v]
def flatO (l : List Opn) : List Value := l.flatMap opc
def flatA (l : List Ann) : List Value := l.flatMap anc
theorem opc_length (e : Opn) : (opc e).length = 4 := rfl
theorem anc_length (e : Ann) : (anc e).length = 3 := rfl
theorem flatA_length (l : List Ann) : (flatA l).length = l.length * 3 := wide_length anc_length l
theorem flatO_get (l : List Opn) (i j : Nat) (e : Opn) (h : l[i]? = some e) (hj : j < 4) : (flatO l)[i * 4 + j]? = (opc e)[j]? := wide_get opc_length l i j e h hj
theorem flatA_get (l : List Ann) (i j : Nat) (e : Ann) (h : l[i]? = some e) (hj : j < 3) : (flatA l)[i * 3 + j]? = (anc e)[j]? := wide_get anc_length l i j e h hj
theorem flatA_one (l : List Ann) : ∀ u ∈ flatA l, u.oneCell' = true := wide_one (fun a u h => by simp [anc] at h; rcases h with h | h | h <;> subst h <;> rfl) l

structure OpAt (w : World) (g o : Nat) (e : Opn) : Prop where
  c0 : w.cell? ⟨g, o, none⟩ = some (.int .i64 e.k)
  c1 : w.cell? ⟨g, o + 1, none⟩ = some (.int .i64 e.a)
  c2 : w.cell? ⟨g, o + 2, none⟩ = some (.int .i64 e.b)
  c3 : w.cell? ⟨g, o + 3, none⟩ = some (.int .u64 e.u)
structure AnAt (w : World) (g o : Nat) (e : Ann) : Prop where
  c0 : w.cell? ⟨g, o, none⟩ = some (.int .i64 e.e)
  c1 : w.cell? ⟨g, o + 1, none⟩ = some (.int .i64 e.n)
  c2 : w.cell? ⟨g, o + 2, none⟩ = some (.int .u64 e.v)
theorem OpAt.kept {w w' : World} {g o : Nat} {e : Opn} (h : OpAt w g o e) (k : Kept w w') : OpAt w' g o e := ⟨k.some h.c0, k.some h.c1, k.some h.c2, k.some h.c3⟩
theorem OpAt.but {S : Nat → Prop} {w w' : World} {g o : Nat} {e : Opn} (h : OpAt w g o e) (k : But S w w') (hS : ¬ S g) : OpAt w' g o e := ⟨k.some h.c0 hS, k.some h.c1 hS, k.some h.c2 hS, k.some h.c3 hS⟩
structure OpBox (w : World) (g : Nat) (e : Opn) : Prop where
  c0 : w.cell? ⟨g, 0, none⟩ = some (.int .i64 e.k)
  c1 : w.cell? ⟨g, 1, none⟩ = some (.int .i64 e.a)
  c2 : w.cell? ⟨g, 2, none⟩ = some (.int .i64 e.b)
  c3 : w.cell? ⟨g, 3, none⟩ = some (.int .u64 e.u)
structure AnBox (w : World) (g : Nat) (e : Ann) : Prop where
  c0 : w.cell? ⟨g, 0, none⟩ = some (.int .i64 e.e)
  c1 : w.cell? ⟨g, 1, none⟩ = some (.int .i64 e.n)
  c2 : w.cell? ⟨g, 2, none⟩ = some (.int .u64 e.v)
  s : ∀ i, w.frozen? ⟨g, i, none⟩ = false
theorem OpBox.kept {w w' : World} {g : Nat} {e : Opn} (h : OpBox w g e) (k : Kept w w') : OpBox w' g e := ⟨k.some h.c0, k.some h.c1, k.some h.c2, k.some h.c3⟩
theorem OpBox.but {S : Nat → Prop} {w w' : World} {g : Nat} {e : Opn} (h : OpBox w g e) (k : But S w w') (hS : ¬ S g) : OpBox w' g e := ⟨k.some h.c0 hS, k.some h.c1 hS, k.some h.c2 hS, k.some h.c3 hS⟩
theorem AnBox.but {S : Nat → Prop} {w w' : World} {g : Nat} {e : Ann} (h : AnBox w g e) (k : But S w w') (hS : ¬ S g) : AnBox w' g e := ⟨k.some h.c0 hS, k.some h.c1 hS, k.some h.c2 hS, fun i => k.soft (lt_of_cell h.c0) (h.s i)⟩
theorem AnBox.kept {w w' : World} {g : Nat} {e : Ann} (h : AnBox w g e) (k : Kept w w') : AnBox w' g e := h.but (k.but (fun _ => False)) id
theorem OpBox.new (w : World) (e : Opn) (t : TypeId) (n : Nat) (h : n = w.heap.size) : OpBox (w.alloc (.cells #[.int .i64 e.k, .int .i64 e.a, .int .i64 e.b, .int .u64 e.u] t)) n e :=
  ⟨cell_new _ _ _ _ 0 h, cell_new _ _ _ _ 1 h, cell_new _ _ _ _ 2 h, cell_new _ _ _ _ 3 h⟩
theorem AnBox.new (w : World) (e : Ann) (t : TypeId) (n : Nat) (h : n = w.heap.size) : AnBox (w.alloc (.cells #[.int .i64 e.e, .int .i64 e.n, .int .u64 e.v] t)) n e :=
  ⟨cell_new _ _ _ _ 0 h, cell_new _ _ _ _ 1 h, cell_new _ _ _ _ 2 h, fun i => by subst h; rw [frozen?_alloc_cells]; simp [World.frozen?]⟩
theorem _root_.Go.Proofs.YtbfmmndpboagdaaGreatDoor.Lay.an_Po {w : World} {v : Value} {l : List Ann} (h : Lay w v l.length (flatA l)) (hn : 0 < l.length) : ∃ g o c, v = .slice (some ⟨g, o, none⟩) l.length c ∧ l.length ≤ c ∧ c ≤ maxLen ∧ ∀ i e, l[i]? = some e → AnAt w g (o + i * 3) e := by
  obtain ⟨g, o, c, hv, h1, h2, hc⟩ := h.at hn
  refine ⟨g, o, c, hv, h1, h2, fun i e he => ?_⟩
  have H : ∀ j u, j < 3 → (anc e)[j]? = some u → w.cell? ⟨g, o + i * 3 + j, none⟩ = some u := fun j u hj hu => by
    rw [Nat.add_assoc]
    exact hc _ _ ((flatA_get l i j e he hj).trans hu)
  exact ⟨H 0 _ (by decide) rfl, H 1 _ (by decide) rfl, H 2 _ (by decide) rfl⟩
theorem _root_.Go.Proofs.YtbfmmndpboagdaaGreatDoor.Lay.ints_Po {w : World} {v : Value} {l : List Int} (h : Lay w v l.length (ints l)) (hn : 0 < l.length) : ∃ g o c, v = .slice (some ⟨g, o, none⟩) l.length c ∧ l.length ≤ c ∧ c ≤ maxLen ∧ ∀ i d, l[i]? = some d → w.cell? ⟨g, o + i, none⟩ = some (.int .i64 d) := by
  obtain ⟨g, o, c, hv, h1, h2, hc⟩ := h.at hn
  exact ⟨g, o, c, hv, h1, h2, fun i d hd => hc _ _ (ints_get l i d hd)⟩

theorem infoA : (Tryz.prog.info? 27).map (fun i => (i.zero, i.size, i.bytes)) = some (some (.agg #[.int .i64 0, .int .i64 0, .int .u64 0]), 3, 24) := by kernel_rfl
theorem infoInt : (Tryz.prog.info? 3).map (fun i => (i.zero, i.size, i.bytes)) = some (some (.int .i64 0), 1, 8) := by kernel_rfl
abbrev OwnA (w : World) (base : Nat) (v : Value) (l : List Ann) : Prop := w.ownsRow base 27 3 v l.length (flatA l)
abbrev OwnI (w : World) (base : Nat) (v : Value) (l : List Int) : Prop := w.ownsRow base 3 1 v l.length (ints l)
theorem own_kept {w w' : World} {base : Nat} {e : TypeId} {size : Nat} {v : Value} {n : Nat} {xs : List Value} (h : w.ownsRow base e size v n xs) (k : Kept w w') : w'.ownsRow base e size v n xs :=
  own_same h fun g hg => k.below.block g (h.lt g hg).2
theorem own_but {S : Nat → Prop} {w w' : World} {base : Nat} {e : TypeId} {size : Nat} {v : Value} {n : Nat} {xs : List Value} (h : w.ownsRow base e size v n xs) (k : But S w w') (hS : ∀ g, v.ownBlock = some g → ¬ S g) : w'.ownsRow base e size v n xs :=
  own_same h fun g hg => k.block g (h.lt g hg).2 (hS g hg)
theorem lay_new {w : World} {g : Nat} {xs : List Value} {n : Nat} {t : TypeId} {fr : Nat × Nat} (h : w.heap[g]? = some (.cells xs.toArray t fr)) (hn : n ≤ 100000) : Lay w (.slice (some ⟨g, 0, none⟩) n n) n xs :=
  .inl (.inr ⟨g, 0, n, rfl, Nat.le_refl _, by unfold maxLen; omega, fun j u hu => by
    have := World.news_of_block h j u (by simpa using hu)
    rwa [add_none] at this⟩)

theorem cellsOp : Tryz.prog.cellsOf 24 = 4 := by kernel_rfl
theorem cellsAns : Tryz.prog.cellsOf 27 = 3 := by kernel_rfl
theorem cellsInt : Tryz.prog.cellsOf 3 = 1 := by kernel_rfl
theorem cellsU : Tryz.prog.cellsOf 22 = 1 := by kernel_rfl
theorem cellsErr : Tryz.prog.cellsOf 25 = 1 := by kernel_rfl
section
variable {H : Type} {enc : TypeId × Value → H} {w : World} {base : Nat} {spare : Nat → Bool} {held : Bool}
theorem open_op {fuel : Nat} {cs : List Value} {x : DataW H × List MemPlace} (h : DataW.trod enc Tryz.prog w base spare held fuel 24 cs = some x) : ∃ e : Opn, cs = opc e := by
  obtain ⟨xs, n, _, _, hl, hxl, hf⟩ := DataW.trod_struct Tryz.underlying24 h
  rw [cellsOp] at hl
  match cs, hl with
  | [v0, v1, v2, v3], _ =>
    match xs, hxl with
    | [x0, x1, x2, x3], _ =>
      have f0 : DataW.trod enc Tryz.prog w base spare held n 3 (([v0, v1, v2, v3].drop 0).take (Tryz.prog.cellsOf 3)) = some x0 := hf 0 _ rfl
      have f1 : DataW.trod enc Tryz.prog w base spare held n 3 (([v0, v1, v2, v3].drop 1).take (Tryz.prog.cellsOf 3)) = some x1 := hf 1 _ rfl
      have f2 : DataW.trod enc Tryz.prog w base spare held n 3 (([v0, v1, v2, v3].drop 2).take (Tryz.prog.cellsOf 3)) = some x2 := hf 2 _ rfl
      have f3 : DataW.trod enc Tryz.prog w base spare held n 22 (([v0, v1, v2, v3].drop 3).take (Tryz.prog.cellsOf 22)) = some x3 := hf 3 _ rfl
      simp only [cellsInt, cellsU, List.drop_zero, List.drop_succ_cons, List.take_succ_cons, List.take_zero] at f0 f1 f2 f3
      obtain ⟨q0, e0, _⟩ := DataW.trod_int Tryz.underlying3 f0
      obtain ⟨q1, e1, _⟩ := DataW.trod_int Tryz.underlying3 f1
      obtain ⟨q2, e2, _⟩ := DataW.trod_int Tryz.underlying3 f2
      obtain ⟨q3, e3, _⟩ := DataW.trod_int Tryz.underlying22 f3
      simp at e0 e1 e2 e3
      subst e0; subst e1; subst e2; subst e3
      exact ⟨⟨q0, q1, q2, q3⟩, rfl⟩
theorem open_wide {α : Type} {f : α → List Value} {m : Nat} {e t : TypeId} (ht : Tryz.prog.underlying t = some (.slice e)) (hC : Tryz.prog.cellsOf e = m) (hm : 0 < m) (hf : ∀ a, (f a).length = m)
    (ho : ∀ (fuel : Nat) (cs : List Value) (x : DataW H × List MemPlace), DataW.trod enc Tryz.prog w base spare held fuel e cs = some x → ∃ a, cs = f a)
    {fuel : Nat} {a : Option Addr} {len cap : Nat} {x : DataW H × List MemPlace} (h : DataW.trod enc Tryz.prog w base spare held fuel t [.slice a len cap] = some x) :
    ∃ l : List α, l.length = len ∧ Lay w (.slice a len cap) len (l.flatMap f) := by
  rcases open_slice ht h with h0 | ⟨y, len', cap', m', n, D, Pl, hcs, _, hl, hm', hmm, _, hi⟩
  · obtain ⟨rfl, rfl, rfl⟩ : a = none ∧ len = 0 ∧ cap = 0 := by simpa using h0.1
    exact ⟨[], rfl, .inl (.inl ⟨rfl, rfl, rfl⟩)⟩
  · obtain ⟨rfl, rfl, rfl⟩ : a = some y ∧ len = len' ∧ cap = cap' := by simpa using hcs
    have hle : len ≤ m' := by rw [hmm]; split <;> omega
    rw [hC] at hi
    have each : ∀ i, i < len → ∃ e : α, ∀ j u, j < m → (f e)[j]? = some u → w.cell? (y.add (i * m + j)) = some u := by
      intro i hil
      obtain ⟨cs', hc, ht⟩ := hi i (by omega)
      obtain ⟨e, rfl⟩ := ho _ _ _ ht
      obtain ⟨_, _, hat⟩ := World.cells?_some hc
      refine ⟨e, fun j u hj hu => ?_⟩
      have := hat j hj
      rw [add_add] at this
      exact this.trans hu
    by_cases h0 : len = 0
    · subst h0
      exact ⟨[], rfl, .inr ⟨y, cap, rfl, rfl, rfl, hm'⟩⟩
    · obtain ⟨b, off, spot⟩ := y
      have hs : spot = none := by
        obtain ⟨e, he⟩ := each 0 (by omega)
        have := he 0 _ hm (List.getElem?_eq_getElem (by rw [hf]; exact hm))
        simpa [Addr.add] using World.cell?_spot this
      subst hs
      have pick : ∀ n, n ≤ len → ∃ l : List α, l.length = n ∧ ∀ i e, l[i]? = some e → ∀ j u, j < m → (f e)[j]? = some u → w.cell? ⟨b, off + (i * m + j), none⟩ = some u := by
        intro n
        induction n with
        | zero => intro _; exact ⟨[], rfl, by simp⟩
        | succ n ih =>
          intro hn
          obtain ⟨l, hl1, hl3⟩ := ih (by omega)
          obtain ⟨e, he⟩ := each n (by omega)
          refine ⟨l ++ [e], by simp [hl1], fun i f' hf' j u hj hu => ?_⟩
          by_cases hi' : i < l.length
          · rw [List.getElem?_append_left hi'] at hf'
            exact hl3 i f' hf' j u hj hu
          · have h2 := (List.getElem?_eq_some_iff.1 hf').1
            have e1 : i = l.length := by simp at h2; omega
            subst e1
            have e2 : e = f' := by simpa using hf'
            subst e2
            have := he j u hj hu
            rw [add_none] at this
            rw [hl1]
            exact this
      obtain ⟨l, hl1, hl3⟩ := pick len (Nat.le_refl _)
      refine ⟨l, hl1, .inl (.inr ⟨b, off, cap, rfl, hl, hm', fun j u hu => ?_⟩)⟩
      have hj : j < l.length * m := by rw [← wide_length hf l]; exact (List.getElem?_eq_some_iff.1 hu).1
      obtain ⟨i, r, hr, rfl⟩ : ∃ i r, r < m ∧ j = i * m + r := ⟨j / m, j % m, Nat.mod_lt _ hm, by rw [Nat.mul_comm]; exact (Nat.div_add_mod j m).symm⟩
      have hil : i < l.length := by
        rcases Nat.lt_or_ge i l.length with h | h
        · exact h
        · have := Nat.mul_le_mul_right m h
          omega
      obtain ⟨e, he⟩ : ∃ e, l[i]? = some e := ⟨_, List.getElem?_eq_getElem hil⟩
      rw [wide_get hf l i r e he hr] at hu
      exact hl3 i e he r u hr hu
theorem ints_flat (l : List Int) : ints l = l.flatMap fun x => [Value.int .i64 x] := by simp [ints, List.flatMap]; induction l <;> simp_all
theorem open_ints' {fuel : Nat} {a : Option Addr} {len cap : Nat} {x : DataW H × List MemPlace} (h : DataW.trod enc Tryz.prog w base spare held fuel 35 [.slice a len cap] = some x) :
    ∃ l : List Int, l.length = len ∧ Lay w (.slice a len cap) len (ints l) := by
  obtain ⟨l, h1, h2⟩ := open_wide (f := fun x => [Value.int .i64 x]) Tryz.underlying35 cellsInt (by decide) (fun _ => rfl) (fun fuel cs x h => by
    obtain ⟨q, e, _⟩ : ∃ q, cs = [Value.int .i64 q] ∧ True := by
      obtain ⟨q, h1, h2, _⟩ := DataW.trod_int (cs := cs) Tryz.underlying3 h
      exact ⟨q, by simpa using h1, trivial⟩
    exact ⟨q, e⟩) h
  exact ⟨l, h1, by rw [ints_flat]; exact h2⟩
end
end Go.Proofs.YtbfmmndpboagdaaGreatDoor.Po

namespace Go.Proofs.YtbfmmndpboagdaaGreatDoor.Po
set_option maxRecDepth 20000
open Go.RowKit

theorem _root_.Go.Proofs.YtbfmmndpboagdaaGreatDoor.Kept.wrote_Po {S : Nat → Prop} {w w1 w2 : World} (k : Kept w w1) (b : But S w1 w2) (h : ∀ j, S j → w.heap.size ≤ j) : Kept w w2 :=
  ((k.but S).trans b (fun _ _ h => h)).kept (fun j hj hS => by have := h j hS; omega)
theorem _root_.Go.Proofs.YtbfmmndpboagdaaGreatDoor.Kept.wrote1_Po {w w1 w2 : World} {n : Nat} (k : Kept w w1) (b : But (fun j => j = n) w1 w2) (h : w.heap.size ≤ n) : Kept w w2 := k.wrote_Po b (fun j e => by subst e; exact h)

structure Ws (R : Array Value) (M : Nat → Bool) : Prop where
  size : R.size = 16
  word : ∀ k, k < 16 → ∃ x : Nat, R[k]? = some (.int .u64 x) ∧ x < 18446744073709551616 ∧ ∀ t, t < 64 → x.testBit t = M (k * 64 + t)
theorem Ws.one {R : Array Value} {M : Nat → Bool} (h : Ws R M) : ∀ v ∈ R.toList, v.oneCell' = true := by
  intro v hv
  obtain ⟨i, hi⟩ := List.mem_iff_getElem?.1 hv
  rw [Array.getElem?_toList] at hi
  have hlt := (Array.getElem?_eq_some_iff.1 hi).1
  obtain ⟨x, hx, _⟩ := h.word i (by rw [← h.size]; exact hlt)
  rw [hx] at hi
  cases hi
  rfl
theorem Ws.congr {R : Array Value} {M N : Nat → Bool} (h : Ws R M) (e : ∀ i, i < 1024 → M i = N i) : Ws R N :=
  ⟨h.size, fun k hk => by
    obtain ⟨x, h1, h2, h3⟩ := h.word k hk
    exact ⟨x, h1, h2, fun t ht => by rw [h3 t ht, e _ (by omega)]⟩⟩

structure WsAt (w : World) (b : Nat) (R : Array Value) : Prop where
  size : R.size = 16
  one : ∀ v ∈ R.toList, v.oneCell' = true
  at_ : w.rangeAt b 0 R.toList
  soft : ∀ i, w.frozen? ⟨b, i, none⟩ = false
theorem WsAt.cell {w : World} {b : Nat} {R : Array Value} (h : WsAt w b R) (i : Nat) (v : Value) (hv : R[i]? = some v) : w.cell? ⟨b, i, none⟩ = some v := by
  have := h.at_ i v (by simpa using hv)
  rwa [Nat.zero_add] at this
theorem WsAt.lt {w : World} {b : Nat} {R : Array Value} (h : WsAt w b R) : b < w.heap.size :=
  lt_of_cell (h.cell 0 _ (Array.getElem?_eq_getElem (by rw [h.size]; decide)))
theorem WsAt.but {S : Nat → Prop} {w w' : World} {b : Nat} {R : Array Value} (h : WsAt w b R) (k : But S w w') (hS : ¬ S b) : WsAt w' b R :=
  ⟨h.size, h.one, fun j v hv => k.some (h.at_ j v hv) hS, fun i => k.soft h.lt (h.soft i)⟩
theorem WsAt.kept {w w' : World} {b : Nat} {R : Array Value} (h : WsAt w b R) (k : Kept w w') : WsAt w' b R :=
  h.but (k.but (fun _ => False)) id
theorem WsAt.there {w : World} {b : Nat} {R : Array Value} (h : WsAt w b R) : w.there b 0 16 := fun j hj => by
  rw [Nat.zero_add]
  exact ⟨by rw [h.cell j _ (Array.getElem?_eq_getElem (by rw [h.size]; exact hj))]; rfl, h.soft j⟩
theorem WsAt.new (w : World) (R : Array Value) (t : TypeId) (hs : R.size = 16) (h1 : ∀ v ∈ R.toList, v.oneCell' = true) (n : Nat) (hn : n = w.heap.size) : WsAt (w.alloc (.cells R t)) n R := by
  subst hn
  refine ⟨hs, h1, fun j v hv => ?_, fun i => by simp⟩
  rw [Nat.zero_add, cell_new _ _ _ _ _ rfl]
  simpa using hv
theorem WsAt.set {w : World} {b : Nat} {R : Array Value} (h : WsAt w b R) (i : Nat) (v : Value) (h1 : v.oneCell' = true) : WsAt (w.setCell ⟨b, i, none⟩ v) b (R.setIfInBounds i v) := by
  refine ⟨by simp [h.size], fun u hu => ?_, fun j u hu => ?_, fun j => by rw [World.frozen?_setCell]; exact h.soft j⟩
  · rw [Array.toList_setIfInBounds] at hu
    rcases List.mem_or_eq_of_mem_set hu with hu | hu
    · exact h.one u hu
    · subst hu; exact h1
  · rw [Nat.zero_add, cell_set]
    have hu' : (R.setIfInBounds i v)[j]? = some u := by rw [Array.getElem?_toList] at hu; exact hu
    rw [Array.getElem?_setIfInBounds] at hu'
    by_cases e : i = j
    · subst e
      rw [if_pos rfl] at hu' ⊢
      split at hu'
      · rename_i hi
        cases hu'
        rw [h.cell i _ (Array.getElem?_eq_getElem hi)]
        rfl
      · cases hu'
    · rw [if_neg e] at hu' ⊢
      exact h.cell j u hu'

def ldW (p : Value) : Sem Value := Instr.loadAt 156 p
def stW (p v : Value) : Sem Unit := Instr.storeAt 156 p v
def lvW (a : Addr) : Sem Value := loadVar 156 a
def ixW (x i : Value) : Sem Value := Instr.index 156 x i
def zvW : Sem Value := zeroValue 156
theorem ld_named (p : Value) : Instr.loadAt 156 p = ldW p := rfl
theorem st_named (p v : Value) : Instr.storeAt 156 p v = stW p v := rfl
theorem lv_named (a : Addr) : loadVar 156 a = lvW a := rfl
theorem ix_named (x i : Value) : Instr.index 156 x i = ixW x i := rfl
theorem zv_named : zeroValue 156 = zvW := rfl

theorem infoWs : (Tryz.prog.info? 156).map (fun i => (i.zero, i.size)) = some (some (.agg (List.replicate 16 (.int .u64 0)).toArray), 16) := by kernel_rfl
theorem infoWsSize : (Tryz.prog.info? 156).map (·.size) = some 16 := by
  obtain ⟨x, hx, hxx⟩ := Option.map_eq_some_iff.1 infoWs
  simp only [Prod.mk.injEq] at hxx
  rw [hx]; simp [hxx.2]
theorem infoU : (Tryz.prog.info? 22).map (fun i => (i.zero, i.size, i.bytes)) = some (some (.int .u64 0), 1, 8) := by kernel_rfl

theorem zeroed : ∃ Z : Array Value, Ws Z (fun _ => false) ∧ ∀ w, zvW.run Tryz.prog w = .ok (.agg Z) w := by
  obtain ⟨x, hx, hxx⟩ := Option.map_eq_some_iff.1 infoWs
  simp only [Prod.mk.injEq] at hxx
  refine ⟨(List.replicate 16 (.int .u64 0)).toArray, ⟨by simp, fun k hk => ⟨0, by rw [List.getElem?_toArray, List.getElem?_replicate, if_pos hk]; rfl, by decide, fun t _ => by simp⟩⟩, fun w => by simp [zvW, zeroValue, typeInfo, hx, hxx.1]⟩

theorem ws_var {w : World} {b : Nat} {R : Array Value} (h : WsAt w b R) : (lvW ⟨b, 0, none⟩).run Tryz.prog w = .ok (.agg R) w := by
  unfold lvW
  have := run_loadVar_mid (P := Tryz.prog) w b 0 _ R.toList _ h.at_ Tryz.underlying156 rfl (by rw [Array.length_toList, h.size]; exact infoWsSize)
  simpa using this
theorem ws_ld {w : World} {b : Nat} {R : Array Value} (h : WsAt w b R) : (ldW (.pointer (some ⟨b, 0, none⟩))).run Tryz.prog w = .ok (.agg R) w := by
  unfold ldW
  have := run_loadAt_mid (P := Tryz.prog) w b 0 _ R.toList _ h.at_ Tryz.underlying156 rfl (by rw [Array.length_toList, h.size]; exact infoWsSize)
  simpa using this
theorem ws_ix {w : World} {R : Array Value} {k : Nat} {v : Value} (_ : R.size = 16) (hk : k < 16) (h : R[k]? = some v) (_ : v.oneCell' = true) : (ixW (.agg R) (.int .i64 k)).run Tryz.prog w = .ok v w := by
  obtain ⟨i0, hi, hz0, hz1, hz2⟩ := info_parts infoU
  unfold ixW
  have hv : R.getD k undef = v := by simp [h]
  simp [Instr.index, asIntOf, run_underlying Tryz.underlying156, hk, sizeOf, typeInfo, hi, hz1, part, isAgg, run_underlying Tryz.underlying22, Result.andThen, h]
theorem ws_result {fn : Func} {tmps : Array Value} {n b : Nat} {w : World} {R : Array Value} (hr : fn.results = #[.cell n 156]) (ht : tmps.getD n undef = .pointer (some ⟨b, 0, none⟩)) (h : WsAt w b R) :
    (results fn tmps).run Tryz.prog w = .ok (.agg R) w := by
  have hv := ws_var h
  unfold lvW at hv
  have ht' : tmps[n]?.getD undef = .pointer (some ⟨b, 0, none⟩) := by simpa using ht
  unfold results
  rw [hr]
  simp [ht', asAddr, hv]
theorem _root_.Go.Proofs.YtbfmmndpboagdaaGreatDoor.But.hereN_Po {b : Nat} {a : World} : ∀ (vs : List Value) (o : Nat) (w : World), But (fun k => k = b) a w → But (fun k => k = b) a (w.setCells b o vs)
  | [], _, _, h => h
  | v :: r, o, _, h => But.hereN_Po r (o + 1) _ (h.here o v)
theorem size_setCells {b : Nat} : ∀ (vs : List Value) (o : Nat) (w : World), (w.setCells b o vs).heap.size = w.heap.size
  | [], _, _ => rfl
  | v :: r, o, w => (size_setCells r (o + 1) _).trans (by simp)
theorem ws_st {w : World} {b : Nat} {R0 R : Array Value} (h : WsAt w b R0) (hs : R.size = 16) (h1 : ∀ v ∈ R.toList, v.oneCell' = true) :
    ∃ w', (stW (.pointer (some ⟨b, 0, none⟩)) (.agg R)).run Tryz.prog w = .ok () w' ∧ But (fun k => k = b) w w' ∧ WsAt w' b R ∧ w'.heap.size = w.heap.size := by
  refine ⟨w.setCells b 0 R.toList, ?_, But.hereN_Po _ _ _ (But.refl _ _), ⟨hs, h1, World.rangeAt_setCells_same _ _ _ _ (by rw [Array.length_toList, hs]; exact h.there), fun i => by rw [World.frozen?_setCells]; exact h.soft i⟩, size_setCells _ _ _⟩
  unfold stW
  exact run_storeAt_mid (P := Tryz.prog) w b 0 _ R (by rw [hs]; exact h.there) (by rw [hs]; exact infoWsSize) (Array.all_eq_true_iff_forall_mem.2 (fun v hv => h1 v (by simpa using hv)))
end Go.Proofs.YtbfmmndpboagdaaGreatDoor.Po

namespace Go.Proofs.YtbfmmndpboagdaaGreatDoor.Po
set_option maxRecDepth 20000
open Go.RowKit
attribute [local go_sem ↓] ld_named st_named lv_named ix_named zv_named

theorem bits_andNot_u64_nat (a b : Nat) (ha : a < 18446744073709551616) (hb : b < 18446744073709551616) :
    bits .andNot .u64 (a : Int) (b : Int) = ((a &&& (18446744073709551615 - b) : Nat) : Int) := by
  have hx : a &&& (18446744073709551615 - b) < 2 ^ 64 := Nat.and_lt_two_pow _ (by omega)
  have h1 : (BitVec.ofInt 64 (a : Int)).toNat = a := by
    rw [BitVec.ofInt_natCast, BitVec.toNat_ofNat]; exact Nat.mod_eq_of_lt (by omega)
  have h2 : (BitVec.ofInt 64 (b : Int)).toNat = b := by
    rw [BitVec.ofInt_natCast, BitVec.toNat_ofNat]; exact Nat.mod_eq_of_lt (by omega)
  show IntKind.u64.wrap ((BitVec.ofInt 64 (a : Int) &&& Complement.complement (BitVec.ofInt 64 (b : Int))).toNat : Int) = _
  rw [BitVec.toNat_and, BitVec.toNat_not, h1, h2, IntKind.wrap_u64, show (2 ^ 64 - 1 - b : Nat) = 18446744073709551615 - b by omega]
  omega
theorem pow_lt (r : Nat) (h : r < 64) : 2 ^ r < 18446744073709551616 := by
  have : 2 ^ r < 2 ^ 64 := Nat.pow_lt_pow_right (by decide) h
  omega

theorem wrap_pow (r : Nat) (h : r < 64) : IntKind.u64.wrap (2 ^ r) = ((2 ^ r : Nat) : Int) := by
  have h1 := pow_lt r h
  have h2 : ((2 : Int) ^ r) = ((2 ^ r : Nat) : Int) := by simp
  rw [IntKind.wrap_u64, h2]
  generalize 2 ^ r = z at h1
  omega

set_option maxHeartbeats 1000000 in
theorem bit_any (i : Nat) (hi : i < 1024) (w : World) : Calls Tryz.prog 106 #[.int .i64 i] w fun e w' => e = .returned (.int .u64 ((2 ^ (i % 64) : Nat) : Int)) ∧ w = w' := by
  have h1 : (i : Int).tmod 64 = ((i % 64 : Nat) : Int) := by
    have := Int.tmod_eq_emod_of_nonneg (a := (i : Int)) (b := 64) (by omega)
    omega
  have h2 : (i : Int) % 64 = ((i % 64 : Nat) : Int) := by omega
  obtain ⟨r, hr⟩ : ∃ r, r = i % 64 := ⟨_, rfl⟩
  have r64 : r < 64 := by omega
  rw [← hr] at h1 h2 ⊢
  clear hr
  go_enter Tryz.func106, Tryz.ntmps106
  go_wp2
  go_ret
  refine ⟨?_, rfl⟩
  show Ending.returned (.int .u64 (IntKind.u64.wrap (2 ^ r))) = _
  rw [wrap_pow r r64]

theorem div_int (i : Nat) : (i : Int).tdiv 64 = ((i / 64 : Nat) : Int) ∧ (i : Int) / 64 = ((i / 64 : Nat) : Int) := by
  have := Int.tdiv_eq_ediv_of_nonneg (a := (i : Int)) (b := 64) (by omega)
  omega
theorem bit_has {M : Nat → Bool} {i x : Nat} (hx : x < 18446744073709551616) (hb : ∀ t, t < 64 → x.testBit t = M (i / 64 * 64 + t)) :
    (bits .and .u64 (x : Int) ((2 ^ (i % 64) : Nat) : Int) == 0) = !M i := by
  rw [bits_and_u64_nat x _ hx (pow_lt _ (by omega))]
  have hm := hb (i % 64) (by omega)
  rw [show i / 64 * 64 + i % 64 = i by omega] at hm
  rw [← hm]
  cases h : x.testBit (i % 64) with
  | true =>
    have : x &&& 2 ^ (i % 64) ≠ 0 := fun e => by
      have h2 : (x &&& 2 ^ (i % 64)).testBit (i % 64) = true := by rw [Nat.testBit_and, h, Nat.testBit_two_pow_self]; rfl
      rw [e] at h2
      simp at h2
    simp
    omega
  | false =>
    have : x &&& 2 ^ (i % 64) = 0 := by
      apply Nat.eq_of_testBit_eq
      intro t
      rw [Nat.testBit_and, Nat.testBit_two_pow, Nat.zero_testBit]
      by_cases e : i % 64 = t
      · subst e; simp [h]
      · simp [e]
    simp [this]
theorem bit_with {M : Nat → Bool} {i x : Nat} (hx : x < 18446744073709551616) (hb : ∀ t, t < 64 → x.testBit t = M (i / 64 * 64 + t)) :
    ∃ y : Nat, bits .or .u64 (x : Int) ((2 ^ (i % 64) : Nat) : Int) = (y : Int) ∧ y < 18446744073709551616 ∧ ∀ t, t < 64 → y.testBit t = upd M i true (i / 64 * 64 + t) := by
  have hp := pow_lt (i % 64) (by omega)
  refine ⟨_, bits_or_u64_nat x _ hx hp, ?_, fun t ht => ?_⟩
  · have := Nat.or_lt_two_pow (n := 64) (x := x) (y := 2 ^ (i % 64)) (by omega) (by omega)
    omega
  · rw [Nat.testBit_or, hb t ht, Nat.testBit_two_pow]
    unfold upd
    by_cases e : i % 64 = t
    · rw [if_pos (by omega)]; simp [e]
    · rw [if_neg (by omega)]; simp [e]
theorem bit_without {M : Nat → Bool} {i x : Nat} (hx : x < 18446744073709551616) (hb : ∀ t, t < 64 → x.testBit t = M (i / 64 * 64 + t)) :
    ∃ y : Nat, bits .andNot .u64 (x : Int) ((2 ^ (i % 64) : Nat) : Int) = (y : Int) ∧ y < 18446744073709551616 ∧ ∀ t, t < 64 → y.testBit t = upd M i false (i / 64 * 64 + t) := by
  have hp := pow_lt (i % 64) (by omega)
  refine ⟨_, bits_andNot_u64_nat x _ hx hp, Nat.lt_of_le_of_lt Nat.and_le_left hx, fun t ht => ?_⟩
  rw [Nat.testBit_and, hb t ht, show 18446744073709551615 - 2 ^ (i % 64) = 2 ^ 64 - (2 ^ (i % 64) + 1) by omega, Nat.testBit_two_pow_sub_succ (by omega), Nat.testBit_two_pow]
  unfold upd
  by_cases e : i % 64 = t
  · rw [if_pos (by omega)]; simp [e]
  · rw [if_neg (by omega)]; simp [e, ht]
theorem Ws.set {R : Array Value} {M : Nat → Bool} (h : Ws R M) {i : Nat} {b : Bool} {y : Nat} (_ : i < 1024) (hy : y < 18446744073709551616) (hb : ∀ t, t < 64 → y.testBit t = upd M i b (i / 64 * 64 + t)) :
    Ws (R.setIfInBounds (i / 64) (.int .u64 y)) (upd M i b) := by
  refine ⟨by simp [h.size], fun k hk => ?_⟩
  by_cases e : i / 64 = k
  · subst e
    exact ⟨y, by rw [Array.getElem?_setIfInBounds, if_pos rfl, if_pos (by rw [h.size]; exact hk)], hy, hb⟩
  · obtain ⟨x, h1, h2, h3⟩ := h.word k hk
    refine ⟨x, by rw [Array.getElem?_setIfInBounds, if_neg e]; exact h1, h2, fun t ht => ?_⟩
    rw [h3 t ht]
    unfold upd
    rw [if_neg (by omega)]

set_option maxHeartbeats 1000000 in
theorem has_any {R : Array Value} {M : Nat → Bool} (h : Ws R M) (i : Nat) (hi : i < 1024) (w : World) :
    Calls Tryz.prog 115 #[.agg R, .int .i64 i] w fun e w' => e = .returned (.bool (M i)) ∧ Kept w w' := by
  obtain ⟨x, h1, h2, h3⟩ := h.word (i / 64) (by omega)
  have b1 := WsAt.new w R 156 h.size h.one _ rfl
  have c1 := b1.cell _ _ h1
  have v1 := bit_has (i := i) h2 h3
  have BT := Lib.hid (fun W => bit_any i hi W)
  obtain ⟨d1, d2⟩ := div_int i
  obtain ⟨q, hq⟩ : ∃ q, q = i / 64 := ⟨_, rfl⟩
  rw [← hq] at d1 d2 c1
  have q16 : q < 16 := by omega
  have q17 : (q : Int) < 16 := by omega
  have q18 : (0 : Int) ≤ (q : Int) := by omega
  have wq : IntKind.i64.wrap (q : Int) = (q : Int) := by rw [IntKind.wrap_i64]; omega
  obtain ⟨p, hp⟩ : ∃ p : Int, p = ((2 ^ (i % 64) : Nat) : Int) := ⟨_, rfl⟩
  rw [← hp] at BT v1
  clear hp hq h h1 h2 h3 b1
  go_enter Tryz.func115, Tryz.ntmps115
  go_wp2
  go_region_held3 (fun w' => w'.cell? ⟨w.heap.size, q, none⟩ = some (.int .u64 x)) (first | assumption | go_keep) (first | (go_at_call 106; refine (BT.out _).mono ?_; rintro e w1 ⟨rfl, rfl⟩))
  go_wp2
  go_ret
  refine ⟨?_, ((Kept.refl w).alloc _ _).drew⟩
  show Ending.returned (.bool (bits .and .u64 (x : Int) p != 0)) = _
  rw [bne, v1, Bool.not_not]

set_option maxRecDepth 100000 in
set_option maxHeartbeats 1000000 in
theorem with_any {R : Array Value} {M : Nat → Bool} (h : Ws R M) (i : Nat) (hi : i < 1024) (w : World) :
    Calls Tryz.prog 105 #[.agg R, .int .i64 i] w fun e w' => ∃ R', e = .returned (.agg R') ∧ Ws R' (upd M i true) ∧ Kept w w' := by
  obtain ⟨Z, hZ, hz⟩ := zeroed
  obtain ⟨x, h1, h2, h3⟩ := h.word (i / 64) (by omega)
  obtain ⟨y, v1, hy, hyb⟩ := bit_with (i := i) h2 h3
  have RG := Lib.hid (h.set hi hy hyb)
  obtain ⟨W2, hW2⟩ : ∃ W2, W2 = ((w.alloc (.cells R 156)).alloc (.cells Z 156)) := ⟨_, rfl⟩
  have k2 : Kept w W2 := by rw [hW2]; exact ((Kept.refl w).alloc _ _).alloc _ _
  have b1 : WsAt W2 w.heap.size R := by rw [hW2]; exact (WsAt.new w R _ h.size h.one _ rfl).kept ((Kept.refl _).alloc _ _)
  have b2 : WsAt W2 (w.heap.size + 1) Z := by rw [hW2]; exact WsAt.new _ Z _ hZ.size hZ.one _ (by simp)
  have c1 := b1.cell _ _ h1
  have s1 := b1.soft (i / 64)
  have b3 := (b1.set (i / 64) (.int .u64 y) rfl).kept (Kept.refl _).drew
  have k3 : Kept w (W2.setCell ⟨w.heap.size, i / 64, none⟩ (.int .u64 y)).drew := (k2.setCell (p := ⟨w.heap.size, i / 64, none⟩) (Nat.le_refl _) _).drew
  have d3 : WsAt (W2.setCell ⟨w.heap.size, i / 64, none⟩ (.int .u64 y)).drew (w.heap.size + 1) Z := (b2.but ((But.refl (fun j => j = w.heap.size) _).here _ _) (by omega)).kept (Kept.refl _).drew
  have ld := ws_ld b3
  obtain ⟨w5, run5, but5, big5, s5⟩ := ws_st d3 b3.size b3.one
  have k5 := Lib.hid (k3.wrote1_Po but5 (by omega))
  have BT := Lib.hid (fun W => bit_any i hi W)
  obtain ⟨d1, d2⟩ := div_int i
  obtain ⟨R5, hR5⟩ : ∃ R5, R5 = R.setIfInBounds (i / 64) (.int .u64 (y : Int)) := ⟨_, rfl⟩
  rw [← hR5] at big5 RG ld run5
  obtain ⟨q, hq⟩ : ∃ q, q = i / 64 := ⟨_, rfl⟩
  rw [← hq] at d1 d2 c1 s1 ld run5
  have q16 : q < 16 := by omega
  have q17 : (q : Int) < 16 := by omega
  have q18 : (0 : Int) ≤ (q : Int) := by omega
  have wq : IntKind.i64.wrap (q : Int) = (q : Int) := by rw [IntKind.wrap_i64]; omega
  obtain ⟨p, hp⟩ : ∃ p : Int, p = ((2 ^ (i % 64) : Nat) : Int) := ⟨_, rfl⟩
  rw [← hp] at BT v1
  have HW2 := Lib.hid hW2
  clear hp hq h h1 h2 h3 hy hyb b1 b2 b3 d3 k3 but5 s5 hZ hW2 k2 hR5
  go_enter Tryz.func105, Tryz.ntmps105
  go_upto_region 1 with fail
  rw [← HW2.out]
  go_region_with (first | (go_at_call 106; refine (BT.out _).mono ?_; rintro e w1 ⟨rfl, rfl⟩))
  all_goals go_wp2
  all_goals exact bodyPost_ret (v := .agg R5) (ws_result Tryz.results105 rfl big5) rfl ⟨R5, rfl, RG.out, k5.out⟩

set_option maxRecDepth 100000 in
set_option maxHeartbeats 1000000 in
theorem without_any {R : Array Value} {M : Nat → Bool} (h : Ws R M) (i : Nat) (hi : i < 1024) (w : World) :
    Calls Tryz.prog 89 #[.agg R, .int .i64 i] w fun e w' => ∃ R', e = .returned (.agg R') ∧ Ws R' (upd M i false) ∧ Kept w w' := by
  obtain ⟨Z, hZ, hz⟩ := zeroed
  obtain ⟨x, h1, h2, h3⟩ := h.word (i / 64) (by omega)
  obtain ⟨y, v1, hy, hyb⟩ := bit_without (i := i) h2 h3
  have RG := Lib.hid (h.set hi hy hyb)
  obtain ⟨W2, hW2⟩ : ∃ W2, W2 = ((w.alloc (.cells R 156)).alloc (.cells Z 156)) := ⟨_, rfl⟩
  have k2 : Kept w W2 := by rw [hW2]; exact ((Kept.refl w).alloc _ _).alloc _ _
  have b1 : WsAt W2 w.heap.size R := by rw [hW2]; exact (WsAt.new w R _ h.size h.one _ rfl).kept ((Kept.refl _).alloc _ _)
  have b2 : WsAt W2 (w.heap.size + 1) Z := by rw [hW2]; exact WsAt.new _ Z _ hZ.size hZ.one _ (by simp)
  have c1 := b1.cell _ _ h1
  have s1 := b1.soft (i / 64)
  have b3 := (b1.set (i / 64) (.int .u64 y) rfl).kept (Kept.refl _).drew
  have k3 : Kept w (W2.setCell ⟨w.heap.size, i / 64, none⟩ (.int .u64 y)).drew := (k2.setCell (p := ⟨w.heap.size, i / 64, none⟩) (Nat.le_refl _) _).drew
  have d3 : WsAt (W2.setCell ⟨w.heap.size, i / 64, none⟩ (.int .u64 y)).drew (w.heap.size + 1) Z := (b2.but ((But.refl (fun j => j = w.heap.size) _).here _ _) (by omega)).kept (Kept.refl _).drew
  have ld := ws_ld b3
  obtain ⟨w5, run5, but5, big5, s5⟩ := ws_st d3 b3.size b3.one
  have k5 := Lib.hid (k3.wrote1_Po but5 (by omega))
  have BT := Lib.hid (fun W => bit_any i hi W)
  obtain ⟨d1, d2⟩ := div_int i
  obtain ⟨R5, hR5⟩ : ∃ R5, R5 = R.setIfInBounds (i / 64) (.int .u64 (y : Int)) := ⟨_, rfl⟩
  rw [← hR5] at big5 RG ld run5
  obtain ⟨q, hq⟩ : ∃ q, q = i / 64 := ⟨_, rfl⟩
  rw [← hq] at d1 d2 c1 s1 ld run5
  have q16 : q < 16 := by omega
  have q17 : (q : Int) < 16 := by omega
  have q18 : (0 : Int) ≤ (q : Int) := by omega
  have wq : IntKind.i64.wrap (q : Int) = (q : Int) := by rw [IntKind.wrap_i64]; omega
  obtain ⟨p, hp⟩ : ∃ p : Int, p = ((2 ^ (i % 64) : Nat) : Int) := ⟨_, rfl⟩
  rw [← hp] at BT v1
  have HW2 := Lib.hid hW2
  clear hp hq h h1 h2 h3 hy hyb b1 b2 b3 d3 k3 but5 s5 hZ hW2 k2 hR5
  go_enter Tryz.func89, Tryz.ntmps89
  go_upto_region 1 with fail
  rw [← HW2.out]
  go_region_with (first | (go_at_call 106; refine (BT.out _).mono ?_; rintro e w1 ⟨rfl, rfl⟩))
  all_goals go_wp2
  all_goals exact bodyPost_ret (v := .agg R5) (ws_result Tryz.results89 rfl big5) rfl ⟨R5, rfl, RG.out, k5.out⟩

def Tab (w : World) : Prop := TabAt 0 Lib.deBruijn64tab w
theorem Tab.kept {w w' : World} (h : Tab w) (k : Kept w w') : Tab w' := fun j hj => k.some (h j hj)
theorem Tab.but {S : Nat → Prop} {w w' : World} (h : Tab w) (k : But S w w') (hS : ¬ S 0) : Tab w' := fun j hj => k.some (h j hj) hS
theorem Tab.lt {w : World} (h : Tab w) : 0 < w.heap.size := lt_of_cell (h 0 (by decide))

set_option maxHeartbeats 1000000 in
theorem tz_core (x k idx : Nat) (w : World) (hx0 : ((x : Int) == 0) = false)
    (key : IntKind.u64.wrap (bits BinOp.and IntKind.u64 (x : Int) (IntKind.u64.wrap (-(x : Int))) * 285870213051353865) / 288230376151711744 = (idx : Int))
    (hi : idx < 64) (hk : k < 64) (hcell : w.cell? ⟨0, idx, none⟩ = some (.int .u8 k)) :
    Calls Tryz.prog 113 #[.int .u64 x] w fun e w' => e = .returned (.int .i64 k) ∧ w' = w := by
  go_enter Tryz.func113, Tryz.ntmps113
  go_wp2_with (simp only [key])
  go_ret
  exact ⟨rfl, rfl⟩
theorem tz_any (x : Nat) (hx : x < 18446744073709551616) (hx0 : x ≠ 0) (w : World) (hT : Tab w) :
    Calls Tryz.prog 113 #[.int .u64 x] w fun e w' => e = .returned (.int .i64 (Lib.ctz 64 x)) ∧ w' = w := by
  obtain ⟨hlow, hk⟩ := Lib.lowest_bit 64 x hx0 hx
  obtain ⟨hi, htab⟩ := Lib.deBruijn64_at _ hk
  have hcell := hT _ hi
  rw [htab] at hcell
  exact tz_core x _ _ w (by simp; omega) (tz64_key x _ hx hx0 hlow) hi hk hcell
end Go.Proofs.YtbfmmndpboagdaaGreatDoor.Po

namespace Go.Proofs.YtbfmmndpboagdaaGreatDoor.Po
set_option maxRecDepth 20000
open Go.RowKit Go.Shelf
attribute [local go_sem] Oper.semAt_some
attribute [local go_sem ↓] ld_named st_named lv_named ix_named zv_named

def KeepB (N B : Nat) (W W' : World) : Prop := W.heap.size ≤ W'.heap.size ∧ ∀ k, k < N → k ≠ B → W'.heap[k]? = W.heap[k]?
theorem KeepB.refl {N B : Nat} (a : World) : KeepB N B a a := ⟨Nat.le_refl _, fun _ _ _ => rfl⟩
theorem KeepB.trans {N B : Nat} {a b c : World} (h : KeepB N B a b) (k : KeepB N B b c) : KeepB N B a c := ⟨Nat.le_trans h.1 k.1, fun i h1 h2 => (k.2 i h1 h2).trans (h.2 i h1 h2)⟩
theorem KeepB.cell {N B : Nat} {a b : World} (h : KeepB N B a b) {p : Addr} {v : Value} (hp : p.block < N) (hB : p.block ≠ B) (hc : a.cell? p = some v) : b.cell? p = some v :=
  (World.cell?_of_block (h.2 _ hp hB)).trans hc
theorem KeepB.tab {N B : Nat} {a b : World} (h : KeepB N B a b) (hp : 0 < N) (hB : 0 ≠ B) (hT : Tab a) : Tab b := fun j hj => h.cell hp hB (hT j hj)

theorem memTo_take (M : Nat → Bool) {n m : Nat} (h : n ≤ m) : (memTo M m).take (memTo M n).length = memTo M n := by
  obtain ⟨d, rfl⟩ : ∃ d, m = n + d := ⟨m - n, by omega⟩
  induction d with
  | zero => simp
  | succ d ih =>
    rw [← Nat.add_assoc, memTo_succ]
    have hle : (memTo M n).length ≤ (memTo M (n + d)).length := by
      have := congrArg List.length (ih (by omega))
      rw [List.length_take] at this
      omega
    rw [List.take_append_of_le_length hle]
    exact ih (by omega)

theorem and_pred (y : Nat) (hy : y < 18446744073709551616) (h0 : y ≠ 0) : IntKind.u64.wrap ((y : Int) - 1) = ((y - 1 : Nat) : Int) ∧ bits .and .u64 (y : Int) ((y - 1 : Nat) : Int) = ((y &&& (y - 1) : Nat) : Int) := by
  refine ⟨by rw [IntKind.wrap_u64]; omega, bits_and_u64_nat _ _ hy (by omega)⟩

set_option maxRecDepth 100000 in
set_option maxHeartbeats 4000000 in
theorem all1_in (n : Nat) (hn : 1 ≤ n) (l Bs N B : Nat) {R : Array Value} {M : Nat → Bool} (hR : Ws R M) (hg : 0 < N) (hgB : 0 ≠ B) (J Jx : List Nat → World → Prop)
    (hJ : ∀ s W W', J s W → Kept W W' → J s W')
    (hY : ∀ pre x W, J pre W → pre.length < 1024 → YieldAt Fence.wide (n - 1) Tryz.prog l #[.int .i64 (x : Nat)] W fun e W' =>
      (e = .returned (.bool true) ∧ J (pre ++ [x]) W' ∧ KeepB N B W W') ∨ (e = .returned (.bool false) ∧ Jx (pre ++ [x]) W'))
    (W : World) (_ : N ≤ W.heap.size) (c0 : WsAt W Bs R) (hT : Tab W) (h0 : J [] W) :
    CallsIn Fence.wide n Tryz.prog 112 #[.func (.yield l) #[] #[], .pointer (some ⟨Bs, 0, none⟩)] W fun e W' => (∃ v, e = .returned v) ∧
      ((∃ ys, ys = mem M ∧ J ys W') ∨ (∃ pre, (∃ k, k ≤ 1024 ∧ pre = memTo M k) ∧ Jx pre W')) := by
  have ld := ws_ld c0
  have RW := Lib.hid hR
  have HY := Lib.hid hY
  have HJ := Lib.hid hJ
  have HT := Lib.hid hT
  clear hY hJ c0 hR hT
  refine callsIn_of_wp Tryz.func112 rfl trivial ?_ rfl
  simp only [Tryz.ntmps112, List.size_toArray, List.length_cons, List.length_nil, Nat.reduceAdd, Nat.reduceSub, Array.replicate_succ, Array.replicate_zero, List.push_toArray, List.append_toArray, List.nil_append, List.cons_append]
  gi_wp2
  gi_loopw [6] (fun i wr => ∃ k : Nat, k ≤ 16 ∧ i = .int .i64 k ∧ J (memTo M (k * 64)) wr ∧ KeepB N B W wr) (fun i _ => 16 - (intOf i).toNat)
  case atStart => exact ⟨0, Nat.zero_le _, rfl, by rw [Nat.zero_mul]; exact h0, KeepB.refl _⟩
  case round =>
    obtain ⟨k, hk, rfl, hJs, hnx⟩ := hrel
    have NX := Lib.hid hnx
    clear hnx
    by_cases hlt : k < 16
    · obtain ⟨x, hx1, hx2, hx3⟩ := RW.out.word k hlt
      have ix := fun W => ws_ix (w := W) RW.out.size hlt hx1 rfl
      have HX3 := Lib.hid hx3
      have hx := Lib.hid hx2
      have hlt' : (k : Int) < 16 := by omega
      obtain ⟨wo, rfl⟩ : ∃ wo : World, wo = wr := ⟨_, rfl⟩
      clear hx1 hx3 hx2
      gi_wp2
      gi_loopw [4] (fun i wr => ∃ y p : Nat, i = .int .u64 y ∧ Rem M k p y ∧ J (memTo M (k * 64 + p)) wr ∧ KeepB N B W wr) (fun i _ => (intOf i).toNat)
      case atStart => exact ⟨x, 0, rfl, ⟨hx.out, Nat.zero_le _, fun t ht => by rw [HX3.out t ht]; simp⟩, hJs, NX.out⟩
      case round =>
        obtain ⟨y, p, rfl, hrem, hJy, hny⟩ := hrel
        have NY := Lib.hid hny
        have RM := Lib.hid hrem
        clear hny hrem
        by_cases hy0 : y = 0
        · subst hy0
          gi_wp2
          go_roundw
          case rel => exact ⟨k + 1, by omega, by go_num, by rw [Nat.add_mul, Nat.one_mul, rem_zero RM.out]; exact hJy, NY.out⟩
          case measure => simp [intOf]; omega
        · obtain ⟨r1, r2, r3, r4⟩ := rem_step RM.out hy0
          have R2 := Lib.hid r2
          have R3 := Lib.hid r3
          have TZ := Lib.hid (fun W' (T : Tab W') => tz_any y RM.out.lt hy0 W' T)
          obtain ⟨a1, a2⟩ := and_pred y RM.out.lt hy0
          obtain ⟨c, hc⟩ : ∃ c, c = Lib.ctz 64 y := ⟨_, rfl⟩
          rw [← hc] at r1 R2 R3 TZ
          have HC := Lib.hid hc
          obtain ⟨X, hX⟩ : ∃ X, X = k * 64 + c := ⟨_, rfl⟩
          have hXi : (k : Int) * 64 + (c : Int) = (X : Int) := by omega
          have hlen : (memTo M (k * 64 + p)).length < 1024 := by
            have h1 := memTo_len M (k * 64 + (c + 1))
            rw [R2.out, List.length_append] at h1
            simp at h1
            omega
          obtain ⟨fn, tmps, assign, body, hy, hRR⟩ := HY.out _ X _ hJy hlen
          obtain ⟨z, hz⟩ : ∃ z, z = y - 1 := ⟨_, rfl⟩
          obtain ⟨u, hu⟩ : ∃ u, u = y &&& (y - 1) := ⟨_, rfl⟩
          have HU := Lib.hid hu
          rw [← hu] at a2 r4 R3
          rw [← hz] at a1 a2
          have hyn : ((y : Int) != 0) = true := by simp; omega
          have hyp : (0 : Int) < (y : Int) := by omega
          have hz' : (y : Int) - 1 = (z : Int) := by omega
          have wz : IntKind.u64.wrap (z : Int) = (z : Int) := by rw [IntKind.wrap_u64]; have := RM.out.lt; omega
          have HXX := Lib.hid hX
          clear hX hc hu hz r2 r3
          gi_wp2_with (first
            | (refine ⟨trivial, ?_⟩; gi_at_call 113; refine ((callsIn_wide).2 (TZ.out _ (NY.out.tab hg hgB HT.out))).mono ?_; rintro e w1 ⟨rfl, rfl⟩))
          refine hRR.mono ?_
          rintro e W3 (⟨rfl, hJ3, hk3⟩ | ⟨rfl, hJx3⟩)
          · gi_wp2
            go_roundw
            case rel => exact ⟨u, c + 1, rfl, R3.out, by rw [R2.out, ← HXX.out]; exact hJ3, NY.out.trans hk3⟩
            case measure => simp [intOf]; omega
          · gi_wp2
            refine bodyPost_ret (results_none rfl _ _ _) rfl ?_
            exact ⟨⟨_, rfl⟩, .inr ⟨_, ⟨k * 64 + (c + 1), by omega, by rw [R2.out, HXX.out]⟩, hJx3⟩⟩
    · obtain rfl : k = 16 := by omega
      gi_wp2
      go_end0
      exact ⟨⟨_, rfl⟩, .inl ⟨_, rfl, hJs⟩⟩

theorem all_stops (n : Nat) (hn : 1 ≤ n) (Bs N B : Nat) {R : Array Value} {M : Nat → Bool} (hR : Ws R M) (hg : 0 < N) (hgB : 0 ≠ B) (w : World) (hN : N ≤ w.heap.size) (c0 : WsAt w Bs R) (hT : Tab w) :
    SeqStopsK Fence.wide n Tryz.prog 112 #[.pointer (some ⟨Bs, 0, none⟩)] (fun x : Nat => #[Value.int .i64 (x : Nat)]) (KeepB N B)
      (fun ys => ys = mem M) (fun pre => ∃ k, k ≤ 1024 ∧ pre = memTo M k) 1024 w := fun l J Jx W hW hJ _ hY h1 => by
  have k : Kept w W := ⟨hW⟩
  exact all1_in n hn l Bs N B hR hg hgB J Jx (fun s A C hs hk => hJ s A C none hs ⟨hk.below.os, hk.below.tape, hk.below.output, hk.below.size, fun i hi _ => hk.below.block i hi⟩ (fun r e => by cases e)) hY W (Nat.le_trans hN k.size)
    (c0.kept k) (hT.kept k) h1
theorem all_any {w : World} (R : Array Value) :
    Calls Tryz.prog 107 #[.agg R] w fun e w' =>
      e = .returned (.func (.func 112) #[] #[.pointer (some ⟨w.heap.size, 0, none⟩)]) ∧ w' = w.alloc (.cells R 156) := by
  go_enter Tryz.func107, Tryz.ntmps107
  go_wp2
  go_ret
  exact ⟨rfl, rfl⟩
end Go.Proofs.YtbfmmndpboagdaaGreatDoor.Po

namespace Go.Proofs.YtbfmmndpboagdaaGreatDoor.Po
set_option maxRecDepth 20000
open Go.RowKit Go.Shelf
attribute [local go_sem] Oper.semAt_some
attribute [local go_sem ↓] ld_named st_named lv_named ix_named zv_named

def RetI (w : World) (l : List Int) (ed : Ending) (w' : World) : Prop := ∃ a c, ed = .returned (.slice a l.length c) ∧ Kept w w' ∧ OwnI w' w.heap.size (.slice a l.length c) l

set_option maxRecDepth 100000 in
set_option maxHeartbeats 4000000 in
theorem list_any {w : World} {R : Array Value} {M : Nat → Bool} (hR : Ws R M) (hT : Tab w) :
    Calls Tryz.prog 90 #[.agg R] w (RetI w (memI M)) := by
  have hg := hT.lt
  have ld0 := ws_ld (((WsAt.new w R 156 hR.size hR.one _ rfl).kept ((Kept.refl _).alloc #[.slice none 0 0] 35)))
  refine (callsIn_wide (n := 6)).1 ?_
  refine callsIn_of_wp_marks Tryz.func90 rfl trivial ?_ rfl
  simp only [Tryz.ntmps90, List.size_toArray, List.length_cons, List.length_nil, Nat.reduceAdd, Nat.reduceSub, Array.replicate_succ, Array.replicate_zero, List.push_toArray, List.append_toArray, List.nil_append, List.cons_append]
  rw [wpIn_wide]
  go_wp2_with fail; refine (all_any R).mono ?_; rintro e w' ⟨rfl, rfl⟩
  go_wp2
  obtain ⟨W0, hW0⟩ : ∃ W0, (((w.alloc (.cells R 156)).alloc (.cells #[.slice none 0 0] 35)).alloc (.cells R 156)) = W0 := ⟨_, rfl⟩
  have z0 : W0.heap.size = w.heap.size + 3 := by rw [← hW0]; simp
  have kW : Kept w W0 := by rw [← hW0]; exact (((Kept.refl w).alloc _ _).alloc _ _).alloc _ _
  have hbx : Boxed W0 (w.heap.size + 1) 35 (.slice none 0 0) := by rw [← hW0]; have := ((Boxed.new (w.alloc (.cells R 156)) 35 (.slice none 0 0)).alloc (.cells R 156)); simpa using this
  have hBs : WsAt W0 (w.heap.size + 1 + 1) R := by rw [← hW0]; exact WsAt.new _ R _ hR.size hR.one _ (by simp)
  rw [hW0]
  clear hW0 ld0
  obtain ⟨i0, hi, hz0, hz1, hz2⟩ := info_parts infoInt
  rename_i K hK0
  rw [← wpIn_wide (n := 6)]
  refine wpIn_rangeFunc_ownF rfl (by decide) (gf := 112) (lb := #[.pointer (some ⟨w.heap.size + 1 + 1, 0, none⟩)]) rfl trivial (enters_of Tryz.func112 (by kernel_rfl) rfl)
    (all_stops 5 (by decide) (w.heap.size + 1 + 1) (w.heap.size + 3) (w.heap.size + 1) hR (by omega) (by omega) W0 (by omega) hBs (hT.kept kW)) KeepB.trans
    (fun W l o o' hl h _ _ => ⟨by simp [World.putObj], fun k hk _ => (grownBy_putObj' W l o').block k (by have := (Array.getElem?_eq_some_iff.1 h).1; omega) (fun e => by cases e; omega)⟩) (Below.refl _ _) (fun _ => rfl)
    (fun (pre : List Nat) W => (∃ v, Boxed W (w.heap.size + 1) 35 v ∧ W.ownsRow (w.heap.size + 3) 3 1 v (cast pre).length (ints (cast pre)) ∧ True) ∧ (Below w.heap.size w W ∧ w.heap.size + 3 ≤ W.heap.size))
    (fun _ _ _ => False)
    (OwnFrom.and (Own.from (holdsRow_own (w.heap.size + 3) (w.heap.size + 1) 35 3 1 (fun (pre : List Nat) => (cast pre).length) (fun (pre : List Nat) => ints (cast pre)) (fun _ _ => True)) _) (OwnFrom.and (ownFrom_below (Nat.le_refl _) (by omega)) (fun _ A C _ hs hg _ => Nat.le_trans hs hg.size)))
    (fun _ _ _ _ _ hs _ _ => hs)
    ⟨⟨_, hbx, World.ownsRow_nil _ _ _ _, trivial⟩, kW.below, by omega⟩
    (fun x => { tmps := #[.agg R, .pointer (some ⟨w.heap.size, 0, none⟩), .slice none 0 0, .pointer (some ⟨w.heap.size + 1, 0, none⟩), .int .i64 (x : Nat), .agg R, .func (.func 112) #[] #[.pointer (some ⟨w.heap.size + 1 + 1, 0, none⟩)], .int .i64 (x : Nat), undef, undef, undef, undef, undef], defers := [] }) ?assign ?body ?done ?stop
  case assign =>
    intro l x W K hK
    gi_wp2
    exact hK
  case body =>
    rintro l pre x W ⟨⟨v, hv, hrow, _⟩, hB, hN⟩ hlt
    have hcell := hv.cell
    have hlen := cast_length pre
    gi_wp2_with (gi_at_builtin; refine wpListIn_append_own _ rfl _ _ _ rfl (w.heap.size + 3) 3 i0 _ 1 8 Tryz.underlying35 hi hz0 hz1 hz2 rfl (by decide) _ _ _ rfl (hrow.alloc _) ⟨W.heap.size, 0, none⟩ 1 1 [.int .i64 (x : Nat)] rfl rfl (cell_one_new _ _ _) (by simp [Value.oneCell']) (by unfold maxLen; omega) (by omega) (by have := hB.size; simp; omega) ?_; intro v' w1 hown' hgrow _; obtain ⟨g', cap', rfl⟩ := ownsRow_succ hown'; obtain ⟨hv1, hv2, hr2, hk2, hb2⟩ := hv.appended (by decide) (own_mono hrow (Nat.le_add_right _ 3)) hB.size (Nat.le_add_right _ 1) (own_mono hown' (Nat.le_add_right _ 3)) hgrow; have hc1 := hv1.cell; have hf1 := hv1.frozen)
    have gr : World.grownBy (W.alloc (.cells #[.int .i64 (x : Nat)] 3)) w1 v.ownBlock := hgrow
    have own3 : (w1.setCell ⟨w.heap.size + 1, 0, none⟩ (.slice (some ⟨g', 0, none⟩) ((cast pre).length + 1) cap')).ownsRow (w.heap.size + 3) 3 1 (.slice (some ⟨g', 0, none⟩) ((cast pre).length + 1) cap') ((cast pre).length + 1) (ints (cast pre) ++ [.int .i64 (x : Nat)]) :=
      own_same hown' fun g hg => by
        have := (hown'.lt g hg).1
        exact Below.heap_setCell _ _ _ _ (by simp; omega)
    have e1 : (cast (pre ++ [x])).length = (cast pre).length + 1 := by rw [cast_append]; simp [cast]
    have e2 : ints (cast (pre ++ [x])) = ints (cast pre) ++ [.int .i64 (x : Nat)] := by rw [cast_append, ints_append]; simp [cast, ints]
    have kk : KeepB (w.heap.size + 3) (w.heap.size + 1) W (w1.setCell ⟨w.heap.size + 1, 0, none⟩ (.slice (some ⟨g', 0, none⟩) ((cast pre).length + 1) cap')) := by
      refine ⟨hb2.size, fun k hk hkB => ?_⟩
      have hkW : k < W.heap.size := Nat.lt_of_lt_of_le hk hN
      rw [Below.heap_setCell _ _ _ _ (by simp; exact hkB), gr.block k (by simp; omega) (fun e => by have := (hrow.lt k e.symm).1; omega)]
      exact ((Kept.refl W).alloc _ _).below.block k hkW
    rw [hlen] at hv2 hk2 hb2 own3 kk e1
    refine ⟨hk2, kk, ⟨_, hv2, ?_, trivial⟩, hB.trans hb2, Nat.le_trans hN hb2.size⟩
    rw [e1, e2]
    exact own3
  case done =>
    rintro D' ys W hD rfl ⟨⟨v, hv, hrow, _⟩, hB, hN⟩ hK
    have hrow' : W.ownsRow (w.heap.size + 3) 3 1 v (memI M).length (ints (memI M)) := hrow
    clear hrow
    apply hK0
    have hcell := hv.cell
    go_wp2
    obtain ⟨a, c, rfl⟩ := own_form hrow'
    refine ⟨by simp, .inl ⟨_, _, rfl, run_takeDeferred hK, ?_⟩⟩
    exact ⟨.slice a (memI M).length c, by simp [results, Tryz.results90, go_sem], a, c, rfl, ⟨hB.trans (belowK_b (w := w) (Nat.le_refl _) W D' _ _ (by omega) hK rfl rfl)⟩, own_mono (ownsRow_putObj hrow' _ hK rfl) (Nat.le_add_right _ _)⟩
  case stop =>
    rintro D' c pre W hD _ hx hK
    exact hx.elim
end Go.Proofs.YtbfmmndpboagdaaGreatDoor.Po

namespace Go.Proofs.YtbfmmndpboagdaaGreatDoor.Po
set_option maxRecDepth 20000
open Go.RowKit
attribute [local go_sem ↓] ld_named st_named lv_named ix_named zv_named

theorem asc_iff {s : List Int} : asc s = true ↔ ∀ j x y, s[j]? = some x → s[j + 1]? = some y → x < y := by
  induction s with
  | nil => simp [asc]
  | cons a s ih =>
    cases s with
    | nil => simp [asc]
    | cons b s =>
      simp only [asc, Bool.and_eq_true, decide_eq_true_eq, ih]
      constructor
      · rintro ⟨h1, h2⟩ j x y hx hy
        cases j with
        | zero => simp at hx hy; subst hx; subst hy; exact h1
        | succ j => exact h2 j x y (by simpa using hx) (by simpa using hy)
      · intro h
        exact ⟨h 0 a b rfl rfl, fun j x y hx hy => h (j + 1) x y (by simpa using hx) (by simpa using hy)⟩

theorem noIdx_any (x : Int) (w : World) : Calls Tryz.prog 88 #[.int .i64 x] w fun e w' => e = .returned (.bool (noIdx x)) ∧ w' = w := by
  by_cases h1 : x < 0
  · have e : noIdx x = true := by simp [noIdx, h1]
    rw [e]
    go_enter Tryz.func88, Tryz.ntmps88
    go_wp2
    go_ret
    exact ⟨rfl, rfl⟩
  · have e : noIdx x = decide (x ≥ 1024) := by simp [noIdx, h1]
    rw [e]
    go_enter Tryz.func88, Tryz.ntmps88
    go_wp2
    go_ret
    exact ⟨rfl, rfl⟩

theorem ret_int {x y : Int} (h : x = y) : Ending.returned (.int .i64 x) = Ending.returned (.int .i64 y) := by rw [h]
theorem ret_bool {x y : Bool} (h : x = y) : Ending.returned (.bool x) = Ending.returned (.bool y) := by rw [h]

theorem lay_one {w : World} {a : Option Addr} {n c : Nat} {s : List Int} (h : Lay w (.slice a n c) n (ints s)) (hn : n = s.length) (i : Nat) (x : Int) (hx : s[i]? = some x) :
    ∃ g o, a = some ⟨g, o, none⟩ ∧ w.cell? ⟨g, o + i, none⟩ = some (.int .i64 x) := by
  have := (List.getElem?_eq_some_iff.1 hx).1
  subst hn
  obtain ⟨g, o, c', e, _, _, hc⟩ := h.ints_Po (by omega)
  cases e
  exact ⟨g, o, rfl, hc i x hx⟩

set_option maxHeartbeats 2000000 in
theorem indexFunc_any {w : World} {a : Option Addr} {n c : Nat} {s : List Int} (h : Lay w (.slice a n c) n (ints s)) (hn : n = s.length) :
    Calls Tryz.prog 114 #[.slice a n c, .func (.func 88) #[] #[]] w fun e w' => (∃ r : Int, e = .returned (.int .i64 r) ∧ decide (r ≥ 0) = s.any noIdx) ∧ Kept w w' := by
  obtain ⟨a', c', e, hnc, hcm⟩ := h.form
  cases e
  unfold maxLen at hcm
  have CE := Lib.hid (fun i x hx => lay_one h hn i x hx)
  have HN := Lib.hid hn
  clear h hn
  go_enter Tryz.func114, Tryz.ntmps114
  go_wp2
  go_loopw [8] (fun i wr => ∃ k : Nat, k ≤ n ∧ i = .int .i64 k ∧ (∀ j x, j < k → s[j]? = some x → noIdx x = false) ∧ Kept w wr) (fun i _ => n - (intOf i).toNat)
  case atStart => exact ⟨0, Nat.zero_le _, rfl, fun j x hj => by omega, Kept.refl _⟩
  case round =>
    obtain ⟨k, hkn, rfl, hlo, hk⟩ := hrel
    have LO := Lib.hid hlo
    have KE := Lib.hid hk
    clear hlo hk
    by_cases hlt : k < n
    · obtain ⟨x, hx⟩ : ∃ x, s[k]? = some x := ⟨_, List.getElem?_eq_getElem (by rw [← HN.out]; omega)⟩
      obtain ⟨g, o, rfl, c0⟩ := CE.out k x hx
      have c1 := KE.out.some c0
      have HX := Lib.hid hx
      have GE := Lib.hid (fun W => noIdx_any x W)
      clear hx c0
      cases hq : noIdx x with
      | false =>
        have HQ := Lib.hid hq
        rw [hq] at GE
        clear hq
        go_wp2_with fail; go_at_call 88; refine (GE.out _).mono ?_; rintro e v1 ⟨rfl, rfl⟩
        go_wp2
        go_roundw
        case rel => exact ⟨k + 1, by omega, by go_num, fun j y hj hy => by
          by_cases e : j = k
          · subst e; have h1 := HX.out; rw [hy] at h1; cases h1; exact HQ.out
          · exact LO.out j y (by omega) hy, KE.out⟩
        case measure => simp [intOf]; omega
      | true =>
        have HK := Lib.hid (show decide ((k : Int) ≥ 0) = s.any noIdx by
          rw [List.any_eq_true.2 ⟨x, List.mem_iff_getElem?.2 ⟨k, HX.out⟩, hq⟩]
          simp)
        rw [hq] at GE
        clear hq
        go_wp2_with fail; go_at_call 88; refine (GE.out _).mono ?_; rintro e v1 ⟨rfl, rfl⟩
        go_wp2
        go_ret
        exact ⟨⟨_, rfl, HK.out⟩, KE.out⟩
    · have HK := Lib.hid (show decide ((-1 : Int) ≥ 0) = s.any noIdx by
        have : s.any noIdx = false := by
          rw [List.any_eq_false]
          intro x hx
          obtain ⟨j, hj⟩ := List.mem_iff_getElem?.1 hx
          have h1 := (List.getElem?_eq_some_iff.1 hj).1
          have := LO.out j x (by have := HN.out; omega) hj
          simp [this]
        rw [this]
        rfl)
      go_wp2
      go_ret
      exact ⟨⟨_, rfl, HK.out⟩, KE.out⟩

set_option maxHeartbeats 1000000 in
theorem contains_any {w : World} {a : Option Addr} {n c : Nat} {s : List Int} (h : Lay w (.slice a n c) n (ints s)) (hn : n = s.length) :
    Calls Tryz.prog 108 #[.slice a n c, .func (.func 88) #[] #[]] w fun e w' => e = .returned (.bool (s.any noIdx)) ∧ Kept w w' := by
  have H := Lib.hid h
  have HN := Lib.hid hn
  clear h hn
  go_enter Tryz.func108, Tryz.ntmps108
  go_wp2_with fail; refine (indexFunc_any H.out HN.out).mono ?_; rintro e w1 ⟨⟨r, rfl, hr⟩, k1⟩
  have HR := Lib.hid hr
  clear hr
  go_wp2
  go_ret
  exact ⟨ret_bool HR.out, k1⟩

set_option maxHeartbeats 2000000 in
theorem check_any {w : World} {a : Option Addr} {n c : Nat} {s : List Int} (h : Lay w (.slice a n c) n (ints s)) (hn : n = s.length) :
    Calls Tryz.prog 94 #[.slice a n c] w fun e w' => e = .returned (.int .i64 (chk s)) ∧ Kept w w' := by
  obtain ⟨a', c', e, hnc, hcm⟩ := h.form
  cases e
  unfold maxLen at hcm
  have CE := Lib.hid (fun W (k : Kept w W) i x hx => lay_one (h.kept k) hn i x hx)
  have H := Lib.hid h
  have HN := Lib.hid hn
  clear h hn
  cases hq : s.any noIdx with
  | true =>
    have HC := Lib.hid (show (3 : Int) = chk s by unfold chk; rw [hq]; rfl)
    have GE := Lib.hid (contains_any H.out HN.out)
    rw [hq] at GE
    clear hq
    go_enter Tryz.func94, Tryz.ntmps94
    go_wp2_with fail; refine GE.out.mono ?_; rintro e w1 ⟨rfl, k1⟩
    go_wp2
    go_ret
    exact ⟨ret_int HC.out, k1⟩
  | false =>
    have HC := Lib.hid (show chk s = if asc s then 0 else 9 by unfold chk; rw [hq]; rfl)
    have GE := Lib.hid (contains_any H.out HN.out)
    rw [hq] at GE
    clear hq
    go_enter Tryz.func94, Tryz.ntmps94
    go_wp2_with fail; refine GE.out.mono ?_; rintro e w1 ⟨rfl, k1⟩
    have K1 := Lib.hid k1
    clear k1
    go_wp2
    go_loopw [3] (fun i wr => ∃ k : Nat, i = .int .i64 ((k : Int) + 1) ∧ k ≤ n ∧ (∀ j x y, j < k → s[j]? = some x → s[j + 1]? = some y → x < y) ∧ Kept w wr) (fun i _ => n + 1 - (intOf i).toNat)
    case atStart => exact ⟨0, rfl, Nat.zero_le _, fun j x y hj => by omega, K1.out⟩
    case round =>
      obtain ⟨k, rfl, hkn, hlo, hk⟩ := hrel
      have LO := Lib.hid hlo
      have KE := Lib.hid hk
      clear hlo hk
      by_cases hlt : k + 1 < n
      · obtain ⟨x, hx⟩ : ∃ x, s[k]? = some x := ⟨_, List.getElem?_eq_getElem (by rw [← HN.out]; omega)⟩
        obtain ⟨y, hy⟩ : ∃ y, s[k + 1]? = some y := ⟨_, List.getElem?_eq_getElem (by rw [← HN.out]; omega)⟩
        obtain ⟨g, o, e1, c0⟩ := CE.out _ KE.out k x hx
        subst e1
        obtain ⟨g', o', e2, c1⟩ := CE.out _ KE.out (k + 1) y hy
        cases e2
        have HX := Lib.hid hx
        have HY := Lib.hid hy
        clear hx hy
        have i1 : (k : Int) + 1 < n := by omega
        have i2 : (k : Int) < n := by omega
        by_cases hxy : x < y
        · have d1 : decide (x ≥ y) = false := by simp; omega
          have HXY := Lib.hid hxy
          clear hxy
          go_wp2
          go_quiet (fail)
          go_wp2
          go_roundw
          case rel => exact ⟨k + 1, by go_num, by omega, fun j x' y' hj hx' hy' => by
            by_cases e : j = k
            · subst e; have h1 := HX.out; rw [hx'] at h1; cases h1; have h2 := HY.out; rw [hy'] at h2; cases h2; exact HXY.out
            · exact LO.out j x' y' (by omega) hx' hy', KE.out.drewN _⟩
          case measure => simp [intOf]; omega
        · have d1 : decide (x ≥ y) = true := by simp; omega
          have HR := Lib.hid (show (9 : Int) = chk s by
            rw [HC.out, if_neg]
            intro ha
            exact hxy (asc_iff.1 ha k x y HX.out HY.out))
          clear hxy
          go_wp2
          go_quiet (fail)
          go_wp2
          go_ret
          exact ⟨ret_int HR.out, KE.out.drewN _⟩
      · have HR := Lib.hid (show (0 : Int) = chk s by
          rw [HC.out, if_pos]
          refine asc_iff.2 fun j x y hx hy => LO.out j x y ?_ hx hy
          have := (List.getElem?_eq_some_iff.1 hy).1
          have := HN.out
          omega)
        have i1 : decide ((k : Int) + 1 < (n : Int)) = false := by simp; omega
        go_wp2
        go_ret
        exact ⟨ret_int HR.out, KE.out⟩

set_option maxHeartbeats 1000000 in
theorem freed_any {R : Array Value} {M : Nat → Bool} (hR : Ws R M) (a : Int) (w : World) :
    Calls Tryz.prog 109 #[.agg R, .int .i64 a] w fun e w' => e = .returned (.int .i64 (freed M a)) ∧ Kept w w' := by
  have ld := ws_ld (WsAt.new w R 156 hR.size hR.one _ rfl)
  have NI := Lib.hid (fun W => noIdx_any a W)
  cases hq : noIdx a with
  | true =>
    have HF := Lib.hid (show (3 : Int) = freed M a by simp [freed, hq])
    rw [hq] at NI
    clear hq
    go_enter Tryz.func109, Tryz.ntmps109
    go_wp2_with fail; refine (NI.out _).mono ?_; rintro e w1 ⟨rfl, rfl⟩
    go_wp2
    go_ret
    exact ⟨ret_int HF.out, (Kept.refl w).alloc _ _⟩
  | false =>
    obtain ⟨i, hi, rfl⟩ := noIdx_iff.1 hq
    have HS := Lib.hid (fun W => has_any hR i hi W)
    rw [hq] at NI
    cases hm : M i with
    | true =>
      have HF := Lib.hid (show (8 : Int) = freed M i by simp [freed, hq, hm])
      rw [hm] at HS
      clear hq hm
      go_enter Tryz.func109, Tryz.ntmps109
      go_wp2_with fail; refine (NI.out _).mono ?_; rintro e w1 ⟨rfl, rfl⟩
      go_wp2_with fail; refine (HS.out _).mono ?_; rintro e w2 ⟨rfl, k2⟩
      go_wp2
      go_ret
      exact ⟨ret_int HF.out, ((Kept.refl w).alloc _ _).trans k2⟩
    | false =>
      have HF := Lib.hid (show (0 : Int) = freed M i by simp [freed, hq, hm])
      rw [hm] at HS
      clear hq hm
      go_enter Tryz.func109, Tryz.ntmps109
      go_wp2_with fail; refine (NI.out _).mono ?_; rintro e w1 ⟨rfl, rfl⟩
      go_wp2_with fail; refine (HS.out _).mono ?_; rintro e w2 ⟨rfl, k2⟩
      go_wp2
      go_ret
      exact ⟨ret_int HF.out, ((Kept.refl w).alloc _ _).trans k2⟩
end Go.Proofs.YtbfmmndpboagdaaGreatDoor.Po
