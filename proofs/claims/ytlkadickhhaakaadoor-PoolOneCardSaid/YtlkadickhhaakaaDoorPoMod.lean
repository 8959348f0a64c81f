/- The model of a pool: a set of indices, what may be answered, what is free behind it; a word's bits. Nothing of the program. -/
import Derived.Lib.TrailingZeros
namespace Go.Proofs.YtlkadickhhaakaaDoor

structure Opn where
  k : Int
  a : Int
  b : Int
  u : Int
structure Ann where
  e : Int
  n : Int
  v : Int
deriving DecidableEq
def noAnn : Ann := ⟨0, 0, 0⟩

/-! ### sets and lists -/
/-- The members below n, ascending. -/
def memTo (M : Nat → Bool) (n : Nat) : List Nat := (List.range n).filter M
def mem (M : Nat → Bool) : List Nat := memTo M 1024
def cast (l : List Nat) : List Int := l.map fun (i : Nat) => (i : Int)
def memI (M : Nat → Bool) : List Int := cast (mem M)
def setOf (s : List Int) : Nat → Bool := fun i => decide ((i : Int) ∈ s)
def noIdx (x : Int) : Bool := decide (x < 0) || decide (1024 ≤ x)
def asc : List Int → Bool
  | [] => true
  | [_] => true
  | x :: y :: l => decide (x < y) && asc (y :: l)
def chk (s : List Int) : Int := if s.any noIdx then 3 else if asc s then 0 else 9
def upd (M : Nat → Bool) (i : Int) (b : Bool) : Nat → Bool := fun j => if (j : Int) = i then b else M j
def freed (M : Nat → Bool) (a : Int) : Int := if noIdx a then 3 else if M a.toNat then 8 else 0
def outs (M : Nat → Bool) (o : Opn) : List Ann :=
  if o.k = 7 then (memI M).map (fun i => (⟨0, i, 0⟩ : Ann)) ++ [⟨7, 0, 0⟩, ⟨12, 0, 0⟩] else if o.k = 8 then [⟨freed M o.a, 0, 0⟩] else []
def aft (M : Nat → Bool) (o : Opn) (x : Ann) : Nat → Bool :=
  if x.e = 0 ∧ o.k = 7 then upd M x.n false else if x.e = 0 ∧ o.k = 8 then upd M o.a true else M
def allS (s : List Int) (o : Opn) : List Ann := if chk s = 0 then outs (setOf s) o else []
def restM (s : List Int) (n : Nat) : Nat → Bool := fun i => decide (i < n) && !decide ((i : Int) ∈ s)

theorem memTo_succ (M : Nat → Bool) (n : Nat) : memTo M (n + 1) = memTo M n ++ (if M n then [n] else []) := by
  unfold memTo
  rw [List.range_succ, List.filter_append]
  congr 1
  cases h : M n <;> simp [h]
theorem memTo_zero (M : Nat → Bool) : memTo M 0 = [] := rfl
theorem memTo_len (M : Nat → Bool) (n : Nat) : (memTo M n).length ≤ n := by
  have h := List.length_filter_le M (List.range n)
  rw [List.length_range] at h
  exact h
theorem memTo_mem {M : Nat → Bool} {n i : Nat} : i ∈ memTo M n ↔ i < n ∧ M i = true := by simp [memTo]
theorem mem_len (M : Nat → Bool) : (mem M).length ≤ 1024 := memTo_len M 1024
theorem memTo_congr {M N : Nat → Bool} {n : Nat} (h : ∀ i, i < n → M i = N i) : memTo M n = memTo N n := by
  unfold memTo
  apply List.filter_congr
  intro x hx
  exact h x (by simpa using hx)
theorem mem_congr {M N : Nat → Bool} (h : ∀ i, i < 1024 → M i = N i) : mem M = mem N := memTo_congr h
theorem memI_congr {M N : Nat → Bool} (h : ∀ i, i < 1024 → M i = N i) : memI M = memI N := by unfold memI; rw [mem_congr h]
theorem cast_append (l m : List Nat) : cast (l ++ m) = cast l ++ cast m := by simp [cast]
theorem cast_length (l : List Nat) : (cast l).length = l.length := by simp [cast]
theorem memI_mem {M : Nat → Bool} {x : Int} : x ∈ memI M ↔ ∃ i : Nat, i < 1024 ∧ M i = true ∧ x = i := by
  unfold memI cast mem
  simp only [List.mem_map, memTo_mem]
  constructor
  · rintro ⟨i, ⟨h1, h2⟩, rfl⟩; exact ⟨i, h1, h2, rfl⟩
  · rintro ⟨i, h1, h2, rfl⟩; exact ⟨i, ⟨h1, h2⟩, rfl⟩
theorem memI_len (M : Nat → Bool) : (memI M).length ≤ 1024 := by unfold memI; rw [cast_length]; exact mem_len M
theorem memI_nat {M : Nat → Bool} {i : Nat} (hi : i < 1024) : ((i : Int) ∈ memI M) ↔ M i = true := by
  rw [memI_mem]
  constructor
  · rintro ⟨j, _, h, e⟩
    have : i = j := by omega
    subst this
    exact h
  · intro h; exact ⟨i, hi, h, rfl⟩
theorem noIdx_iff {x : Int} : noIdx x = false ↔ ∃ i : Nat, i < 1024 ∧ x = i := by
  unfold noIdx
  constructor
  · intro h
    simp at h
    exact ⟨x.toNat, by omega, by omega⟩
  · rintro ⟨i, h, rfl⟩
    simp
    omega
theorem any_noIdx {s : List Int} : s.any noIdx = false ↔ ∀ x ∈ s, ∃ i : Nat, i < 1024 ∧ x = i := by
  rw [List.any_eq_false]
  constructor
  · intro h x hx; exact noIdx_iff.1 (by simpa using h x hx)
  · intro h x hx; simpa using noIdx_iff.2 (h x hx)

/-! ### ascending lists -/
theorem asc_cons {x : Int} {s : List Int} : asc (x :: s) = true ↔ asc s = true ∧ ∀ y ∈ s, x < y := by
  induction s generalizing x with
  | nil => simp [asc]
  | cons y s ih =>
    simp only [asc, Bool.and_eq_true, decide_eq_true_eq, List.mem_cons, forall_eq_or_imp]
    constructor
    · rintro ⟨h1, h2⟩
      exact ⟨h2, h1, fun z hz => Int.lt_trans h1 ((ih.1 h2).2 z hz)⟩
    · rintro ⟨h1, h2, _⟩
      exact ⟨h2, h1⟩
theorem asc_ext : ∀ {s t : List Int}, asc s = true → asc t = true → (∀ x, x ∈ s ↔ x ∈ t) → s = t := by
  intro s
  induction s with
  | nil =>
    intro t _ _ h
    cases t with
    | nil => rfl
    | cons y t => exact absurd ((h y).2 (List.mem_cons_self ..)) (by simp)
  | cons x s ih =>
    intro t hs ht h
    cases t with
    | nil => exact absurd ((h x).1 (List.mem_cons_self ..)) (by simp)
    | cons y t =>
      obtain ⟨hs1, hs2⟩ := asc_cons.1 hs
      obtain ⟨ht1, ht2⟩ := asc_cons.1 ht
      have e : x = y := by
        rcases List.mem_cons.1 ((h x).1 (List.mem_cons_self ..)) with e | hx
        · exact e
        · rcases List.mem_cons.1 ((h y).2 (List.mem_cons_self ..)) with e | hy
          · exact e.symm
          · have := hs2 y hy; have := ht2 x hx; omega
      subst e
      congr 1
      refine ih hs1 ht1 fun z => ⟨fun hz => ?_, fun hz => ?_⟩
      · rcases List.mem_cons.1 ((h z).1 (List.mem_cons_of_mem _ hz)) with e | hz'
        · subst e; exact absurd (hs2 z hz) (Int.lt_irrefl _)
        · exact hz'
      · rcases List.mem_cons.1 ((h z).2 (List.mem_cons_of_mem _ hz)) with e | hz'
        · subst e; exact absurd (ht2 z hz) (Int.lt_irrefl _)
        · exact hz'
theorem asc_snoc {s : List Int} {x : Int} (h : asc s = true) (hx : ∀ y ∈ s, y < x) : asc (s ++ [x]) = true := by
  induction s with
  | nil => rfl
  | cons y s ih =>
    obtain ⟨h1, h2⟩ := asc_cons.1 h
    rw [List.cons_append]
    refine asc_cons.2 ⟨ih h1 (fun z hz => hx z (List.mem_cons_of_mem _ hz)), fun z hz => ?_⟩
    rcases List.mem_append.1 hz with hz | hz
    · exact h2 z hz
    · rw [List.mem_singleton.1 hz]; exact hx y (List.mem_cons_self ..)
theorem asc_memTo (M : Nat → Bool) (n : Nat) : asc (cast (memTo M n)) = true := by
  induction n with
  | zero => rfl
  | succ n ih =>
    rw [memTo_succ, cast_append]
    split
    · refine asc_snoc ih fun y hy => ?_
      obtain ⟨i, hi, rfl⟩ := List.mem_map.1 hy
      have := (memTo_mem.1 hi).1
      simp only []
      omega
    · simpa [cast] using ih
theorem asc_memI (M : Nat → Bool) : asc (memI M) = true := asc_memTo M 1024
theorem chk_memI (M : Nat → Bool) : chk (memI M) = 0 := by
  unfold chk
  rw [if_neg (by rw [any_noIdx.2 (fun x hx => by obtain ⟨i, h, _, e⟩ := memI_mem.1 hx; exact ⟨i, h, e⟩)]; simp), if_pos (asc_memI M)]
theorem chk_ok {s : List Int} (h : chk s = 0) : s.any noIdx = false ∧ asc s = true := by
  unfold chk at h
  split at h
  · omega
  · rename_i h1
    split at h
    · rename_i h2; exact ⟨by simpa using h1, h2⟩
    · omega
theorem memI_setOf {s : List Int} (h : chk s = 0) : memI (setOf s) = s := by
  obtain ⟨h1, h2⟩ := chk_ok h
  refine asc_ext (asc_memI _) h2 fun x => ?_
  rw [memI_mem]
  constructor
  · rintro ⟨i, _, hi, rfl⟩; simpa [setOf] using hi
  · intro hx
    obtain ⟨i, hi, rfl⟩ := any_noIdx.1 h1 x hx
    exact ⟨i, hi, by simpa [setOf] using hx, rfl⟩
theorem setOf_memI (M : Nat → Bool) (i : Nat) (hi : i < 1024) : setOf (memI M) i = M i := by
  unfold setOf
  rw [Bool.eq_iff_iff, decide_eq_true_eq]
  exact memI_nat hi
theorem chk_len {s : List Int} (h : chk s = 0) : s.length ≤ 1024 := by rw [← memI_setOf h]; exact memI_len _

/-! ### a word's bits -/
/-- What is left of word k when all below p have come. -/
structure Rem (M : Nat → Bool) (k p y : Nat) : Prop where
  lt : y < 18446744073709551616
  top : p ≤ 64
  bit : ∀ t, t < 64 → y.testBit t = (decide (p ≤ t) && M (k * 64 + t))
theorem memTo_skip (M : Nat → Bool) (a : Nat) : ∀ d, (∀ t, t < d → M (a + t) = false) → memTo M (a + d) = memTo M a := by
  intro d
  induction d with
  | zero => intro _; rfl
  | succ d ih =>
    intro h
    rw [← Nat.add_assoc, memTo_succ, ih (fun t ht => h t (by omega)), h d (by omega)]
    simp
theorem rem_zero {M : Nat → Bool} {k p : Nat} (h : Rem M k p 0) : memTo M (k * 64 + 64) = memTo M (k * 64 + p) := by
  have hp := h.top
  have := memTo_skip M (k * 64 + p) (64 - p) (fun t ht => by
    have := h.bit (p + t) (by omega)
    simp at this
    rw [Nat.add_assoc]
    exact this)
  rw [← this]
  congr 1
  omega
theorem low_bits (c m : Nat) : (∀ t, t < c → (2 ^ c * (2 * m + 1)).testBit t = false) ∧ (2 ^ c * (2 * m + 1)).testBit c = true ∧
    (∀ t, (2 ^ c * (2 * m + 1) &&& (2 ^ c * (2 * m + 1) - 1)).testBit t = (decide (t ≠ c) && (2 ^ c * (2 * m + 1)).testBit t)) := by
  have hb : ∀ t, (2 ^ c * (2 * m + 1)).testBit t = (decide (c ≤ t) && (2 * m + 1).testBit (t - c)) := fun t => by
    rw [Nat.mul_comm, Nat.testBit_mul_two_pow]
  have hpos : 0 < 2 ^ c := Nat.pow_pos (by decide)
  have e1 : 2 ^ c * (2 * m + 1) - 1 = 2 ^ c * (2 * m) + (2 ^ c - 1) := by
    rw [Nat.mul_add]
    omega
  have hd : ∀ t, (2 ^ c * (2 * m + 1) - 1).testBit t = if t < c then (2 ^ c - 1).testBit t else (2 * m).testBit (t - c) := fun t => by
    rw [e1, Nat.testBit_two_pow_mul_add _ (by omega)]
  refine ⟨fun t ht => by rw [hb]; simp; omega, by rw [hb]; simp, fun t => ?_⟩
  rw [Nat.testBit_and, hd, hb]
  by_cases h1 : t < c
  · have : ¬ c ≤ t := by omega
    simp [this]
  · by_cases h2 : t = c
    · subst h2
      simp
    · obtain ⟨j, rfl⟩ : ∃ j, t = c + (j + 1) := ⟨t - c - 1, by omega⟩
      rw [if_neg h1, show c + (j + 1) - c = j + 1 by omega, Nat.testBit_succ, Nat.testBit_succ]
      have d1 : (2 * m + 1) / 2 = m := by omega
      have d2 : (2 * m) / 2 = m := by omega
      rw [d1, d2]
      cases m.testBit j <;> simp
theorem rem_step {M : Nat → Bool} {k p y : Nat} (h : Rem M k p y) (h0 : y ≠ 0) :
    Lib.ctz 64 y < 64 ∧ memTo M (k * 64 + (Lib.ctz 64 y + 1)) = memTo M (k * 64 + p) ++ [k * 64 + Lib.ctz 64 y] ∧ Rem M k (Lib.ctz 64 y + 1) (y &&& (y - 1)) ∧ (y &&& (y - 1)) < y := by
  obtain ⟨m, hm, hc⟩ := Lib.ctzFrom_spec 64 y (by omega) (by have := h.lt; omega)
  have e : Lib.ctz 64 y = Lib.ctzFrom 64 y := by simp [Lib.ctz, h0]
  rw [e]
  obtain ⟨c, hcc⟩ : ∃ c, c = Lib.ctzFrom 64 y := ⟨_, rfl⟩
  rw [← hcc] at hm hc ⊢
  obtain ⟨b1, b2, b3⟩ := low_bits c m
  rw [← hm] at b1 b2 b3
  have h1 := h.bit c hc
  rw [b2] at h1
  have h2 : p ≤ c ∧ M (k * 64 + c) = true := by simpa using h1.symm
  have hlo : ∀ t, t < c → p ≤ t → M (k * 64 + t) = false := fun t ht hp => by
    have := h.bit t (by omega)
    rw [b1 t ht] at this
    simpa [hp] using this.symm
  have hle : y &&& (y - 1) ≤ y - 1 := Nat.and_le_right
  refine ⟨hc, ?_, ⟨Nat.lt_of_le_of_lt Nat.and_le_left h.lt, by omega, fun t ht => ?_⟩, by omega⟩
  · rw [← Nat.add_assoc, memTo_succ, h2.2, if_pos rfl]
    congr 1
    have := memTo_skip M (k * 64 + p) (c - p) (fun t ht => by
      rw [Nat.add_assoc]
      exact hlo (p + t) (by omega) (by omega))
    rw [← this]
    congr 1
    omega
  · rw [b3, h.bit t ht]
    by_cases htc : t < c
    · have : ¬ c + 1 ≤ t := by omega
      simp only [this, decide_false, Bool.false_and]
      by_cases hp : p ≤ t
      · rw [hlo t htc hp]; simp
      · simp [hp]
    · by_cases htc' : t = c
      · have a0 : ¬ c + 1 ≤ t := by omega
        rw [decide_eq_false (p := t ≠ c) (by simpa using htc'), decide_eq_false a0]
        simp
      · have a1 : c + 1 ≤ t := by omega
        have a2 : p ≤ t := by omega
        simp [htc', a1, a2]
end Go.Proofs.YtlkadickhhaakaaDoor
