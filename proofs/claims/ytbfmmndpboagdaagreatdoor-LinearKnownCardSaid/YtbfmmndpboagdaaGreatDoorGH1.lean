/- The model of a set: which lists may be, where a key stands, what may be answered, and what a set is behind it. Nothing of the program. -/
import Derived.Test.YtbfmmndpboagdaaGreatDoorProg
import Derived.Test.YtbfmmndpboagdaaGreatDoorGA
import Derived.Deep.Slices
import Derived.WalkKit
import Derived.ProofKit
import Derived.Lib.Hide
import Derived.Deep.AppendSrc
import Derived.Deep.RegionLaw
import Derived.Deep.RegionHeld3
import Derived.RegionTactic
import Derived.ChangeAlike
import Derived.WalkLawsBesides
import Derived.Deep.QuietTactic
import Derived.BigQuiet
import Derived.OwnWalk
import Derived.Deep.DeepCutAuto
import Derived.LoopN
import Derived.Deep.Light
namespace Go.Proofs.YtbfmmndpboagdaaGreatDoor.He

structure It where
  k : Int
  a : Int
deriving DecidableEq
structure Opn where
  k : Int
  a : Int
  b : Int
  u : Int
structure Ann where
  e : Int
  n : Int
  v : Int
deriving DecidableEq
def noAnn : Ann := ⟨0, 0, 0⟩

def asc : List It → Bool
  | [] => true
  | [_] => true
  | x :: y :: l => decide (x.k < y.k) && asc (y :: l)
def chk (l : List It) : Int := if 1024 < l.length then 7 else if asc l = true then 0 else 9
def pl (key : Int) : List It → Nat
  | [] => 0
  | x :: l => if x.k < key then pl key l + 1 else 0
def hs (key : Int) (l : List It) : Bool := (l[pl key l]?).elim false (fun x => decide (x.k = key))
def ins (x : It) (l : List It) : List It := l.take (pl x.k l) ++ x :: l.drop (pl x.k l)
def outs (l : List It) (o : Opn) : List (Ann × List It) :=
  if chk l = 0 then
    if o.k = 4 then (if hs o.u l = true then [(⟨7, 0, 0⟩, l), (⟨12, 0, 0⟩, l), (⟨8, 0, 0⟩, l)] else if l.length < 1024 then [(⟨7, 0, 0⟩, l), (⟨12, 0, 0⟩, l), (⟨0, 0, 0⟩, ins ⟨o.u, o.a⟩ l)] else [(⟨7, 0, 0⟩, l), (⟨12, 0, 0⟩, l)])
    else if o.k = 5 then (match l with | [] => [(⟨15, 0, 0⟩, [])] | x :: r => [(⟨0, x.a, x.k⟩, r)])
    else if o.k = 6 then (match l with | [] => [(⟨15, 0, 0⟩, [])] | x :: r => [(⟨0, x.a, x.k⟩, x :: r)])
    else []
  else []
def refd (x : Ann) : Bool := decide (x.e = 7) || decide (x.e = 12)
def nextS (l : List It) (o : Opn) (a : Ann) : Option (List It) := ((outs l o).find? (fun p => decide (p.1 = a))).map (·.2)
def tellS (l : List It) (o : Opn) : Option Ann := ((outs l o).find? (fun p => !refd p.1)).map (·.1)

theorem asc_iff (l : List It) : asc l = true ↔ ∀ i x y, l[i]? = some x → l[i + 1]? = some y → x.k < y.k := by
  induction l with
  | nil => simp [asc]
  | cons x l ih =>
    cases l with
    | nil => simp [asc]
    | cons y l =>
      constructor
      · intro h i a b ha hb
        simp only [asc, Bool.and_eq_true, decide_eq_true_eq] at h
        cases i with
        | zero => simp at ha hb; subst ha; subst hb; exact h.1
        | succ i => exact ih.1 h.2 i a b (by simpa using ha) (by simpa using hb)
      · intro h
        simp only [asc, Bool.and_eq_true, decide_eq_true_eq]
        exact ⟨h 0 x y rfl rfl, ih.2 fun i a b ha hb => h (i + 1) a b (by simpa using ha) (by simpa using hb)⟩
theorem asc_tail {x : It} {l : List It} (h : asc (x :: l) = true) : asc l = true := by
  rw [asc_iff] at h ⊢
  exact fun i a b ha hb => h (i + 1) a b (by simpa using ha) (by simpa using hb)
theorem asc_no {l : List It} {i : Nat} {x y : It} (hx : l[i]? = some x) (hy : l[i + 1]? = some y) (h : ¬ x.k < y.k) : asc l = false := by
  cases ha : asc l with
  | false => rfl
  | true => exact absurd ((asc_iff l).1 ha i x y hx hy) h
theorem asc_lt {l : List It} (h : asc l = true) : ∀ {i j : Nat} {x y : It}, l[i]? = some x → l[j]? = some y → i < j → x.k < y.k := by
  rw [asc_iff] at h
  intro i j
  induction j with
  | zero => intro x y _ _ hij; omega
  | succ j ih =>
    intro x y hx hy hij
    have hj : j < l.length := by have := (List.getElem?_eq_some_iff.1 hy).1; omega
    have hz : l[j]? = some l[j] := List.getElem?_eq_getElem hj
    have h1 := h j _ _ hz hy
    by_cases e : i = j
    · subst e
      rw [hx] at hz
      cases hz
      exact h1
    · have := ih hx hz (by omega)
      omega
theorem chk_zero {l : List It} (h : chk l = 0) : l.length ≤ 1024 ∧ asc l = true := by
  unfold chk at h
  split at h
  · cases h
  · split at h
    · exact ⟨by omega, by assumption⟩
    · cases h
theorem chk_of {l : List It} (h1 : l.length ≤ 1024) (h2 : asc l = true) : chk l = 0 := by
  unfold chk; rw [if_neg (by omega), if_pos h2]

theorem pl_le (key : Int) (l : List It) : pl key l ≤ l.length := by
  induction l with
  | nil => exact Nat.le_refl _
  | cons x l ih => unfold pl; split <;> simp <;> omega
theorem pl_before (key : Int) (l : List It) : ∀ i x, i < pl key l → l[i]? = some x → x.k < key := by
  induction l with
  | nil => intro i x h; simp [pl] at h
  | cons y l ih =>
    intro i x hi hx
    unfold pl at hi
    split at hi
    · cases i with
      | zero => simp at hx; subst hx; assumption
      | succ i => exact ih i x (by omega) (by simpa using hx)
    · omega
theorem pl_at (key : Int) (l : List It) : ∀ x, l[pl key l]? = some x → ¬ x.k < key := by
  induction l with
  | nil => intro x h; simp at h
  | cons y l ih =>
    intro x hx
    unfold pl at hx
    split at hx
    · exact ih x (by simpa using hx)
    · simp at hx; subst hx; assumption
theorem pl_eq {key : Int} {l : List It} {f : Nat} (h1 : ∀ i x, i < f → l[i]? = some x → x.k < key) (h2 : ∀ x, l[f]? = some x → ¬ x.k < key) (h3 : f ≤ l.length) : pl key l = f := by
  rcases Nat.lt_trichotomy (pl key l) f with h | h | h
  · have hz : l[pl key l]? = some (l[pl key l]'(by omega)) := List.getElem?_eq_getElem (by omega)
    exact absurd (h1 _ _ h hz) (pl_at key l _ hz)
  · exact h
  · have := pl_le key l
    have hz : l[f]? = some (l[f]'(by omega)) := List.getElem?_eq_getElem (by omega)
    exact absurd (pl_before key l _ _ h hz) (h2 _ hz)
theorem hs_some {key : Int} {l : List It} {x : It} (h : l[pl key l]? = some x) : hs key l = decide (x.k = key) := by unfold hs; rw [h]; rfl
theorem hs_none {key : Int} {l : List It} (h : pl key l = l.length) : hs key l = false := by unfold hs; rw [h, List.getElem?_eq_none (Nat.le_refl _)]; rfl
theorem ins_length (x : It) (l : List It) : (ins x l).length = l.length + 1 := by
  unfold ins
  rw [List.length_append, List.length_take, List.length_cons, List.length_drop]
  have := pl_le x.k l
  omega
theorem ins_lo {x : It} {l : List It} {i : Nat} (h : i < pl x.k l) : (ins x l)[i]? = l[i]? := by
  have := pl_le x.k l
  unfold ins
  rw [List.getElem?_append_left (by rw [List.length_take]; omega), List.getElem?_take_of_lt h]
theorem ins_at (x : It) (l : List It) : (ins x l)[pl x.k l]? = some x := by
  have := pl_le x.k l
  unfold ins
  rw [List.getElem?_append_right (by rw [List.length_take]; omega), List.length_take]
  simp [Nat.min_eq_left this]
theorem ins_hi {x : It} {l : List It} {i : Nat} (h : pl x.k l ≤ i) : (ins x l)[i + 1]? = l[i]? := by
  have := pl_le x.k l
  unfold ins
  rw [List.getElem?_append_right (by rw [List.length_take]; omega), List.length_take, Nat.min_eq_left this, show i + 1 - pl x.k l = (i - pl x.k l) + 1 by omega, List.getElem?_cons_succ, List.getElem?_drop]
  congr 1
  omega
theorem ins_asc {x : It} {l : List It} (h : asc l = true) (hn : hs x.k l = false) : asc (ins x l) = true := by
  rw [asc_iff]
  intro i a b ha hb
  have hp := pl_le x.k l
  rcases Nat.lt_trichotomy (i + 1) (pl x.k l) with h1 | h1 | h1
  · rw [ins_lo (by omega)] at ha
    rw [ins_lo h1] at hb
    exact (asc_iff l).1 h i a b ha hb
  · rw [ins_lo (by omega)] at ha
    rw [h1, ins_at] at hb
    cases hb
    exact pl_before x.k l i a (by omega) ha
  · rw [ins_hi (by omega)] at hb
    by_cases e : i = pl x.k l
    · rw [e, ins_at] at ha
      cases ha
      rw [e] at hb
      have h2 := pl_at x.k l b hb
      rw [hs_some hb] at hn
      have h3 : ¬ b.k = x.k := by simpa using hn
      omega
    · obtain ⟨j, rfl⟩ : ∃ j, i = j + 1 := ⟨i - 1, by omega⟩
      rw [ins_hi (by omega)] at ha
      exact (asc_iff l).1 h j a b ha hb

section
variable {l : List It} {o : Opn} {a : Ann}
theorem outs_bad (h : chk l ≠ 0) : outs l o = [] := by unfold outs; rw [if_neg h]
theorem outs_double (h : chk l = 0) (hk : o.k = 4) (hd : hs o.u l = true) : outs l o = [(⟨7, 0, 0⟩, l), (⟨12, 0, 0⟩, l), (⟨8, 0, 0⟩, l)] := by unfold outs; rw [if_pos h, if_pos hk, if_pos hd]
theorem outs_put (h : chk l = 0) (hk : o.k = 4) (hd : hs o.u l = false) (hr : l.length < 1024) : outs l o = [(⟨7, 0, 0⟩, l), (⟨12, 0, 0⟩, l), (⟨0, 0, 0⟩, ins ⟨o.u, o.a⟩ l)] := by
  unfold outs; rw [if_pos h, if_pos hk, if_neg (by rw [hd]; decide), if_pos hr]
theorem outs_full (h : chk l = 0) (hk : o.k = 4) (hd : hs o.u l = false) (hr : ¬ l.length < 1024) : outs l o = [(⟨7, 0, 0⟩, l), (⟨12, 0, 0⟩, l)] := by
  unfold outs; rw [if_pos h, if_pos hk, if_neg (by rw [hd]; decide), if_neg hr]
theorem outs_pick0 (hk : o.k = 5) : outs [] o = [(⟨15, 0, 0⟩, [])] := by unfold outs; rw [if_pos (by decide), if_neg (by omega), if_pos hk]
theorem outs_pick {x : It} {r : List It} (h : chk (x :: r) = 0) (hk : o.k = 5) : outs (x :: r) o = [(⟨0, x.a, x.k⟩, r)] := by unfold outs; rw [if_pos h, if_neg (by omega), if_pos hk]
theorem outs_look0 (hk : o.k = 6) : outs [] o = [(⟨15, 0, 0⟩, [])] := by unfold outs; rw [if_pos (by decide), if_neg (by omega), if_neg (by omega), if_pos hk]
theorem outs_look {x : It} {r : List It} (h : chk (x :: r) = 0) (hk : o.k = 6) : outs (x :: r) o = [(⟨0, x.a, x.k⟩, x :: r)] := by unfold outs; rw [if_pos h, if_neg (by omega), if_neg (by omega), if_pos hk]
theorem outs_else (h4 : o.k ≠ 4) (h5 : o.k ≠ 5) (h6 : o.k ≠ 6) : outs l o = [] := by unfold outs; rw [if_neg h4, if_neg h5, if_neg h6]; simp
theorem outs_few : ∀ p ∈ outs l o, p.2.length ≤ 1024 := by
  intro p hp
  by_cases h : chk l = 0
  · have hl := (chk_zero h).1
    unfold outs at hp
    rw [if_pos h] at hp
    repeat' split at hp
    all_goals simp at hp
    all_goals first
      | (rcases hp with rfl | rfl | rfl <;> simp_all [ins_length] <;> omega)
      | (rcases hp with rfl | rfl <;> simp_all)
      | (subst hp; simp_all <;> omega)
  · rw [outs_bad h] at hp; cases hp
end
theorem find_cons {α : Type} (p : α → Bool) (x : α) (l : List α) : (x :: l).find? p = if p x = true then some x else l.find? p := by
  rw [List.find?_cons]; cases p x <;> rfl

theorem tell_put {l : List It} {o : Opn} (h : chk l = 0) (hk : o.k = 4) : tellS l o = if hs o.u l = true then some ⟨8, 0, 0⟩ else if l.length < 1024 then some ⟨0, 0, 0⟩ else none := by
  unfold tellS
  cases hd : hs o.u l with
  | true => rw [outs_double h hk hd, if_pos rfl]; rfl
  | false =>
    rw [if_neg (by decide)]
    by_cases hr : l.length < 1024
    · rw [outs_put h hk hd hr, if_pos hr]; rfl
    · rw [outs_full h hk hd hr, if_neg hr]; rfl
theorem tell_pick0 {o : Opn} (hk : o.k = 5 ∨ o.k = 6) : tellS [] o = some ⟨15, 0, 0⟩ := by
  unfold tellS
  rcases hk with hk | hk
  · rw [outs_pick0 hk]; rfl
  · rw [outs_look0 hk]; rfl
theorem tell_pick {x : It} {r : List It} {o : Opn} (h : chk (x :: r) = 0) (hk : o.k = 5 ∨ o.k = 6) : tellS (x :: r) o = some ⟨0, x.a, x.k⟩ := by
  unfold tellS
  rcases hk with hk | hk
  · rw [outs_pick h hk]; rfl
  · rw [outs_look h hk]; rfl
theorem next_double {l : List It} {o : Opn} (h : chk l = 0) (hk : o.k = 4) (hd : hs o.u l = true) : nextS l o ⟨8, 0, 0⟩ = some l := by unfold nextS; rw [outs_double h hk hd]; rfl
theorem next_put {l : List It} {o : Opn} (h : chk l = 0) (hk : o.k = 4) (hd : hs o.u l = false) (hr : l.length < 1024) : nextS l o ⟨0, 0, 0⟩ = some (ins ⟨o.u, o.a⟩ l) := by unfold nextS; rw [outs_put h hk hd hr]; rfl
theorem next_none {o : Opn} (hk : o.k = 5 ∨ o.k = 6) : nextS [] o ⟨15, 0, 0⟩ = some [] := by
  unfold nextS
  rcases hk with hk | hk
  · rw [outs_pick0 hk]; rfl
  · rw [outs_look0 hk]; rfl
theorem next_pick {x : It} {r : List It} {o : Opn} (h : chk (x :: r) = 0) (hk : o.k = 5) : nextS (x :: r) o ⟨0, x.a, x.k⟩ = some r := by unfold nextS; rw [outs_pick h hk]; simp
theorem next_look {x : It} {r : List It} {o : Opn} (h : chk (x :: r) = 0) (hk : o.k = 6) : nextS (x :: r) o ⟨0, x.a, x.k⟩ = some (x :: r) := by unfold nextS; rw [outs_look h hk]; simp
theorem next_few {l l' : List It} {o : Opn} {a : Ann} (h : nextS l o a = some l') : l'.length ≤ 1024 := by
  unfold nextS at h
  cases hf : (outs l o).find? (fun p => decide (p.1 = a)) with
  | none => rw [hf] at h; cases h
  | some p =>
    rw [hf] at h
    cases h
    exact outs_few p (List.mem_of_find?_eq_some hf)
end Go.Proofs.YtbfmmndpboagdaaGreatDoor.He

namespace Go.Proofs.YtbfmmndpboagdaaGreatDoor.He
set_option maxRecDepth 20000
open Go.ChangeShapes Go.WideShapes Go.Deep Go.RowKit

def itc (x : It) : List Value := [.int .u64 x.k, .int .i64 x.a]
def opc (o : Opn) : List Value := [.int .i64 o.k, .int .i64 o.a, .int .i64 o.b, .int .u64 o.u]
def anc (o : Ann) : List Value := [.int .i64 o.e, .int .i64 o.n, .int .u64 o.v]
def flatI (l : List It) : List Value := l.flatMap itc
structure Oc where
  an : Ann
  at_ : Option Addr
  cap : Nat
  l : List It
def occ (x : Oc) : List Value := [.int .i64 x.an.e, .int .i64 x.an.n, .int .u64 x.an.v, .slice x.at_ x.l.length x.cap]
def flatC (l : List Oc) : List Value := l.flatMap occ
def Oc.two (x : Oc) : Ann × List It := (x.an, x.l)
theorem itc_length (e : It) : (itc e).length = 2 := rfl
theorem occ_length (e : Oc) : (occ e).length = 4 := rfl
theorem flatI_length (l : List It) : (flatI l).length = l.length * 2 := wide_length itc_length l
theorem flatI_get (l : List It) (i j : Nat) (e : It) (h : l[i]? = some e) (hj : j < 2) : (flatI l)[i * 2 + j]? = (itc e)[j]? := wide_get itc_length l i j e h hj
theorem flatC_get (l : List Oc) (i j : Nat) (e : Oc) (h : l[i]? = some e) (hj : j < 4) : (flatC l)[i * 4 + j]? = (occ e)[j]? := wide_get occ_length l i j e h hj
theorem flatI_append (l m : List It) : flatI (l ++ m) = flatI l ++ flatI m := by simp [flatI]
theorem flatI_one (l : List It) : ∀ u ∈ flatI l, u.oneCell' = true := wide_one (fun a u h => by simp [itc] at h; rcases h with h | h <;> subst h <;> rfl) l
theorem flatC_one (l : List Oc) : ∀ u ∈ flatC l, u.oneCell' = true := wide_one (fun a u h => by simp [occ] at h; rcases h with h | h | h | h <;> subst h <;> rfl) l
theorem flatI_drop (l : List It) : ∀ k, (flatI l).drop (k * 2) = flatI (l.drop k) := by
  induction l with
  | nil => intro k; simp [flatI]
  | cons x l ih =>
    intro k
    cases k with
    | zero => simp
    | succ k =>
      have e : flatI (x :: l) = .int .u64 x.k :: .int .i64 x.a :: flatI l := rfl
      rw [e, show (k + 1) * 2 = k * 2 + 1 + 1 by omega, List.drop_succ_cons, List.drop_succ_cons, List.drop_succ_cons, ih]
theorem flatI_take (l : List It) : ∀ k, (flatI l).take (k * 2) = flatI (l.take k) := by
  induction l with
  | nil => intro k; simp [flatI]
  | cons x l ih =>
    intro k
    cases k with
    | zero => simp [flatI]
    | succ k =>
      have e : flatI (x :: l) = .int .u64 x.k :: .int .i64 x.a :: flatI l := rfl
      have e' : ∀ m, flatI (x :: m) = .int .u64 x.k :: .int .i64 x.a :: flatI m := fun _ => rfl
      rw [e, show (k + 1) * 2 = k * 2 + 1 + 1 by omega, List.take_succ_cons, List.take_succ_cons, List.take_succ_cons, e', ih]

structure ItAt (w : World) (g o : Nat) (e : It) : Prop where
  c0 : w.cell? ⟨g, o, none⟩ = some (.int .u64 e.k)
  c1 : w.cell? ⟨g, o + 1, none⟩ = some (.int .i64 e.a)
theorem ItAt.kept {w w' : World} {g o : Nat} {e : It} (h : ItAt w g o e) (k : Kept w w') : ItAt w' g o e := ⟨k.some h.c0, k.some h.c1⟩
theorem ItAt.but {S : Nat → Prop} {w w' : World} {g o : Nat} {e : It} (h : ItAt w g o e) (k : But S w w') (hS : ¬ S g) : ItAt w' g o e := ⟨k.some h.c0 hS, k.some h.c1 hS⟩
structure OcAt (w : World) (g o : Nat) (e : Oc) : Prop where
  c0 : w.cell? ⟨g, o, none⟩ = some (.int .i64 e.an.e)
  c1 : w.cell? ⟨g, o + 1, none⟩ = some (.int .i64 e.an.n)
  c2 : w.cell? ⟨g, o + 2, none⟩ = some (.int .u64 e.an.v)
  c3 : w.cell? ⟨g, o + 3, none⟩ = some (.slice e.at_ e.l.length e.cap)
theorem OcAt.kept {w w' : World} {g o : Nat} {e : Oc} (h : OcAt w g o e) (k : Kept w w') : OcAt w' g o e := ⟨k.some h.c0, k.some h.c1, k.some h.c2, k.some h.c3⟩
structure OpBox (w : World) (g : Nat) (e : Opn) : Prop where
  c0 : w.cell? ⟨g, 0, none⟩ = some (.int .i64 e.k)
  c1 : w.cell? ⟨g, 1, none⟩ = some (.int .i64 e.a)
  c2 : w.cell? ⟨g, 2, none⟩ = some (.int .i64 e.b)
  c3 : w.cell? ⟨g, 3, none⟩ = some (.int .u64 e.u)
structure AnBox (w : World) (g : Nat) (e : Ann) : Prop where
  c0 : w.cell? ⟨g, 0, none⟩ = some (.int .i64 e.e)
  c1 : w.cell? ⟨g, 1, none⟩ = some (.int .i64 e.n)
  c2 : w.cell? ⟨g, 2, none⟩ = some (.int .u64 e.v)
  s : ∀ i, w.frozen? ⟨g, i, none⟩ = false
theorem OpBox.kept {w w' : World} {g : Nat} {e : Opn} (h : OpBox w g e) (k : Kept w w') : OpBox w' g e := ⟨k.some h.c0, k.some h.c1, k.some h.c2, k.some h.c3⟩
theorem OpBox.but {S : Nat → Prop} {w w' : World} {g : Nat} {e : Opn} (h : OpBox w g e) (k : But S w w') (hS : ¬ S g) : OpBox w' g e := ⟨k.some h.c0 hS, k.some h.c1 hS, k.some h.c2 hS, k.some h.c3 hS⟩
theorem AnBox.but {S : Nat → Prop} {w w' : World} {g : Nat} {e : Ann} (h : AnBox w g e) (k : But S w w') (hS : ¬ S g) : AnBox w' g e := ⟨k.some h.c0 hS, k.some h.c1 hS, k.some h.c2 hS, fun i => k.soft (lt_of_cell h.c0) (h.s i)⟩
theorem AnBox.kept {w w' : World} {g : Nat} {e : Ann} (h : AnBox w g e) (k : Kept w w') : AnBox w' g e := h.but (k.but (fun _ => False)) id
theorem OpBox.new (w : World) (e : Opn) (t : TypeId) (n : Nat) (h : n = w.heap.size) : OpBox (w.alloc (.cells #[.int .i64 e.k, .int .i64 e.a, .int .i64 e.b, .int .u64 e.u] t)) n e :=
  ⟨cell_new _ _ _ _ 0 h, cell_new _ _ _ _ 1 h, cell_new _ _ _ _ 2 h, cell_new _ _ _ _ 3 h⟩
theorem AnBox.new (w : World) (e : Ann) (t : TypeId) (n : Nat) (h : n = w.heap.size) : AnBox (w.alloc (.cells #[.int .i64 e.e, .int .i64 e.n, .int .u64 e.v] t)) n e :=
  ⟨cell_new _ _ _ _ 0 h, cell_new _ _ _ _ 1 h, cell_new _ _ _ _ 2 h, fun i => by subst h; rw [frozen?_alloc_cells]; simp [World.frozen?]⟩
theorem _root_.Go.Proofs.YtbfmmndpboagdaaGreatDoor.Lay.it_He {w : World} {v : Value} {l : List It} (h : Lay w v l.length (flatI l)) (hn : 0 < l.length) : ∃ g o c, v = .slice (some ⟨g, o, none⟩) l.length c ∧ l.length ≤ c ∧ c ≤ maxLen ∧ ∀ i e, l[i]? = some e → ItAt w g (o + i * 2) e := by
  obtain ⟨g, o, c, hv, h1, h2, hc⟩ := h.at hn
  refine ⟨g, o, c, hv, h1, h2, fun i e he => ?_⟩
  have H : ∀ j u, j < 2 → (itc e)[j]? = some u → w.cell? ⟨g, o + i * 2 + j, none⟩ = some u := fun j u hj hu => by
    rw [Nat.add_assoc]
    exact hc _ _ ((flatI_get l i j e he hj).trans hu)
  exact ⟨H 0 _ (by decide) rfl, H 1 _ (by decide) rfl⟩
theorem _root_.Go.Proofs.YtbfmmndpboagdaaGreatDoor.Lay.oc_He {w : World} {v : Value} {l : List Oc} (h : Lay w v l.length (flatC l)) (hn : 0 < l.length) : ∃ g o c, v = .slice (some ⟨g, o, none⟩) l.length c ∧ l.length ≤ c ∧ c ≤ maxLen ∧ ∀ i e, l[i]? = some e → OcAt w g (o + i * 4) e := by
  obtain ⟨g, o, c, hv, h1, h2, hc⟩ := h.at hn
  refine ⟨g, o, c, hv, h1, h2, fun i e he => ?_⟩
  have H : ∀ j u, j < 4 → (occ e)[j]? = some u → w.cell? ⟨g, o + i * 4 + j, none⟩ = some u := fun j u hj hu => by
    rw [Nat.add_assoc]
    exact hc _ _ ((flatC_get l i j e he hj).trans hu)
  exact ⟨H 0 _ (by decide) rfl, H 1 _ (by decide) rfl, H 2 _ (by decide) rfl, H 3 _ (by decide) rfl⟩

theorem _root_.Go.Proofs.YtbfmmndpboagdaaGreatDoor.Lay.first_He {w : World} {a : Option Addr} {n c m d : Nat} {l : List It} (h : Lay w (.slice a n c) n (flatI l)) (hm : m ≤ n) (hd : m ≤ d) (hd' : d ≤ maxLen) (hnil : a = none → d = 0) : Lay w (.slice a m d) m (flatI (l.take m)) := by
  by_cases h0 : m = 0
  · subst h0
    cases a with
    | none => rw [hnil rfl]; exact .inl (.inl ⟨rfl, rfl, by simp [flatI]⟩)
    | some x => exact .inr ⟨x, d, rfl, rfl, by simp [flatI], hd'⟩
  · obtain ⟨g, o, c', e, h1, h2, h3⟩ := h.at (by omega)
    cases e
    refine .inl (.inr ⟨g, o, d, rfl, hd, hd', fun j u hu => h3 j u ?_⟩)
    rw [← flatI_take] at hu
    have hj : j < m * 2 := by
      have := (List.getElem?_eq_some_iff.1 hu).1
      rw [List.length_take] at this
      omega
    rwa [List.getElem?_take_of_lt hj] at hu
theorem _root_.Go.Proofs.YtbfmmndpboagdaaGreatDoor.Lay.rest_He {w : World} {g o n c m d : Nat} {l : List It} (h : Lay w (.slice (some ⟨g, o, none⟩) n c) n (flatI l)) (hm : m ≤ n) (hd : n - m ≤ d) (hd' : d ≤ maxLen) (hl : n = l.length) : Lay w (.slice (some ⟨g, o + m * 2, none⟩) (n - m) d) (n - m) (flatI (l.drop m)) := by
  by_cases h0 : n = m
  · rw [show n - m = 0 by omega, List.drop_of_length_le (show l.length ≤ m by omega)]
    exact .inr ⟨_, d, rfl, rfl, rfl, hd'⟩
  · obtain ⟨g', o', c', e, h1, h2, h3⟩ := h.at (by omega)
    cases e
    refine .inl (.inr ⟨g, o + m * 2, d, rfl, hd, hd', fun j u hu => ?_⟩)
    rw [← flatI_drop, List.getElem?_drop] at hu
    rw [Nat.add_assoc]
    exact h3 _ _ hu
theorem _root_.Go.Proofs.YtbfmmndpboagdaaGreatDoor.Lay.none_of_He {w : World} {a : Option Addr} {d : Nat} (hd : d ≤ maxLen) (hnil : a = none → d = 0) : Lay w (.slice a 0 d) 0 (flatI []) := by
  cases a with
  | none => rw [hnil rfl]; exact .inl (.inl ⟨rfl, rfl, rfl⟩)
  | some x => exact .inr ⟨x, d, rfl, rfl, rfl, hd⟩
theorem _root_.Go.Proofs.YtbfmmndpboagdaaGreatDoor.Lay.tail_He {w : World} {a : Option Addr} {n c m d : Nat} {l : List It} (h : Lay w (.slice a n c) n (flatI l)) (hl : n = l.length) (hm : m ≤ n) (hd : n ≤ d) (hd' : d ≤ maxLen) (hnc : a = none → d = 0) :
    Lay w (.slice (if d = m then a else a.map (·.add (m * 2))) (n - m) (d - m)) (n - m) (flatI (l.drop m)) := by
  by_cases h0 : n = m
  · rw [show n - m = 0 by omega, List.drop_of_length_le (show l.length ≤ m by omega)]
    refine Lay.none_of_He (by omega) fun e => ?_
    by_cases hc : d = m
    · omega
    · rw [if_neg hc] at e
      cases a with
      | none => have := hnc rfl; omega
      | some x => cases e
  · obtain ⟨g, o, c', e, _, _, _⟩ := h.at (by omega)
    cases e
    rw [if_neg (by omega)]
    simp only [Option.map_some, add_none]
    exact h.rest_He hm (by omega) (by omega) hl
theorem _root_.Go.Proofs.YtbfmmndpboagdaaGreatDoor.Lay.nil_cap_He {w : World} {a : Option Addr} {n c : Nat} {xs : List Value} (h : Lay w (.slice a n c) n xs) : a = none → c = 0 := by
  intro e
  subst e
  rcases h with (⟨e, _, _⟩ | ⟨g, o, c', e, _⟩) | ⟨x, c', e, _⟩
  · cases e; rfl
  · cases e
  · cases e

theorem infoI : (Tryz.prog.info? 90).map (fun i => (i.zero, i.size, i.bytes)) = some (some (.agg #[.int .u64 0, .int .i64 0]), 2, 16) := by kernel_rfl
theorem infoC : (Tryz.prog.info? 124).map (fun i => (i.zero, i.size, i.bytes)) = some (some (.agg #[.int .i64 0, .int .i64 0, .int .u64 0, .slice none 0 0]), 4, 48) := by kernel_rfl
abbrev OwnI (w : World) (base : Nat) (v : Value) (l : List It) : Prop := w.ownsRow base 90 2 v l.length (flatI l)
theorem own_kept {w w' : World} {base : Nat} {e : TypeId} {size : Nat} {v : Value} {n : Nat} {xs : List Value} (h : w.ownsRow base e size v n xs) (k : Kept w w') : w'.ownsRow base e size v n xs :=
  own_same h fun g hg => k.below.block g (h.lt g hg).2
theorem own_but {S : Nat → Prop} {w w' : World} {base : Nat} {e : TypeId} {size : Nat} {v : Value} {n : Nat} {xs : List Value} (h : w.ownsRow base e size v n xs) (k : But S w w') (hS : ∀ g, v.ownBlock = some g → ¬ S g) : w'.ownsRow base e size v n xs :=
  own_same h fun g hg => k.block g (h.lt g hg).2 (hS g hg)
theorem lay_new {w : World} {g : Nat} {xs : List Value} {n : Nat} {t : TypeId} {fr : Nat × Nat} (h : w.heap[g]? = some (.cells xs.toArray t fr)) (hn : n ≤ 100000) : Lay w (.slice (some ⟨g, 0, none⟩) n n) n xs :=
  .inl (.inr ⟨g, 0, n, rfl, Nat.le_refl _, by unfold maxLen; omega, fun j u hu => by
    have := World.news_of_block h j u (by simpa using hu)
    rwa [add_none] at this⟩)

theorem cellsOp : Tryz.prog.cellsOf 24 = 4 := by kernel_rfl
theorem cellsAns : Tryz.prog.cellsOf 27 = 3 := by kernel_rfl
theorem cellsInt : Tryz.prog.cellsOf 3 = 1 := by kernel_rfl
theorem cellsU : Tryz.prog.cellsOf 22 = 1 := by kernel_rfl
theorem cellsErr : Tryz.prog.cellsOf 25 = 1 := by kernel_rfl
section
variable {H : Type} {enc : TypeId × Value → H} {w : World} {base : Nat} {spare : Nat → Bool} {held : Bool}
theorem open_op {fuel : Nat} {cs : List Value} {x : DataW H × List MemPlace} (h : DataW.trod enc Tryz.prog w base spare held fuel 24 cs = some x) : ∃ e : Opn, cs = opc e := by
  obtain ⟨xs, n, _, _, hl, hxl, hf⟩ := DataW.trod_struct Tryz.underlying24 h
  rw [cellsOp] at hl
  match cs, hl with
  | [v0, v1, v2, v3], _ =>
    match xs, hxl with
    | [x0, x1, x2, x3], _ =>
      have f0 : DataW.trod enc Tryz.prog w base spare held n 3 (([v0, v1, v2, v3].drop 0).take (Tryz.prog.cellsOf 3)) = some x0 := hf 0 _ rfl
      have f1 : DataW.trod enc Tryz.prog w base spare held n 3 (([v0, v1, v2, v3].drop 1).take (Tryz.prog.cellsOf 3)) = some x1 := hf 1 _ rfl
      have f2 : DataW.trod enc Tryz.prog w base spare held n 3 (([v0, v1, v2, v3].drop 2).take (Tryz.prog.cellsOf 3)) = some x2 := hf 2 _ rfl
      have f3 : DataW.trod enc Tryz.prog w base spare held n 22 (([v0, v1, v2, v3].drop 3).take (Tryz.prog.cellsOf 22)) = some x3 := hf 3 _ rfl
      simp only [cellsInt, cellsU, List.drop_zero, List.drop_succ_cons, List.take_succ_cons, List.take_zero] at f0 f1 f2 f3
      obtain ⟨q0, e0, _⟩ := DataW.trod_int Tryz.underlying3 f0
      obtain ⟨q1, e1, _⟩ := DataW.trod_int Tryz.underlying3 f1
      obtain ⟨q2, e2, _⟩ := DataW.trod_int Tryz.underlying3 f2
      obtain ⟨q3, e3, _⟩ := DataW.trod_int Tryz.underlying22 f3
      simp at e0 e1 e2 e3
      subst e0; subst e1; subst e2; subst e3
      exact ⟨⟨q0, q1, q2, q3⟩, rfl⟩
theorem open_wide {α : Type} {f : α → List Value} {m : Nat} {e t : TypeId} (ht : Tryz.prog.underlying t = some (.slice e)) (hC : Tryz.prog.cellsOf e = m) (hm : 0 < m) (hf : ∀ a, (f a).length = m)
    (ho : ∀ (fuel : Nat) (cs : List Value) (x : DataW H × List MemPlace), DataW.trod enc Tryz.prog w base spare held fuel e cs = some x → ∃ a, cs = f a)
    {fuel : Nat} {a : Option Addr} {len cap : Nat} {x : DataW H × List MemPlace} (h : DataW.trod enc Tryz.prog w base spare held fuel t [.slice a len cap] = some x) :
    ∃ l : List α, l.length = len ∧ Lay w (.slice a len cap) len (l.flatMap f) := by
  rcases open_slice ht h with h0 | ⟨y, len', cap', m', n, D, Pl, hcs, _, hl, hm', hmm, _, hi⟩
  · obtain ⟨rfl, rfl, rfl⟩ : a = none ∧ len = 0 ∧ cap = 0 := by simpa using h0.1
    exact ⟨[], rfl, .inl (.inl ⟨rfl, rfl, rfl⟩)⟩
  · obtain ⟨rfl, rfl, rfl⟩ : a = some y ∧ len = len' ∧ cap = cap' := by simpa using hcs
    have hle : len ≤ m' := by rw [hmm]; split <;> omega
    rw [hC] at hi
    have each : ∀ i, i < len → ∃ e : α, ∀ j u, j < m → (f e)[j]? = some u → w.cell? (y.add (i * m + j)) = some u := by
      intro i hil
      obtain ⟨cs', hc, ht⟩ := hi i (by omega)
      obtain ⟨e, rfl⟩ := ho _ _ _ ht
      obtain ⟨_, _, hat⟩ := World.cells?_some hc
      refine ⟨e, fun j u hj hu => ?_⟩
      have := hat j hj
      rw [add_add] at this
      exact this.trans hu
    by_cases h0 : len = 0
    · subst h0
      exact ⟨[], rfl, .inr ⟨y, cap, rfl, rfl, rfl, hm'⟩⟩
    · obtain ⟨b, off, spot⟩ := y
      have hs : spot = none := by
        obtain ⟨e, he⟩ := each 0 (by omega)
        have := he 0 _ hm (List.getElem?_eq_getElem (by rw [hf]; exact hm))
        simpa [Addr.add] using World.cell?_spot this
      subst hs
      have pick : ∀ n, n ≤ len → ∃ l : List α, l.length = n ∧ ∀ i e, l[i]? = some e → ∀ j u, j < m → (f e)[j]? = some u → w.cell? ⟨b, off + (i * m + j), none⟩ = some u := by
        intro n
        induction n with
        | zero => intro _; exact ⟨[], rfl, by simp⟩
        | succ n ih =>
          intro hn
          obtain ⟨l, hl1, hl3⟩ := ih (by omega)
          obtain ⟨e, he⟩ := each n (by omega)
          refine ⟨l ++ [e], by simp [hl1], fun i f' hf' j u hj hu => ?_⟩
          by_cases hi' : i < l.length
          · rw [List.getElem?_append_left hi'] at hf'
            exact hl3 i f' hf' j u hj hu
          · have h2 := (List.getElem?_eq_some_iff.1 hf').1
            have e1 : i = l.length := by simp at h2; omega
            subst e1
            have e2 : e = f' := by simpa using hf'
            subst e2
            have := he j u hj hu
            rw [add_none] at this
            rw [hl1]
            exact this
      obtain ⟨l, hl1, hl3⟩ := pick len (Nat.le_refl _)
      refine ⟨l, hl1, .inl (.inr ⟨b, off, cap, rfl, hl, hm', fun j u hu => ?_⟩)⟩
      have hj : j < l.length * m := by rw [← wide_length hf l]; exact (List.getElem?_eq_some_iff.1 hu).1
      obtain ⟨i, r, hr, rfl⟩ : ∃ i r, r < m ∧ j = i * m + r := ⟨j / m, j % m, Nat.mod_lt _ hm, by rw [Nat.mul_comm]; exact (Nat.div_add_mod j m).symm⟩
      have hil : i < l.length := by
        rcases Nat.lt_or_ge i l.length with h | h
        · exact h
        · have := Nat.mul_le_mul_right m h
          omega
      obtain ⟨e, he⟩ : ∃ e, l[i]? = some e := ⟨_, List.getElem?_eq_getElem hil⟩
      rw [wide_get hf l i r e he hr] at hu
      exact hl3 i e he r u hr hu
end
end Go.Proofs.YtbfmmndpboagdaaGreatDoor.He

namespace Go.Proofs.YtbfmmndpboagdaaGreatDoor.He
set_option maxRecDepth 20000
open Go.RowKit

section
variable {P : Program} (w : World)
theorem src_of_lay {size : Nat} {tx e' : TypeId} (hk : P.underlying tx = some (.slice e')) {x : Value} {m : Nat} {news : List Value} (hl : news.length = m * size) (hx : Lay w x m news) (h1 : ∀ u ∈ news, u.oneCell' = true) : Src P size tx x m news w := by
  rcases hx with (⟨rfl, rfl, rfl⟩ | ⟨g, o, c, rfl, _, _, hc⟩) | ⟨y, c, rfl, rfl, rfl, _⟩
  · exact Src.ofNil w hk 0
  · exact Src.ofSlice w hk ⟨g, o, none⟩ m c news hl (fun j u hu => by rw [add_none]; exact hc j u hu) h1
  · exact Src.ofSlice w hk y 0 c [] (by simp) (by simp) h1
theorem append_full (t ty e : TypeId) (i : TypeInfo) (z : Value) (size bytes : Nat) (ht : P.underlying t = some (.slice e)) (hi : P.info? e = some i) (hz : i.zero = some z)
    (hsize : i.size = size) (hby : i.bytes = bytes) (hzs : z.cells.size = size)
    (a : Option Addr) (n c : Nat) (olds : List Value) (hlo : olds.length = n * size) (hold : Lay w (.slice a n c) n olds)
    (x : Value) (m : Nat) (news : List Value) (hl : news.length = m * size) (hx : Lay w x m news) (h1 : ∀ u ∈ news, u.oneCell' = true)
    (hg : c < n + m) (h63 : n + m ≤ maxLen) (hbytes : (n + m) * bytes ≤ 140737488355328) :
    ∃ cap w', (Builtin.append_ #[t, t] ty #[.slice a n c, x]).run P w = .ok (.slice (some ⟨w.heap.size, 0, none⟩) (n + m) cap) w' ∧ w'.ownsRow w.heap.size e size (.slice (some ⟨w.heap.size, 0, none⟩) (n + m) cap) (n + m) (olds ++ news) ∧ Kept w w' := by
  subst hsize
  subst hby
  have hf : (Builtin.firstCells i.size n (.slice a n c)).run P w.drew = .ok olds.toArray w.drew := by
    rcases hold with (⟨e, rfl, rfl⟩ | ⟨g, o, c', e, _, _, hc⟩) | ⟨y, c', e, rfl, rfl, _⟩
    · cases e
      exact run_firstCells_none w.drew i.size 0 0 0
    · cases e
      exact run_firstCells_some w.drew i.size n ⟨g, o, none⟩ n c olds hlo (fun j u hu => by rw [add_none]; exact hc j u hu)
    · cases e
      exact run_firstCells_some w.drew i.size 0 y 0 c [] (by simp) (by simp)
  have hr := run_append_grow_src (P := P) w t t ty e i z ht hi hz a n c olds hf x m news (src_of_lay w ht hl hx h1) hg (by unfold maxLen at h63; omega) (growslice_fits (by omega) hbytes)
  have hge := grownCap_ge w (n + m) c e
  have hcm : grownCap w (n + m) c e ≤ maxLen := grownCap_le_maxLen w (n + m) c e h63
  have hlen : (olds ++ news).length = (n + m) * i.size := by rw [List.length_append, hlo, hl, Nat.add_mul]
  refine ⟨_, _, hr, ⟨hlen, .inr ⟨w.heap.size, _, _, rfl, Nat.le_refl _, heap_alloc_new w.drew _, hge, hcm, ?_, ?_⟩⟩, ((Kept.refl w).drew).alloc _ _⟩
  · simp only [Array.size_append, List.size_toArray, size_zeroCells, hzs, hlen, ← Nat.add_mul]
    congr 1
    omega
  · simp only [Array.toList_append]
    rw [← hlen]
    exact List.take_left
theorem step_append_run {ops : Array Oper} {o : Oper} {A : Act} {K : Act → World → Prop} {Q : Exit → Act → World → Prop} {E : Prop} (hgd : o.guard = none) (s x : Operand) (t : TypeId)
    (ho : o.op = .call { callee := .builtin .append, args := #[s, x], argTypes := #[t, t] }) {v y r : Value} {w' : World} (hr : (Builtin.append_ #[t, t] o.type #[v, y]).run P w = .ok r w') (hs : A.eval s = v) (hy : A.eval x = y)
    (h : K (A.put o.dst r) w') : if Region.wanted o (yielded ops A.tmps) = true then Oper.wp P o A w K Q else E := by
  have hw : Region.wanted o (yielded ops A.tmps) = true := by simp [Region.wanted, hgd]
  rw [if_pos hw]
  unfold Oper.wp execOp
  simp only [ho, resolve, invoke, builtin, Sem.run_bind, Sem.run_pure, Result.andThen_ok, List.map_toArray, List.map_cons, List.map_nil, hs, hy, hr]
  exact h
theorem step_append_full {ops : Array Oper} {o : Oper} {A : Act} {K : Act → World → Prop} {Q : Exit → Act → World → Prop} {E : Prop} (hgd : o.guard = none) (s y : Operand) (t : TypeId)
    (ho : o.op = .call { callee := .builtin .append, args := #[s, y], argTypes := #[t, t] })
    (e : TypeId) (i : TypeInfo) (z : Value) (size bytes : Nat) (ht : P.underlying t = some (.slice e)) (hi : P.info? e = some i) (hz : i.zero = some z)
    (hsize : i.size = size) (hby : i.bytes = bytes) (hzs : z.cells.size = size)
    (a : Option Addr) (n c : Nat) (olds : List Value) (hs : A.eval s = .slice a n c) (hlo : olds.length = n * size) (hold : Lay w (.slice a n c) n olds)
    (x : Value) (m : Nat) (news : List Value) (hy : A.eval y = x) (hl : news.length = m * size) (hx : Lay w x m news) (h1 : ∀ u ∈ news, u.oneCell' = true)
    (hg : c < n + m) (h63 : n + m ≤ maxLen) (hbytes : (n + m) * bytes ≤ 140737488355328)
    (h : ∀ b cap w', w'.ownsRow w.heap.size e size (.slice (some ⟨b, 0, none⟩) (n + m) cap) (n + m) (olds ++ news) → Kept w w' → K (A.put o.dst (.slice (some ⟨b, 0, none⟩) (n + m) cap)) w') :
    if Region.wanted o (yielded ops A.tmps) = true then Oper.wp P o A w K Q else E := by
  obtain ⟨cap, w', hr, h2, h3⟩ := append_full (P := P) w t o.type e i z size bytes ht hi hz hsize hby hzs a n c olds hlo hold x m news hl hx h1 hg h63 hbytes
  exact step_append_run w hgd s y t ho hr hs hy (h _ _ _ h2 h3)
theorem wpList_append_full {ops : Array Oper} {rest : List Oper} {o : Oper} {A : Act} {Q : Exit → Act → World → Prop} (hgd : o.guard = none) (s y : Operand) (t : TypeId)
    (ho : o.op = .call { callee := .builtin .append, args := #[s, y], argTypes := #[t, t] })
    (e : TypeId) (i : TypeInfo) (z : Value) (size bytes : Nat) (ht : P.underlying t = some (.slice e)) (hi : P.info? e = some i) (hz : i.zero = some z)
    (hsize : i.size = size) (hby : i.bytes = bytes) (hzs : z.cells.size = size)
    (a : Option Addr) (n c : Nat) (olds : List Value) (hs : A.eval s = .slice a n c) (hlo : olds.length = n * size) (hold : Lay w (.slice a n c) n olds)
    (x : Value) (m : Nat) (news : List Value) (hy : A.eval y = x) (hl : news.length = m * size) (hx : Lay w x m news) (h1 : ∀ u ∈ news, u.oneCell' = true)
    (hg : c < n + m) (h63 : n + m ≤ maxLen) (hbytes : (n + m) * bytes ≤ 140737488355328)
    (h : ∀ b cap w', w'.ownsRow w.heap.size e size (.slice (some ⟨b, 0, none⟩) (n + m) cap) (n + m) (olds ++ news) → Kept w w' → wpList P ops Q rest (A.put o.dst (.slice (some ⟨b, 0, none⟩) (n + m) cap)) w') : wpList P ops Q (o :: rest) A w := by
  obtain ⟨cap, w', hr, h2, h3⟩ := append_full (P := P) w t o.type e i z size bytes ht hi hz hsize hby hzs a n c olds hlo hold x m news hl hx h1 hg h63 hbytes
  refine wpList_plain hgd fun K hK => ?_
  unfold Oper.wp execOp
  simp only [ho, resolve, invoke, builtin, Sem.run_bind, Sem.run_pure, Result.andThen_ok, List.map_toArray, List.map_cons, List.map_nil, hs, hy, hr]
  exact hK _ _ (h _ _ _ h2 h3)
theorem step_append_lay {ops : Array Oper} {o : Oper} {A : Act} {K : Act → World → Prop} {Q : Exit → Act → World → Prop} {E : Prop} (hgd : o.guard = none) (s y : Operand) (t : TypeId)
    (ho : o.op = .call { callee := .builtin .append, args := #[s, y], argTypes := #[t, t] })
    (base : Nat) (e : TypeId) (i : TypeInfo) (z : Value) (size bytes : Nat) (ht : P.underlying t = some (.slice e)) (hi : P.info? e = some i) (hz : i.zero = some z)
    (hsize : i.size = size) (hby : i.bytes = bytes) (hzs : z.cells.size = size) (hsz : 0 < size)
    (v : Value) (n : Nat) (xs : List Value) (hs : A.eval s = v) (hown : w.ownsRow base e size v n xs)
    (x : Value) (m : Nat) (news : List Value) (hy : A.eval y = x) (hl : news.length = m * size) (hx : Lay w x m news) (h1 : ∀ u ∈ news, u.oneCell' = true)
    (h63 : n + m ≤ maxLen) (hbytes : (n + m) * bytes ≤ 140737488355328) (hbase : base ≤ w.heap.size)
    (h : ∀ a c w', w'.ownsRow base e size (.slice a (n + m) c) (n + m) (xs ++ news) → But (fun k => v.ownBlock = some k) w w' →
      ((Value.slice a (n + m) c).ownBlock = v.ownBlock ∨ (Value.slice a (n + m) c).ownBlock = some w.heap.size) → K (A.put o.dst (.slice a (n + m) c)) w') :
    if Region.wanted o (yielded ops A.tmps) = true then Oper.wp P o A w K Q else E := by
  have hw : Region.wanted o (yielded ops A.tmps) = true := by simp [Region.wanted, hgd]
  rw [if_pos hw]
  exact wp_append_lay w s y t ho base e i z size bytes ht hi hz hsize hby hzs hsz v n xs hs hown x m news hy hl hx h1 h63 hbytes hbase h
end

theorem _root_.Go.Proofs.YtbfmmndpboagdaaGreatDoor.Kept.wrote_He {S : Nat → Prop} {w w1 w2 : World} (k : Kept w w1) (b : But S w1 w2) (h : ∀ j, S j → w.heap.size ≤ j) : Kept w w2 :=
  ((k.but S).trans b (fun _ _ h => h)).kept (fun j hj hS => by have := h j hS; omega)
theorem _root_.Go.Proofs.YtbfmmndpboagdaaGreatDoor.Kept.wrote1_He {w w1 w2 : World} {n : Nat} (k : Kept w w1) (b : But (fun j => j = n) w1 w2) (h : w.heap.size ≤ n) : Kept w w2 := k.wrote_He b (fun j e => by subst e; exact h)

section
variable (a : Option Addr) (n c m : Nat)
theorem elemI : Tryz.prog.elem 65 = 90 := by kernel_rfl
theorem run_head3 (hm : m ≤ c) (w : World) : (Instr.slice 65 (.slice a n c) none (some (.int .i64 m)) (some (.int .i64 m))).run Tryz.prog w = .ok (.slice a m m) w := by
  obtain ⟨i0, hi, hz0, hz1, hz2⟩ := info_parts infoI
  rw [run_slice_any (w := w) 65 a n c (by rw [elemI]; exact Tryz.underlying65)]
  by_cases h0 : m = 0
  · subst h0
    simp [Instr.sliceBounds, Instr.sliceBound, asIntOf, elemI, sizeOf, typeInfo, hi, sliced, Result.andThen]
  · simp [Instr.sliceBounds, Instr.sliceBound, asIntOf, hm, elemI, sizeOf, typeInfo, hi, sliced, Result.andThen, h0, Addr.add]
theorem run_tail (hm : m ≤ n) (w : World) : (Instr.slice 65 (.slice a n c) (some (.int .i64 m)) none none).run Tryz.prog w = .ok (.slice (if c = m then a else a.map (·.add (m * 2))) (n - m) (c - m)) w := by
  obtain ⟨i0, hi, hz0, hz1, hz2⟩ := info_parts infoI
  rw [run_slice_any (w := w) 65 a n c (by rw [elemI]; exact Tryz.underlying65)]
  simp [Instr.sliceBounds, Instr.sliceBound, asIntOf, hm, elemI, sizeOf, typeInfo, hi, hz1, sliced, Result.andThen]
theorem run_tail3 (hm : m ≤ n) (hn : n ≤ c) (w : World) : (Instr.slice 65 (.slice a n c) (some (.int .i64 m)) (some (.int .i64 n)) (some (.int .i64 n))).run Tryz.prog w = .ok (.slice (if n = m then a else a.map (·.add (m * 2))) (n - m) (n - m)) w := by
  obtain ⟨i0, hi, hz0, hz1, hz2⟩ := info_parts infoI
  rw [run_slice_any (w := w) 65 a n c (by rw [elemI]; exact Tryz.underlying65)]
  simp [Instr.sliceBounds, Instr.sliceBound, asIntOf, hm, hn, elemI, sizeOf, typeInfo, hi, hz1, sliced, Result.andThen]
end

def RetL (w : World) (n : Nat) (l : List It) (ed : Ending) (w' : World) : Prop := ∃ a c, ed = .returned (.slice a n c) ∧ Kept w w' ∧ w'.ownsRow w.heap.size 90 2 (.slice a n c) n (flatI l)
def RetI (w : World) (l : List It) (ed : Ending) (w' : World) : Prop := ∃ a c, ed = .returned (.slice a l.length c) ∧ Kept w w' ∧ OwnI w' w.heap.size (.slice a l.length c) l
end Go.Proofs.YtbfmmndpboagdaaGreatDoor.He

namespace Go.Proofs.YtbfmmndpboagdaaGreatDoor.He
set_option maxRecDepth 20000
open Go.RowKit

set_option maxHeartbeats 1000000 in
theorem fresh_any {w : World} {v : Value} {l : List It} (h : Lay w v l.length (flatI l)) (hl : l.length ≤ 100000) : Calls Tryz.prog 47 #[v] w (RetI w l) := by
  obtain ⟨i0, hi0, hz0, hz1, hz2⟩ := info_parts infoI
  have L := Lib.hid h
  clear h
  go_enter Tryz.func47, Tryz.ntmps47
  go_wp2_with (at_builtin; refine wpList_append_lay _ rfl _ _ _ rfl w.heap.size 90 i0 _ 2 16 Tryz.underlying65 hi0 hz0 hz1 hz2 (by rfl) (by decide) (.slice none 0 0) 0 [] (by simp [Act.eval]) (World.ownsRow_nil _ _ _ _) _ l.length (flatI l) (by simp [Act.eval]) (flatI_length l) L.out (flatI_one _) (by unfold maxLen; omega) (by omega) (Nat.le_refl _) ?_; rintro a' c' w2 own2 but2 at2)
  go_ret
  refine ⟨a', c', by simp, ?_, ?_⟩
  · exact but2.kept (fun k hk e => by simp [Value.ownBlock] at e)
  · simpa using own2

def put1 (p : Nat) (x : It) (l : List It) : List It := l.take p ++ x :: l.drop p
set_option maxHeartbeats 4000000 in
theorem with_any {w : World} {a : Option Addr} {c p n : Nat} {x : It} {l : List It} (h : Lay w (.slice a n c) n (flatI l)) (hn : n = l.length) (hp : p ≤ n) (hl : n ≤ 100000) :
    Calls Tryz.prog 101 #[.slice a n c, .int .i64 p, .agg #[.int .u64 x.k, .int .i64 x.a]] w (RetL w (n + 1) (put1 p x l)) := by
  obtain ⟨i0, hi0, hz0, hz1, hz2⟩ := info_parts infoI
  obtain ⟨a', c', e, hnc, hcm⟩ := h.form
  cases e
  have hnil := h.nil_cap_He
  have s1 := run_head3 a n c p (by omega)
  have s2 := run_tail a n c p hp
  obtain ⟨A2, hA2⟩ : ∃ A2, (if c = p then a else a.map (·.add (p * 2))) = A2 := ⟨_, rfl⟩
  obtain ⟨W0, hW0⟩ : ∃ W0, w.alloc (.cells #[.int .u64 x.k, .int .i64 x.a] 90) = W0 := ⟨_, rfl⟩
  have k0 : Kept w W0 := by rw [← hW0]; exact (Kept.refl w).alloc _ _
  have H1 := Lib.hid ((h.first_He (m := p) (d := p) hp (Nat.le_refl _) (by omega) (fun e => by have := hnil e; omega)).kept k0)
  have H2 := Lib.hid (show Lay W0 (.slice A2 (n - p) (c - p)) (n - p) (flatI (l.drop p)) by rw [← hA2]; exact (h.tail_He hn hp hnc hcm hnil).kept k0)
  have b0 : W0.cell? ⟨w.heap.size, 0, none⟩ = some (.int .u64 x.k) := by rw [← hW0]; exact cell_new _ _ _ _ 0 rfl
  have b1 : W0.cell? ⟨w.heap.size, 1, none⟩ = some (.int .i64 x.a) := by rw [← hW0]; exact cell_new _ _ _ _ 1 rfl
  rw [hA2] at s2
  have HW := Lib.hid hW0
  have K0 := Lib.hid k0
  have HN := Lib.hid hn
  clear hW0 hA2 h hnil k0 hn
  go_enter Tryz.func101, Tryz.ntmps101
  go_upto_region 1 with fail
  rw [HW.out]
  have HM := Lib.hid (show ∀ k, k ≤ 100001 → k ≤ maxLen from fun k h => by unfold maxLen; omega)
  have hz0' : W0.heap.size = w.heap.size + 1 := by rw [← HW.out]; simp
  have HZ := Lib.hid hz0'
  clear hz0'
  go_region_law (first
    | (refine step_append_full _ (by rfl) (.tmp 10) (.tmp 12) _ (by rfl) 90 i0 _ 2 16 Tryz.underlying65 hi0 hz0 hz1 hz2 (by rfl) a p p (flatI (l.take p)) (by simp [Act.eval]) (by rw [flatI_length, List.length_take, ← HN.out, Nat.min_eq_left hp]) (H1.out.kept (by repeat (first | with_reducible exact Kept.refl _ | with_reducible refine Kept.alloc ?_ _ _ | with_reducible refine Kept.drew ?_))) (.slice (some ⟨W0.heap.size, 0, none⟩) 1 1) 1 (flatI [x]) (by simp [Act.eval]) (by rfl) (lay_new (heap_alloc_new _ _) (by decide)) (flatI_one _) (by omega) (HM.out _ (by omega)) (by omega) ?_
       intro b1 c1 w1 own1 k1
       have k01 : Kept W0 w1 := (((Kept.refl W0).drew).alloc _ _).trans k1
       have own1' := own_mono own1 (show W0.heap.size ≤ (World.alloc W0.drew (.cells #[.int .u64 x.k, .int .i64 x.a] 90)).heap.size by simp)
       have K01 := Lib.hid k01
       have O1 := Lib.hid own1'
       clear k01 k1 own1 own1')
    | (refine step_append_lay _ (by rfl) (.tmp 13) (.tmp 16) _ (by rfl) W0.heap.size 90 i0 _ 2 16 Tryz.underlying65 hi0 hz0 hz1 hz2 (by rfl) (by decide) _ (p + 1) (flatI (l.take p) ++ flatI [x]) (by simp [Act.eval]) O1.out (.slice A2 (n - p) (c - p)) (n - p) (flatI (l.drop p)) (by simp [Act.eval]) (by rw [flatI_length, List.length_drop, ← HN.out]) (H2.out.kept K01.out) (flatI_one _) (HM.out _ (by omega)) (by omega) K01.out.size ?_
       intro a2 c2 w2 own2 but2 at2
       have K02 := Lib.hid (K01.out.wrote_He but2 (fun g hg => (O1.out.lt g hg).1))
       have O2 := Lib.hid own2
       clear own2 but2 at2))
  go_wp2
  go_ret
  have e : p + 1 + (n - p) = n + 1 := by omega
  have o2 := O2.out
  rw [← flatI_append, ← flatI_append] at o2
  rw [e] at o2 ⊢
  refine ⟨a2, c2, rfl, K0.out.trans K02.out, ?_⟩
  have := own_mono o2 (show w.heap.size ≤ W0.heap.size by rw [HZ.out]; omega)
  simpa [put1] using this
end Go.Proofs.YtbfmmndpboagdaaGreatDoor.He

namespace Go.Proofs.YtbfmmndpboagdaaGreatDoor.He
set_option maxRecDepth 20000
open Go.RowKit

theorem ret_int {k : IntKind} {a b : Int} (h : a = b) : Ending.returned (.int k a) = .returned (.int k b) := by rw [h]
theorem ret_at {a b : Int} {x y : Bool} (h : a = b) (h' : x = y) : Ending.returned (.tuple #[.int .i64 a, .bool x]) = .returned (.tuple #[.int .i64 b, .bool y]) := by rw [h, h']
theorem nan_any (x : Int) (w : World) : Calls Tryz.prog 116 #[.int .u64 x] w fun e w' => e = .returned (.bool false) ∧ w = w' := by
  go_enter Tryz.func116, Tryz.ntmps116
  go_wp2
  go_ret
  exact ⟨by simp, rfl⟩
def cmpI (a b : Int) : Int := if a < b then -1 else if b < a then 1 else 0
set_option maxHeartbeats 1000000 in
theorem compare_any (a b : Int) (w : World) : Calls Tryz.prog 111 #[.int .u64 a, .int .u64 b] w fun e w' => e = .returned (.int .i64 (cmpI a b)) ∧ w = w' := by
  unfold cmpI
  by_cases h1 : a < b
  · rw [if_pos h1]
    go_enter Tryz.func111, Tryz.ntmps111
    go_wp2_with fail; refine (nan_any _ _).mono ?_; rintro e v1 ⟨rfl, rfl⟩
    go_wp2_with fail; refine (nan_any _ _).mono ?_; rintro e v1 ⟨rfl, rfl⟩
    go_wp2
    go_ret
    exact ⟨rfl, rfl⟩
  rw [if_neg h1]
  by_cases h2 : b < a
  · rw [if_pos h2]
    go_enter Tryz.func111, Tryz.ntmps111
    go_wp2_with fail; refine (nan_any _ _).mono ?_; rintro e v1 ⟨rfl, rfl⟩
    go_wp2_with fail; refine (nan_any _ _).mono ?_; rintro e v1 ⟨rfl, rfl⟩
    go_wp2
    go_ret
    exact ⟨rfl, rfl⟩
  · rw [if_neg h2]
    go_enter Tryz.func111, Tryz.ntmps111
    go_wp2_with fail; refine (nan_any _ _).mono ?_; rintro e v1 ⟨rfl, rfl⟩
    go_wp2_with fail; refine (nan_any _ _).mono ?_; rintro e v1 ⟨rfl, rfl⟩
    go_wp2
    go_ret
    exact ⟨rfl, rfl⟩
theorem byKey_any (x : It) (key : Int) (w : World) : Calls Tryz.prog 100 #[.agg #[.int .u64 x.k, .int .i64 x.a], .int .u64 key] w fun e w' => e = .returned (.int .i64 (cmpI x.k key)) ∧ Kept w w' := by
  go_enter Tryz.func100, Tryz.ntmps100
  go_wp2_with fail; refine (compare_any _ _ _).mono ?_; rintro e v1 ⟨rfl, rfl⟩
  go_wp2
  go_ret
  exact ⟨rfl, by (go_light; repeat (first | (with_reducible exact Kept.refl _) | (with_reducible assumption) | (with_reducible refine Kept.alloc ?_ _ _) | (with_reducible refine Kept.drew ?_) | (with_reducible refine Kept.drewN ?_ _) | ((with_reducible refine Kept.setCell ?_ ?_ _); rotate_left; focus (first | (simp; done) | (simp; omega))) | refine Kept.trans ?_ (by assumption)))⟩
theorem byKey_at {x : It} {key c : Int} {w : World} (h : cmpI x.k key = c) : Calls Tryz.prog 100 #[.agg #[.int .u64 x.k, .int .i64 x.a], .int .u64 key] w fun e w' => e = .returned (.int .i64 c) ∧ Kept w w' := by
  subst h; exact byKey_any x key w

structure SrAt (l : List It) (key : Int) (f t n : Nat) : Prop where
  le : f ≤ t
  tn : t ≤ n
  lo : ∀ i x, i < f → l[i]? = some x → x.k < key
  hi : ∀ i x, t ≤ i → l[i]? = some x → ¬ x.k < key
def SrRel (w : World) (l : List It) (key : Int) (n : Nat) (a b : Value) (wr : World) : Prop := ∃ f t : Nat, a = .int .i64 f ∧ b = .int .i64 t ∧ SrAt l key f t n ∧ Kept w wr
theorem SrAt.up {l : List It} {key : Int} {f t n m : Nat} {x : It} (h : SrAt l key f t n) (ha : asc l = true) (hm : m < t) (hx : l[m]? = some x) (hk : x.k < key) : SrAt l key (m + 1) t n :=
  ⟨hm, h.tn, fun i y hi hy => by
    by_cases e : i = m
    · subst e; rw [hx] at hy; cases hy; exact hk
    · have := asc_lt ha hy hx (by omega); omega, h.hi⟩
theorem SrAt.down {l : List It} {key : Int} {f t n m : Nat} {x : It} (h : SrAt l key f t n) (ha : asc l = true) (hm : f ≤ m) (hmt : m < t) (hx : l[m]? = some x) (hk : ¬ x.k < key) : SrAt l key f m n :=
  ⟨hm, by have := h.tn; omega, h.lo, fun i y hi hy => by
    by_cases e : i = m
    · subst e; rw [hx] at hy; cases hy; exact hk
    · have := asc_lt ha hx hy (by omega); omega⟩
theorem SrAt.done {l : List It} {key : Int} {f n : Nat} (h : SrAt l key f f n) (hn : n = l.length) : pl key l = f :=
  pl_eq h.lo (fun x hx => h.hi f x (Nat.le_refl _) hx) (by have := h.tn; omega)

set_option maxHeartbeats 4000000 in
theorem search_any {w : World} {a : Option Addr} {c n : Nat} {l : List It} (key : Int) (h : Lay w (.slice a n c) n (flatI l)) (hn : n = l.length) (ha : asc l = true) :
    Calls Tryz.prog 99 #[.slice a n c, .int .u64 key, .func (.func 100) #[] #[]] w fun e w' => e = .returned (.tuple #[.int .i64 (pl key l), .bool (hs key l)]) ∧ Kept w w' := by
  obtain ⟨a', c', e, hnc, hcm⟩ := h.form
  cases e
  unfold maxLen at hcm
  have HL := Lib.hid h
  have HN := Lib.hid hn
  have HA := Lib.hid ha
  have CE := Lib.hid (fun i x (W : World) (k : Kept w W) (hi : l[i]? = some x) => show ∃ g o, a = some ⟨g, o, none⟩ ∧ ItAt W g (o + i * 2) x by
    have hl := h.kept k
    have := (List.getElem?_eq_some_iff.1 hi).1
    rw [hn] at hl
    obtain ⟨g, o, c', e, _, _, hc⟩ := hl.it_He (by omega)
    cases e
    exact ⟨g, o, rfl, hc i x hi⟩)
  obtain ⟨Pl, hPl⟩ : ∃ Pl, pl key l = Pl := ⟨_, rfl⟩
  obtain ⟨Hs, hHs⟩ : ∃ Hs, hs key l = Hs := ⟨_, rfl⟩
  have HP := Lib.hid hPl
  have HH := Lib.hid hHs
  rw [hPl, hHs]
  clear h hn ha hPl hHs
  go_enter Tryz.func99, Tryz.ntmps99
  go_wp2
  go_loopw [8, 9] (fun a b wr => SrRel w l key n a b wr) (fun a b _ => (intOf b).toNat - (intOf a).toNat)
  case atStart => exact ⟨0, n, rfl, rfl, ⟨Nat.zero_le _, Nat.le_refl _, fun i x hi => by omega, fun i x hi hx => by have := (List.getElem?_eq_some_iff.1 hx).1; have := HN.out; omega⟩, Kept.refl _⟩
  case round =>
    obtain ⟨f, t, rfl, rfl, hs, hk⟩ := hrel
    have KE := Lib.hid hk
    have HS := Lib.hid hs
    have h1 := hs.le
    have h2 := hs.tn
    clear hk hs
    by_cases hlt : f < t
    · obtain ⟨m, hm⟩ : ∃ m, m = f + (t - f) / 2 := ⟨_, rfl⟩
      have m1 : f ≤ m := by omega
      have m2 : m < t := by omega
      have m3 : (f : Int) + ((t : Int) - (f : Int)) / 2 = (m : Int) := by omega
      obtain ⟨x, hx⟩ : ∃ x, l[m]? = some x := ⟨_, List.getElem?_eq_getElem (by rw [← HN.out]; omega)⟩
      obtain ⟨g, o, rfl, c0, c1⟩ := CE.out m x wr KE.out hx
      have HX := Lib.hid hx
      clear hm hx
      by_cases hk : x.k < key
      · have BK := Lib.hid (show cmpI x.k key = -1 by unfold cmpI; rw [if_pos hk])
        have HK := Lib.hid hk
        clear hk
        go_wp2_with fail; refine (byKey_at BK.out).mono ?_; rintro e v1 ⟨rfl, k1⟩
        have K1 := Lib.hid (KE.out.trans k1)
        clear k1
        go_wp2
        go_roundw
        case rel => exact ⟨m + 1, t, by go_num, rfl, HS.out.up HA.out m2 HX.out HK.out, K1.out⟩
        case measure => simp [intOf]; omega
      · have BK := Lib.hid (show cmpI x.k key = (if key < x.k then 1 else 0) by unfold cmpI; rw [if_neg hk])
        obtain ⟨d, hd⟩ : ∃ d : Int, (if key < x.k then 1 else 0) = d := ⟨_, rfl⟩
        have hd0 : ¬ d < 0 := by rw [← hd]; split <;> decide
        rw [hd] at BK
        have HK := Lib.hid hk
        clear hk hd
        go_wp2_with fail; refine (byKey_at BK.out).mono ?_; rintro e v1 ⟨rfl, k1⟩
        have K1 := Lib.hid (KE.out.trans k1)
        clear k1
        go_wp2
        go_roundw
        case rel => exact ⟨f, m, rfl, rfl, HS.out.down HA.out m1 m2 HX.out (by have := HK.out; omega), K1.out⟩
        case measure => simp [intOf]; omega
    · obtain rfl : f = t := by omega
      have hp := HS.out.done HN.out
      have hq := hp.symm.trans HP.out
      have HF := Lib.hid (show (f : Int) = Pl by omega)
      by_cases hf : f < n
      · obtain ⟨x, hx⟩ : ∃ x, l[f]? = some x := ⟨_, List.getElem?_eq_getElem (by rw [← HN.out]; omega)⟩
        obtain ⟨g, o, rfl, c0, c1⟩ := CE.out f x wr KE.out hx
        have hh := hs_some (key := key) (l := l) (x := x) (by rw [hp]; exact hx)
        have hk := HS.out.hi f x (Nat.le_refl _) hx
        have BK := Lib.hid (show cmpI x.k key = (if key < x.k then 1 else 0) by unfold cmpI; rw [if_neg hk])
        obtain ⟨d, hd⟩ : ∃ d : Int, (if key < x.k then 1 else 0) = d := ⟨_, rfl⟩
        have HD := Lib.hid (show (d == 0) = Hs by
          rw [← HH.out, hh, ← hd]
          by_cases h : key < x.k
          · rw [if_pos h]; simp; omega
          · rw [if_neg h]; simp; omega)
        rw [hd] at BK
        clear hk hd hp hh hx hq
        go_wp2_with fail; refine (byKey_at BK.out).mono ?_; rintro e v1 ⟨rfl, k1⟩
        go_wp2
        go_ret2
        exact ⟨ret_at HF.out HD.out, KE.out.trans k1⟩
      · have HD := Lib.hid (show false = Hs by rw [← HH.out, hs_none (key := key) (l := l) (by rw [hp, ← HN.out]; omega)])
        clear hp hq
        go_wp2
        go_ret2
        exact ⟨ret_at HF.out HD.out, KE.out⟩

def CkRel (w : World) (l : List It) (n : Nat) (i : Value) (wr : World) : Prop := ∃ k : Nat, 1 ≤ k ∧ i = .int .i64 k ∧ (∀ j x y, j + 1 < k → l[j]? = some x → l[j + 1]? = some y → x.k < y.k) ∧ (∃ q, wr = w.drewN q) ∧ k ≤ n + 1
set_option maxHeartbeats 4000000 in
theorem check_any {w : World} {a : Option Addr} {c n : Nat} {l : List It} (h : Lay w (.slice a n c) n (flatI l)) (hn : n = l.length) :
    Calls Tryz.prog 77 #[.slice a n c] w fun e w' => e = .returned (.int .i64 (chk l)) ∧ Kept w w' := by
  obtain ⟨a', c', e, hnc, hcm⟩ := h.form
  cases e
  unfold maxLen at hcm
  by_cases h1024 : 1024 < n
  · have hc : chk l = 7 := by unfold chk; rw [← hn, if_pos h1024]
    rw [hc]
    clear h hn hc
    go_enter Tryz.func77, Tryz.ntmps77
    go_wp2
    go_ret
    exact ⟨rfl, Kept.refl _⟩
  have HC := Lib.hid (show chk l = if asc l = true then 0 else 9 by unfold chk; rw [← hn, if_neg h1024])
  have CE := Lib.hid (fun i x (hi : l[i]? = some x) => show ∃ g o, a = some ⟨g, o, none⟩ ∧ ItAt w g (o + i * 2) x by
    have hl := h
    have := (List.getElem?_eq_some_iff.1 hi).1
    rw [hn] at hl
    obtain ⟨g, o, c', e, _, _, hc⟩ := hl.it_He (by omega)
    cases e
    exact ⟨g, o, rfl, hc i x hi⟩)
  have HN := Lib.hid hn
  obtain ⟨r, hr⟩ : ∃ r, chk l = r := ⟨_, rfl⟩
  rw [hr] at HC ⊢
  clear h hn hr
  go_enter Tryz.func77, Tryz.ntmps77
  go_wp2
  go_loopw [3] (fun i wr => CkRel w l n i wr) (fun i _ => n + 1 - (intOf i).toNat)
  case atStart => exact ⟨1, Nat.le_refl _, rfl, fun j x y hj => by omega, ⟨0, rfl⟩, by omega⟩
  case round =>
    obtain ⟨k, hk1, rfl, hlo, ⟨q, rfl⟩, hkn⟩ := hrel
    have LO := Lib.hid hlo
    clear hlo
    by_cases hlt : k < n
    · obtain ⟨j, rfl⟩ : ∃ j, k = j + 1 := ⟨k - 1, by omega⟩
      obtain ⟨x, hx⟩ : ∃ x, l[j]? = some x := ⟨_, List.getElem?_eq_getElem (by rw [← HN.out]; omega)⟩
      obtain ⟨y, hy⟩ : ∃ y, l[j + 1]? = some y := ⟨_, List.getElem?_eq_getElem (by rw [← HN.out]; omega)⟩
      obtain ⟨g, o, rfl, c0, c1⟩ := CE.out j x hx
      obtain ⟨g', o', e, d0, d1⟩ := CE.out (j + 1) y hy
      cases e
      have HX := Lib.hid hx
      have HY := Lib.hid hy
      clear hx hy c1 d1
      have ej : ((j + 1 : Nat) : Int) - 1 = (j : Int) := by omega
      by_cases hk : x.k < y.k
      · have b1 : decide (x.k ≥ y.k) = false := by simp; omega
        go_wp2
        go_quiet (fail)
        go_wp2
        go_roundw
        case rel => exact ⟨j + 2, by omega, by go_num, fun i u v hi hu hv => by
          by_cases e : i = j
          · subst e; have h1 := HX.out; have h2 := HY.out; rw [hu] at h1; rw [hv] at h2; cases h1; cases h2; exact hk
          · exact LO.out i u v (by omega) hu hv, ⟨q + nq, rfl⟩, by omega⟩
        case measure => simp [intOf]; omega
      · have b1 : decide (x.k ≥ y.k) = true := by simp; omega
        have HR := Lib.hid (show (9 : Int) = r by rw [HC.out, asc_no HX.out HY.out hk]; rfl)
        go_wp2
        go_quiet (fail)
        go_wp2
        go_ret
        exact ⟨ret_int HR.out, ((Kept.refl _).drewN _).drewN _⟩
    · have HR := Lib.hid (show (0 : Int) = r by
        rw [HC.out, if_pos ((asc_iff l).2 fun i x y hx hy => LO.out i x y (by have := (List.getElem?_eq_some_iff.1 hy).1; have := HN.out; omega) hx hy)])
      go_wp2
      go_ret
      exact ⟨ret_int HR.out, (Kept.refl _).drewN _⟩
end Go.Proofs.YtbfmmndpboagdaaGreatDoor.He

namespace Go.Proofs.YtbfmmndpboagdaaGreatDoor.He
set_option maxRecDepth 20000
open Go.RowKit

theorem chk_at {w : World} {a : Option Addr} {c n : Nat} {l : List It} {z : Int} (h : Lay w (.slice a n c) n (flatI l)) (hn : n = l.length) (hz : chk l = z) :
    Calls Tryz.prog 77 #[.slice a n c] w fun e w' => e = .returned (.int .i64 z) ∧ Kept w w' := by
  subst hz; exact check_any h hn
theorem fresh_n {w : World} {a : Option Addr} {n c : Nat} {l : List It} (h : Lay w (.slice a n c) n (flatI l)) (hn : n = l.length) (hl : n ≤ 100000) : Calls Tryz.prog 47 #[.slice a n c] w (RetL w n l) := by
  subst hn; exact fresh_any h hl
end Go.Proofs.YtbfmmndpboagdaaGreatDoor.He
