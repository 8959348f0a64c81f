/- An arena in numbers: what each step of an Alloc and of a Free does. Plain mathematics. -/
import Derived.Test.YtejiogggocnldaaGreatG06
import Derived.Test.YtejiogggocnldaaGreatG00
set_option linter.unusedVariables false
set_option linter.unusedSimpArgs false

namespace Go.Proofs.YtejiogggocnldaaGreat.Sk
open Go.RowKit
open Wo (St acc wordAt)

structure Arn where
  F : Stk
  G : Int
  V : Int
  L : Int

def gen (w : Int) : Int := w % 4294967296
def refW (i g : Int) : Int := i + 1 + g * 65536

structure AOp where
  line : Nat
  q : Op
  r : Int
  er : Int
def AOp.new : AOp := ⟨0, Op.new, 0, 14⟩

def alSt (n : Nat) (A : Arn) (s : St) (x : AOp) : St :=
  if x.line = 0 then popSt n A.F s x.q
  else if x.line = 1 then acc n s 1 (A.G + idx A.F.N x.q.W) false 0
  else if x.line = 2 then acc n s 1 A.V false 0
  else s
def alPop (A : Arn) (q : Op) : AOp := ⟨if q.line = 9 then (if idx A.F.N q.W < 0 then 2 else 1) else 0, q, 0, 14⟩
def alOp (n : Nat) (A : Arn) (s : St) (x : AOp) : AOp :=
  if x.line = 0 then alPop A (popOp n A.F s x.q)
  else if x.line = 1 then ⟨9, x.q, refW (idx A.F.N x.q.W) (gen (wordAt n s (A.G + idx A.F.N x.q.W))), 0⟩
  else if x.line = 2 then ⟨9, x.q, 0, if A.F.N ≤ wordAt n s A.V then 12 else 7⟩
  else x

structure FOp where
  line : Nat
  q : Op
  g : Int
  er : Int
def FOp.new : FOp := ⟨0, Op.new, 0, 14⟩
def FOp.bad : FOp := ⟨9, Op.over, 0, 3⟩

def frSt (n : Nat) (A : Arn) (i : Int) (s : St) (x : FOp) : St :=
  if x.line = 0 then acc n s 1 (A.G + i) false 0
  else if x.line = 1 then acc n s 2 (A.G + i) true ((x.g + 1) % 18446744073709551616)
  else if x.line = 2 then pushSt n A.F i s x.q
  else if x.line = 3 then acc n s 4 A.V true (IntKind.u64.wrap (wordAt n s A.V + 1))
  else s
def frPush (q : Op) (g : Int) : FOp := ⟨if q.line = 9 then 9 else 2, q, g, if q.line = 9 then 0 else 14⟩
def frOp (n : Nat) (A : Arn) (i : Int) (s : St) (x : FOp) : FOp :=
  if x.line = 0 then ⟨if A.L ≤ gen (wordAt n s (A.G + i)) then 3 else 1, x.q, wordAt n s (A.G + i), 14⟩
  else if x.line = 1 then ⟨2, x.q, x.g, 14⟩
  else if x.line = 2 then frPush (pushOp n A.F s x.q) x.g
  else if x.line = 3 then ⟨9, x.q, x.g, 0⟩
  else x

structure Arn.Ok (A : Arn) (n : Nat) : Prop where
  F : A.F.Ok n
  L1 : 1 ≤ A.L
  L2 : A.L ≤ 4294967295
  G1 : 0 ≤ A.G
  G2 : A.G + A.F.N ≤ n
  V1 : 0 ≤ A.V
  V2 : A.V < n

structure AGood (A : Arn) (x : AOp) : Prop where
  q : x.q.Good
  l : lines x.q
  t : took A.F x.q
  c : (x.line = 0 ∧ x.q.line ≠ 9 ∧ x.r = 0 ∧ x.er = 14) ∨ (x.line = 1 ∧ x.q.line = 9 ∧ 0 ≤ idx A.F.N x.q.W ∧ x.r = 0 ∧ x.er = 14) ∨ (x.line = 2 ∧ x.q.line = 9 ∧ idx A.F.N x.q.W < 0 ∧ x.r = 0 ∧ x.er = 14) ∨ (x.line = 9 ∧ x.er ≠ 14)
structure FGood (A : Arn) (i : Int) (x : FOp) : Prop where
  q : x.q.Good
  l : lines x.q
  g0 : 0 ≤ x.g
  g1 : x.g < 18446744073709551616
  c : ((x.line = 0 ∨ x.line = 1 ∨ x.line = 2 ∨ x.line = 3) ∧ x.q.line ≠ 9 ∧ x.er = 14 ∧ 0 ≤ i ∧ i < A.F.N) ∨ (x.line = 9 ∧ x.er ≠ 14)

theorem gen_lo (w : Int) : 0 ≤ gen w := by unfold gen; omega
theorem gen_hi (w : Int) : gen w < 4294967296 := by unfold gen; omega
theorem refW_lo (i g : Int) (hi : 0 ≤ i) (hg : 0 ≤ g) : 0 ≤ refW i g := by unfold refW; omega
theorem refW_hi (i g : Int) (hi : i ≤ 65534) (hg : g < 4294967296) : refW i g < 18446744073709551616 := by unfold refW; omega

theorem new_good (A : Arn) : AGood A AOp.new := ⟨⟨by decide, by decide, by decide, by decide⟩, Or.inl rfl, fun h => by rcases h with h | h <;> exact absurd h (by decide), Or.inl ⟨rfl, by decide, rfl, rfl⟩⟩
theorem fnew_good (A : Arn) (i : Int) (h0 : 0 ≤ i) (h1 : i < A.F.N) : FGood A i FOp.new := ⟨⟨by decide, by decide, by decide, by decide⟩, Or.inl rfl, by decide, by decide, Or.inl ⟨Or.inl rfl, by decide, rfl, h0, h1⟩⟩
theorem fbad_good (A : Arn) (i : Int) : FGood A i FOp.bad := ⟨⟨by decide, by decide, by decide, by decide⟩, Or.inr (Or.inr (Or.inr rfl)), by decide, by decide, Or.inr ⟨rfl, by decide⟩⟩

theorem alOp_good {n : Nat} {A : Arn} {s : St} {x : AOp} (hx : AGood A x) (hs : Wd n s) : AGood A (alOp n A s x) := by
  have hq := popOp_good hx.q hx.l hx.t hs
  unfold alOp
  rcases hx.c with ⟨h, h9, hr, he⟩ | ⟨h, h9, hi, hr, he⟩ | ⟨h, h9, hi, hr, he⟩ | ⟨h, he⟩
  · rw [if_pos h]
    refine ⟨hq.1, hq.2.1, hq.2.2, ?_⟩
    unfold alPop
    dsimp only
    by_cases k : (popOp n A.F s x.q).line = 9
    · by_cases j : idx A.F.N (popOp n A.F s x.q).W < 0
      · rw [if_pos k, if_pos j]; exact Or.inr (Or.inr (Or.inl ⟨rfl, k, j, rfl, rfl⟩))
      · rw [if_pos k, if_neg j]; exact Or.inr (Or.inl ⟨rfl, k, by omega, rfl, rfl⟩)
    · rw [if_neg k]; exact Or.inl ⟨rfl, k, rfl, rfl⟩
  · rw [if_neg (by omega), if_pos h]
    exact ⟨hx.q, hx.l, hx.t, Or.inr (Or.inr (Or.inr ⟨rfl, by dsimp only; decide⟩))⟩
  · rw [if_neg (by omega), if_neg (by omega), if_pos h]
    refine ⟨hx.q, hx.l, hx.t, Or.inr (Or.inr (Or.inr ⟨rfl, ?_⟩))⟩
    dsimp only
    split <;> decide
  · rw [if_neg (by omega), if_neg (by omega), if_neg (by omega)]
    exact hx
theorem frOp_good {n : Nat} {A : Arn} {i : Int} {s : St} {x : FOp} (hx : FGood A i x) (hs : Wd n s) : FGood A i (frOp n A i s x) := by
  have hq := pushOp_good (S := A.F) hx.q hx.l hs
  have hw := hs.word (A.G + i)
  unfold frOp
  rcases hx.c with ⟨h, h9, he, i0, i1⟩ | ⟨h, he⟩
  · rcases h with h | h | h | h
    · rw [if_pos h]
      refine ⟨hx.q, hx.l, hw.1, hw.2, Or.inl ⟨?_, h9, rfl, i0, i1⟩⟩
      dsimp only
      split
      · exact Or.inr (Or.inr (Or.inr rfl))
      · exact Or.inr (Or.inl rfl)
    · rw [if_neg (by omega), if_pos h]
      exact ⟨hx.q, hx.l, hx.g0, hx.g1, Or.inl ⟨Or.inr (Or.inr (Or.inl rfl)), h9, rfl, i0, i1⟩⟩
    · rw [if_neg (by omega), if_neg (by omega), if_pos h]
      unfold frPush
      by_cases k : (pushOp n A.F s x.q).line = 9
      · exact ⟨hq.1, hq.2, hx.g0, hx.g1, Or.inr ⟨if_pos k, by dsimp only; rw [if_pos k]; decide⟩⟩
      · exact ⟨hq.1, hq.2, hx.g0, hx.g1, Or.inl ⟨Or.inr (Or.inr (Or.inl (if_neg k))), k, if_neg k, i0, i1⟩⟩
    · rw [if_neg (by omega), if_neg (by omega), if_neg (by omega), if_pos h]
      exact ⟨hx.q, hx.l, hx.g0, hx.g1, Or.inr ⟨rfl, by dsimp only; decide⟩⟩
  · rw [if_neg (by omega), if_neg (by omega), if_neg (by omega), if_neg (by omega)]
    exact hx

theorem apopSt_wd {n : Nat} {S : Stk} {s : St} {x : Op} (h : Wd n s) : Wd n (popSt n S s x) := by
  unfold popSt casSt
  split
  · exact h.acc _ _ _ _ (by omega) (by omega)
  · split
    · exact h.acc _ _ _ _ (by omega) (by omega)
    · split
      · exact h.acc _ _ _ _ (topW_lo _ _ (idx_lo _ _)) (topW_hi _ _ (idx_le _ _))
      · exact h
theorem apushSt_wd {n : Nat} {S : Stk} {s : St} {x : Op} {i : Int} (h : Wd n s) (h0 : -1 ≤ i) (h1 : i ≤ 65534) : Wd n (pushSt n S i s x) := by
  have l := idx_lo S.N x.W
  have l' := idx_le S.N x.W
  unfold pushSt casSt
  split
  · exact h.acc _ _ _ _ (by omega) (by omega)
  · split
    · exact h.acc _ _ _ _ (by omega) (by omega)
    · split
      · exact h.acc _ _ _ _ (topW_lo _ _ h0) (topW_hi _ _ h1)
      · exact h
theorem alSt_wd {n : Nat} {A : Arn} {s : St} {x : AOp} (h : Wd n s) : Wd n (alSt n A s x) := by
  unfold alSt
  split
  · exact apopSt_wd h
  · split
    · exact h.acc _ _ _ _ (by omega) (by omega)
    · split
      · exact h.acc _ _ _ _ (by omega) (by omega)
      · exact h
theorem frSt_wd {n : Nat} {A : Arn} {s : St} {x : FOp} {i : Int} (h : Wd n s) (hx : FGood A i x) (hN : A.F.N ≤ 4096) : Wd n (frSt n A i s x) := by
  unfold frSt
  split
  · exact h.acc _ _ _ _ (by omega) (by omega)
  · split
    · exact h.acc _ _ _ _ (by omega) (by omega)
    · split
      · rename_i h2
        rcases hx.c with ⟨_, _, _, i0, i1⟩ | ⟨h9, _⟩
        · exact apushSt_wd h (by omega) (by omega)
        · omega
      · split
        · exact h.acc _ _ _ _ (by rw [IntKind.wrap_u64]; omega) (by rw [IntKind.wrap_u64]; omega)
        · exact h
theorem apopSt_cnt (n : Nat) (S : Stk) (s : St) (x : Op) : s.cnt ≤ (popSt n S s x).cnt ∧ (popSt n S s x).cnt ≤ s.cnt + 1 := by
  unfold popSt casSt
  repeat' split
  all_goals first | (rw [acc_cnt]; omega) | omega
theorem apushSt_cnt (n : Nat) (S : Stk) (i : Int) (s : St) (x : Op) : s.cnt ≤ (pushSt n S i s x).cnt ∧ (pushSt n S i s x).cnt ≤ s.cnt + 1 := by
  unfold pushSt casSt
  repeat' split
  all_goals first | (rw [acc_cnt]; omega) | omega
theorem alSt_cnt (n : Nat) (A : Arn) (s : St) (x : AOp) : s.cnt ≤ (alSt n A s x).cnt ∧ (alSt n A s x).cnt ≤ s.cnt + 1 := by
  have := apopSt_cnt n A.F s x.q
  unfold alSt
  repeat' split
  all_goals first | (rw [acc_cnt]; omega) | omega
theorem frSt_cnt (n : Nat) (A : Arn) (i : Int) (s : St) (x : FOp) : s.cnt ≤ (frSt n A i s x).cnt ∧ (frSt n A i s x).cnt ≤ s.cnt + 1 := by
  have := apushSt_cnt n A.F i s x.q
  unfold frSt
  repeat' split
  all_goals first | (rw [acc_cnt]; omega) | omega
end Go.Proofs.YtejiogggocnldaaGreat.Sk

namespace Go.Proofs.YtejiogggocnldaaGreat.Tw
open Go.RowKit
open Wo (St acc wordAt)
open Sk (Stk Arn idx Wd)

structure Twr where
  D : Int
  H : Int
  G : Int
  A : Arn
  E : Stk
  P : Int
abbrev Twr.N (t : Twr) : Int := t.A.F.N
structure Twr.Sound (t : Twr) : Prop where
  G1 : 1 ≤ t.G
  G2 : t.G ≤ 4
  N1 : 1 ≤ t.A.F.N
  N2 : t.A.F.N ≤ 128
  D1 : 0 ≤ t.D
  D2 : t.D < 4096
  H1 : 0 ≤ t.H
  H2 : t.H < 4096
theorem sound_iff (t : Twr) : t.Sound ↔ 1 ≤ t.G ∧ t.G ≤ 4 ∧ 1 ≤ t.A.F.N ∧ t.A.F.N ≤ 128 ∧ 0 ≤ t.D ∧ t.D < 4096 ∧ 0 ≤ t.H ∧ t.H < 4096 :=
  ⟨fun h => ⟨h.G1, h.G2, h.N1, h.N2, h.D1, h.D2, h.H1, h.H2⟩, fun ⟨a, b, c, d, e, f, g, h⟩ => ⟨a, b, c, d, e, f, g, h⟩⟩
instance (t : Twr) : Decidable t.Sound := decidable_of_iff _ (sound_iff t).symm

def atI (t : Twr) (i p : Int) : Int :=
  if ¬ t.Sound then -1
  else if i = -1 then (if 4 ≤ p ∧ p < 4 + t.G then t.H + (p - 4) else -1)
  else if 0 ≤ i ∧ i < t.A.F.N ∧ 0 ≤ p ∧ p < 4 + t.G then t.D + i * (4 + t.G) + p else -1
def nextI (t : Twr) (i l : Int) : Int := if 0 ≤ l ∧ l < t.G then atI t i (4 + l) else -1
def whoI (t : Twr) (a : Int) : Int × Int × Bool :=
  if ¬ t.Sound then (0, 0, false)
  else if t.D ≤ a ∧ a < t.D + t.A.F.N * (4 + t.G) then ((a - t.D) / (4 + t.G), (a - t.D) % (4 + t.G), true)
  else if t.H ≤ a ∧ a < t.H + t.G then (-1, a - t.H + 4, true)
  else (0, 0, false)
theorem mul_bound {i N g : Int} (h0 : 0 ≤ i) (h1 : i < N) (hg : 0 ≤ g) : i * g ≤ N * g - g := by
  have := Int.mul_le_mul_of_nonneg_right (show i + 1 ≤ N by omega) hg
  rw [Int.add_mul] at this
  omega
theorem mul_lo {i g : Int} (h0 : 0 ≤ i) (hg : 0 ≤ g) : 0 ≤ i * g := Int.mul_nonneg h0 hg
theorem size_hi {t : Twr} (h : t.Sound) : t.A.F.N * (4 + t.G) ≤ 1024 := by
  have := Int.mul_le_mul h.N2 (show 4 + t.G ≤ 8 by have := h.G2; omega) (by have := h.G1; omega) (by omega)
  omega
theorem size_lo {t : Twr} (h : t.Sound) : 1 ≤ t.A.F.N * (4 + t.G) := by
  have := Int.mul_le_mul (show (1 : Int) ≤ t.A.F.N from h.N1) (show (1 : Int) ≤ 4 + t.G by have := h.G1; omega) (by omega) (by have := h.N1; omega)
  omega
theorem atI_node {t : Twr} (h : t.Sound) {i p : Int} (i0 : 0 ≤ i) (i1 : i < t.A.F.N) (p0 : 0 ≤ p) (p1 : p < 4 + t.G) : atI t i p = t.D + i * (4 + t.G) + p := by
  unfold atI
  rw [if_neg (by simpa using h), if_neg (by omega), if_pos ⟨i0, i1, p0, p1⟩]
theorem atI_head {t : Twr} (h : t.Sound) {p : Int} (p0 : 4 ≤ p) (p1 : p < 4 + t.G) : atI t (-1) p = t.H + (p - 4) := by
  unfold atI
  rw [if_neg (by simpa using h), if_pos rfl, if_pos ⟨p0, p1⟩]
theorem atI_bad {t : Twr} (h : ¬ t.Sound) (i p : Int) : atI t i p = -1 := by unfold atI; rw [if_pos h]
theorem atI_lo (t : Twr) (i p : Int) : -1 ≤ atI t i p := by
  unfold atI
  split
  · omega
  · rename_i h
    have h : t.Sound := by simpa using h
    have := h.H1
    have := h.D1
    have := h.G1
    split
    · split <;> omega
    · split
      · rename_i hh
        have := mul_lo hh.1 (show 0 ≤ 4 + t.G by omega)
        omega
      · omega
theorem atI_hi (t : Twr) (i p : Int) : atI t i p ≤ 10000 := by
  unfold atI
  split
  · omega
  · rename_i h
    have h : t.Sound := by simpa using h
    have := h.H2
    have := h.D2
    have := h.G1
    have := h.G2
    split
    · split <;> omega
    · split
      · rename_i hh
        have := mul_bound hh.1 hh.2.1 (show 0 ≤ 4 + t.G by omega)
        have := size_hi h
        omega
      · omega
theorem nextI_lo (t : Twr) (i l : Int) : -1 ≤ nextI t i l := by unfold nextI; split; exact atI_lo ..; omega
theorem nextI_hi (t : Twr) (i l : Int) : nextI t i l ≤ 10000 := by unfold nextI; split; exact atI_hi ..; omega

def hw (n : Nat) (f : Nat → Int) (x : Int) : Int := if 0 ≤ x ∧ x < n then f x.toNat else 0
theorem hw_word (n : Nat) (s : St) (x : Int) : hw n s.ws x = wordAt n s x := rfl
def levL (n : Nat) (f : Nat → Int) (t : Twr) (l : Int) : Nat → Int → List Int
  | 0, _ => []
  | k + 1, i => if idx t.A.F.N (hw n f (nextI t i l)) < 0 then [] else idx t.A.F.N (hw n f (nextI t i l)) :: levL n f t l k (idx t.A.F.N (hw n f (nextI t i l)))
def levelL (n : Nat) (f : Nat → Int) (t : Twr) (l : Int) : List Int := levL n f t l t.A.F.N.toNat (-1)
def markd (w : Int) : Bool := decide (9223372036854775808 ≤ w)
def liveL (n : Nat) (f : Nat → Int) (t : Twr) : List Int := (levelL n f t 0).filter fun i => !markd (hw n f (nextI t i 0))

structure LOp where
  line : Nat
  r : Int
  i : Int
  k : Int
  j : Int
  h : Int
  er : Int
def LOp.val (x : LOp) : Int := if x.line = 0 then x.k else if x.line = 1 then x.j else if x.line = 2 then x.h else 2
def laySt (n : Nat) (t : Twr) (s : St) (x : LOp) : St := if x.line < 4 then acc n s 2 (atI t x.i x.line) true x.val else s
def layOp (x : LOp) : LOp := if x.line < 4 then ⟨x.line + 1, x.r, x.i, x.k, x.j, x.h, if x.line = 3 then 0 else 14⟩ else x
def LOp.by_ (x : LOp) : Int := if x.line = 0 then 0 else x.r
end Go.Proofs.YtejiogggocnldaaGreat.Tw
