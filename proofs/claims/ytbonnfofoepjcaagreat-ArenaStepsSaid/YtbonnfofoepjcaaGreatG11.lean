/- An arena in numbers: what each step of an Alloc and of a Free does. Plain mathematics. -/
import Derived.Test.YtbonnfofoepjcaaGreatG10
import Derived.Lib.Hide
import Derived.Deep.Light
import Derived.Deep.RegionHeld3
import Derived.Laws.EntriesVeiled
set_option linter.unusedVariables false
set_option linter.unusedSimpArgs false

namespace Go.Proofs.YtbonnfofoepjcaaGreat.Sk
open Go.RowKit
open Wo (St acc wordAt)

structure Arn where
  F : Stk
  G : Int
  V : Int
  L : Int

def gen (w : Int) : Int := w % 4294967296
def refW (i g : Int) : Int := i + 1 + g * 65536

structure AOp where
  line : Nat
  q : Op
  r : Int
  er : Int
def AOp.new : AOp := ⟨0, Op.new, 0, 14⟩

def alSt (n : Nat) (A : Arn) (s : St) (x : AOp) : St :=
  if x.line = 0 then popSt n A.F s x.q
  else if x.line = 1 then acc n s 1 (A.G + idx A.F.N x.q.W) false 0
  else if x.line = 2 then acc n s 1 A.V false 0
  else s
def alPop (A : Arn) (q : Op) : AOp := ⟨if q.line = 9 then (if idx A.F.N q.W < 0 then 2 else 1) else 0, q, 0, 14⟩
def alOp (n : Nat) (A : Arn) (s : St) (x : AOp) : AOp :=
  if x.line = 0 then alPop A (popOp n A.F s x.q)
  else if x.line = 1 then ⟨9, x.q, refW (idx A.F.N x.q.W) (gen (wordAt n s (A.G + idx A.F.N x.q.W))), 0⟩
  else if x.line = 2 then ⟨9, x.q, 0, if A.F.N ≤ wordAt n s A.V then 12 else 7⟩
  else x

structure FOp where
  line : Nat
  q : Op
  g : Int
  er : Int
def FOp.new : FOp := ⟨0, Op.new, 0, 14⟩
def FOp.bad : FOp := ⟨9, Op.over, 0, 3⟩

def frSt (n : Nat) (A : Arn) (i : Int) (s : St) (x : FOp) : St :=
  if x.line = 0 then acc n s 1 (A.G + i) false 0
  else if x.line = 1 then acc n s 2 (A.G + i) true ((x.g + 1) % 18446744073709551616)
  else if x.line = 2 then pushSt n A.F i s x.q
  else if x.line = 3 then acc n s 4 A.V true (IntKind.u64.wrap (wordAt n s A.V + 1))
  else s
def frPush (q : Op) (g : Int) : FOp := ⟨if q.line = 9 then 9 else 2, q, g, if q.line = 9 then 0 else 14⟩
def frOp (n : Nat) (A : Arn) (i : Int) (s : St) (x : FOp) : FOp :=
  if x.line = 0 then ⟨if A.L ≤ gen (wordAt n s (A.G + i)) then 3 else 1, x.q, wordAt n s (A.G + i), 14⟩
  else if x.line = 1 then ⟨2, x.q, x.g, 14⟩
  else if x.line = 2 then frPush (pushOp n A.F s x.q) x.g
  else if x.line = 3 then ⟨9, x.q, x.g, 0⟩
  else x

structure Arn.Ok (A : Arn) (n : Nat) : Prop where
  F : A.F.Ok n
  L1 : 1 ≤ A.L
  L2 : A.L ≤ 4294967295
  G1 : 0 ≤ A.G
  G2 : A.G + A.F.N ≤ n
  V1 : 0 ≤ A.V
  V2 : A.V < n

structure AGood (A : Arn) (x : AOp) : Prop where
  q : x.q.Good
  l : lines x.q
  t : took A.F x.q
  c : (x.line = 0 ∧ x.q.line ≠ 9 ∧ x.r = 0 ∧ x.er = 14) ∨ (x.line = 1 ∧ x.q.line = 9 ∧ 0 ≤ idx A.F.N x.q.W ∧ x.r = 0 ∧ x.er = 14) ∨ (x.line = 2 ∧ x.q.line = 9 ∧ idx A.F.N x.q.W < 0 ∧ x.r = 0 ∧ x.er = 14) ∨ (x.line = 9 ∧ x.er ≠ 14)
structure FGood (A : Arn) (i : Int) (x : FOp) : Prop where
  q : x.q.Good
  l : lines x.q
  g0 : 0 ≤ x.g
  g1 : x.g < 18446744073709551616
  c : ((x.line = 0 ∨ x.line = 1 ∨ x.line = 2 ∨ x.line = 3) ∧ x.q.line ≠ 9 ∧ x.er = 14 ∧ 0 ≤ i ∧ i < A.F.N) ∨ (x.line = 9 ∧ x.er ≠ 14)

theorem gen_lo (w : Int) : 0 ≤ gen w := by unfold gen; omega
theorem gen_hi (w : Int) : gen w < 4294967296 := by unfold gen; omega
theorem refW_lo (i g : Int) (hi : 0 ≤ i) (hg : 0 ≤ g) : 0 ≤ refW i g := by unfold refW; omega
theorem refW_hi (i g : Int) (hi : i ≤ 65534) (hg : g < 4294967296) : refW i g < 18446744073709551616 := by unfold refW; omega

theorem new_good (A : Arn) : AGood A AOp.new := ⟨⟨by decide, by decide, by decide, by decide⟩, Or.inl rfl, fun h => by rcases h with h | h <;> exact absurd h (by decide), Or.inl ⟨rfl, by decide, rfl, rfl⟩⟩
theorem fnew_good (A : Arn) (i : Int) (h0 : 0 ≤ i) (h1 : i < A.F.N) : FGood A i FOp.new := ⟨⟨by decide, by decide, by decide, by decide⟩, Or.inl rfl, by decide, by decide, Or.inl ⟨Or.inl rfl, by decide, rfl, h0, h1⟩⟩
theorem fbad_good (A : Arn) (i : Int) : FGood A i FOp.bad := ⟨⟨by decide, by decide, by decide, by decide⟩, Or.inr (Or.inr (Or.inr rfl)), by decide, by decide, Or.inr ⟨rfl, by decide⟩⟩

theorem alOp_good {n : Nat} {A : Arn} {s : St} {x : AOp} (hx : AGood A x) (hs : Wd n s) : AGood A (alOp n A s x) := by
  have hq := popOp_good hx.q hx.l hx.t hs
  unfold alOp
  rcases hx.c with ⟨h, h9, hr, he⟩ | ⟨h, h9, hi, hr, he⟩ | ⟨h, h9, hi, hr, he⟩ | ⟨h, he⟩
  · rw [if_pos h]
    refine ⟨hq.1, hq.2.1, hq.2.2, ?_⟩
    unfold alPop
    dsimp only
    by_cases k : (popOp n A.F s x.q).line = 9
    · by_cases j : idx A.F.N (popOp n A.F s x.q).W < 0
      · rw [if_pos k, if_pos j]; exact Or.inr (Or.inr (Or.inl ⟨rfl, k, j, rfl, rfl⟩))
      · rw [if_pos k, if_neg j]; exact Or.inr (Or.inl ⟨rfl, k, by omega, rfl, rfl⟩)
    · rw [if_neg k]; exact Or.inl ⟨rfl, k, rfl, rfl⟩
  · rw [if_neg (by omega), if_pos h]
    exact ⟨hx.q, hx.l, hx.t, Or.inr (Or.inr (Or.inr ⟨rfl, by dsimp only; decide⟩))⟩
  · rw [if_neg (by omega), if_neg (by omega), if_pos h]
    refine ⟨hx.q, hx.l, hx.t, Or.inr (Or.inr (Or.inr ⟨rfl, ?_⟩))⟩
    dsimp only
    split <;> decide
  · rw [if_neg (by omega), if_neg (by omega), if_neg (by omega)]
    exact hx
theorem frOp_good {n : Nat} {A : Arn} {i : Int} {s : St} {x : FOp} (hx : FGood A i x) (hs : Wd n s) : FGood A i (frOp n A i s x) := by
  have hq := pushOp_good (S := A.F) hx.q hx.l hs
  have hw := hs.word (A.G + i)
  unfold frOp
  rcases hx.c with ⟨h, h9, he, i0, i1⟩ | ⟨h, he⟩
  · rcases h with h | h | h | h
    · rw [if_pos h]
      refine ⟨hx.q, hx.l, hw.1, hw.2, Or.inl ⟨?_, h9, rfl, i0, i1⟩⟩
      dsimp only
      split
      · exact Or.inr (Or.inr (Or.inr rfl))
      · exact Or.inr (Or.inl rfl)
    · rw [if_neg (by omega), if_pos h]
      exact ⟨hx.q, hx.l, hx.g0, hx.g1, Or.inl ⟨Or.inr (Or.inr (Or.inl rfl)), h9, rfl, i0, i1⟩⟩
    · rw [if_neg (by omega), if_neg (by omega), if_pos h]
      unfold frPush
      by_cases k : (pushOp n A.F s x.q).line = 9
      · exact ⟨hq.1, hq.2, hx.g0, hx.g1, Or.inr ⟨if_pos k, by dsimp only; rw [if_pos k]; decide⟩⟩
      · exact ⟨hq.1, hq.2, hx.g0, hx.g1, Or.inl ⟨Or.inr (Or.inr (Or.inl (if_neg k))), k, if_neg k, i0, i1⟩⟩
    · rw [if_neg (by omega), if_neg (by omega), if_neg (by omega), if_pos h]
      exact ⟨hx.q, hx.l, hx.g0, hx.g1, Or.inr ⟨rfl, by dsimp only; decide⟩⟩
  · rw [if_neg (by omega), if_neg (by omega), if_neg (by omega), if_neg (by omega)]
    exact hx

theorem apopSt_wd {n : Nat} {S : Stk} {s : St} {x : Op} (h : Wd n s) : Wd n (popSt n S s x) := by
  unfold popSt casSt
  split
  · exact h.acc _ _ _ _ (by omega) (by omega)
  · split
    · exact h.acc _ _ _ _ (by omega) (by omega)
    · split
      · exact h.acc _ _ _ _ (topW_lo _ _ (idx_lo _ _)) (topW_hi _ _ (idx_le _ _))
      · exact h
theorem apushSt_wd {n : Nat} {S : Stk} {s : St} {x : Op} {i : Int} (h : Wd n s) (h0 : -1 ≤ i) (h1 : i ≤ 65534) : Wd n (pushSt n S i s x) := by
  have l := idx_lo S.N x.W
  have l' := idx_le S.N x.W
  unfold pushSt casSt
  split
  · exact h.acc _ _ _ _ (by omega) (by omega)
  · split
    · exact h.acc _ _ _ _ (by omega) (by omega)
    · split
      · exact h.acc _ _ _ _ (topW_lo _ _ h0) (topW_hi _ _ h1)
      · exact h
theorem alSt_wd {n : Nat} {A : Arn} {s : St} {x : AOp} (h : Wd n s) : Wd n (alSt n A s x) := by
  unfold alSt
  split
  · exact apopSt_wd h
  · split
    · exact h.acc _ _ _ _ (by omega) (by omega)
    · split
      · exact h.acc _ _ _ _ (by omega) (by omega)
      · exact h
theorem frSt_wd {n : Nat} {A : Arn} {s : St} {x : FOp} {i : Int} (h : Wd n s) (hx : FGood A i x) (hN : A.F.N ≤ 4096) : Wd n (frSt n A i s x) := by
  unfold frSt
  split
  · exact h.acc _ _ _ _ (by omega) (by omega)
  · split
    · exact h.acc _ _ _ _ (by omega) (by omega)
    · split
      · rename_i h2
        rcases hx.c with ⟨_, _, _, i0, i1⟩ | ⟨h9, _⟩
        · exact apushSt_wd h (by omega) (by omega)
        · omega
      · split
        · exact h.acc _ _ _ _ (by rw [IntKind.wrap_u64]; omega) (by rw [IntKind.wrap_u64]; omega)
        · exact h
theorem apopSt_cnt (n : Nat) (S : Stk) (s : St) (x : Op) : s.cnt ≤ (popSt n S s x).cnt ∧ (popSt n S s x).cnt ≤ s.cnt + 1 := by
  unfold popSt casSt
  repeat' split
  all_goals first | (rw [acc_cnt]; omega) | omega
theorem apushSt_cnt (n : Nat) (S : Stk) (i : Int) (s : St) (x : Op) : s.cnt ≤ (pushSt n S i s x).cnt ∧ (pushSt n S i s x).cnt ≤ s.cnt + 1 := by
  unfold pushSt casSt
  repeat' split
  all_goals first | (rw [acc_cnt]; omega) | omega
theorem alSt_cnt (n : Nat) (A : Arn) (s : St) (x : AOp) : s.cnt ≤ (alSt n A s x).cnt ∧ (alSt n A s x).cnt ≤ s.cnt + 1 := by
  have := apopSt_cnt n A.F s x.q
  unfold alSt
  repeat' split
  all_goals first | (rw [acc_cnt]; omega) | omega
theorem frSt_cnt (n : Nat) (A : Arn) (i : Int) (s : St) (x : FOp) : s.cnt ≤ (frSt n A i s x).cnt ∧ (frSt n A i s x).cnt ≤ s.cnt + 1 := by
  have := apushSt_cnt n A.F i s x.q
  unfold frSt
  repeat' split
  all_goals first | (rw [acc_cnt]; omega) | omega
end Go.Proofs.YtbonnfofoepjcaaGreat.Sk

namespace Go.Proofs.YtbonnfofoepjcaaGreat.Sk
open Go.RowKit
open Wo (St acc wordAt)

def alPl (n : Nat) (A : Arn) (s : St) : Nat → St × AOp
  | 0 => (s, AOp.new)
  | k + 1 => (alSt n A (alPl n A s k).1 (alPl n A s k).2, alOp n A (alPl n A s k).1 (alPl n A s k).2)
def frPl (n : Nat) (A : Arn) (i : Int) (s : St) : Nat → St × FOp
  | 0 => (s, FOp.new)
  | k + 1 => (frSt n A i (frPl n A i s k).1 (frPl n A i s k).2, frOp n A i (frPl n A i s k).1 (frPl n A i s k).2)
theorem alPl_good {n : Nat} {A : Arn} {s : St} (hs : Wd n s) : ∀ k, AGood A (alPl n A s k).2 ∧ Wd n (alPl n A s k).1 ∧ s.cnt ≤ (alPl n A s k).1.cnt ∧ (alPl n A s k).1.cnt ≤ s.cnt + k
  | 0 => ⟨new_good A, hs, Int.le_refl _, by show s.cnt ≤ s.cnt + (0 : Nat); omega⟩
  | k + 1 => by
    obtain ⟨a, b, c, d⟩ := alPl_good (A := A) hs k
    have := alSt_cnt n A (alPl n A s k).1 (alPl n A s k).2
    exact ⟨alOp_good a b, alSt_wd b, by show s.cnt ≤ (alSt n A (alPl n A s k).1 (alPl n A s k).2).cnt; omega, by show (alSt n A (alPl n A s k).1 (alPl n A s k).2).cnt ≤ s.cnt + (k + 1 : Nat); omega⟩
theorem frPl_good {n : Nat} {A : Arn} {i : Int} {s : St} (hs : Wd n s) (i0 : 0 ≤ i) (i1 : i < A.F.N) (hN : A.F.N ≤ 4096) : ∀ k, FGood A i (frPl n A i s k).2 ∧ Wd n (frPl n A i s k).1 ∧ s.cnt ≤ (frPl n A i s k).1.cnt ∧ (frPl n A i s k).1.cnt ≤ s.cnt + k
  | 0 => ⟨fnew_good A i i0 i1, hs, Int.le_refl _, by show s.cnt ≤ s.cnt + (0 : Nat); omega⟩
  | k + 1 => by
    obtain ⟨a, b, c, d⟩ := frPl_good (A := A) hs i0 i1 hN k
    have := frSt_cnt n A i (frPl n A i s k).1 (frPl n A i s k).2
    exact ⟨frOp_good a b, frSt_wd b a hN, by show s.cnt ≤ (frSt n A i (frPl n A i s k).1 (frPl n A i s k).2).cnt; omega, by show (frSt n A i (frPl n A i s k).1 (frPl n A i s k).2).cnt ≤ s.cnt + (k + 1 : Nat); omega⟩
end Go.Proofs.YtbonnfofoepjcaaGreat.Sk

namespace Go.Proofs.YtbonnfofoepjcaaGreat.Sk
set_option maxRecDepth 20000
open Go.RowKit
open Wo (St acc wordAt PMem RefIs)

abbrev Arn.v (A : Arn) : Value := .agg #[.int .i64 A.F.T, .int .i64 A.F.K, .int .i64 A.F.N, .int .i64 A.G, .int .i64 A.V, .int .i64 A.L]

set_option maxHeartbeats 400000 in
theorem gen_any (T K N G V L i : Int) (w : World) : Calls Tryz.prog 126 #[.agg #[.int .i64 T, .int .i64 K, .int .i64 N, .int .i64 G, .int .i64 V, .int .i64 L], .int .i64 i] w fun e w' => e = .returned (.int .i64 (wrap64 (G + i))) ∧ Kept w w' := by
  go_enter Tryz.func126, Tryz.ntmps126
  go_wp2
  go_ret
  exact ⟨rfl, by (go_light; repeat (first | (with_reducible exact Kept.refl _) | (with_reducible assumption) | (with_reducible refine Kept.alloc ?_ _ _) | (with_reducible refine Kept.drew ?_) | (with_reducible refine Kept.drewN ?_ _) | ((with_reducible refine Kept.setCell ?_ ?_ _); rotate_left; focus (first | (simp; done) | (simp; omega))) | refine Kept.trans ?_ (by assumption)))⟩
theorem gen_in (T K N G V L i : Int) (w : World) (h0 : 0 ≤ G) (h1 : G ≤ 100000) (h2 : -1 ≤ i) (h3 : i ≤ 100000) : Calls Tryz.prog 126 #[.agg #[.int .i64 T, .int .i64 K, .int .i64 N, .int .i64 G, .int .i64 V, .int .i64 L], .int .i64 i] w fun e w' => e = .returned (.int .i64 (G + i)) ∧ Kept w w' :=
  (gen_any T K N G V L i w).mono fun _ _ ⟨x, k⟩ => ⟨by rw [x, show wrap64 (G + i) = G + i by unfold wrap64; omega], k⟩
set_option maxHeartbeats 400000 in
theorem number_any (x : Int) (w : World) (h0 : 0 ≤ x) (h1 : x < 18446744073709551616) : Calls Tryz.prog 213 #[.int .u64 x] w fun e w' => e = .returned (.int .i64 (gen x)) ∧ Kept w w' := by
  go_enter Tryz.func213, Tryz.ntmps213
  go_wp2
  go_ret
  exact ⟨rfl, by (go_light; repeat (first | (with_reducible exact Kept.refl _) | (with_reducible assumption) | (with_reducible refine Kept.alloc ?_ _ _) | (with_reducible refine Kept.drew ?_) | (with_reducible refine Kept.drewN ?_ _) | ((with_reducible refine Kept.setCell ?_ ?_ _); rotate_left; focus (first | (simp; done) | (simp; omega))) | refine Kept.trans ?_ (by assumption)))⟩
set_option maxHeartbeats 400000 in
theorem isWorn_any (T K N G V L x : Int) (w : World) (h0 : 0 ≤ x) (h1 : x < 18446744073709551616) : Calls Tryz.prog 152 #[.agg #[.int .i64 T, .int .i64 K, .int .i64 N, .int .i64 G, .int .i64 V, .int .i64 L], .int .u64 x] w fun e w' => e = .returned (.bool (decide (L ≤ gen x))) ∧ Kept w w' := by
  have HN : ∀ w, Hid (Calls Tryz.prog 213 #[.int .u64 x] w fun e w' => e = .returned (.int .i64 (gen x)) ∧ Kept w w') := fun w => Lib.hid (number_any x w h0 h1)
  go_enter Tryz.func152, Tryz.ntmps152
  go_wp2_with fail
  go_region_held3 (fun w' => w'.cell? ⟨w.heap.size, 5, none⟩ = some (.int .i64 L)) (first | (exact k1.some (by simp)) | go_keep) (first | (go_at_call 213; refine (HN _).out.mono ?_; rintro e w1 ⟨rfl, k1⟩))
  go_wp2
  go_ret
  exact ⟨rfl, by (go_light; repeat (first | (with_reducible exact Kept.refl _) | (with_reducible assumption) | (with_reducible refine Kept.alloc ?_ _ _) | (with_reducible refine Kept.drew ?_) | (with_reducible refine Kept.drewN ?_ _) | ((with_reducible refine Kept.setCell ?_ ?_ _); rotate_left; focus (first | (simp; done) | (simp; omega))) | refine Kept.trans ?_ (by assumption)))⟩
set_option maxHeartbeats 400000 in
theorem isAll_any (T K N G V L x : Int) (w : World) (h0 : 0 ≤ x) (h1 : x < 18446744073709551616) (n1 : 1 ≤ N) (n2 : N ≤ 4096) : Calls Tryz.prog 250 #[.agg #[.int .i64 T, .int .i64 K, .int .i64 N, .int .i64 G, .int .i64 V, .int .i64 L], .int .u64 x] w fun e w' => e = .returned (.bool (decide (N ≤ x))) ∧ Kept w w' := by
  have n3 : ¬ (0 : Int) > N := by omega
  have n4 : decide ((0 : Int) < N) = true := by simp; omega
  go_enter Tryz.func250, Tryz.ntmps250
  go_wp2
  go_ret
  exact ⟨by show Ending.returned (Value.bool (decide (max N 0 ≤ x))) = _; rw [show max N 0 = N by omega], by (go_light; repeat (first | (with_reducible exact Kept.refl _) | (with_reducible assumption) | (with_reducible refine Kept.alloc ?_ _ _) | (with_reducible refine Kept.drew ?_) | (with_reducible refine Kept.drewN ?_ _) | ((with_reducible refine Kept.setCell ?_ ?_ _); rotate_left; focus (first | (simp; done) | (simp; omega))) | refine Kept.trans ?_ (by assumption)))⟩
def GenF (x : Int) (w : World) (e : Ending) (w' : World) : Prop :=
  ∃ b, e = .returned (.func (.func 196) #[] #[.pointer (some ⟨b, 0, none⟩)]) ∧ w.heap.size ≤ b ∧ w'.cell? ⟨b, 0, none⟩ = some (.int .u64 x) ∧ (∀ i, w'.frozen? ⟨b, i, none⟩ = false) ∧ Kept w w'
set_option maxHeartbeats 400000 in
theorem generations_any (x : Int) (w : World) : Calls Tryz.prog 125 #[.int .u64 x] w (GenF x w) := by
  go_enter Tryz.func125, Tryz.ntmps125
  go_wp2
  go_ret
  exact ⟨w.heap.size, rfl, Nat.le_refl _, by simp, fun i => by simp, by (go_light; repeat (first | (with_reducible exact Kept.refl _) | (with_reducible assumption) | (with_reducible refine Kept.alloc ?_ _ _) | (with_reducible refine Kept.drew ?_) | (with_reducible refine Kept.drewN ?_ _) | ((with_reducible refine Kept.setCell ?_ ?_ _); rotate_left; focus (first | (simp; done) | (simp; omega))) | refine Kept.trans ?_ (by assumption)))⟩
set_option maxHeartbeats 400000 in
theorem generations1_any (x : Int) (b : Nat) (w : World) (c : w.cell? ⟨b, 0, none⟩ = some (.int .u64 x)) (f : ∀ i, w.frozen? ⟨b, i, none⟩ = false) :
    Calls Tryz.prog 196 #[.pointer (some ⟨b, 0, none⟩)] w fun e w' => e = .returned (.int .u64 ((x + 1) % 18446744073709551616)) ∧ w' = w.setCell ⟨b, 0, none⟩ (.int .u64 ((x + 1) % 18446744073709551616)) := by
  have hb := lt_of_cell c
  go_enter Tryz.func196, Tryz.ntmps196
  go_wp2
  go_ret
  exact ⟨rfl, rfl⟩

set_option maxHeartbeats 400000 in
theorem outcome_Alloc (P : Nat) (er : Int) (w : World) (c8 : w.cell? ⟨P, 8, none⟩ = some (.bool true)) (c16 : w.cell? ⟨P, 16, none⟩ = some (.int .i64 er)) :
    Calls Tryz.prog 129 #[.pointer (some ⟨P, 8, none⟩)] w fun e w' => e = .returned (.int .i64 er) ∧ w = w' := by
  have hP := lt_of_cell c8
  go_enter Tryz.func129, Tryz.ntmps129
  go_wp2
  go_ret
  exact ⟨rfl, rfl⟩
theorem ended_Alloc (P : Nat) (er : Int) (w : World) (c8 : w.cell? ⟨P, 8, none⟩ = some (.bool true)) (c16 : w.cell? ⟨P, 16, none⟩ = some (.int .i64 er)) :
    Calls Tryz.prog 136 #[.pointer (some ⟨P, 8, none⟩)] w fun e w' => e = .returned (.bool (er != 14)) ∧ w = w' := by
  have HC := Lib.hid (outcome_Alloc P er w c8 c16)
  clear c8 c16
  go_enter Tryz.func136, Tryz.ntmps136
  go_wp2_with fail
  refine HC.out.mono ?_
  rintro e w1 ⟨rfl, rfl⟩
  go_wp2
  go_ret
  exact ⟨rfl, rfl⟩
set_option maxHeartbeats 400000 in
theorem outcome_Free (P : Nat) (er : Int) (w : World) (c9 : w.cell? ⟨P, 9, none⟩ = some (.bool true)) (c17 : w.cell? ⟨P, 17, none⟩ = some (.int .i64 er)) :
    Calls Tryz.prog 86 #[.pointer (some ⟨P, 9, none⟩)] w fun e w' => e = .returned (.int .i64 er) ∧ w = w' := by
  have hP := lt_of_cell c9
  go_enter Tryz.func86, Tryz.ntmps86
  go_wp2
  go_ret
  exact ⟨rfl, rfl⟩
theorem ended_Free (P : Nat) (er : Int) (w : World) (c9 : w.cell? ⟨P, 9, none⟩ = some (.bool true)) (c17 : w.cell? ⟨P, 17, none⟩ = some (.int .i64 er)) :
    Calls Tryz.prog 84 #[.pointer (some ⟨P, 9, none⟩)] w fun e w' => e = .returned (.bool (er != 14)) ∧ w = w' := by
  have HC := Lib.hid (outcome_Free P er w c9 c17)
  clear c9 c17
  go_enter Tryz.func84, Tryz.ntmps84
  go_wp2_with fail
  refine HC.out.mono ?_
  rintro e w1 ⟨rfl, rfl⟩
  go_wp2
  go_ret
  exact ⟨rfl, rfl⟩

set_option maxHeartbeats 400000 in
theorem outcome_Alloc_none (P : Nat) (w : World) (c8 : w.cell? ⟨P, 8, none⟩ = some (.bool false)) :
    Calls Tryz.prog 129 #[.pointer (some ⟨P, 8, none⟩)] w fun e w' => e = .returned (.int .i64 1) ∧ w = w' := by
  have hP := lt_of_cell c8
  go_enter Tryz.func129, Tryz.ntmps129
  go_wp2
  go_ret
  exact ⟨rfl, rfl⟩
set_option maxHeartbeats 400000 in
theorem outcome_Free_none (P : Nat) (w : World) (c9 : w.cell? ⟨P, 9, none⟩ = some (.bool false)) :
    Calls Tryz.prog 86 #[.pointer (some ⟨P, 9, none⟩)] w fun e w' => e = .returned (.int .i64 1) ∧ w = w' := by
  have hP := lt_of_cell c9
  go_enter Tryz.func86, Tryz.ntmps86
  go_wp2
  go_ret
  exact ⟨rfl, rfl⟩
end Go.Proofs.YtbonnfofoepjcaaGreat.Sk
