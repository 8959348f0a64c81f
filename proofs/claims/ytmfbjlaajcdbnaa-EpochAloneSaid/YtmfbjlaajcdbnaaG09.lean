/- What stays so of operations, step by step; runs of steps. Plain mathematics. -/
import Derived.Test.YtmfbjlaajcdbnaaG00
import Derived.Test.YtmfbjlaajcdbnaaG04
import Derived.Lib.Hide
import Derived.Deep.Light
import Derived.Deep.RegionHeld3
import Derived.Laws.EntriesVeiled
set_option linter.unusedVariables false
set_option linter.unusedSimpArgs false

namespace Go.Proofs.Ytmfbjlaajcdbnaa.Ep
open Wo (St acc wordAt)
open Sk (Stk Wd)

structure EOp.Ok (x : EOp) : Prop where
  good : x.Good
  ln : lines x
  busy : x.line ≠ 9 → x.er = 14
  er : x.er = 0 ∨ x.er = 3 ∨ x.er = 14
theorem ok_new : EOp.new.Ok := ⟨⟨by decide, by decide⟩, .inl rfl, fun _ => rfl, .inr (.inr rfl)⟩
theorem ok_bad : EOp.bad.Ok := ⟨⟨by decide, by decide⟩, .inr (.inr (.inr rfl)), fun h => absurd rfl h, .inr (.inl rfl)⟩
theorem pin_ok {n : Nat} {S : Stk} {s : St} {x : EOp} (h : x.Ok) (hw : Wd n s) : (pinOp n S s x).Ok := by
  have wd := hw.word S.T
  obtain ⟨⟨g0, g1⟩, hl, hb, he⟩ := h
  unfold pinOp
  by_cases l1 : x.line = 1
  · rw [if_pos l1]; exact ⟨⟨wd.1, wd.2⟩, .inr (.inl rfl), fun _ => hb (by omega), he⟩
  rw [if_neg l1]
  by_cases l2 : x.line = 2
  · rw [if_pos l2]; exact ⟨⟨g0, g1⟩, .inr (.inr (.inl rfl)), fun _ => hb (by omega), he⟩
  rw [if_neg l2]
  by_cases l3 : x.line = 3
  · rw [if_pos l3]
    by_cases e : ep (wordAt n s S.T) = ep x.W
    · rw [if_pos e]; exact ⟨⟨wd.1, wd.2⟩, .inr (.inr (.inr rfl)), fun h => absurd rfl h, .inl rfl⟩
    · rw [if_neg e]; exact ⟨⟨wd.1, wd.2⟩, .inr (.inl rfl), fun _ => hb (by omega), he⟩
  rw [if_neg l3]
  exact ⟨⟨g0, g1⟩, hl, hb, he⟩
theorem un_ok {x : EOp} (h : x.Ok) : (unOp x).Ok := by
  obtain ⟨⟨g0, g1⟩, hl, hb, he⟩ := h
  unfold unOp
  by_cases l1 : x.line = 1
  · rw [if_pos l1]; exact ⟨⟨g0, g1⟩, .inr (.inr (.inr rfl)), fun h => absurd rfl h, .inl rfl⟩
  · rw [if_neg l1]; exact ⟨⟨g0, g1⟩, hl, hb, he⟩
theorem seek_ok {S : Stk} {c W er i : Int} (h0 : 0 ≤ W) (h1 : W < 18446744073709551616) (he : er = 14) : (seekOp S c W er i).Ok := by
  unfold seekOp
  by_cases h : skip c i < S.N
  · rw [if_pos h]; exact ⟨⟨h0, h1⟩, .inr (.inl rfl), fun _ => he, .inr (.inr he)⟩
  · rw [if_neg h]; exact ⟨⟨h0, h1⟩, .inr (.inr (.inl rfl)), fun _ => he, .inr (.inr he)⟩
structure AOkN (S : Stk) (x : EOp) : Prop where
  l1 : x.line = 1 → x.L = 0
  l2 : x.line = 2 → 0 ≤ x.L ∧ x.L < S.N
theorem seek_at {S : Stk} {c W er i : Int} (hi : 0 ≤ i) : AOkN S (seekOp S c W er i) := by
  have hs := @skip_lo c i
  unfold seekOp
  refine ⟨fun h => ?_, fun h => ?_⟩
  · dsimp only at h
    split at h <;> omega
  · dsimp only at h
    by_cases e : skip c i < S.N
    · exact ⟨by show 0 ≤ skip c i; omega, e⟩
    · rw [if_neg e] at h; omega
theorem adv_ok {n : Nat} {S : Stk} {c p : Int} {s : St} {x : EOp} (h : x.Ok) (hw : Wd n s) : (advOp n S c p s x).Ok := by
  have wd := hw.word S.T
  obtain ⟨⟨g0, g1⟩, hl, hb, he⟩ := h
  unfold advOp
  by_cases l1 : x.line = 1
  · rw [if_pos l1]
    by_cases e : ep (wordAt n s S.T) = p
    · rw [if_pos e]; exact seek_ok wd.1 wd.2 (hb (by omega))
    · rw [if_neg e]; exact ⟨⟨wd.1, wd.2⟩, .inr (.inr (.inr rfl)), fun h => absurd rfl h, .inr (.inr rfl)⟩
  rw [if_neg l1]
  by_cases l2 : x.line = 2
  · rw [if_pos l2]
    split
    · exact ⟨⟨g0, g1⟩, .inr (.inr (.inr rfl)), fun h => absurd rfl h, .inr (.inr rfl)⟩
    · exact seek_ok g0 g1 (hb (by omega))
  rw [if_neg l2]
  by_cases l3 : x.line = 3
  · rw [if_pos l3]
    refine ⟨⟨g0, g1⟩, .inr (.inr (.inr rfl)), fun h => absurd rfl h, ?_⟩
    show (if wordAt n s S.T = x.W then (0 : Int) else 14) = 0 ∨ _
    split
    · exact .inl rfl
    · exact .inr (.inr rfl)
  rw [if_neg l3]
  exact ⟨⟨g0, g1⟩, hl, hb, he⟩
theorem adv_at {n : Nat} {S : Stk} {c p : Int} {s : St} {x : EOp} (h : AOkN S x) : AOkN S (advOp n S c p s x) := by
  unfold advOp
  by_cases l1 : x.line = 1
  · rw [if_pos l1]
    by_cases e : ep (wordAt n s S.T) = p
    · rw [if_pos e]; exact seek_at (by rw [h.l1 l1]; omega)
    · rw [if_neg e]; exact ⟨fun h => by simp at h, fun h => by simp at h⟩
  rw [if_neg l1]
  by_cases l2 : x.line = 2
  · rw [if_pos l2]
    split
    · exact ⟨fun h => by simp at h, fun h => by simp at h⟩
    · exact seek_at (by have := h.l2 l2; omega)
  rw [if_neg l2]
  by_cases l3 : x.line = 3
  · rw [if_pos l3]; exact ⟨fun h => by simp at h, fun h => by simp at h⟩
  rw [if_neg l3]
  exact h
theorem at_new (S : Stk) : AOkN S EOp.new := ⟨fun _ => rfl, fun h => absurd h (by decide)⟩
theorem at_bad (S : Stk) : AOkN S EOp.bad := ⟨fun h => absurd h (by decide), fun h => absurd h (by decide)⟩

theorem pin_wd {n : Nat} {S : Stk} {c : Int} {s : St} {x : EOp} (h : Wd n s) : Wd n (pinSt n S c s x) := by
  have e0 := ep_lo x.W
  have e1 := ep_hi x.W
  unfold pinSt
  split
  · exact h.acc _ _ _ _ (by omega) (by omega)
  split
  · exact h.acc _ _ _ _ (by omega) (by omega)
  split
  · exact h.acc _ _ _ _ (by omega) (by omega)
  exact h
theorem un_wd {n : Nat} {S : Stk} {c : Int} {s : St} {x : EOp} (h : Wd n s) : Wd n (unSt n S c s x) := by
  unfold unSt
  split
  · exact h.acc _ _ _ _ (by omega) (by omega)
  exact h
theorem adv_wd {n : Nat} {S : Stk} {s : St} {x : EOp} (h : Wd n s) : Wd n (advSt n S s x) := by
  have e0 := ep_lo x.W
  have e1 := ep_hi x.W
  unfold advSt
  split
  · exact h.acc _ _ _ _ (by omega) (by omega)
  split
  · exact h.acc _ _ _ _ (by omega) (by omega)
  split
  · exact h.acc _ _ _ _ (by omega) (by omega)
  exact h
theorem pin_cnt {n : Nat} {S : Stk} {c : Int} {s : St} {x : EOp} : s.cnt ≤ (pinSt n S c s x).cnt ∧ (pinSt n S c s x).cnt ≤ s.cnt + 1 := by
  unfold pinSt
  split
  · rw [Sk.acc_cnt]; omega
  split
  · rw [Sk.acc_cnt]; omega
  split
  · rw [Sk.acc_cnt]; omega
  omega
theorem un_cnt {n : Nat} {S : Stk} {c : Int} {s : St} {x : EOp} : s.cnt ≤ (unSt n S c s x).cnt ∧ (unSt n S c s x).cnt ≤ s.cnt + 1 := by
  unfold unSt
  split
  · rw [Sk.acc_cnt]; omega
  omega
theorem adv_cnt {n : Nat} {S : Stk} {s : St} {x : EOp} : s.cnt ≤ (advSt n S s x).cnt ∧ (advSt n S s x).cnt ≤ s.cnt + 1 := by
  unfold advSt
  split
  · rw [Sk.acc_cnt]; omega
  split
  · rw [Sk.acc_cnt]; omega
  split
  · rw [Sk.acc_cnt]; omega
  omega

def pinIt (n : Nat) (S : Stk) (c : Int) (s : St) (x : EOp) : Nat → St × EOp
  | 0 => (s, x)
  | k + 1 => (pinSt n S c (pinIt n S c s x k).1 (pinIt n S c s x k).2, pinOp n S (pinIt n S c s x k).1 (pinIt n S c s x k).2)
def advIt (n : Nat) (S : Stk) (c p : Int) (s : St) (x : EOp) : Nat → St × EOp
  | 0 => (s, x)
  | k + 1 => (advSt n S (advIt n S c p s x k).1 (advIt n S c p s x k).2, advOp n S c p (advIt n S c p s x k).1 (advIt n S c p s x k).2)
theorem pinIt_ok {n : Nat} {S : Stk} {c : Int} {s : St} {x : EOp} (h : x.Ok) (hw : Wd n s) : ∀ k : Nat, (pinIt n S c s x k).2.Ok ∧ Wd n (pinIt n S c s x k).1 ∧ s.cnt ≤ (pinIt n S c s x k).1.cnt ∧ (pinIt n S c s x k).1.cnt ≤ s.cnt + k
  | 0 => ⟨h, hw, Int.le_refl _, by show s.cnt ≤ s.cnt + (0 : Int); omega⟩
  | k + 1 => by
    obtain ⟨a, b, d, e⟩ := pinIt_ok (S := S) (c := c) h hw k
    have q := @pin_cnt n S c (pinIt n S c s x k).1 (pinIt n S c s x k).2
    refine ⟨pin_ok a b, pin_wd b, ?_, ?_⟩
    · show s.cnt ≤ (pinSt n S c (pinIt n S c s x k).1 (pinIt n S c s x k).2).cnt
      omega
    · show (pinSt n S c (pinIt n S c s x k).1 (pinIt n S c s x k).2).cnt ≤ s.cnt + ((k + 1 : Nat) : Int)
      omega
theorem advIt_ok {n : Nat} {S : Stk} {c p : Int} {s : St} {x : EOp} (h : x.Ok) (ha : AOkN S x) (hw : Wd n s) : ∀ k : Nat, (advIt n S c p s x k).2.Ok ∧ AOkN S (advIt n S c p s x k).2 ∧ Wd n (advIt n S c p s x k).1 ∧ s.cnt ≤ (advIt n S c p s x k).1.cnt ∧ (advIt n S c p s x k).1.cnt ≤ s.cnt + k
  | 0 => ⟨h, ha, hw, Int.le_refl _, by show s.cnt ≤ s.cnt + (0 : Int); omega⟩
  | k + 1 => by
    obtain ⟨a, a2, b, d, e⟩ := advIt_ok (c := c) (p := p) h ha hw k
    have q := @adv_cnt n S (advIt n S c p s x k).1 (advIt n S c p s x k).2
    refine ⟨adv_ok a b, adv_at a2, adv_wd b, ?_, ?_⟩
    · show s.cnt ≤ (advSt n S (advIt n S c p s x k).1 (advIt n S c p s x k).2).cnt
      omega
    · show (advSt n S (advIt n S c p s x k).1 (advIt n S c p s x k).2).cnt ≤ s.cnt + ((k + 1 : Nat) : Int)
      omega
end Go.Proofs.Ytmfbjlaajcdbnaa.Ep

namespace Go.Proofs.Ytmfbjlaajcdbnaa.Ep
set_option maxRecDepth 20000
open Go.RowKit
open Wo (St acc wordAt PMem RefIs)
open Sk (Stk Wd p_load p_store p_cas pmem_kept pmem_lt)

abbrev seatV (S : Stk) (c : Int) : Value := .agg #[.int .i64 S.T, .int .i64 S.K, .int .i64 S.N, .int .i64 c]
abbrev advV (S : Stk) (c p : Int) : Value := .agg #[.int .i64 S.T, .int .i64 S.K, .int .i64 S.N, .int .i64 c, .int .i64 p]
abbrev stV (made : Bool) (nx W u q er : Int) : Value := .agg #[.bool made, .int .i64 nx, .int .u64 W, .int .i64 u, .int .i64 q, .int .i64 er]

set_option maxHeartbeats 400000 in
theorem seen_any (made : Bool) (nx W u q er : Int) (w : World) (h0 : 0 ≤ W) (h1 : W < 18446744073709551616) :
    Calls Try.prog 73 #[stV made nx W u q er] w fun e w' => e = .returned (.int .u32 (ep W)) ∧ Kept w w' := by
  go_enter Try.func73, Try.ntmps73
  go_wp2
  go_ret
  exact ⟨rfl, by (go_light; repeat (first | (with_reducible exact Kept.refl _) | (with_reducible assumption) | (with_reducible refine Kept.alloc ?_ _ _) | (with_reducible refine Kept.drew ?_) | (with_reducible refine Kept.drewN ?_ _) | ((with_reducible refine Kept.setCell ?_ ?_ _); rotate_left; focus (first | (simp; done) | (simp; omega))) | refine Kept.trans ?_ (by assumption)))⟩
set_option maxHeartbeats 400000 in
theorem following_any (x : Int) (w : World) (h0 : 0 ≤ x) (h1 : x ≤ 4294967295) :
    Calls Try.prog 103 #[.int .u32 x] w fun e w' => e = .returned (.int .u64 (x + 1)) ∧ Kept w w' := by
  go_enter Try.func103, Try.ntmps103
  go_wp2
  go_ret
  exact ⟨rfl, by (go_light; repeat (first | (with_reducible exact Kept.refl _) | (with_reducible assumption) | (with_reducible refine Kept.alloc ?_ _ _) | (with_reducible refine Kept.drew ?_) | (with_reducible refine Kept.drewN ?_ _) | ((with_reducible refine Kept.setCell ?_ ?_ _); rotate_left; focus (first | (simp; done) | (simp; omega))) | refine Kept.trans ?_ (by assumption)))⟩
set_option maxHeartbeats 400000 in
theorem then_any (made : Bool) (nx W u q er k : Int) (w : World) :
    Calls Try.prog 101 #[stV made nx W u q er, .int .i64 k] w fun e w' => e = .returned (stV made k W u q er) ∧ Kept w w' := by
  go_enter Try.func101, Try.ntmps101
  go_wp2
  refine bodyPost_ret (v := stV made k W u q er) (by simp [results, Try.results101, go_sem]) rfl ⟨rfl, ?_⟩
  (go_light; repeat (first | (with_reducible exact Kept.refl _) | (with_reducible assumption) | (with_reducible refine Kept.alloc ?_ _ _) | (with_reducible refine Kept.drew ?_) | (with_reducible refine Kept.drewN ?_ _) | ((with_reducible refine Kept.setCell ?_ ?_ _); rotate_left; focus (first | (simp; done) | (simp; omega))) | refine Kept.trans ?_ (by assumption)))
set_option maxHeartbeats 400000 in
theorem end_any (made : Bool) (nx W u q er k : Int) (w : World) :
    Calls Try.prog 99 #[stV made nx W u q er, .int .i64 k] w fun e w' => e = .returned (stV made 0 W u q k) ∧ Kept w w' := by
  go_enter Try.func99, Try.ntmps99
  go_wp2
  refine bodyPost_ret (v := stV made 0 W u q k) (by simp [results, Try.results99, go_sem]) rfl ⟨rfl, ?_⟩
  (go_light; repeat (first | (with_reducible exact Kept.refl _) | (with_reducible assumption) | (with_reducible refine Kept.alloc ?_ _ _) | (with_reducible refine Kept.drew ?_) | (with_reducible refine Kept.drewN ?_ _) | ((with_reducible refine Kept.setCell ?_ ?_ _); rotate_left; focus (first | (simp; done) | (simp; omega))) | refine Kept.trans ?_ (by assumption)))
set_option maxHeartbeats 400000 in
theorem outcome_any (made : Bool) (nx W u q er : Int) (w : World) :
    Calls Try.prog 72 #[stV made nx W u q er] w fun e w' => e = .returned (.int .i64 (if made then er else 1)) ∧ Kept w w' := by
  cases made
  · go_enter Try.func72, Try.ntmps72
    go_wp2
    go_ret
    exact ⟨rfl, by (go_light; repeat (first | (with_reducible exact Kept.refl _) | (with_reducible assumption) | (with_reducible refine Kept.alloc ?_ _ _) | (with_reducible refine Kept.drew ?_) | (with_reducible refine Kept.drewN ?_ _) | ((with_reducible refine Kept.setCell ?_ ?_ _); rotate_left; focus (first | (simp; done) | (simp; omega))) | refine Kept.trans ?_ (by assumption)))⟩
  · go_enter Try.func72, Try.ntmps72
    go_wp2
    go_ret
    exact ⟨rfl, by (go_light; repeat (first | (with_reducible exact Kept.refl _) | (with_reducible assumption) | (with_reducible refine Kept.alloc ?_ _ _) | (with_reducible refine Kept.drew ?_) | (with_reducible refine Kept.drewN ?_ _) | ((with_reducible refine Kept.setCell ?_ ?_ _); rotate_left; focus (first | (simp; done) | (simp; omega))) | refine Kept.trans ?_ (by assumption)))⟩
set_option maxHeartbeats 400000 in
theorem exists_yes (S : Stk) (c : Int) (w : World) (h0 : 0 ≤ c) (h1 : c < S.N) : Calls Try.prog 100 #[seatV S c] w fun e w' => e = .returned (.bool true) ∧ Kept w w' := by
  go_enter Try.func100, Try.ntmps100
  go_wp2
  go_ret
  exact ⟨rfl, by (go_light; repeat (first | (with_reducible exact Kept.refl _) | (with_reducible assumption) | (with_reducible refine Kept.alloc ?_ _ _) | (with_reducible refine Kept.drew ?_) | (with_reducible refine Kept.drewN ?_ _) | ((with_reducible refine Kept.setCell ?_ ?_ _); rotate_left; focus (first | (simp; done) | (simp; omega))) | refine Kept.trans ?_ (by assumption)))⟩
set_option maxHeartbeats 400000 in
theorem exists_no (S : Stk) (c : Int) (w : World) (h : c < 0 ∨ S.N ≤ c) : Calls Try.prog 100 #[seatV S c] w fun e w' => e = .returned (.bool false) ∧ Kept w w' := by
  rcases h with h | h
  · go_enter Try.func100, Try.ntmps100
    go_wp2
    go_ret
    exact ⟨rfl, by (go_light; repeat (first | (with_reducible exact Kept.refl _) | (with_reducible assumption) | (with_reducible refine Kept.alloc ?_ _ _) | (with_reducible refine Kept.drew ?_) | (with_reducible refine Kept.drewN ?_ _) | ((with_reducible refine Kept.setCell ?_ ?_ _); rotate_left; focus (first | (simp; done) | (simp; omega))) | refine Kept.trans ?_ (by assumption)))⟩
  · by_cases h0 : c < 0
    · go_enter Try.func100, Try.ntmps100
      go_wp2
      go_ret
      exact ⟨rfl, by (go_light; repeat (first | (with_reducible exact Kept.refl _) | (with_reducible assumption) | (with_reducible refine Kept.alloc ?_ _ _) | (with_reducible refine Kept.drew ?_) | (with_reducible refine Kept.drewN ?_ _) | ((with_reducible refine Kept.setCell ?_ ?_ _); rotate_left; focus (first | (simp; done) | (simp; omega))) | refine Kept.trans ?_ (by assumption)))⟩
    · have h2 : decide (c < S.N) = false := by simp; omega
      go_enter Try.func100, Try.ntmps100
      go_wp2
      go_ret
      exact ⟨rfl, by (go_light; repeat (first | (with_reducible exact Kept.refl _) | (with_reducible assumption) | (with_reducible refine Kept.alloc ?_ _ _) | (with_reducible refine Kept.drew ?_) | (with_reducible refine Kept.drewN ?_ _) | ((with_reducible refine Kept.setCell ?_ ?_ _); rotate_left; focus (first | (simp; done) | (simp; omega))) | refine Kept.trans ?_ (by assumption)))⟩
set_option maxHeartbeats 400000 in
theorem seatPin_any (S : Stk) (c : Int) (w : World) (h0 : -9223372036854775808 ≤ S.K + c) (h1 : S.K + c ≤ 9223372036854775807) : Calls Try.prog 98 #[seatV S c] w fun e w' => e = .returned (.int .i64 (S.K + c)) ∧ Kept w w' := by
  go_enter Try.func98, Try.ntmps98
  go_wp2
  go_ret
  exact ⟨rfl, by (go_light; repeat (first | (with_reducible exact Kept.refl _) | (with_reducible assumption) | (with_reducible refine Kept.alloc ?_ _ _) | (with_reducible refine Kept.drew ?_) | (with_reducible refine Kept.drewN ?_ _) | ((with_reducible refine Kept.setCell ?_ ?_ _); rotate_left; focus (first | (simp; done) | (simp; omega))) | refine Kept.trans ?_ (by assumption)))⟩
end Go.Proofs.Ytmfbjlaajcdbnaa.Ep

namespace Go.Proofs.Ytmfbjlaajcdbnaa.Ep
set_option maxRecDepth 20000
open Go.RowKit
open Wo (St acc wordAt PMem RefIs)
open Sk (Stk Wd p_load p_store p_cas pmem_kept pmem_lt pmem_frame)

def Row (M B n : Nat) (s' : St) (v : Value) (w : World) (e : Ending) (w' : World) : Prop := e = .returned v ∧ PMem w' M B n s' ∧ But (fun k => k = B) w w'

structure Box6 (w : World) (o : Nat) (made : Bool) (nx W u q er : Int) : Prop where
  c0 : w.cell? ⟨o, 0, none⟩ = some (.bool made)
  c1 : w.cell? ⟨o, 1, none⟩ = some (.int .i64 nx)
  c2 : w.cell? ⟨o, 2, none⟩ = some (.int .u64 W)
  c3 : w.cell? ⟨o, 3, none⟩ = some (.int .i64 u)
  c4 : w.cell? ⟨o, 4, none⟩ = some (.int .i64 q)
  c5 : w.cell? ⟨o, 5, none⟩ = some (.int .i64 er)
theorem Box6.but {w w' : World} {o : Nat} {made : Bool} {nx W u q er : Int} (h : Box6 w o made nx W u q er) {T : Nat → Prop} (b : But T w w') (hT : ¬ T o) : Box6 w' o made nx W u q er :=
  ⟨b.some h.c0 hT, b.some h.c1 hT, b.some h.c2 hT, b.some h.c3 hT, b.some h.c4 hT, b.some h.c5 hT⟩
theorem Box6.kept {w w' : World} {o : Nat} {made : Bool} {nx W u q er : Int} (h : Box6 w o made nx W u q er) (k : Kept w w') : Box6 w' o made nx W u q er := h.but (k.but (fun _ => False)) id
theorem Box6.new (w : World) (o : Nat) (ho : o = w.heap.size) (made : Bool) (nx W u q er : Int) (t : TypeId) : Box6 (w.alloc (.cells #[.bool made, .int .i64 nx, .int .u64 W, .int .i64 u, .int .i64 q, .int .i64 er] t)) o made nx W u q er :=
  ⟨cell_new _ _ _ _ 0 ho, cell_new _ _ _ _ 1 ho, cell_new _ _ _ _ 2 ho, cell_new _ _ _ _ 3 ho, cell_new _ _ _ _ 4 ho, cell_new _ _ _ _ 5 ho⟩
theorem put6_facts {w W9 : World} {o : Nat} {made : Bool} {nx W u q er : Int} {made' : Bool} {nx' W' u' q' er' : Int} (h : Box6 w o made nx W u q er)
    (e : W9 = ((((((w.setCell ⟨o, 0, none⟩ (.bool made')).setCell ⟨o, 1, none⟩ (.int .i64 nx')).setCell ⟨o, 2, none⟩ (.int .u64 W')).setCell ⟨o, 3, none⟩ (.int .i64 u')).setCell ⟨o, 4, none⟩ (.int .i64 q')).setCell ⟨o, 5, none⟩ (.int .i64 er'))) :
    Box6 W9 o made' nx' W' u' q' er' ∧ But (fun k => k = o) w W9 := by
  subst e
  refine ⟨⟨?_, ?_, ?_, ?_, ?_, ?_⟩, ((((((( But.refl _ _).here _ _).here _ _).here _ _).here _ _).here _ _).here _ _)⟩
  · simp [cell_set, h.c0]
  · simp [cell_set, h.c1]
  · simp [cell_set, h.c2]
  · simp [cell_set, h.c3]
  · simp [cell_set, h.c4]
  · simp [cell_set, h.c5]
theorem put6_go {P : Program} {F : Func} {Q : Ending → World → Prop} {A : Act} {w : World} {o : Nat} {made : Bool} {nx W u q er : Int} {made' : Bool} {nx' W' u' q' er' : Int} (h : Box6 w o made nx W u q er)
    (k : ∀ W9, Box6 W9 o made' nx' W' u' q' er' → But (fun k => k = o) w W9 → bodyPost P F Q Exit.ret A W9) :
    bodyPost P F Q Exit.ret A ((((((w.setCell ⟨o, 0, none⟩ (.bool made')).setCell ⟨o, 1, none⟩ (.int .i64 nx')).setCell ⟨o, 2, none⟩ (.int .u64 W')).setCell ⟨o, 3, none⟩ (.int .i64 u')).setCell ⟨o, 4, none⟩ (.int .i64 q')).setCell ⟨o, 5, none⟩ (.int .i64 er')) := by
  refine k _ ⟨?_, ?_, ?_, ?_, ?_, ?_⟩ ((((((( But.refl _ _).here _ _).here _ _).here _ _).here _ _).here _ _).here _ _)
  · simp [cell_set, h.c0]
  · simp [cell_set, h.c1]
  · simp [cell_set, h.c2]
  · simp [cell_set, h.c3]
  · simp [cell_set, h.c4]
  · simp [cell_set, h.c5]
theorem frozen_new (w : World) (C : Array Value) (t : TypeId) (n i : Nat) (h : n = w.heap.size) : (w.alloc (.cells C t)).frozen? ⟨n, i, none⟩ = false := by
  subst h; simp
structure Three (w W0 : World) (made : Bool) (nx W u q er : Int) : Prop where
  st : Box6 W0 (w.heap.size + 1) made nx W u q er
  re : Box6 W0 (w.heap.size + 1 + 1) false 0 0 0 0 0
  f1 : ∀ i, W0.frozen? ⟨w.heap.size + 1, i, none⟩ = false
  f2 : ∀ i, W0.frozen? ⟨w.heap.size + 1 + 1, i, none⟩ = false
  lt : w.heap.size + 1 + 1 < W0.heap.size
  k : Kept w W0
theorem three_new (w : World) (C : Array Value) (ty : TypeId) (made : Bool) (nx W u q er : Int) (t : TypeId) :
    Three w (((w.alloc (.cells C ty)).alloc (.cells #[.bool made, .int .i64 nx, .int .u64 W, .int .i64 u, .int .i64 q, .int .i64 er] t)).alloc (.cells #[.bool false, .int .i64 0, .int .u64 0, .int .i64 0, .int .i64 0, .int .i64 0] t)) made nx W u q er :=
  ⟨(Box6.new _ _ (by simp) _ _ _ _ _ _ _).kept ((Kept.refl _).alloc _ _), Box6.new _ _ (by simp) _ _ _ _ _ _ _, fun i => ((Kept.refl _).alloc _ _).soft (by simp) (frozen_new _ _ _ _ _ (by simp)), fun i => frozen_new _ _ _ _ _ (by simp), by simp, (((Kept.refl w).alloc _ _).alloc _ _).alloc _ _⟩

set_option maxHeartbeats 1000000 in
theorem find_any (S : Stk) (c : Int) (made : Bool) (nx W u q er : Int) (M B n : Nat) (s : St) (w : World) (hm : PMem w M B n s) (h0 : 0 ≤ s.cnt) (h1 : s.cnt ≤ 1000000) :
    Calls Try.prog 77 #[seatV S c, stV made nx W u q er, .pointer (some ⟨M, 0, none⟩)] w (Row M B n (acc n s 1 S.T false 0) (stV made 2 (wordAt n s S.T) u q er) w) := by
  have hl := (pmem_lt hm).2
  have hlM := (pmem_lt hm).1
  have HM := Lib.hid hm
  clear hm
  go_enter Try.func77, Try.ntmps77
  go_wp2_with fail
  obtain ⟨W0, hW0⟩ : ∃ W0, W0 = (((w.alloc (.cells #[.int .i64 S.T, .int .i64 S.K, .int .i64 S.N, .int .i64 c] 134)).alloc (.cells #[.bool made, .int .i64 nx, .int .u64 W, .int .i64 u, .int .i64 q, .int .i64 er] 68)).alloc (.cells #[.bool false, .int .i64 0, .int .u64 0, .int .i64 0, .int .i64 0, .int .i64 0] 68)) := ⟨_, rfl⟩
  have T0 : Three w W0 made nx W u q er := by rw [hW0]; exact three_new ..
  rw [← hW0]
  clear hW0
  refine (p_load M B n s S.T _ (pmem_kept HM.out T0.k) h0 h1).mono ?_
  rintro e w1 ⟨rfl, m1, b1⟩
  obtain ⟨q0, q1, q2, q3, q4, q5⟩ := T0.st.but b1 (by omega)
  have RE := T0.re.but b1 (by omega)
  have qf : ∀ i, w1.frozen? ⟨w.heap.size + 1, i, none⟩ = false := fun i => b1.soft (by have := T0.lt; omega) (T0.f1 i)
  have rf : ∀ i, w1.frozen? ⟨w.heap.size + 1 + 1, i, none⟩ = false := fun i => b1.soft T0.lt (T0.f2 i)
  have M1 := Lib.hid m1
  have B1 : Hid (But (fun k => k = B) w w1) := Lib.hid ((T0.k.but (fun k => k = B)).trans b1 (fun _ _ h => h))
  have w1l : w.heap.size + 1 + 1 < w1.heap.size := Nat.lt_of_lt_of_le T0.lt b1.size
  clear m1 b1 T0
  go_wp2_with fail
  refine (then_any _ _ _ _ _ _ _ _).mono ?_
  rintro e w2 ⟨rfl, k2⟩
  have rf : ∀ i, w2.frozen? ⟨w.heap.size + 1 + 1, i, none⟩ = false := fun i => (((But.refl (fun k => k = w.heap.size + 1) w1).here _ _).then k2).soft w1l (rf i)
  have B2 : Hid (But (fun k => k = B) w w2) := Lib.hid ((B1.out.setCell (Or.inr (by show w.heap.size ≤ w.heap.size + 1; omega)) _).then k2)
  have M2 : Hid (PMem w2 M B n (acc n s 1 S.T false 0)) := Lib.hid (pmem_kept (pmem_frame M1.out ((But.refl (fun k => k = w.heap.size + 1) w1).here _ _) (by omega) (by omega)) k2)
  obtain ⟨r0, r1, r2, r3, r4, r5⟩ := (RE.but ((But.refl (fun k => k = w.heap.size + 1) w1).here 2 (.int .u64 (wordAt n s S.T))) (by omega)).kept k2
  have w2l : w.heap.size + 1 + 1 < w2.heap.size := Nat.lt_of_lt_of_le w1l (((But.refl (fun k => k = w.heap.size + 1) w1).here _ _).then k2).size
  clear k2 B1 M1 q0 q1 q2 q3 q4 q5 qf
  go_wp2
  refine put6_go ⟨r0, r1, r2, r3, r4, r5⟩ ?_
  rintro W9 ⟨e0, e1, e2, e3, e4, e5⟩ b9
  refine bodyPost_ret (v := stV made 2 (wordAt n s S.T) u q er) (by simp [results, Try.results77, go_sem, e0, e1, e2, e3, e4, e5]) rfl ⟨rfl, pmem_frame M2.out b9 (by omega) (by omega), (B2.out.trans b9 (fun i hi e => by have e : i = w.heap.size + 1 + 1 := e; omega))⟩
end Go.Proofs.Ytmfbjlaajcdbnaa.Ep
