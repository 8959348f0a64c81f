/- The program's arena: its small functions, and an operation's outcome. -/
import Derived.Test.YtbonnfofoepjcaaG08
import Derived.Lib.Hide
import Derived.Deep.Light
import Derived.Deep.RegionHeld3
import Derived.Laws.EntriesVeiled
import Derived.Test.YtbonnfofoepjcaaG05
import Derived.Test.YtbonnfofoepjcaaG03
set_option linter.unusedVariables false
set_option linter.unusedSimpArgs false

namespace Go.Proofs.Ytbonnfofoepjcaa.Sk
set_option maxRecDepth 20000
open Go.RowKit
open Wo (St acc wordAt PMem RefIs)

abbrev Arn.v (A : Arn) : Value := .agg #[.int .i64 A.F.T, .int .i64 A.F.K, .int .i64 A.F.N, .int .i64 A.G, .int .i64 A.V, .int .i64 A.L]

set_option maxHeartbeats 400000 in
theorem gen_any (T K N G V L i : Int) (w : World) : Calls Try.prog 41 #[.agg #[.int .i64 T, .int .i64 K, .int .i64 N, .int .i64 G, .int .i64 V, .int .i64 L], .int .i64 i] w fun e w' => e = .returned (.int .i64 (wrap64 (G + i))) ∧ Kept w w' := by
  go_enter Try.func41, Try.ntmps41
  go_wp2
  go_ret
  exact ⟨rfl, by (go_light; repeat (first | (with_reducible exact Kept.refl _) | (with_reducible assumption) | (with_reducible refine Kept.alloc ?_ _ _) | (with_reducible refine Kept.drew ?_) | (with_reducible refine Kept.drewN ?_ _) | ((with_reducible refine Kept.setCell ?_ ?_ _); rotate_left; focus (first | (simp; done) | (simp; omega))) | refine Kept.trans ?_ (by assumption)))⟩
theorem gen_in (T K N G V L i : Int) (w : World) (h0 : 0 ≤ G) (h1 : G ≤ 100000) (h2 : -1 ≤ i) (h3 : i ≤ 100000) : Calls Try.prog 41 #[.agg #[.int .i64 T, .int .i64 K, .int .i64 N, .int .i64 G, .int .i64 V, .int .i64 L], .int .i64 i] w fun e w' => e = .returned (.int .i64 (G + i)) ∧ Kept w w' :=
  (gen_any T K N G V L i w).mono fun _ _ ⟨x, k⟩ => ⟨by rw [x, show wrap64 (G + i) = G + i by unfold wrap64; omega], k⟩
set_option maxHeartbeats 400000 in
theorem number_any (x : Int) (w : World) (h0 : 0 ≤ x) (h1 : x < 18446744073709551616) : Calls Try.prog 56 #[.int .u64 x] w fun e w' => e = .returned (.int .i64 (gen x)) ∧ Kept w w' := by
  go_enter Try.func56, Try.ntmps56
  go_wp2
  go_ret
  exact ⟨rfl, by (go_light; repeat (first | (with_reducible exact Kept.refl _) | (with_reducible assumption) | (with_reducible refine Kept.alloc ?_ _ _) | (with_reducible refine Kept.drew ?_) | (with_reducible refine Kept.drewN ?_ _) | ((with_reducible refine Kept.setCell ?_ ?_ _); rotate_left; focus (first | (simp; done) | (simp; omega))) | refine Kept.trans ?_ (by assumption)))⟩
set_option maxHeartbeats 400000 in
theorem isWorn_any (T K N G V L x : Int) (w : World) (h0 : 0 ≤ x) (h1 : x < 18446744073709551616) : Calls Try.prog 43 #[.agg #[.int .i64 T, .int .i64 K, .int .i64 N, .int .i64 G, .int .i64 V, .int .i64 L], .int .u64 x] w fun e w' => e = .returned (.bool (decide (L ≤ gen x))) ∧ Kept w w' := by
  have HN : ∀ w, Hid (Calls Try.prog 56 #[.int .u64 x] w fun e w' => e = .returned (.int .i64 (gen x)) ∧ Kept w w') := fun w => Lib.hid (number_any x w h0 h1)
  go_enter Try.func43, Try.ntmps43
  go_wp2_with fail
  go_region_held3 (fun w' => w'.cell? ⟨w.heap.size, 5, none⟩ = some (.int .i64 L)) (first | (exact k1.some (by simp)) | go_keep) (first | (go_at_call 56; refine (HN _).out.mono ?_; rintro e w1 ⟨rfl, k1⟩))
  go_wp2
  go_ret
  exact ⟨rfl, by (go_light; repeat (first | (with_reducible exact Kept.refl _) | (with_reducible assumption) | (with_reducible refine Kept.alloc ?_ _ _) | (with_reducible refine Kept.drew ?_) | (with_reducible refine Kept.drewN ?_ _) | ((with_reducible refine Kept.setCell ?_ ?_ _); rotate_left; focus (first | (simp; done) | (simp; omega))) | refine Kept.trans ?_ (by assumption)))⟩
set_option maxHeartbeats 400000 in
theorem isAll_any (T K N G V L x : Int) (w : World) (h0 : 0 ≤ x) (h1 : x < 18446744073709551616) (n1 : 1 ≤ N) (n2 : N ≤ 4096) : Calls Try.prog 54 #[.agg #[.int .i64 T, .int .i64 K, .int .i64 N, .int .i64 G, .int .i64 V, .int .i64 L], .int .u64 x] w fun e w' => e = .returned (.bool (decide (N ≤ x))) ∧ Kept w w' := by
  have n3 : ¬ (0 : Int) > N := by omega
  have n4 : decide ((0 : Int) < N) = true := by simp; omega
  go_enter Try.func54, Try.ntmps54
  go_wp2
  go_ret
  exact ⟨by show Ending.returned (Value.bool (decide (max N 0 ≤ x))) = _; rw [show max N 0 = N by omega], by (go_light; repeat (first | (with_reducible exact Kept.refl _) | (with_reducible assumption) | (with_reducible refine Kept.alloc ?_ _ _) | (with_reducible refine Kept.drew ?_) | (with_reducible refine Kept.drewN ?_ _) | ((with_reducible refine Kept.setCell ?_ ?_ _); rotate_left; focus (first | (simp; done) | (simp; omega))) | refine Kept.trans ?_ (by assumption)))⟩
def GenF (x : Int) (w : World) (e : Ending) (w' : World) : Prop :=
  ∃ b, e = .returned (.func (.func 64) #[] #[.pointer (some ⟨b, 0, none⟩)]) ∧ w.heap.size ≤ b ∧ w'.cell? ⟨b, 0, none⟩ = some (.int .u64 x) ∧ (∀ i, w'.frozen? ⟨b, i, none⟩ = false) ∧ Kept w w'
set_option maxHeartbeats 400000 in
theorem generations_any (x : Int) (w : World) : Calls Try.prog 47 #[.int .u64 x] w (GenF x w) := by
  go_enter Try.func47, Try.ntmps47
  go_wp2
  go_ret
  exact ⟨w.heap.size, rfl, Nat.le_refl _, by simp, fun i => by simp, by (go_light; repeat (first | (with_reducible exact Kept.refl _) | (with_reducible assumption) | (with_reducible refine Kept.alloc ?_ _ _) | (with_reducible refine Kept.drew ?_) | (with_reducible refine Kept.drewN ?_ _) | ((with_reducible refine Kept.setCell ?_ ?_ _); rotate_left; focus (first | (simp; done) | (simp; omega))) | refine Kept.trans ?_ (by assumption)))⟩
set_option maxHeartbeats 400000 in
theorem generations1_any (x : Int) (b : Nat) (w : World) (c : w.cell? ⟨b, 0, none⟩ = some (.int .u64 x)) (f : ∀ i, w.frozen? ⟨b, i, none⟩ = false) :
    Calls Try.prog 64 #[.pointer (some ⟨b, 0, none⟩)] w fun e w' => e = .returned (.int .u64 ((x + 1) % 18446744073709551616)) ∧ w' = w.setCell ⟨b, 0, none⟩ (.int .u64 ((x + 1) % 18446744073709551616)) := by
  have hb := lt_of_cell c
  go_enter Try.func64, Try.ntmps64
  go_wp2
  go_ret
  exact ⟨rfl, rfl⟩

set_option maxHeartbeats 400000 in
theorem outcome_Alloc (P : Nat) (er : Int) (w : World) (c8 : w.cell? ⟨P, 8, none⟩ = some (.bool true)) (c16 : w.cell? ⟨P, 16, none⟩ = some (.int .i64 er)) :
    Calls Try.prog 13 #[.pointer (some ⟨P, 8, none⟩)] w fun e w' => e = .returned (.int .i64 er) ∧ w = w' := by
  have hP := lt_of_cell c8
  go_enter Try.func13, Try.ntmps13
  go_wp2
  go_ret
  exact ⟨rfl, rfl⟩
theorem ended_Alloc (P : Nat) (er : Int) (w : World) (c8 : w.cell? ⟨P, 8, none⟩ = some (.bool true)) (c16 : w.cell? ⟨P, 16, none⟩ = some (.int .i64 er)) :
    Calls Try.prog 14 #[.pointer (some ⟨P, 8, none⟩)] w fun e w' => e = .returned (.bool (er != 14)) ∧ w = w' := by
  have HC := Lib.hid (outcome_Alloc P er w c8 c16)
  clear c8 c16
  go_enter Try.func14, Try.ntmps14
  go_wp2_with fail
  refine HC.out.mono ?_
  rintro e w1 ⟨rfl, rfl⟩
  go_wp2
  go_ret
  exact ⟨rfl, rfl⟩
set_option maxHeartbeats 400000 in
theorem outcome_Free (P : Nat) (er : Int) (w : World) (c9 : w.cell? ⟨P, 9, none⟩ = some (.bool true)) (c17 : w.cell? ⟨P, 17, none⟩ = some (.int .i64 er)) :
    Calls Try.prog 20 #[.pointer (some ⟨P, 9, none⟩)] w fun e w' => e = .returned (.int .i64 er) ∧ w = w' := by
  have hP := lt_of_cell c9
  go_enter Try.func20, Try.ntmps20
  go_wp2
  go_ret
  exact ⟨rfl, rfl⟩
theorem ended_Free (P : Nat) (er : Int) (w : World) (c9 : w.cell? ⟨P, 9, none⟩ = some (.bool true)) (c17 : w.cell? ⟨P, 17, none⟩ = some (.int .i64 er)) :
    Calls Try.prog 17 #[.pointer (some ⟨P, 9, none⟩)] w fun e w' => e = .returned (.bool (er != 14)) ∧ w = w' := by
  have HC := Lib.hid (outcome_Free P er w c9 c17)
  clear c9 c17
  go_enter Try.func17, Try.ntmps17
  go_wp2_with fail
  refine HC.out.mono ?_
  rintro e w1 ⟨rfl, rfl⟩
  go_wp2
  go_ret
  exact ⟨rfl, rfl⟩

set_option maxHeartbeats 400000 in
theorem outcome_Alloc_none (P : Nat) (w : World) (c8 : w.cell? ⟨P, 8, none⟩ = some (.bool false)) :
    Calls Try.prog 13 #[.pointer (some ⟨P, 8, none⟩)] w fun e w' => e = .returned (.int .i64 1) ∧ w = w' := by
  have hP := lt_of_cell c8
  go_enter Try.func13, Try.ntmps13
  go_wp2
  go_ret
  exact ⟨rfl, rfl⟩
set_option maxHeartbeats 400000 in
theorem outcome_Free_none (P : Nat) (w : World) (c9 : w.cell? ⟨P, 9, none⟩ = some (.bool false)) :
    Calls Try.prog 20 #[.pointer (some ⟨P, 9, none⟩)] w fun e w' => e = .returned (.int .i64 1) ∧ w = w' := by
  have hP := lt_of_cell c9
  go_enter Try.func20, Try.ntmps20
  go_wp2
  go_ret
  exact ⟨rfl, rfl⟩
end Go.Proofs.Ytbonnfofoepjcaa.Sk

namespace Go.Proofs.Ytbonnfofoepjcaa.Sk
set_option maxRecDepth 20000
open Go.RowKit
open Wo (St acc wordAt PMem RefIs)

def fitsE (S : Stk) (n : Int) : Int :=
  if n < 1 ∨ 4096 < n then 3
  else if S.N < 1 ∨ 4096 < S.N ∨ S.T < 0 ∨ n ≤ S.T ∨ S.K < 0 ∨ n - S.N < S.K ∨ (S.K ≤ S.T ∧ S.T < S.K + S.N) then 2 else 0
theorem fitsE_ok {S : Stk} {n : Int} (h : fitsE S n = 0) : S.Ok n.toNat ∧ 1 ≤ n ∧ n ≤ 4096 := by
  unfold fitsE at h
  split at h
  · omega
  · split at h
    · omega
    · exact ⟨⟨by omega, by omega, by omega, by omega, by omega, by omega, by omega, by omega, by omega⟩, by omega, by omega⟩
theorem fitsE_is (S : Stk) (n : Int) : fitsE S n = 0 ∨ fitsE S n = 2 ∨ fitsE S n = 3 := by
  unfold fitsE
  split
  · simp
  · split <;> simp

set_option maxHeartbeats 400000 in
theorem sized_yes (S : Stk) (w : World) (h0 : 1 ≤ S.N) (h1 : S.N ≤ 4096) : Calls Try.prog 60 #[.agg #[.int .i64 S.T, .int .i64 S.K, .int .i64 S.N]] w fun e w' => e = .returned (.bool true) ∧ Kept w w' := by
  go_enter Try.func60, Try.ntmps60
  go_wp2
  go_ret
  exact ⟨rfl, by (go_light; repeat (first | (with_reducible exact Kept.refl _) | (with_reducible assumption) | (with_reducible refine Kept.alloc ?_ _ _) | (with_reducible refine Kept.drew ?_) | (with_reducible refine Kept.drewN ?_ _) | ((with_reducible refine Kept.setCell ?_ ?_ _); rotate_left; focus (first | (simp; done) | (simp; omega))) | refine Kept.trans ?_ (by assumption)))⟩
set_option maxHeartbeats 400000 in
theorem sized_no (S : Stk) (w : World) (h : S.N < 1 ∨ 4096 < S.N) : Calls Try.prog 60 #[.agg #[.int .i64 S.T, .int .i64 S.K, .int .i64 S.N]] w fun e w' => e = .returned (.bool false) ∧ Kept w w' := by
  rcases h with h | h
  · go_enter Try.func60, Try.ntmps60
    go_wp2
    go_ret
    exact ⟨rfl, by (go_light; repeat (first | (with_reducible exact Kept.refl _) | (with_reducible assumption) | (with_reducible refine Kept.alloc ?_ _ _) | (with_reducible refine Kept.drew ?_) | (with_reducible refine Kept.drewN ?_ _) | ((with_reducible refine Kept.setCell ?_ ?_ _); rotate_left; focus (first | (simp; done) | (simp; omega))) | refine Kept.trans ?_ (by assumption)))⟩
  · have h0 : 1 ≤ S.N := by omega
    have h2 : decide (S.N ≤ 4096) = false := by simp; omega
    go_enter Try.func60, Try.ntmps60
    go_wp2
    go_ret
    exact ⟨rfl, by (go_light; repeat (first | (with_reducible exact Kept.refl _) | (with_reducible assumption) | (with_reducible refine Kept.alloc ?_ _ _) | (with_reducible refine Kept.drew ?_) | (with_reducible refine Kept.drewN ?_ _) | ((with_reducible refine Kept.setCell ?_ ?_ _); rotate_left; focus (first | (simp; done) | (simp; omega))) | refine Kept.trans ?_ (by assumption)))⟩
end Go.Proofs.Ytbonnfofoepjcaa.Sk

namespace Go.Proofs.Ytbonnfofoepjcaa.Sk
set_option maxRecDepth 20000
open Go.RowKit
open Wo (St acc wordAt PMem RefIs)

def fillTo (n : Nat) (S : Stk) (s : St) : Nat → St
  | 0 => acc n s 2 S.T true 1
  | k + 1 => acc n (fillTo n S s k) 2 (S.K + k) true (k + 2)
def fillSt (n : Nat) (S : Stk) (s : St) : St := acc n (fillTo n S s (S.N.toNat - 1)) 2 (S.K + (S.N - 1)) true 0
theorem fillTo_cnt (n : Nat) (S : Stk) (s : St) (k : Nat) : (fillTo n S s k).cnt = s.cnt + 1 + k := by
  induction k with
  | zero => show (acc n s 2 S.T true 1).cnt = _; rw [acc_cnt]; simp
  | succ k ih => show (acc n (fillTo n S s k) 2 (S.K + k) true (k + 2)).cnt = _; rw [acc_cnt, ih]; omega
theorem fillTo_wd {n : Nat} {S : Stk} {s : St} (h : Wd n s) : ∀ k, k ≤ 100000 → Wd n (fillTo n S s k)
  | 0, _ => h.acc _ _ _ _ (by omega) (by omega)
  | k + 1, hk => (fillTo_wd h k (by omega)).acc _ _ _ _ (by omega) (by omega)
theorem fillSt_cnt {n : Nat} {S : Stk} {s : St} (h : 1 ≤ S.N) : (fillSt n S s).cnt = s.cnt + 1 + S.N := by
  unfold fillSt; rw [acc_cnt, fillTo_cnt]; omega
theorem fillSt_wd {n : Nat} {S : Stk} {s : St} (h : Wd n s) (hN : S.N ≤ 4096) : Wd n (fillSt n S s) := (fillTo_wd h _ (by omega)).acc _ _ _ _ (by omega) (by omega)

set_option maxHeartbeats 2000000 in
theorem p_fill (M B n : Nat) (S : Stk) (s : St) (w : World) (hm : PMem w M B n s) (h0 : 0 ≤ s.cnt) (h1 : s.cnt ≤ 900000) (hS : S.Ok n) :
    Calls Try.prog 45 #[.agg #[.int .i64 S.T, .int .i64 S.K, .int .i64 S.N], .pointer (some ⟨M, 0, none⟩)] w fun e w' => e = .returned (.tuple #[]) ∧ PMem w' M B n (fillSt n S s) ∧ But (fun k => k = B) w w' := by
  have N1 := hS.N1
  have N2 := hS.N2
  have K1 := hS.K1
  have K2 := hS.K2
  have n2 := hS.n2
  have hB := (pmem_lt hm).2
  have HM := Lib.hid hm
  clear hm hS
  go_enter Try.func45, Try.ntmps45
  go_wp2_with fail
  refine (sized_yes S _ N1 N2).mono ?_
  rintro e w1 ⟨rfl, k1⟩
  have a0 : w1.cell? ⟨w.heap.size, 0, none⟩ = some (.int .i64 S.T) := k1.some (by simp)
  have a1 : w1.cell? ⟨w.heap.size, 1, none⟩ = some (.int .i64 S.K) := k1.some (by simp)
  have a2 : w1.cell? ⟨w.heap.size, 2, none⟩ = some (.int .i64 S.N) := k1.some (by simp)
  have hne : w.heap.size ≠ B := by omega
  have K : Hid (Kept w w1) := Lib.hid (by (go_light; repeat (first | (with_reducible exact Kept.refl _) | (with_reducible assumption) | (with_reducible refine Kept.alloc ?_ _ _) | (with_reducible refine Kept.drew ?_) | (with_reducible refine Kept.drewN ?_ _) | ((with_reducible refine Kept.setCell ?_ ?_ _); rotate_left; focus (first | (simp; done) | (simp; omega))) | refine Kept.trans ?_ (by assumption))))
  clear k1
  go_wp2_with fail
  go_region_held3 (fun w' => w'.cell? ⟨w.heap.size, 0, none⟩ = some (.int .i64 S.T) ∧ w'.cell? ⟨w.heap.size, 1, none⟩ = some (.int .i64 S.K) ∧ w'.cell? ⟨w.heap.size, 2, none⟩ = some (.int .i64 S.N)) (first | go_keep | (exact ⟨k2.some a0, k2.some a1, k2.some a2⟩) | (exact ⟨d0, d1, d2⟩)) (first
    | (go_at_call 61; refine (untagged_any 0 _ (by omega) (by omega)).mono ?_; rintro e w2 ⟨rfl, k2⟩; have KT : Kept w1 w2 := Kept.trans (b := _) (by first | exact Kept.refl _ | exact (Kept.refl _).drew | exact (Kept.refl _).drewN _) k2)
    | (go_at_call 46; refine (p_store M B n s S.T 1 _ (pmem_kept HM.out (K.out.trans (by first | exact KT | exact KT.drew | exact KT.drewN _))) h0 (by omega)).mono ?_; rintro e w3 ⟨rfl, m3, b3⟩; have BT : But (fun k => k = B) w1 w3 := (Kept.but (w' := _) (by first | exact KT | exact KT.drew | exact KT.drewN _) _).trans b3 (fun _ _ h => h); have d0 := BT.some a0 hne; have d1 := BT.some a1 hne; have d2 := BT.some a2 hne))
  have M3 := Lib.hid m3
  have BW := Lib.hid ((K.out.but _).trans BT (fun _ _ h => h))
  have D0 := Lib.hid d0
  have D1 := Lib.hid d1
  have D2 := Lib.hid d2
  clear a0 a1 k2 KT m3 b3 BT d0 d1
  obtain ⟨m, hmm⟩ : ∃ m : Nat, (m : Int) = S.N - 1 := ⟨(S.N - 1).toNat, by omega⟩
  have HMM := Lib.hid hmm
  clear hmm
  go_wp2_with fail
  go_loopw [18, 5] (fun i _ wr => ∃ k : Nat, k ≤ m ∧ i = .int .i64 k ∧ PMem wr M B n (fillTo n S s k) ∧ But (fun k => k = B) w3 wr) (fun i _ _ => m - (intOf i).toNat)
  case atStart => exact ⟨0, Nat.zero_le _, rfl, M3.out, But.refl _ _⟩
  case round =>
    obtain ⟨k, hk, rfl, mr, br⟩ := hrel
    have e0 := br.some D0.out hne
    have e1 := br.some D1.out hne
    have e2 := br.some D2.out hne
    have hmm := HMM.out
    have MR := Lib.hid mr
    have BR := Lib.hid br
    have c0 : 0 ≤ (fillTo n S s k).cnt := by rw [fillTo_cnt]; omega
    have c1 : (fillTo n S s k).cnt ≤ 1000000 := by rw [fillTo_cnt]; omega
    clear mr br
    by_cases hlt : k < m
    · have hl : (k : Int) < S.N - 1 := by omega
      clear hmm
      go_wp2_with fail
      refine (link_in S.T S.K S.N k _ K1 (by omega) (by omega) (by omega)).mono ?_
      rintro e w4 ⟨rfl, k4⟩
      go_wp2_with fail
      refine (untagged_any (k + 1) _ (by omega) (by omega)).mono ?_
      rintro e w5 ⟨rfl, k5⟩
      go_wp2_with fail
      refine (p_store M B n _ (S.K + k) (k + 1 + 1) _ (pmem_kept MR.out (k4.trans k5)) c0 c1).mono ?_
      rintro e w6 ⟨rfl, m6, b6⟩
      have M6 := Lib.hid m6
      have B6 := Lib.hid ((BR.out.then (k4.trans k5)).trans b6 (fun _ _ h => h))
      clear k4 k5 m6 b6
      go_wp2
      go_roundw
      case rel => exact ⟨k + 1, by omega, by go_num, by have := M6.out; rw [show ((k : Int) + 1 + 1) = k + 2 by omega] at this; exact this, B6.out⟩
      case measure => simp [intOf]; omega
    · have hl : S.N - 1 ≤ (k : Int) := by omega
      have hkm : k = S.N.toNat - 1 := by omega
      have HKM := Lib.hid hkm
      clear hmm hkm
      go_wp2_with fail
      refine (link_in S.T S.K S.N (S.N - 1) _ K1 (by omega) (by omega) (by omega)).mono ?_
      rintro e w4 ⟨rfl, k4⟩
      go_wp2_with fail
      refine (untagged_any (-1) _ (by omega) (by omega)).mono ?_
      rintro e w5 ⟨rfl, k5⟩
      go_wp2_with fail
      refine (p_store M B n _ (S.K + (S.N - 1)) 0 _ (pmem_kept MR.out (k4.trans k5)) c0 c1).mono ?_
      rintro e w6 ⟨rfl, m6, b6⟩
      have M6 := Lib.hid m6
      have B6 := Lib.hid ((BR.out.then (k4.trans k5)).trans b6 (fun _ _ h => h))
      clear k4 k5 m6 b6
      go_wp2
      go_end0
      refine ⟨rfl, ?_, BW.out.trans B6.out (fun _ _ h => h)⟩
      have := M6.out
      rw [HKM.out] at this
      exact this

end Go.Proofs.Ytbonnfofoepjcaa.Sk

namespace Go.Proofs.Ytbonnfofoepjcaa.Sk
set_option maxRecDepth 20000
open Go.RowKit
open Wo (St acc wordAt PMem RefIs)

def afillTo (n : Nat) (A : Arn) (s : St) : Nat → St
  | 0 => acc n (fillSt n A.F s) 2 A.V true 0
  | k + 1 => acc n (afillTo n A s k) 2 (A.G + k) true 1
def afillSt (n : Nat) (A : Arn) (s : St) : St := afillTo n A s A.F.N.toNat
theorem afillTo_cnt (n : Nat) (A : Arn) (s : St) (k : Nat) (h : 1 ≤ A.F.N) : (afillTo n A s k).cnt = s.cnt + 2 + A.F.N + k := by
  induction k with
  | zero => show (acc n (fillSt n A.F s) 2 A.V true 0).cnt = _; rw [acc_cnt, fillSt_cnt h]; omega
  | succ k ih => show (acc n (afillTo n A s k) 2 (A.G + k) true 1).cnt = _; rw [acc_cnt, ih]; omega
theorem afillTo_wd {n : Nat} {A : Arn} {s : St} (h : Wd n s) (hN : A.F.N ≤ 4096) : ∀ k, Wd n (afillTo n A s k)
  | 0 => (fillSt_wd h hN).acc _ _ _ _ (by omega) (by omega)
  | k + 1 => (afillTo_wd h hN k).acc _ _ _ _ (by omega) (by omega)
theorem afillSt_wd {n : Nat} {A : Arn} {s : St} (h : Wd n s) (hN : A.F.N ≤ 4096) : Wd n (afillSt n A s) := afillTo_wd h hN _
theorem afillSt_cnt {n : Nat} {A : Arn} {s : St} (h : 1 ≤ A.F.N) : (afillSt n A s).cnt = s.cnt + 2 + 2 * A.F.N := by
  unfold afillSt; rw [afillTo_cnt _ _ _ _ h]; omega

set_option maxHeartbeats 2000000 in
theorem p_afill (M B n : Nat) (A : Arn) (s : St) (w : World) (hm : PMem w M B n s) (h0 : 0 ≤ s.cnt) (h1 : s.cnt ≤ 900000) (hA : A.Ok n) :
    Calls Try.prog 25 #[.agg #[.int .i64 A.F.T, .int .i64 A.F.K, .int .i64 A.F.N, .int .i64 A.G, .int .i64 A.V, .int .i64 A.L], .pointer (some ⟨M, 0, none⟩)] w fun e w' => e = .returned (.tuple #[]) ∧ PMem w' M B n (afillSt n A s) ∧ But (fun k => k = B) w w' := by
  have N1 := hA.F.N1
  have N2 := hA.F.N2
  have G1 := hA.G1
  have G2 := hA.G2
  have n2 := hA.F.n2
  have hB := pmem_lt hm
  have HF : ∀ W, Kept w W → Hid (Calls Try.prog 45 #[.agg #[.int .i64 A.F.T, .int .i64 A.F.K, .int .i64 A.F.N], .pointer (some ⟨M, 0, none⟩)] W fun e w' => e = .returned (.tuple #[]) ∧ PMem w' M B n (fillSt n A.F s) ∧ But (fun k => k = B) W w') := fun W k => Lib.hid (p_fill M B n A.F s W (pmem_kept hm k) h0 h1 hA.F)
  have C1 : 0 ≤ (fillSt n A.F s).cnt ∧ (fillSt n A.F s).cnt ≤ 1000000 := by rw [fillSt_cnt N1]; omega
  have C2 : ∀ k : Nat, k ≤ 4096 → 0 ≤ (afillTo n A s k).cnt ∧ (afillTo n A s k).cnt ≤ 1000000 := fun k hk => by rw [afillTo_cnt _ _ _ _ N1]; omega
  have HC1 := Lib.hid C1
  have HC2 := Lib.hid C2
  have hne : w.heap.size ≠ B := by omega
  clear hm hA C1 C2
  go_enter Try.func25, Try.ntmps25
  go_wp2_with fail
  refine (HF _ (by (go_light; repeat (first | (with_reducible exact Kept.refl _) | (with_reducible assumption) | (with_reducible refine Kept.alloc ?_ _ _) | (with_reducible refine Kept.drew ?_) | (with_reducible refine Kept.drewN ?_ _) | ((with_reducible refine Kept.setCell ?_ ?_ _); rotate_left; focus (first | (simp; done) | (simp; omega))) | refine Kept.trans ?_ (by assumption))))).out.mono ?_
  rintro e w1 ⟨rfl, m1, b1⟩
  have a0 := b1.some (cell_new w #[.int .i64 A.F.T, .int .i64 A.F.K, .int .i64 A.F.N, .int .i64 A.G, .int .i64 A.V, .int .i64 A.L] 37 w.heap.size 0 rfl) hne
  have a1 := b1.some (cell_new w #[.int .i64 A.F.T, .int .i64 A.F.K, .int .i64 A.F.N, .int .i64 A.G, .int .i64 A.V, .int .i64 A.L] 37 w.heap.size 1 rfl) hne
  have a2 := b1.some (cell_new w #[.int .i64 A.F.T, .int .i64 A.F.K, .int .i64 A.F.N, .int .i64 A.G, .int .i64 A.V, .int .i64 A.L] 37 w.heap.size 2 rfl) hne
  have a3 := b1.some (cell_new w #[.int .i64 A.F.T, .int .i64 A.F.K, .int .i64 A.F.N, .int .i64 A.G, .int .i64 A.V, .int .i64 A.L] 37 w.heap.size 3 rfl) hne
  have a4 := b1.some (cell_new w #[.int .i64 A.F.T, .int .i64 A.F.K, .int .i64 A.F.N, .int .i64 A.G, .int .i64 A.V, .int .i64 A.L] 37 w.heap.size 4 rfl) hne
  have a5 := b1.some (cell_new w #[.int .i64 A.F.T, .int .i64 A.F.K, .int .i64 A.F.N, .int .i64 A.G, .int .i64 A.V, .int .i64 A.L] 37 w.heap.size 5 rfl) hne
  have BW1 : Hid (But (fun k => k = B) w w1) := Lib.hid ((Kept.but ((Kept.refl w).alloc _ _) _).trans b1 (fun _ _ h => h))
  have M1 := Lib.hid m1
  have hz1 := b1.size
  simp at hz1
  clear m1 b1 HF
  go_wp2_with fail
  refine (p_store M B n _ A.V 0 _ M1.out HC1.out.1 HC1.out.2).mono ?_
  rintro e w2 ⟨rfl, m2, b2⟩
  have d0 := b2.some a0 hne
  have d1 := b2.some a1 hne
  have d2 := b2.some a2 hne
  have d3 := b2.some a3 hne
  have d4 := b2.some a4 hne
  have d5 := b2.some a5 hne
  have BW2 := Lib.hid (BW1.out.trans b2 (fun _ _ h => h))
  have M2 : Hid (PMem w2 M B n (afillTo n A s 0)) := Lib.hid m2
  have hz2 := b2.size
  obtain ⟨m, hmm⟩ : ∃ m : Nat, (m : Int) = A.F.N := ⟨A.F.N.toNat, by omega⟩
  have HMM := Lib.hid hmm
  clear m2 b2 a0 a1 a2 a3 a4 a5 hmm M1
  go_wp2_with fail
  go_loopw [27, 4, 5] (fun i _ _ wr => ∃ k : Nat, k ≤ m ∧ i = .int .i64 k ∧ PMem wr M B n (afillTo n A s k) ∧ But (fun k => k = B) w2 wr) (fun i _ _ _ => m - (intOf i).toNat)
  case atStart => exact ⟨0, Nat.zero_le _, rfl, M2.out, But.refl _ _⟩
  case round =>
    obtain ⟨k, hk, rfl, mr, br⟩ := hrel
    have e0 := br.some d0 hne
    have e1 := br.some d1 hne
    have e2 := br.some d2 hne
    have e3 := br.some d3 hne
    have e4 := br.some d4 hne
    have e5 := br.some d5 hne
    have hmm := HMM.out
    have MR := Lib.hid mr
    have BR := Lib.hid br
    have hc := Lib.hid (HC2.out k (by omega))
    clear mr br d0 d1 d2 d3 d4 d5
    by_cases hlt : k < m
    · have hl : (k : Int) < A.F.N := by omega
      have hk2 : (k : Int) ≤ 65534 := by omega
      have HG : ∀ W, Hid (Calls Try.prog 41 #[.agg #[.int .i64 A.F.T, .int .i64 A.F.K, .int .i64 A.F.N, .int .i64 A.G, .int .i64 A.V, .int .i64 A.L], .int .i64 (k : Int)] W fun e w' => e = .returned (.int .i64 (A.G + k)) ∧ Kept W w') := fun W => Lib.hid (gen_in _ _ _ _ _ _ _ W G1 (by omega) (by omega) (by omega))
      clear hmm
      go_wp2_with fail
      refine (generations_any 0 _).mono ?_
      rintro e w4 ⟨b, rfl, hb, cb, fb, k4⟩
      have hbu := lt_of_cell cb
      have g0 := k4.some e0
      have g1 := k4.some e1
      have g2 := k4.some e2
      have g3 := k4.some e3
      have g4 := k4.some e4
      have g5 := k4.some e5
      have K4 := Lib.hid k4
      have FB := Lib.hid fb
      clear k4 fb
      go_wp2_with fail
      refine (HG _).out.mono ?_
      rintro e w5 ⟨rfl, k5⟩
      have cb5 := k5.some cb
      have fb5 : ∀ i, w5.frozen? ⟨b, i, none⟩ = false := fun j => k5.soft hbu (FB.out j)
      have K5 := Lib.hid (K4.out.trans k5)
      clear k5
      go_wp2_with fail
      refine (generations1_any 0 b _ cb5 fb5).mono ?_
      rintro e w6 ⟨rfl, h6⟩
      have K6 := Lib.hid (show Kept _ w6 by rw [h6]; exact Kept.setCell K5.out (p := ⟨b, 0, none⟩) hb _)
      clear h6 cb5 fb5 cb g0 g1 g2 g3 g4 g5
      go_wp2_with fail
      refine (p_store M B n _ (A.G + k) 1 _ (pmem_kept MR.out K6.out) hc.out.1 hc.out.2).mono ?_
      rintro e w7 ⟨rfl, m7, b7⟩
      have M7 := Lib.hid m7
      have B7 := Lib.hid ((BR.out.then K6.out).trans b7 (fun _ _ h => h))
      clear m7 b7
      go_wp2
      go_roundw
      case rel => exact ⟨k + 1, by omega, by go_num, M7.out, B7.out⟩
      case measure => simp [intOf]; omega
    · have hl : A.F.N ≤ (k : Int) := by omega
      have hkm : k = A.F.N.toNat := by omega
      have HKM := Lib.hid hkm
      clear hmm hkm
      go_wp2
      go_end0
      refine ⟨rfl, ?_, BW2.out.trans BR.out (fun _ _ h => h)⟩
      have := MR.out
      rw [HKM.out] at this
      exact this

end Go.Proofs.Ytbonnfofoepjcaa.Sk

namespace Go.Proofs.Ytbonnfofoepjcaa.Sk
set_option maxRecDepth 20000
open Go.RowKit
open Wo (St acc wordAt PMem RefIs)

theorem OpAt.set {w : World} {P o : Nat} {S : Stk} {W L : Int} {nx : Value} {er : Int} (h : OpAt w P o S W L nx er) (j : Nat) (hj : j < o ∨ o + 8 ≤ j) (v : Value) : OpAt (w.setCell ⟨P, j, none⟩ v) P o S W L nx er := by
  obtain ⟨c0, c1, c2, c3, c4, c5, c6, c7, f⟩ := h
  refine ⟨?_, ?_, ?_, ?_, ?_, ?_, ?_, ?_, fun i => ?_⟩
  all_goals first | (rw [cell_set, if_neg (by omega)]; assumption) | (simp [f])

structure AlRaw (w : World) (P : Nat) (A : Arn) (q : Op) (v : Value) (er r : Int) : Prop where
  op : PopAt w P 0 A.F q
  c8 : w.cell? ⟨P, 8, none⟩ = some (.bool true)
  c9 : w.cell? ⟨P, 9, none⟩ = some (.int .i64 A.F.T)
  c10 : w.cell? ⟨P, 10, none⟩ = some (.int .i64 A.F.K)
  c11 : w.cell? ⟨P, 11, none⟩ = some (.int .i64 A.F.N)
  c12 : w.cell? ⟨P, 12, none⟩ = some (.int .i64 A.G)
  c13 : w.cell? ⟨P, 13, none⟩ = some (.int .i64 A.V)
  c14 : w.cell? ⟨P, 14, none⟩ = some (.int .i64 A.L)
  c15 : w.cell? ⟨P, 15, none⟩ = some v
  c16 : w.cell? ⟨P, 16, none⟩ = some (.int .i64 er)
  c17 : w.cell? ⟨P, 17, none⟩ = some (.int .u64 r)
theorem AlRaw.lt {w : World} {P : Nat} {A : Arn} {q : Op} {v : Value} {er r : Int} (h : AlRaw w P A q v er r) : P < w.heap.size := lt_of_cell h.c8
theorem AlRaw.soft {w : World} {P : Nat} {A : Arn} {q : Op} {v : Value} {er r : Int} (h : AlRaw w P A q v er r) : ∀ i, w.frozen? ⟨P, i, none⟩ = false := h.op.f
theorem AlRaw.frame {w w' : World} {P : Nat} {A : Arn} {q : Op} {v : Value} {er r : Int} (h : AlRaw w P A q v er r) {T : Nat → Prop} (hb : But T w w') (hP : ¬ T P) : AlRaw w' P A q v er r :=
  ⟨OpAt.frame h.op hb hP, hb.some h.c8 hP, hb.some h.c9 hP, hb.some h.c10 hP, hb.some h.c11 hP, hb.some h.c12 hP, hb.some h.c13 hP, hb.some h.c14 hP, hb.some h.c15 hP, hb.some h.c16 hP, hb.some h.c17 hP⟩
theorem AlRaw.kept {w w' : World} {P : Nat} {A : Arn} {q : Op} {v : Value} {er r : Int} (h : AlRaw w P A q v er r) (k : Kept w w') : AlRaw w' P A q v er r := h.frame (k.but (fun _ => False)) id
theorem AlRaw.pop {w w' : World} {P B : Nat} {A : Arn} {q q' : Op} {v : Value} {er r : Int} (h : AlRaw w P A q v er r) (g : Chg P 0 8 B w w') (o : PopAt w' P 0 A.F q') : AlRaw w' P A q' v er r :=
  ⟨o, g.some h.c8 (by omega), g.some h.c9 (by omega), g.some h.c10 (by omega), g.some h.c11 (by omega), g.some h.c12 (by omega), g.some h.c13 (by omega), g.some h.c14 (by omega), g.some h.c15 (by omega), g.some h.c16 (by omega), g.some h.c17 (by omega)⟩
theorem AlRaw.set15 {w : World} {P : Nat} {A : Arn} {q : Op} {v : Value} {er r : Int} (h : AlRaw w P A q v er r) (v' : Value) : AlRaw (w.setCell ⟨P, 15, none⟩ v') P A q v' er r := by
  obtain ⟨o, c8, c9, c10, c11, c12, c13, c14, c15, c16, c17⟩ := h
  refine ⟨OpAt.set o 15 (by omega) _, ?_, ?_, ?_, ?_, ?_, ?_, ?_, ?_, ?_, ?_⟩ <;> (simp [cell_set, *]; done)
theorem AlRaw.set16 {w : World} {P : Nat} {A : Arn} {q : Op} {v : Value} {er r : Int} (h : AlRaw w P A q v er r) (er' : Int) : AlRaw (w.setCell ⟨P, 16, none⟩ (.int .i64 er')) P A q v er' r := by
  obtain ⟨o, c8, c9, c10, c11, c12, c13, c14, c15, c16, c17⟩ := h
  refine ⟨OpAt.set o 16 (by omega) _, ?_, ?_, ?_, ?_, ?_, ?_, ?_, ?_, ?_, ?_⟩ <;> (simp [cell_set, *]; done)
theorem AlRaw.set17 {w : World} {P : Nat} {A : Arn} {q : Op} {v : Value} {er r : Int} (h : AlRaw w P A q v er r) (r' : Int) : AlRaw (w.setCell ⟨P, 17, none⟩ (.int .u64 r')) P A q v er r' := by
  obtain ⟨o, c8, c9, c10, c11, c12, c13, c14, c15, c16, c17⟩ := h
  refine ⟨OpAt.set o 17 (by omega) _, ?_, ?_, ?_, ?_, ?_, ?_, ?_, ?_, ?_, ?_⟩ <;> (simp [cell_set, *]; done)

structure FrRaw (w : World) (P : Nat) (A : Arn) (i : Int) (e0 : Int) (q : Op) (v : Value) (er g : Int) : Prop where
  op : PushAt w P 0 A.F i e0 q
  c9 : w.cell? ⟨P, 9, none⟩ = some (.bool true)
  c10 : w.cell? ⟨P, 10, none⟩ = some (.int .i64 A.F.T)
  c11 : w.cell? ⟨P, 11, none⟩ = some (.int .i64 A.F.K)
  c12 : w.cell? ⟨P, 12, none⟩ = some (.int .i64 A.F.N)
  c13 : w.cell? ⟨P, 13, none⟩ = some (.int .i64 A.G)
  c14 : w.cell? ⟨P, 14, none⟩ = some (.int .i64 A.V)
  c15 : w.cell? ⟨P, 15, none⟩ = some (.int .i64 A.L)
  c16 : w.cell? ⟨P, 16, none⟩ = some v
  c17 : w.cell? ⟨P, 17, none⟩ = some (.int .i64 er)
  c18 : w.cell? ⟨P, 18, none⟩ = some (.int .i64 i)
  c19 : w.cell? ⟨P, 19, none⟩ = some (.int .u64 g)
theorem PushAt.but {w w' : World} {P o : Nat} {S : Stk} {i e0 : Int} {x : Op} (h : PushAt w P o S i e0 x) {T : Nat → Prop} (hb : But T w w') (hP : ¬ T P) : PushAt w' P o S i e0 x := ⟨h.op.frame hb hP, hb.some h.i hP⟩
theorem PushAt.set {w : World} {P o : Nat} {S : Stk} {i e0 : Int} {x : Op} (h : PushAt w P o S i e0 x) (j : Nat) (hj : j < o ∨ o + 9 ≤ j) (v : Value) : PushAt (w.setCell ⟨P, j, none⟩ v) P o S i e0 x :=
  ⟨h.op.set j (by omega) v, by rw [cell_set, if_neg (by omega)]; exact h.i⟩
theorem FrRaw.lt {w : World} {P : Nat} {A : Arn} {i e0 : Int} {q : Op} {v : Value} {er g : Int} (h : FrRaw w P A i e0 q v er g) : P < w.heap.size := lt_of_cell h.c9
theorem FrRaw.soft {w : World} {P : Nat} {A : Arn} {i e0 : Int} {q : Op} {v : Value} {er g : Int} (h : FrRaw w P A i e0 q v er g) : ∀ i, w.frozen? ⟨P, i, none⟩ = false := h.op.op.f
theorem FrRaw.frame {w w' : World} {P : Nat} {A : Arn} {i e0 : Int} {q : Op} {v : Value} {er g : Int} (h : FrRaw w P A i e0 q v er g) {T : Nat → Prop} (hb : But T w w') (hP : ¬ T P) : FrRaw w' P A i e0 q v er g :=
  ⟨h.op.but hb hP, hb.some h.c9 hP, hb.some h.c10 hP, hb.some h.c11 hP, hb.some h.c12 hP, hb.some h.c13 hP, hb.some h.c14 hP, hb.some h.c15 hP, hb.some h.c16 hP, hb.some h.c17 hP, hb.some h.c18 hP, hb.some h.c19 hP⟩
theorem FrRaw.kept {w w' : World} {P : Nat} {A : Arn} {i e0 : Int} {q : Op} {v : Value} {er g : Int} (h : FrRaw w P A i e0 q v er g) (k : Kept w w') : FrRaw w' P A i e0 q v er g := h.frame (k.but (fun _ => False)) id
theorem FrRaw.push {w w' : World} {P B : Nat} {A : Arn} {i e0 : Int} {q q' : Op} {v : Value} {er g : Int} (h : FrRaw w P A i e0 q v er g) (k : Chg P 0 8 B w w') (o : PushAt w' P 0 A.F i e0 q') : FrRaw w' P A i e0 q' v er g :=
  ⟨o, k.some h.c9 (by omega), k.some h.c10 (by omega), k.some h.c11 (by omega), k.some h.c12 (by omega), k.some h.c13 (by omega), k.some h.c14 (by omega), k.some h.c15 (by omega), k.some h.c16 (by omega), k.some h.c17 (by omega), k.some h.c18 (by omega), k.some h.c19 (by omega)⟩
theorem FrRaw.set16 {w : World} {P : Nat} {A : Arn} {i e0 : Int} {q : Op} {v : Value} {er g : Int} (h : FrRaw w P A i e0 q v er g) (v' : Value) : FrRaw (w.setCell ⟨P, 16, none⟩ v') P A i e0 q v' er g := by
  obtain ⟨o, c9, c10, c11, c12, c13, c14, c15, c16, c17, c18, c19⟩ := h
  refine ⟨o.set 16 (by omega) _, ?_, ?_, ?_, ?_, ?_, ?_, ?_, ?_, ?_, ?_, ?_⟩ <;> (simp [cell_set, *]; done)
theorem FrRaw.set17 {w : World} {P : Nat} {A : Arn} {i e0 : Int} {q : Op} {v : Value} {er g : Int} (h : FrRaw w P A i e0 q v er g) (er' : Int) : FrRaw (w.setCell ⟨P, 17, none⟩ (.int .i64 er')) P A i e0 q v er' g := by
  obtain ⟨o, c9, c10, c11, c12, c13, c14, c15, c16, c17, c18, c19⟩ := h
  refine ⟨o.set 17 (by omega) _, ?_, ?_, ?_, ?_, ?_, ?_, ?_, ?_, ?_, ?_, ?_⟩ <;> (simp [cell_set, *]; done)
theorem FrRaw.set19 {w : World} {P : Nat} {A : Arn} {i e0 : Int} {q : Op} {v : Value} {er g : Int} (h : FrRaw w P A i e0 q v er g) (g' : Int) : FrRaw (w.setCell ⟨P, 19, none⟩ (.int .u64 g')) P A i e0 q v er g' := by
  obtain ⟨o, c9, c10, c11, c12, c13, c14, c15, c16, c17, c18, c19⟩ := h
  refine ⟨o.set 19 (by omega) _, ?_, ?_, ?_, ?_, ?_, ?_, ?_, ?_, ?_, ?_, ?_⟩ <;> (simp [cell_set, *]; done)

def Rowed (At : World → Prop) (M B n : Nat) (s' : St) (P m : Nat) (w : World) (e : Ending) (w' : World) : Prop :=
  e = .returned (.tuple #[]) ∧ At w' ∧ PMem w' M B n s' ∧ Chg P 0 m B w w'
def Went (At : World → Prop) (M B n : Nat) (s' : St) (P m : Nat) (b : Bool) (w : World) (e : Ending) (w' : World) : Prop :=
  e = .returned (.bool b) ∧ At w' ∧ PMem w' M B n s' ∧ Chg P 0 m B w w'

theorem ref_put (i g : Int) (h0 : 0 ≤ i) (h1 : i ≤ 65534) (w : World) : Calls Try.prog 55 #[.agg #[.int .i64 i, .int .i64 (gen g), .bool false]] w fun e w' => e = .returned (.tuple #[.int .u64 (refW i (gen g)), .int .i64 0]) ∧ Kept w w' :=
  (Wo.put_ref_good i (gen g) false w ⟨by omega, h1, gen_lo g, by have := gen_hi g; omega⟩ (by omega)).mono fun _ _ ⟨x, k⟩ => ⟨by rw [x]; unfold refW; simp [Wo.bitOf], kept_of k⟩
end Go.Proofs.Ytbonnfofoepjcaa.Sk
