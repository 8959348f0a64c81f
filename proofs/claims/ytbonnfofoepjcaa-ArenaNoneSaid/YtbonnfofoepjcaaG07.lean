/- The program's operation[Push]: what each of its methods does; and Push's own. Written by gen10.py. -/
import Derived.Test.YtbonnfofoepjcaaG05
import Derived.Lib.Hide
import Derived.Deep.Light
import Derived.Deep.RegionHeld3
import Derived.Laws.EntriesVeiled
set_option linter.unusedVariables false
set_option linter.unusedSimpArgs false

namespace Go.Proofs.Ytbonnfofoepjcaa.Sk
set_option maxRecDepth 20000
open Go.RowKit
open Wo (St acc wordAt PMem RefIs)

set_option maxHeartbeats 1000000 in
theorem first_Push (P o : Nat) (S : Stk) (W L : Int) (nx : Value) (er : Int) (w : World) (ho : OpAt w P o S W L nx er) (w0 : 0 ≤ W) (w1 : W < 18446744073709551616) :
    Calls Try.prog 76 #[.pointer (some ⟨P, o, none⟩)] w fun e w' => e = .returned (.int .i64 (idx S.N W)) ∧ Kept w w' := by
  obtain ⟨c0, c1, c2, c3, c4, c5, c6, c7, f⟩ := ho
  have hP := lt_of_cell c0
  go_enter Try.func76, Try.ntmps76
  go_wp2_with fail
  go_region_held3 (fun w' => w'.cell? ⟨P, o + 1, none⟩ = some (.int .i64 S.T) ∧ w'.cell? ⟨P, o + 2, none⟩ = some (.int .i64 S.K) ∧ w'.cell? ⟨P, o + 3, none⟩ = some (.int .i64 S.N) ∧ w'.cell? ⟨P, o + 4, none⟩ = some (.int .u64 W)) (first | go_keep | (exact ⟨k1.some c1, k1.some c2, k1.some c3, k1.some c4⟩)) (first | (go_at_call 84; refine (read_any S.T S.K S.N W _ w0 w1).mono ?_; rintro e w1 ⟨rfl, k1⟩))
  go_wp2
  go_ret
  exact ⟨rfl, by (go_light; repeat (first | (with_reducible exact Kept.refl _) | (with_reducible assumption) | (with_reducible refine Kept.alloc ?_ _ _) | (with_reducible refine Kept.drew ?_) | (with_reducible refine Kept.drewN ?_ _) | ((with_reducible refine Kept.setCell ?_ ?_ _); rotate_left; focus (first | (simp; done) | (simp; omega))) | refine Kept.trans ?_ (by assumption)))⟩
set_option maxHeartbeats 1000000 in
theorem end_Push (P o : Nat) (S : Stk) (W L : Int) (nx : Value) (er er' : Int) (w : World) (ho : OpAt w P o S W L nx er) :
    Calls Try.prog 40 #[.pointer (some ⟨P, o, none⟩), .int .i64 er'] w fun e w' => e = .returned (.tuple #[]) ∧ OpAt w' P o S W L .nilFunc er' ∧ Chg P o 8 P w w' := by
  obtain ⟨c0, c1, c2, c3, c4, c5, c6, c7, f⟩ := ho
  have hP := lt_of_cell c0
  go_enter Try.func40, Try.ntmps40
  go_wp2
  go_end0
  exact ⟨rfl, (by go_light; refine ⟨?_, ?_, ?_, ?_, ?_, ?_, ?_, ?_, fun i => ?_⟩ <;> (simp [cell_set, *]; done)), by (go_light; repeat (first | (with_reducible assumption) | (with_reducible exact Chg.refl _ _ _ _ _) | (with_reducible refine Chg.set ?_ _ (by omega) _) | (with_reducible refine Chg.alloc ?_ (by assumption) _ _) | (with_reducible refine Chg.drew ?_ (by assumption)) | (with_reducible refine Chg.drewN ?_ (by assumption) _)))⟩
set_option maxHeartbeats 1000000 in
theorem loadTop_Push (P o M B n k : Nat) (S : Stk) (s : St) (W L : Int) (nx : Value) (er : Int) (w : World) (ho : OpAt w P o S W L nx er) (hm : PMem w M B n s) (h0 : 0 ≤ s.cnt) (h1 : s.cnt ≤ 1000000) (hPM : P ≠ M) (hPB : P ≠ B) :
    Calls Try.prog 57 #[.pointer (some ⟨P, o, none⟩), .pointer (some ⟨M, 0, none⟩), .func (.func k) #[] #[]] w
      fun e w' => e = .returned (.tuple #[]) ∧ OpAt w' P o S (wordAt n s S.T) L (.func (.func k) #[] #[]) er ∧ PMem w' M B n (acc n s 1 S.T false 0) ∧ Chg P o 8 B w w' := by
  obtain ⟨c0, c1, c2, c3, c4, c5, c6, c7, f⟩ := ho
  have hP := lt_of_cell c0
  have HM := Lib.hid hm
  clear hm
  go_enter Try.func57, Try.ntmps57
  go_wp2_with fail
  refine (p_load M B n s S.T _ HM.out h0 h1).mono ?_
  rintro e w1 ⟨rfl, m1, b1⟩
  have d0 := b1.some c0 hPB
  have d1 := b1.some c1 hPB
  have d2 := b1.some c2 hPB
  have d3 := b1.some c3 hPB
  have d4 := b1.some c4 hPB
  have d5 := b1.some c5 hPB
  have d6 := b1.some c6 hPB
  have d7 := b1.some c7 hPB
  have df : ∀ i, w1.frozen? ⟨P, i, none⟩ = false := fun i => b1.soft (lt_of_cell c0) (f i)
  have g1 : Chg P o 8 B w w1 := (Chg.refl _ _ _ _ _).mem b1 hP hPB
  have M1 := Lib.hid m1
  have G1 := Lib.hid g1
  clear m1 b1 g1 c0 c1 c2 c3 c4 c5 c6 c7 f
  go_wp2
  go_end0
  have g1 := G1.out
  exact ⟨rfl, (by go_light; refine ⟨?_, ?_, ?_, ?_, ?_, ?_, ?_, ?_, fun i => ?_⟩ <;> (simp [cell_set, *]; done)), pmem_frame M1.out (T := fun k => k = P) (((But.refl _ _).here _ _).here _ _) (Ne.symm hPM) (Ne.symm hPB), by (go_light; repeat (first | (with_reducible assumption) | (with_reducible exact Chg.refl _ _ _ _ _) | (with_reducible refine Chg.set ?_ _ (by omega) _) | (with_reducible refine Chg.alloc ?_ (by assumption) _ _) | (with_reducible refine Chg.drew ?_ (by assumption)) | (with_reducible refine Chg.drewN ?_ (by assumption) _)))⟩
set_option maxHeartbeats 2000000 in
theorem swap_Push_no (P o M B n k : Nat) (S : Stk) (s : St) (W L : Int) (nx : Value) (er i : Int) (w : World) (ho : OpAt w P o S W L nx er) (hm : PMem w M B n s) (h0 : 0 ≤ s.cnt) (h1 : s.cnt ≤ 1000000) (hPM : P ≠ M) (hPB : P ≠ B)
    (w0 : 0 ≤ W) (w1 : W < 18446744073709551616) (i0 : -1 ≤ i) (i1 : i ≤ 65534) (t0 : 0 ≤ S.T) (t1 : S.T < n) (hq : (wordAt n s S.T == W) = false) :
    Calls Try.prog 85 #[.pointer (some ⟨P, o, none⟩), .pointer (some ⟨M, 0, none⟩), .int .i64 i, .func (.func k) #[] #[]] w
      fun e w' => e = .returned (.tuple #[]) ∧ OpAt w' P o S W L (.func (.func k) #[] #[]) er ∧ PMem w' M B n (acc n s 3 S.T (wordAt n s S.T == W) (topW i W)) ∧ Chg P o 8 B w w' := by
  obtain ⟨c0, c1, c2, c3, c4, c5, c6, c7, f⟩ := ho
  have hP := lt_of_cell c0
  go_enter Try.func85, Try.ntmps85
  go_upto_region 1 with fail
  have d0 : (w.setCell ⟨P, o + 6, none⟩ (.func (.func k) #[] #[])).cell? ⟨P, o, none⟩ = some (.bool true) := by simp [cell_set, *]
  have d1 : (w.setCell ⟨P, o + 6, none⟩ (.func (.func k) #[] #[])).cell? ⟨P, o + 1, none⟩ = some (.int .i64 S.T) := by simp [cell_set, *]
  have d2 : (w.setCell ⟨P, o + 6, none⟩ (.func (.func k) #[] #[])).cell? ⟨P, o + 2, none⟩ = some (.int .i64 S.K) := by simp [cell_set, *]
  have d3 : (w.setCell ⟨P, o + 6, none⟩ (.func (.func k) #[] #[])).cell? ⟨P, o + 3, none⟩ = some (.int .i64 S.N) := by simp [cell_set, *]
  have d4 : (w.setCell ⟨P, o + 6, none⟩ (.func (.func k) #[] #[])).cell? ⟨P, o + 4, none⟩ = some (.int .u64 W) := by simp [cell_set, *]
  have d5 : (w.setCell ⟨P, o + 6, none⟩ (.func (.func k) #[] #[])).cell? ⟨P, o + 5, none⟩ = some (.int .u64 L) := by simp [cell_set, *]
  have d6 : (w.setCell ⟨P, o + 6, none⟩ (.func (.func k) #[] #[])).cell? ⟨P, o + 6, none⟩ = some (.func (.func k) #[] #[]) := by simp [cell_set, *]
  have d7 : (w.setCell ⟨P, o + 6, none⟩ (.func (.func k) #[] #[])).cell? ⟨P, o + 7, none⟩ = some (.int .i64 er) := by simp [cell_set, *]
  have df : ∀ i, (w.setCell ⟨P, o + 6, none⟩ (.func (.func k) #[] #[])).frozen? ⟨P, i, none⟩ = false := fun i => by simp [*]
  have m1 : PMem (w.setCell ⟨P, o + 6, none⟩ (.func (.func k) #[] #[])) M B n s := pmem_frame hm (T := fun k => k = P) ((But.refl _ _).here _ _) (Ne.symm hPM) (Ne.symm hPB)
  have g1 : Chg P o 8 B w (w.setCell ⟨P, o + 6, none⟩ (.func (.func k) #[] #[])) := (Chg.refl _ _ _ _ _).set _ (by omega) _
  clear c0 c1 c2 c3 c4 c5 c6 c7 f hm
  generalize w.setCell ⟨P, o + 6, none⟩ (.func (.func k) #[] #[]) = v1 at *
  have M1 := Lib.hid m1
  have G1 := Lib.hid g1
  have O1 : Hid (OpAt v1 P o S W L (.func (.func k) #[] #[]) er) := Lib.hid ⟨d0, d1, d2, d3, d4, d5, d6, d7, df⟩
  have hP1 := lt_of_cell d0
  clear m1 g1
  go_region_held3 (fun w' => w'.cell? ⟨P, o + 1, none⟩ = some (.int .i64 S.T) ∧ w'.cell? ⟨P, o + 4, none⟩ = some (.int .u64 W)) (first | go_keep | (exact ⟨k1.some d1, k1.some d4⟩) | (exact ⟨b2.some (k1.some d1) hPB, b2.some (k1.some d4) hPB⟩)) (first | (go_at_call 93; refine (following_any W i _ w0 w1 i0 i1).mono ?_; rintro e u1 ⟨rfl, k1⟩) | (go_at_call 92; refine (p_cas M B n s S.T W (topW i W) _ (pmem_kept M1.out (by (go_light; repeat (first | (with_reducible exact Kept.refl _) | (with_reducible assumption) | (with_reducible refine Kept.alloc ?_ _ _) | (with_reducible refine Kept.drew ?_) | (with_reducible refine Kept.drewN ?_ _) | ((with_reducible refine Kept.setCell ?_ ?_ _); rotate_left; focus (first | (simp; done) | (simp; omega))) | refine Kept.trans ?_ (by assumption))))) h0 h1 t0 t1).mono ?_; rintro e u2 ⟨rfl, m2, b2⟩))
  have b3 : But (fun k => k = B) v1 u2 := (Kept.but (by (go_light; repeat (first | (with_reducible exact Kept.refl _) | (with_reducible assumption) | (with_reducible refine Kept.alloc ?_ _ _) | (with_reducible refine Kept.drew ?_) | (with_reducible refine Kept.drewN ?_ _) | ((with_reducible refine Kept.setCell ?_ ?_ _); rotate_left; focus (first | (simp; done) | (simp; omega))) | refine Kept.trans ?_ (by assumption)))) _).trans b2 (fun _ _ h => h)
  go_wp2
  go_end0
  exact ⟨rfl, O1.out.frame b3 hPB, m2, G1.out.mem b3 hP hPB⟩
set_option maxHeartbeats 2000000 in
theorem swap_Push_yes (P o M B n k : Nat) (S : Stk) (s : St) (W L : Int) (nx : Value) (er i : Int) (w : World) (ho : OpAt w P o S W L nx er) (hm : PMem w M B n s) (h0 : 0 ≤ s.cnt) (h1 : s.cnt ≤ 1000000) (hPM : P ≠ M) (hPB : P ≠ B)
    (w0 : 0 ≤ W) (w1 : W < 18446744073709551616) (i0 : -1 ≤ i) (i1 : i ≤ 65534) (t0 : 0 ≤ S.T) (t1 : S.T < n) (hq : (wordAt n s S.T == W) = true) :
    Calls Try.prog 85 #[.pointer (some ⟨P, o, none⟩), .pointer (some ⟨M, 0, none⟩), .int .i64 i, .func (.func k) #[] #[]] w
      fun e w' => e = .returned (.tuple #[]) ∧ OpAt w' P o S W L .nilFunc 0 ∧ PMem w' M B n (acc n s 3 S.T (wordAt n s S.T == W) (topW i W)) ∧ Chg P o 8 B w w' := by
  obtain ⟨c0, c1, c2, c3, c4, c5, c6, c7, f⟩ := ho
  have hP := lt_of_cell c0
  go_enter Try.func85, Try.ntmps85
  go_upto_region 1 with fail
  have d0 : (w.setCell ⟨P, o + 6, none⟩ (.func (.func k) #[] #[])).cell? ⟨P, o, none⟩ = some (.bool true) := by simp [cell_set, *]
  have d1 : (w.setCell ⟨P, o + 6, none⟩ (.func (.func k) #[] #[])).cell? ⟨P, o + 1, none⟩ = some (.int .i64 S.T) := by simp [cell_set, *]
  have d2 : (w.setCell ⟨P, o + 6, none⟩ (.func (.func k) #[] #[])).cell? ⟨P, o + 2, none⟩ = some (.int .i64 S.K) := by simp [cell_set, *]
  have d3 : (w.setCell ⟨P, o + 6, none⟩ (.func (.func k) #[] #[])).cell? ⟨P, o + 3, none⟩ = some (.int .i64 S.N) := by simp [cell_set, *]
  have d4 : (w.setCell ⟨P, o + 6, none⟩ (.func (.func k) #[] #[])).cell? ⟨P, o + 4, none⟩ = some (.int .u64 W) := by simp [cell_set, *]
  have d5 : (w.setCell ⟨P, o + 6, none⟩ (.func (.func k) #[] #[])).cell? ⟨P, o + 5, none⟩ = some (.int .u64 L) := by simp [cell_set, *]
  have d6 : (w.setCell ⟨P, o + 6, none⟩ (.func (.func k) #[] #[])).cell? ⟨P, o + 6, none⟩ = some (.func (.func k) #[] #[]) := by simp [cell_set, *]
  have d7 : (w.setCell ⟨P, o + 6, none⟩ (.func (.func k) #[] #[])).cell? ⟨P, o + 7, none⟩ = some (.int .i64 er) := by simp [cell_set, *]
  have df : ∀ i, (w.setCell ⟨P, o + 6, none⟩ (.func (.func k) #[] #[])).frozen? ⟨P, i, none⟩ = false := fun i => by simp [*]
  have m1 : PMem (w.setCell ⟨P, o + 6, none⟩ (.func (.func k) #[] #[])) M B n s := pmem_frame hm (T := fun k => k = P) ((But.refl _ _).here _ _) (Ne.symm hPM) (Ne.symm hPB)
  have g1 : Chg P o 8 B w (w.setCell ⟨P, o + 6, none⟩ (.func (.func k) #[] #[])) := (Chg.refl _ _ _ _ _).set _ (by omega) _
  clear c0 c1 c2 c3 c4 c5 c6 c7 f hm
  generalize w.setCell ⟨P, o + 6, none⟩ (.func (.func k) #[] #[]) = v1 at *
  have M1 := Lib.hid m1
  have G1 := Lib.hid g1
  have O1 : Hid (OpAt v1 P o S W L (.func (.func k) #[] #[]) er) := Lib.hid ⟨d0, d1, d2, d3, d4, d5, d6, d7, df⟩
  have hP1 := lt_of_cell d0
  clear m1 g1
  go_region_held3 (fun w' => w'.cell? ⟨P, o + 1, none⟩ = some (.int .i64 S.T) ∧ w'.cell? ⟨P, o + 4, none⟩ = some (.int .u64 W)) (first | go_keep | (exact ⟨k1.some d1, k1.some d4⟩) | (exact ⟨b2.some (k1.some d1) hPB, b2.some (k1.some d4) hPB⟩)) (first | (go_at_call 93; refine (following_any W i _ w0 w1 i0 i1).mono ?_; rintro e u1 ⟨rfl, k1⟩) | (go_at_call 92; refine (p_cas M B n s S.T W (topW i W) _ (pmem_kept M1.out (by (go_light; repeat (first | (with_reducible exact Kept.refl _) | (with_reducible assumption) | (with_reducible refine Kept.alloc ?_ _ _) | (with_reducible refine Kept.drew ?_) | (with_reducible refine Kept.drewN ?_ _) | ((with_reducible refine Kept.setCell ?_ ?_ _); rotate_left; focus (first | (simp; done) | (simp; omega))) | refine Kept.trans ?_ (by assumption))))) h0 h1 t0 t1).mono ?_; rintro e u2 ⟨rfl, m2, b2⟩))
  have b3 : But (fun k => k = B) v1 u2 := (Kept.but (by (go_light; repeat (first | (with_reducible exact Kept.refl _) | (with_reducible assumption) | (with_reducible refine Kept.alloc ?_ _ _) | (with_reducible refine Kept.drew ?_) | (with_reducible refine Kept.drewN ?_ _) | ((with_reducible refine Kept.setCell ?_ ?_ _); rotate_left; focus (first | (simp; done) | (simp; omega))) | refine Kept.trans ?_ (by assumption)))) _).trans b2 (fun _ _ h => h)
  have M2 := Lib.hid m2
  have B3 := Lib.hid b3
  clear m2 b2 b3
  go_wp2_with fail
  refine (end_Push P o S W L _ er 0 _ (O1.out.frame B3.out hPB)).mono ?_
  rintro e u3 ⟨rfl, o3, g3⟩
  have O3 := Lib.hid o3
  have G3 := Lib.hid g3
  clear o3 g3
  go_wp2
  go_end0
  exact ⟨rfl, O3.out, pmem_frame M2.out G3.out.own (Ne.symm hPM) (Ne.symm hPB), (G1.out.mem B3.out hP hPB).trans (G3.out.any B)⟩
set_option maxHeartbeats 1000000 in
theorem outcome_Push (P o : Nat) (S : Stk) (W L : Int) (nx : Value) (er : Int) (w : World) (ho : OpAt w P o S W L nx er) :
    Calls Try.prog 36 #[.pointer (some ⟨P, o, none⟩)] w fun e w' => e = .returned (.int .i64 er) ∧ w = w' := by
  obtain ⟨c0, c1, c2, c3, c4, c5, c6, c7, f⟩ := ho
  have hP := lt_of_cell c0
  go_enter Try.func36, Try.ntmps36
  go_wp2
  go_ret
  exact ⟨rfl, rfl⟩
end Go.Proofs.Ytbonnfofoepjcaa.Sk

namespace Go.Proofs.Ytbonnfofoepjcaa.Sk
set_option maxRecDepth 20000
open Go.RowKit
open Wo (St acc wordAt PMem RefIs)
set_option maxHeartbeats 1000000 in
theorem find_Push (P o M B n : Nat) (S : Stk) (s : St) (W L : Int) (nx : Value) (w : World) (ho : OpAt w P o S W L nx 14) (hm : PMem w M B n s) (h0 : 0 ≤ s.cnt) (h1 : s.cnt ≤ 1000000) (hPM : P ≠ M) (hPB : P ≠ B) :
    Calls Try.prog 38 #[.pointer (some ⟨P, o, none⟩), .pointer (some ⟨M, 0, none⟩)] w
      fun e w' => e = .returned (.tuple #[]) ∧ OpAt w' P o S (wordAt n s S.T) L (.func (.func 58) #[] #[]) 14 ∧ PMem w' M B n (acc n s 1 S.T false 0) ∧ Chg P o 8 B w w' := by
  have HC := Lib.hid (loadTop_Push P o M B n 58 S s W L nx 14 w ho hm h0 h1 hPM hPB)
  clear ho hm h0 h1
  go_enter Try.func38, Try.ntmps38
  go_wp2_with fail
  refine HC.out.mono ?_
  rintro e u1 ⟨rfl, h⟩
  have H := Lib.hid h
  clear h
  go_wp2
  go_end0
  exact ⟨rfl, H.out⟩
set_option maxHeartbeats 2000000 in
theorem tie_Push (P o M B n : Nat) (S : Stk) (s : St) (W L : Int) (nx : Value) (w : World) (ho : OpAt w P o S W L nx 14) (hm : PMem w M B n s) (h0 : 0 ≤ s.cnt) (h1 : s.cnt ≤ 1000000) (hPM : P ≠ M) (hPB : P ≠ B) (w0 : 0 ≤ W) (w1 : W < 18446744073709551616) (i : Int) (c8 : w.cell? ⟨P, o + 8, none⟩ = some (.int .i64 i)) (i0 : 0 ≤ i) (i1 : i ≤ 65534) (z0 : 0 ≤ S.K) (z1 : S.K ≤ 100000) :
    Calls Try.prog 58 #[.pointer (some ⟨P, o, none⟩), .pointer (some ⟨M, 0, none⟩)] w
      fun e w' => e = .returned (.tuple #[]) ∧ OpAt w' P o S W L (.func (.func 77) #[] #[]) 14 ∧ PMem w' M B n (acc n s 2 (S.K + i) true (idx S.N W + 1)) ∧ Chg P o 8 B w w' := by
  have HO := Lib.hid ho
  have j0 := idx_lo S.N W
  have j1 := idx_le S.N W
  obtain ⟨c0, c1, c2, c3, c4, c5, c6, c7, f⟩ := ho
  have hP := lt_of_cell c0
  have HM := Lib.hid hm
  clear hm
  go_enter Try.func58, Try.ntmps58
  go_wp2_with fail
  go_region_held3 (fun w' => w'.cell? ⟨P, o + 1, none⟩ = some (.int .i64 S.T) ∧ w'.cell? ⟨P, o + 2, none⟩ = some (.int .i64 S.K) ∧ w'.cell? ⟨P, o + 3, none⟩ = some (.int .i64 S.N) ∧ w'.cell? ⟨P, o + 8, none⟩ = some (.int .i64 i)) (first | go_keep | (exact ⟨KT.some c1, KT.some c2, KT.some c3, KT.some c8⟩) | (exact ⟨d1, d2, d3, d8⟩)) (first | (go_at_call 76; refine (first_Push P o S W L _ 14 _ (HO.out.kept (by (go_light; repeat (first | (with_reducible exact Kept.refl _) | (with_reducible assumption) | (with_reducible refine Kept.alloc ?_ _ _) | (with_reducible refine Kept.drew ?_) | (with_reducible refine Kept.drewN ?_ _) | ((with_reducible refine Kept.setCell ?_ ?_ _); rotate_left; focus (first | (simp; done) | (simp; omega))) | refine Kept.trans ?_ (by assumption))))) w0 w1).mono ?_; rintro e u1 ⟨rfl, k1⟩; have KT : Kept w u1 := by (go_light; repeat (first | (with_reducible exact Kept.refl _) | (with_reducible assumption) | (with_reducible refine Kept.alloc ?_ _ _) | (with_reducible refine Kept.drew ?_) | (with_reducible refine Kept.drewN ?_ _) | ((with_reducible refine Kept.setCell ?_ ?_ _); rotate_left; focus (first | (simp; done) | (simp; omega))) | refine Kept.trans ?_ (by assumption)))) | (go_at_call 62; refine (link_in S.T S.K S.N i _ z0 z1 (by omega) (by omega)).mono ?_; rintro e u2 ⟨rfl, k2⟩; have KT : Kept w u2 := by (go_light; repeat (first | (with_reducible exact Kept.refl _) | (with_reducible assumption) | (with_reducible refine Kept.alloc ?_ _ _) | (with_reducible refine Kept.drew ?_) | (with_reducible refine Kept.drewN ?_ _) | ((with_reducible refine Kept.setCell ?_ ?_ _); rotate_left; focus (first | (simp; done) | (simp; omega))) | refine Kept.trans ?_ (by assumption)))) | (go_at_call 61; refine (untagged_any (idx S.N W) _ j0 j1).mono ?_; rintro e u4 ⟨rfl, k4⟩; have KT : Kept w u4 := by (go_light; repeat (first | (with_reducible exact Kept.refl _) | (with_reducible assumption) | (with_reducible refine Kept.alloc ?_ _ _) | (with_reducible refine Kept.drew ?_) | (with_reducible refine Kept.drewN ?_ _) | ((with_reducible refine Kept.setCell ?_ ?_ _); rotate_left; focus (first | (simp; done) | (simp; omega))) | refine Kept.trans ?_ (by assumption)))) | (go_at_call 46; refine (p_store M B n s (S.K + i) (idx S.N W + 1) _ (pmem_kept HM.out (by (go_light; repeat (first | (with_reducible exact Kept.refl _) | (with_reducible assumption) | (with_reducible refine Kept.alloc ?_ _ _) | (with_reducible refine Kept.drew ?_) | (with_reducible refine Kept.drewN ?_ _) | ((with_reducible refine Kept.setCell ?_ ?_ _); rotate_left; focus (first | (simp; done) | (simp; omega))) | refine Kept.trans ?_ (by assumption))))) h0 h1).mono ?_; rintro e u3 ⟨rfl, m3, b3⟩; have b4 : But (fun k => k = B) w u3 := (Kept.but (by (go_light; repeat (first | (with_reducible exact Kept.refl _) | (with_reducible assumption) | (with_reducible refine Kept.alloc ?_ _ _) | (with_reducible refine Kept.drew ?_) | (with_reducible refine Kept.drewN ?_ _) | ((with_reducible refine Kept.setCell ?_ ?_ _); rotate_left; focus (first | (simp; done) | (simp; omega))) | refine Kept.trans ?_ (by assumption)))) _).trans b3 (fun _ _ h => h); have d0 := b4.some c0 hPB; have d1 := b4.some c1 hPB; have d2 := b4.some c2 hPB; have d3 := b4.some c3 hPB; have d4 := b4.some c4 hPB; have d5 := b4.some c5 hPB; have d6 := b4.some c6 hPB; have d7 := b4.some c7 hPB; have df : ∀ i, u3.frozen? ⟨P, i, none⟩ = false := fun i => b4.soft hP (f i); have d8 := b4.some c8 hPB))
  go_wp2
  go_end0
  have g3 : Chg P o 8 B w u3 := (Chg.refl _ _ _ _ _).mem b4 hP hPB
  exact ⟨rfl, (by go_light; refine ⟨?_, ?_, ?_, ?_, ?_, ?_, ?_, ?_, fun i => ?_⟩ <;> (simp [cell_set, *]; done)), pmem_frame m3 (T := fun k => k = P) ((But.refl _ _).here _ _) (Ne.symm hPM) (Ne.symm hPB), by (go_light; repeat (first | (with_reducible assumption) | (with_reducible exact Chg.refl _ _ _ _ _) | (with_reducible refine Chg.set ?_ _ (by omega) _) | (with_reducible refine Chg.alloc ?_ (by assumption) _ _) | (with_reducible refine Chg.drew ?_ (by assumption)) | (with_reducible refine Chg.drewN ?_ (by assumption) _)))⟩
set_option maxHeartbeats 2000000 in
theorem lay_Push_no (P o M B n : Nat) (S : Stk) (s : St) (W L : Int) (nx : Value) (w : World) (ho : OpAt w P o S W L nx 14) (hm : PMem w M B n s) (h0 : 0 ≤ s.cnt) (h1 : s.cnt ≤ 1000000) (hPM : P ≠ M) (hPB : P ≠ B) (w0 : 0 ≤ W) (w1 : W < 18446744073709551616) (t0 : 0 ≤ S.T) (t1 : S.T < n) (i : Int) (c8 : w.cell? ⟨P, o + 8, none⟩ = some (.int .i64 i)) (i0 : 0 ≤ i) (i1 : i ≤ 65534) (hq : (wordAt n s S.T == W) = false) :
    Calls Try.prog 77 #[.pointer (some ⟨P, o, none⟩), .pointer (some ⟨M, 0, none⟩)] w
      fun e w' => e = .returned (.tuple #[]) ∧ OpAt w' P o S W L (.func (.func 38) #[] #[]) 14 ∧ PMem w' M B n (acc n s 3 S.T (wordAt n s S.T == W) (topW i W)) ∧ Chg P o 8 B w w' := by
  have HO := Lib.hid ho
  have hP := ho.lt
  have HM := Lib.hid hm
  have HQ := Lib.hid hq
  clear hm hq ho
  go_enter Try.func77, Try.ntmps77
  go_wp2_with fail
  go_region_held3 (fun w' => w'.cell? ⟨P, o + 8, none⟩ = some (.int .i64 i)) (first | go_keep | (exact g2.some (by simp [c8]) (by omega))) (first | (go_at_call 85; refine (swap_Push_no P o M B n 38 S s W L nx 14 i _ (HO.out.kept (by (go_light; repeat (first | (with_reducible exact Kept.refl _) | (with_reducible assumption) | (with_reducible refine Kept.alloc ?_ _ _) | (with_reducible refine Kept.drew ?_) | (with_reducible refine Kept.drewN ?_ _) | ((with_reducible refine Kept.setCell ?_ ?_ _); rotate_left; focus (first | (simp; done) | (simp; omega))) | refine Kept.trans ?_ (by assumption))))) (pmem_kept HM.out (by (go_light; repeat (first | (with_reducible exact Kept.refl _) | (with_reducible assumption) | (with_reducible refine Kept.alloc ?_ _ _) | (with_reducible refine Kept.drew ?_) | (with_reducible refine Kept.drewN ?_ _) | ((with_reducible refine Kept.setCell ?_ ?_ _); rotate_left; focus (first | (simp; done) | (simp; omega))) | refine Kept.trans ?_ (by assumption))))) h0 h1 hPM hPB w0 w1 (by omega) i1 t0 t1 HQ.out).mono ?_; rintro e u2 ⟨rfl, o2, m2, g2⟩))
  have g3 : Chg P o 8 B w u2 := ((Chg.refl _ _ _ _ _).keep (by (go_light; repeat (first | (with_reducible exact Kept.refl _) | (with_reducible assumption) | (with_reducible refine Kept.alloc ?_ _ _) | (with_reducible refine Kept.drew ?_) | (with_reducible refine Kept.drewN ?_ _) | ((with_reducible refine Kept.setCell ?_ ?_ _); rotate_left; focus (first | (simp; done) | (simp; omega))) | refine Kept.trans ?_ (by assumption)))) hP).trans g2
  have O2 := Lib.hid o2
  have M2 := Lib.hid m2
  have G3 := Lib.hid g3
  clear o2 m2 g2 g3
  go_wp2
  go_end0
  exact ⟨rfl, O2.out, M2.out, G3.out⟩
set_option maxHeartbeats 2000000 in
theorem lay_Push_yes (P o M B n : Nat) (S : Stk) (s : St) (W L : Int) (nx : Value) (w : World) (ho : OpAt w P o S W L nx 14) (hm : PMem w M B n s) (h0 : 0 ≤ s.cnt) (h1 : s.cnt ≤ 1000000) (hPM : P ≠ M) (hPB : P ≠ B) (w0 : 0 ≤ W) (w1 : W < 18446744073709551616) (t0 : 0 ≤ S.T) (t1 : S.T < n) (i : Int) (c8 : w.cell? ⟨P, o + 8, none⟩ = some (.int .i64 i)) (i0 : 0 ≤ i) (i1 : i ≤ 65534) (hq : (wordAt n s S.T == W) = true) :
    Calls Try.prog 77 #[.pointer (some ⟨P, o, none⟩), .pointer (some ⟨M, 0, none⟩)] w
      fun e w' => e = .returned (.tuple #[]) ∧ OpAt w' P o S W L .nilFunc 0 ∧ PMem w' M B n (acc n s 3 S.T (wordAt n s S.T == W) (topW i W)) ∧ Chg P o 8 B w w' := by
  have HO := Lib.hid ho
  have hP := ho.lt
  have HM := Lib.hid hm
  have HQ := Lib.hid hq
  clear hm hq ho
  go_enter Try.func77, Try.ntmps77
  go_wp2_with fail
  go_region_held3 (fun w' => w'.cell? ⟨P, o + 8, none⟩ = some (.int .i64 i)) (first | go_keep | (exact g2.some (by simp [c8]) (by omega))) (first | (go_at_call 85; refine (swap_Push_yes P o M B n 38 S s W L nx 14 i _ (HO.out.kept (by (go_light; repeat (first | (with_reducible exact Kept.refl _) | (with_reducible assumption) | (with_reducible refine Kept.alloc ?_ _ _) | (with_reducible refine Kept.drew ?_) | (with_reducible refine Kept.drewN ?_ _) | ((with_reducible refine Kept.setCell ?_ ?_ _); rotate_left; focus (first | (simp; done) | (simp; omega))) | refine Kept.trans ?_ (by assumption))))) (pmem_kept HM.out (by (go_light; repeat (first | (with_reducible exact Kept.refl _) | (with_reducible assumption) | (with_reducible refine Kept.alloc ?_ _ _) | (with_reducible refine Kept.drew ?_) | (with_reducible refine Kept.drewN ?_ _) | ((with_reducible refine Kept.setCell ?_ ?_ _); rotate_left; focus (first | (simp; done) | (simp; omega))) | refine Kept.trans ?_ (by assumption))))) h0 h1 hPM hPB w0 w1 (by omega) i1 t0 t1 HQ.out).mono ?_; rintro e u2 ⟨rfl, o2, m2, g2⟩))
  have g3 : Chg P o 8 B w u2 := ((Chg.refl _ _ _ _ _).keep (by (go_light; repeat (first | (with_reducible exact Kept.refl _) | (with_reducible assumption) | (with_reducible refine Kept.alloc ?_ _ _) | (with_reducible refine Kept.drew ?_) | (with_reducible refine Kept.drewN ?_ _) | ((with_reducible refine Kept.setCell ?_ ?_ _); rotate_left; focus (first | (simp; done) | (simp; omega))) | refine Kept.trans ?_ (by assumption)))) hP).trans g2
  have O2 := Lib.hid o2
  have M2 := Lib.hid m2
  have G3 := Lib.hid g3
  clear o2 m2 g2 g3
  go_wp2
  go_end0
  exact ⟨rfl, O2.out, M2.out, G3.out⟩
end Go.Proofs.Ytbonnfofoepjcaa.Sk

namespace Go.Proofs.Ytbonnfofoepjcaa.Sk
set_option maxRecDepth 20000
open Go.RowKit
open Wo (St acc wordAt PMem RefIs)

end Go.Proofs.Ytbonnfofoepjcaa.Sk

namespace Go.Proofs.Ytbonnfofoepjcaa.Sk
set_option maxRecDepth 20000
open Go.RowKit
open Wo (St acc wordAt PMem RefIs)
end Go.Proofs.Ytbonnfofoepjcaa.Sk

namespace Go.Proofs.Ytbonnfofoepjcaa.Sk
set_option maxRecDepth 20000
open Go.RowKit
open Wo (St acc wordAt PMem RefIs)
theorem neq_nil_Pop (w : World) : (binOp .neq 31 .nilFunc .nilFunc).run Try.prog w = .ok (.bool false) w := by
  kernel_rfl
theorem neq_func_Pop (f : Fn) (x y : Array Value) (w : World) : (binOp .neq 31 (.func f x y) .nilFunc).run Try.prog w = .ok (.bool true) w := by
  kernel_rfl
theorem eql_nil_Pop (w : World) : (binOp .eql 31 .nilFunc .nilFunc).run Try.prog w = .ok (.bool true) w := by
  kernel_rfl
theorem eql_func_Pop (f : Fn) (x y : Array Value) (w : World) : (binOp .eql 31 (.func f x y) .nilFunc).run Try.prog w = .ok (.bool false) w := by
  kernel_rfl
set_option maxHeartbeats 1000000 in
theorem step_Pop_find_look (P o M B n : Nat) (S : Stk) (s' : St) (W L W' L' : Int) (er er' : Int) (w : World) (ho : OpAt w P o S W L (.func (.func 66) #[] #[]) er)
    (HC : Hid (Calls Try.prog 66 #[.pointer (some ⟨P, o, none⟩), .pointer (some ⟨M, 0, none⟩)] w fun e w' => e = .returned (.tuple #[]) ∧ OpAt w' P o S W' L' (.func (.func 82) #[] #[]) er' ∧ PMem w' M B n s' ∧ Chg P o 8 B w w')) :
    Calls Try.prog 31 #[.pointer (some ⟨P, o, none⟩), .pointer (some ⟨P, o, none⟩), .pointer (some ⟨M, 0, none⟩)] w fun e w' => e = .returned (.bool false) ∧ OpAt w' P o S W' L' (.func (.func 82) #[] #[]) er' ∧ PMem w' M B n s' ∧ Chg P o 8 B w w' := by
  have c6 := ho.c6
  have q1 := neq_nil_Pop
  have q2 := neq_func_Pop
  have q3 := eql_nil_Pop
  have q4 := eql_func_Pop
  clear ho
  go_enter Try.func31, Try.ntmps31
  go_wp2_with fail
  refine HC.out.mono ?_
  rintro e u1 ⟨rfl, h⟩
  have d6 := h.1.c6
  have H := Lib.hid h
  clear h c6
  go_wp2
  go_ret
  exact ⟨rfl, H.out⟩
set_option maxHeartbeats 1000000 in
theorem step_Pop_find_end (P o M B n : Nat) (S : Stk) (s' : St) (W L W' L' : Int) (er er' : Int) (w : World) (ho : OpAt w P o S W L (.func (.func 66) #[] #[]) er)
    (HC : Hid (Calls Try.prog 66 #[.pointer (some ⟨P, o, none⟩), .pointer (some ⟨M, 0, none⟩)] w fun e w' => e = .returned (.tuple #[]) ∧ OpAt w' P o S W' L' .nilFunc er' ∧ PMem w' M B n s' ∧ Chg P o 8 B w w')) :
    Calls Try.prog 31 #[.pointer (some ⟨P, o, none⟩), .pointer (some ⟨P, o, none⟩), .pointer (some ⟨M, 0, none⟩)] w fun e w' => e = .returned (.bool true) ∧ OpAt w' P o S W' L' .nilFunc er' ∧ PMem w' M B n s' ∧ Chg P o 8 B w w' := by
  have c6 := ho.c6
  have q1 := neq_nil_Pop
  have q2 := neq_func_Pop
  have q3 := eql_nil_Pop
  have q4 := eql_func_Pop
  clear ho
  go_enter Try.func31, Try.ntmps31
  go_wp2_with fail
  refine HC.out.mono ?_
  rintro e u1 ⟨rfl, h⟩
  have d6 := h.1.c6
  have H := Lib.hid h
  clear h c6
  go_wp2
  go_ret
  exact ⟨rfl, H.out⟩
set_option maxHeartbeats 1000000 in
theorem step_Pop_look_take (P o M B n : Nat) (S : Stk) (s' : St) (W L W' L' : Int) (er er' : Int) (w : World) (ho : OpAt w P o S W L (.func (.func 82) #[] #[]) er)
    (HC : Hid (Calls Try.prog 82 #[.pointer (some ⟨P, o, none⟩), .pointer (some ⟨M, 0, none⟩)] w fun e w' => e = .returned (.tuple #[]) ∧ OpAt w' P o S W' L' (.func (.func 90) #[] #[]) er' ∧ PMem w' M B n s' ∧ Chg P o 8 B w w')) :
    Calls Try.prog 31 #[.pointer (some ⟨P, o, none⟩), .pointer (some ⟨P, o, none⟩), .pointer (some ⟨M, 0, none⟩)] w fun e w' => e = .returned (.bool false) ∧ OpAt w' P o S W' L' (.func (.func 90) #[] #[]) er' ∧ PMem w' M B n s' ∧ Chg P o 8 B w w' := by
  have c6 := ho.c6
  have q1 := neq_nil_Pop
  have q2 := neq_func_Pop
  have q3 := eql_nil_Pop
  have q4 := eql_func_Pop
  clear ho
  go_enter Try.func31, Try.ntmps31
  go_wp2_with fail
  refine HC.out.mono ?_
  rintro e u1 ⟨rfl, h⟩
  have d6 := h.1.c6
  have H := Lib.hid h
  clear h c6
  go_wp2
  go_ret
  exact ⟨rfl, H.out⟩
set_option maxHeartbeats 1000000 in
theorem step_Pop_take_find (P o M B n : Nat) (S : Stk) (s' : St) (W L W' L' : Int) (er er' : Int) (w : World) (ho : OpAt w P o S W L (.func (.func 90) #[] #[]) er)
    (HC : Hid (Calls Try.prog 90 #[.pointer (some ⟨P, o, none⟩), .pointer (some ⟨M, 0, none⟩)] w fun e w' => e = .returned (.tuple #[]) ∧ OpAt w' P o S W' L' (.func (.func 66) #[] #[]) er' ∧ PMem w' M B n s' ∧ Chg P o 8 B w w')) :
    Calls Try.prog 31 #[.pointer (some ⟨P, o, none⟩), .pointer (some ⟨P, o, none⟩), .pointer (some ⟨M, 0, none⟩)] w fun e w' => e = .returned (.bool false) ∧ OpAt w' P o S W' L' (.func (.func 66) #[] #[]) er' ∧ PMem w' M B n s' ∧ Chg P o 8 B w w' := by
  have c6 := ho.c6
  have q1 := neq_nil_Pop
  have q2 := neq_func_Pop
  have q3 := eql_nil_Pop
  have q4 := eql_func_Pop
  clear ho
  go_enter Try.func31, Try.ntmps31
  go_wp2_with fail
  refine HC.out.mono ?_
  rintro e u1 ⟨rfl, h⟩
  have d6 := h.1.c6
  have H := Lib.hid h
  clear h c6
  go_wp2
  go_ret
  exact ⟨rfl, H.out⟩
set_option maxHeartbeats 1000000 in
theorem step_Pop_take_end (P o M B n : Nat) (S : Stk) (s' : St) (W L W' L' : Int) (er er' : Int) (w : World) (ho : OpAt w P o S W L (.func (.func 90) #[] #[]) er)
    (HC : Hid (Calls Try.prog 90 #[.pointer (some ⟨P, o, none⟩), .pointer (some ⟨M, 0, none⟩)] w fun e w' => e = .returned (.tuple #[]) ∧ OpAt w' P o S W' L' .nilFunc er' ∧ PMem w' M B n s' ∧ Chg P o 8 B w w')) :
    Calls Try.prog 31 #[.pointer (some ⟨P, o, none⟩), .pointer (some ⟨P, o, none⟩), .pointer (some ⟨M, 0, none⟩)] w fun e w' => e = .returned (.bool true) ∧ OpAt w' P o S W' L' .nilFunc er' ∧ PMem w' M B n s' ∧ Chg P o 8 B w w' := by
  have c6 := ho.c6
  have q1 := neq_nil_Pop
  have q2 := neq_func_Pop
  have q3 := eql_nil_Pop
  have q4 := eql_func_Pop
  clear ho
  go_enter Try.func31, Try.ntmps31
  go_wp2_with fail
  refine HC.out.mono ?_
  rintro e u1 ⟨rfl, h⟩
  have d6 := h.1.c6
  have H := Lib.hid h
  clear h c6
  go_wp2
  go_ret
  exact ⟨rfl, H.out⟩
set_option maxHeartbeats 1000000 in
theorem step_Pop_over (P o M : Nat) (S : Stk) (W L : Int) (er : Int) (w : World) (ho : OpAt w P o S W L .nilFunc er) :
    Calls Try.prog 31 #[.pointer (some ⟨P, o, none⟩), .pointer (some ⟨P, o, none⟩), .pointer (some ⟨M, 0, none⟩)] w fun e w' => e = .returned (.bool true) ∧ w = w' := by
  have c6 := ho.c6
  have q1 := neq_nil_Pop
  have q2 := neq_func_Pop
  have q3 := eql_nil_Pop
  have q4 := eql_func_Pop
  clear ho
  go_enter Try.func31, Try.ntmps31
  go_wp2
  go_ret
  exact ⟨rfl, rfl⟩
set_option maxHeartbeats 1000000 in
theorem Step_Pop (P o : Nat) (V : Value) (b : Bool) (Q : World → Prop) (w : World)
    (HC : Hid (Calls Try.prog 31 #[.pointer (some ⟨P, o, none⟩), .pointer (some ⟨P, o, none⟩), V] w fun e w' => e = .returned (.bool b) ∧ Q w')) :
    Calls Try.prog 15 #[.pointer (some ⟨P, o, none⟩), V] w fun e w' => e = .returned (.bool b) ∧ Q w' := by
  go_enter Try.func15, Try.ntmps15
  go_wp2_with fail
  refine HC.out.mono ?_
  rintro e u1 ⟨rfl, h⟩
  have H := Lib.hid h
  clear h
  cases b
  · go_wp2
    go_ret
    exact ⟨rfl, H.out⟩
  · go_wp2
    go_ret
    exact ⟨rfl, H.out⟩
set_option maxHeartbeats 1000000 in
theorem Step_Pop_nil (V : Value) (w : World) : Calls Try.prog 15 #[.pointer none, V] w fun e w' => e = .returned (.bool true) ∧ w = w' := by
  go_enter Try.func15, Try.ntmps15
  go_wp2
  go_ret
  exact ⟨rfl, rfl⟩
end Go.Proofs.Ytbonnfofoepjcaa.Sk
