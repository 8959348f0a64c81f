/- The document's All: its step at each line. Written by gen10r.py. -/
import Derived.Test.YtfcompikbeebaaaGreatG05
import Derived.Lib.Hide
import Derived.Deep.Light
import Derived.Deep.RegionHeld3
set_option linter.unusedVariables false
set_option linter.unusedSimpArgs false

namespace Go.Proofs.YtfcompikbeebaaaGreat.Sk
set_option maxRecDepth 20000
open Go.RowKit
open Wo (St acc wordAt PMem RefIs)
set_option maxHeartbeats 2000000 in
theorem rAll_1some (Q M B n : Nat) (S : Stk) (s : St) (w : World) (f : ∀ i, w.frozen? ⟨Q, i, none⟩ = false) (hm : RefIs w M B n s) (h0 : 0 ≤ s.cnt) (h1 : s.cnt ≤ 1000000) (hn : n ≤ 4096) (hn1 : 1 ≤ n) (hQ : ¬ (Q = M ∨ Q = B)) (W I : Int) (wa : 0 ≤ wordAt n s S.T) (wb : wordAt n s S.T < 18446744073709551616) (hi : 0 ≤ idx S.N (wordAt n s S.T)) (c0 : w.cell? ⟨Q, 0, none⟩ = some (.int .i64 S.T)) (c1 : w.cell? ⟨Q, 1, none⟩ = some (.int .i64 S.K)) (c2 : w.cell? ⟨Q, 2, none⟩ = some (.int .i64 S.N)) (c3 : w.cell? ⟨Q, 3, none⟩ = some (.int .i64 1)) (c4 : w.cell? ⟨Q, 4, none⟩ = some (.int .u64 W)) (c5 : w.cell? ⟨Q, 5, none⟩ = some (.int .i64 I)) :
    Calls Tryz.prog 45 #[.pointer (some ⟨Q, 0, none⟩), .pointer (some ⟨M, 0, none⟩)] w
      fun e w' => e = .returned (.bool false) ∧ (w'.cell? ⟨Q, 0, none⟩ = some (.int .i64 S.T) ∧ w'.cell? ⟨Q, 1, none⟩ = some (.int .i64 S.K) ∧ w'.cell? ⟨Q, 2, none⟩ = some (.int .i64 S.N) ∧ w'.cell? ⟨Q, 3, none⟩ = some (.int .i64 2) ∧ w'.cell? ⟨Q, 4, none⟩ = some (.int .u64 (wordAt n s S.T)) ∧ w'.cell? ⟨Q, 5, none⟩ = some (.int .i64 (idx S.N (wordAt n s S.T)))) ∧ (∀ i, w'.frozen? ⟨Q, i, none⟩ = false) ∧ RefIs w' M B n (acc n s 1 S.T false 0) ∧ But (fun k => k = Q ∨ k = M ∨ k = B) w w' := by
  have HM := Lib.hid hm
  clear hm
  go_enter Tryz.func45, Tryz.ntmps45
  go_wp2_with fail
  refine (r_load M B n s S.T _ HM.out h0 h1 hn).mono ?_
  rintro e w1 ⟨rfl, m1, b1⟩
  have d0 := b1.some c0 hQ
  have d1 := b1.some c1 hQ
  have d2 := b1.some c2 hQ
  have d3 := b1.some c3 hQ
  have d4 := b1.some c4 hQ
  have d5 := b1.some c5 hQ
  have df : ∀ i, w1.frozen? ⟨Q, i, none⟩ = false := fun i => b1.soft (lt_of_cell c0) (f i)
  clear c0 c1 c2 c3 c4 c5 f
  go_upto_region 4 with fail
  have e0 : (w1.setCell ⟨Q, 4, none⟩ (.int .u64 (wordAt n s S.T))).cell? ⟨Q, 0, none⟩ = some (.int .i64 S.T) := by simp [cell_set, *]
  have e1 : (w1.setCell ⟨Q, 4, none⟩ (.int .u64 (wordAt n s S.T))).cell? ⟨Q, 1, none⟩ = some (.int .i64 S.K) := by simp [cell_set, *]
  have e2 : (w1.setCell ⟨Q, 4, none⟩ (.int .u64 (wordAt n s S.T))).cell? ⟨Q, 2, none⟩ = some (.int .i64 S.N) := by simp [cell_set, *]
  have e3 : (w1.setCell ⟨Q, 4, none⟩ (.int .u64 (wordAt n s S.T))).cell? ⟨Q, 3, none⟩ = some (.int .i64 1) := by simp [cell_set, *]
  have e4 : (w1.setCell ⟨Q, 4, none⟩ (.int .u64 (wordAt n s S.T))).cell? ⟨Q, 4, none⟩ = some (.int .u64 (wordAt n s S.T)) := by simp [cell_set, *]
  have e5 : (w1.setCell ⟨Q, 4, none⟩ (.int .u64 (wordAt n s S.T))).cell? ⟨Q, 5, none⟩ = some (.int .i64 I) := by simp [cell_set, *]
  have ef : ∀ i, (w1.setCell ⟨Q, 4, none⟩ (.int .u64 (wordAt n s S.T))).frozen? ⟨Q, i, none⟩ = false := fun i => by simp [*]
  have nv : RefIs (w1.setCell ⟨Q, 4, none⟩ (.int .u64 (wordAt n s S.T))) M B n (acc n s 1 S.T false 0) := ref_frame m1 hn1 (T := fun k => k = Q) ((But.refl _ _).here _ _) (fun h => hQ (Or.inl h.symm)) (fun h => hQ (Or.inr h.symm))
  have gv : But (fun k => k = Q ∨ k = M ∨ k = B) w (w1.setCell ⟨Q, 4, none⟩ (.int .u64 (wordAt n s S.T))) := But.setCell (S := fun k => k = Q ∨ k = M ∨ k = B) (b1.mono (fun _ _ h => Or.inr h)) (p := ⟨Q, 4, none⟩) (Or.inl (Or.inl rfl)) _
  clear d0 d1 d2 d3 d4 d5 df m1 b1
  generalize w1.setCell ⟨Q, 4, none⟩ (.int .u64 (wordAt n s S.T)) = v1 at *
  have NV := Lib.hid nv
  have GV := Lib.hid gv
  clear nv gv
  go_region_held3 (fun w' => w'.cell? ⟨Q, 0, none⟩ = some (.int .i64 S.T) ∧ w'.cell? ⟨Q, 1, none⟩ = some (.int .i64 S.K) ∧ w'.cell? ⟨Q, 2, none⟩ = some (.int .i64 S.N) ∧ w'.cell? ⟨Q, 4, none⟩ = some (.int .u64 (wordAt n s S.T))) (first | go_keep | (exact ⟨i0, i1, i2, i4⟩) | (refine ⟨?_, ?_, ?_, ?_⟩ <;> (simp [cell_set, *]; done))) (first | (go_at_call 49; refine (ref_index S.T S.K S.N _ _ wa wb).mono ?_; rintro e u1 ⟨rfl, k1⟩; have KT : Kept v1 u1 := Kept.trans (b := _) (by first | exact Kept.refl _ | exact (Kept.refl _).drew | exact (Kept.refl _).drewN _) k1; have i0 := KT.some e0; have i1 := KT.some e1; have i2 := KT.some e2; have i3 := KT.some e3; have i4 := KT.some e4; have i5 := KT.some e5; have jf : ∀ i, u1.frozen? ⟨Q, i, none⟩ = false := fun i => KT.soft (lt_of_cell e0) (ef i)))
  have NM := Lib.hid (ref_kept NV.out hn1 KT)
  have GG := Lib.hid (GV.out.then KT)
  clear e0 e1 e2 e3 e4 e5 ef KT k1
  go_wp2
  go_ret
  go_light
  refine ⟨rfl, ?_, fun i => ?_, ?_, ?_⟩
  · simp [cell_set, *]
  · simp [*]
  · exact ref_frame NM.out hn1 (T := fun k => k = Q) (by repeat (first | (with_reducible exact But.refl _ _) | (with_reducible refine But.here ?_ _ _) | (with_reducible refine But.drew ?_) | (with_reducible refine But.drewN ?_ _))) (fun h => hQ (Or.inl h.symm)) (fun h => hQ (Or.inr h.symm))
  · have gg := GG.out
    repeat (first | (with_reducible exact gg) | (with_reducible refine But.drew ?_) | (with_reducible refine But.drewN ?_ _) | ((with_reducible refine But.setCell ?_ (Or.inl (Or.inl rfl)) _)))
set_option maxHeartbeats 2000000 in
theorem rAll_1none (Q M B n : Nat) (S : Stk) (s : St) (w : World) (f : ∀ i, w.frozen? ⟨Q, i, none⟩ = false) (hm : RefIs w M B n s) (h0 : 0 ≤ s.cnt) (h1 : s.cnt ≤ 1000000) (hn : n ≤ 4096) (hn1 : 1 ≤ n) (hQ : ¬ (Q = M ∨ Q = B)) (W I : Int) (wa : 0 ≤ wordAt n s S.T) (wb : wordAt n s S.T < 18446744073709551616) (hi : idx S.N (wordAt n s S.T) < 0) (c0 : w.cell? ⟨Q, 0, none⟩ = some (.int .i64 S.T)) (c1 : w.cell? ⟨Q, 1, none⟩ = some (.int .i64 S.K)) (c2 : w.cell? ⟨Q, 2, none⟩ = some (.int .i64 S.N)) (c3 : w.cell? ⟨Q, 3, none⟩ = some (.int .i64 1)) (c4 : w.cell? ⟨Q, 4, none⟩ = some (.int .u64 W)) (c5 : w.cell? ⟨Q, 5, none⟩ = some (.int .i64 I)) :
    Calls Tryz.prog 45 #[.pointer (some ⟨Q, 0, none⟩), .pointer (some ⟨M, 0, none⟩)] w
      fun e w' => e = .returned (.bool true) ∧ (w'.cell? ⟨Q, 0, none⟩ = some (.int .i64 S.T) ∧ w'.cell? ⟨Q, 1, none⟩ = some (.int .i64 S.K) ∧ w'.cell? ⟨Q, 2, none⟩ = some (.int .i64 S.N) ∧ w'.cell? ⟨Q, 3, none⟩ = some (.int .i64 9) ∧ w'.cell? ⟨Q, 4, none⟩ = some (.int .u64 (wordAt n s S.T)) ∧ w'.cell? ⟨Q, 5, none⟩ = some (.int .i64 (idx S.N (wordAt n s S.T)))) ∧ (∀ i, w'.frozen? ⟨Q, i, none⟩ = false) ∧ RefIs w' M B n (acc n s 1 S.T false 0) ∧ But (fun k => k = Q ∨ k = M ∨ k = B) w w' := by
  have HM := Lib.hid hm
  clear hm
  go_enter Tryz.func45, Tryz.ntmps45
  go_wp2_with fail
  refine (r_load M B n s S.T _ HM.out h0 h1 hn).mono ?_
  rintro e w1 ⟨rfl, m1, b1⟩
  have d0 := b1.some c0 hQ
  have d1 := b1.some c1 hQ
  have d2 := b1.some c2 hQ
  have d3 := b1.some c3 hQ
  have d4 := b1.some c4 hQ
  have d5 := b1.some c5 hQ
  have df : ∀ i, w1.frozen? ⟨Q, i, none⟩ = false := fun i => b1.soft (lt_of_cell c0) (f i)
  clear c0 c1 c2 c3 c4 c5 f
  go_upto_region 4 with fail
  have e0 : (w1.setCell ⟨Q, 4, none⟩ (.int .u64 (wordAt n s S.T))).cell? ⟨Q, 0, none⟩ = some (.int .i64 S.T) := by simp [cell_set, *]
  have e1 : (w1.setCell ⟨Q, 4, none⟩ (.int .u64 (wordAt n s S.T))).cell? ⟨Q, 1, none⟩ = some (.int .i64 S.K) := by simp [cell_set, *]
  have e2 : (w1.setCell ⟨Q, 4, none⟩ (.int .u64 (wordAt n s S.T))).cell? ⟨Q, 2, none⟩ = some (.int .i64 S.N) := by simp [cell_set, *]
  have e3 : (w1.setCell ⟨Q, 4, none⟩ (.int .u64 (wordAt n s S.T))).cell? ⟨Q, 3, none⟩ = some (.int .i64 1) := by simp [cell_set, *]
  have e4 : (w1.setCell ⟨Q, 4, none⟩ (.int .u64 (wordAt n s S.T))).cell? ⟨Q, 4, none⟩ = some (.int .u64 (wordAt n s S.T)) := by simp [cell_set, *]
  have e5 : (w1.setCell ⟨Q, 4, none⟩ (.int .u64 (wordAt n s S.T))).cell? ⟨Q, 5, none⟩ = some (.int .i64 I) := by simp [cell_set, *]
  have ef : ∀ i, (w1.setCell ⟨Q, 4, none⟩ (.int .u64 (wordAt n s S.T))).frozen? ⟨Q, i, none⟩ = false := fun i => by simp [*]
  have nv : RefIs (w1.setCell ⟨Q, 4, none⟩ (.int .u64 (wordAt n s S.T))) M B n (acc n s 1 S.T false 0) := ref_frame m1 hn1 (T := fun k => k = Q) ((But.refl _ _).here _ _) (fun h => hQ (Or.inl h.symm)) (fun h => hQ (Or.inr h.symm))
  have gv : But (fun k => k = Q ∨ k = M ∨ k = B) w (w1.setCell ⟨Q, 4, none⟩ (.int .u64 (wordAt n s S.T))) := But.setCell (S := fun k => k = Q ∨ k = M ∨ k = B) (b1.mono (fun _ _ h => Or.inr h)) (p := ⟨Q, 4, none⟩) (Or.inl (Or.inl rfl)) _
  clear d0 d1 d2 d3 d4 d5 df m1 b1
  generalize w1.setCell ⟨Q, 4, none⟩ (.int .u64 (wordAt n s S.T)) = v1 at *
  have NV := Lib.hid nv
  have GV := Lib.hid gv
  clear nv gv
  go_region_held3 (fun w' => w'.cell? ⟨Q, 0, none⟩ = some (.int .i64 S.T) ∧ w'.cell? ⟨Q, 1, none⟩ = some (.int .i64 S.K) ∧ w'.cell? ⟨Q, 2, none⟩ = some (.int .i64 S.N) ∧ w'.cell? ⟨Q, 4, none⟩ = some (.int .u64 (wordAt n s S.T))) (first | go_keep | (exact ⟨i0, i1, i2, i4⟩) | (refine ⟨?_, ?_, ?_, ?_⟩ <;> (simp [cell_set, *]; done))) (first | (go_at_call 49; refine (ref_index S.T S.K S.N _ _ wa wb).mono ?_; rintro e u1 ⟨rfl, k1⟩; have KT : Kept v1 u1 := Kept.trans (b := _) (by first | exact Kept.refl _ | exact (Kept.refl _).drew | exact (Kept.refl _).drewN _) k1; have i0 := KT.some e0; have i1 := KT.some e1; have i2 := KT.some e2; have i3 := KT.some e3; have i4 := KT.some e4; have i5 := KT.some e5; have jf : ∀ i, u1.frozen? ⟨Q, i, none⟩ = false := fun i => KT.soft (lt_of_cell e0) (ef i)))
  have NM := Lib.hid (ref_kept NV.out hn1 KT)
  have GG := Lib.hid (GV.out.then KT)
  clear e0 e1 e2 e3 e4 e5 ef KT k1
  go_upto_region 6 with fail
  have a0 : ((u1.setCell ⟨Q, 5, none⟩ (.int .i64 (idx S.N (wordAt n s S.T)))).setCell ⟨Q, 3, none⟩ (.int .i64 2)).cell? ⟨Q, 0, none⟩ = some (.int .i64 S.T) := by simp [cell_set, *]
  have a1 : ((u1.setCell ⟨Q, 5, none⟩ (.int .i64 (idx S.N (wordAt n s S.T)))).setCell ⟨Q, 3, none⟩ (.int .i64 2)).cell? ⟨Q, 1, none⟩ = some (.int .i64 S.K) := by simp [cell_set, *]
  have a2 : ((u1.setCell ⟨Q, 5, none⟩ (.int .i64 (idx S.N (wordAt n s S.T)))).setCell ⟨Q, 3, none⟩ (.int .i64 2)).cell? ⟨Q, 2, none⟩ = some (.int .i64 S.N) := by simp [cell_set, *]
  have a3 : ((u1.setCell ⟨Q, 5, none⟩ (.int .i64 (idx S.N (wordAt n s S.T)))).setCell ⟨Q, 3, none⟩ (.int .i64 2)).cell? ⟨Q, 3, none⟩ = some (.int .i64 2) := by simp [cell_set, *]
  have a4 : ((u1.setCell ⟨Q, 5, none⟩ (.int .i64 (idx S.N (wordAt n s S.T)))).setCell ⟨Q, 3, none⟩ (.int .i64 2)).cell? ⟨Q, 4, none⟩ = some (.int .u64 (wordAt n s S.T)) := by simp [cell_set, *]
  have a5 : ((u1.setCell ⟨Q, 5, none⟩ (.int .i64 (idx S.N (wordAt n s S.T)))).setCell ⟨Q, 3, none⟩ (.int .i64 2)).cell? ⟨Q, 5, none⟩ = some (.int .i64 (idx S.N (wordAt n s S.T))) := by simp [cell_set, *]
  have af : ∀ i, ((u1.setCell ⟨Q, 5, none⟩ (.int .i64 (idx S.N (wordAt n s S.T)))).setCell ⟨Q, 3, none⟩ (.int .i64 2)).frozen? ⟨Q, i, none⟩ = false := fun i => by simp [*]
  have NM : Hid (RefIs ((u1.setCell ⟨Q, 5, none⟩ (.int .i64 (idx S.N (wordAt n s S.T)))).setCell ⟨Q, 3, none⟩ (.int .i64 2)) M B n (acc n s 1 S.T false 0)) := Lib.hid (ref_frame NM.out hn1 (T := fun k => k = Q) (((But.refl _ _).here _ _).here _ _) (fun h => hQ (Or.inl h.symm)) (fun h => hQ (Or.inr h.symm)))
  have GG : Hid (But (fun k => k = Q ∨ k = M ∨ k = B) w ((u1.setCell ⟨Q, 5, none⟩ (.int .i64 (idx S.N (wordAt n s S.T)))).setCell ⟨Q, 3, none⟩ (.int .i64 2))) := Lib.hid (But.setCell (S := fun k => k = Q ∨ k = M ∨ k = B) (But.setCell (S := fun k => k = Q ∨ k = M ∨ k = B) GG.out (p := ⟨Q, 5, none⟩) (Or.inl (Or.inl rfl)) _) (p := ⟨Q, 3, none⟩) (Or.inl (Or.inl rfl)) _)
  clear i0 i1 i2 i3 i4 i5 jf
  generalize (u1.setCell ⟨Q, 5, none⟩ (.int .i64 (idx S.N (wordAt n s S.T)))).setCell ⟨Q, 3, none⟩ (.int .i64 2) = v2 at *
  go_wp2
  go_ret
  go_light
  refine ⟨rfl, ?_, fun i => ?_, ?_, ?_⟩
  · simp [cell_set, *]
  · simp [*]
  · exact ref_frame NM.out hn1 (T := fun k => k = Q) (by repeat (first | (with_reducible exact But.refl _ _) | (with_reducible refine But.here ?_ _ _) | (with_reducible refine But.drew ?_) | (with_reducible refine But.drewN ?_ _))) (fun h => hQ (Or.inl h.symm)) (fun h => hQ (Or.inr h.symm))
  · have gg := GG.out
    repeat (first | (with_reducible exact gg) | (with_reducible refine But.drew ?_) | (with_reducible refine But.drewN ?_ _) | ((with_reducible refine But.setCell ?_ (Or.inl (Or.inl rfl)) _)))
set_option maxHeartbeats 2000000 in
theorem rAll_2no (Q M B n : Nat) (S : Stk) (s : St) (w : World) (f : ∀ i, w.frozen? ⟨Q, i, none⟩ = false) (hm : RefIs w M B n s) (h0 : 0 ≤ s.cnt) (h1 : s.cnt ≤ 1000000) (hn : n ≤ 4096) (hn1 : 1 ≤ n) (hQ : ¬ (Q = M ∨ Q = B)) (W I : Int) (w0 : 0 ≤ W) (w1 : W < 18446744073709551616) (t0 : 0 ≤ S.T) (t1 : S.T < n) (hq : (wordAt n s S.T == W) = false) (c0 : w.cell? ⟨Q, 0, none⟩ = some (.int .i64 S.T)) (c1 : w.cell? ⟨Q, 1, none⟩ = some (.int .i64 S.K)) (c2 : w.cell? ⟨Q, 2, none⟩ = some (.int .i64 S.N)) (c3 : w.cell? ⟨Q, 3, none⟩ = some (.int .i64 2)) (c4 : w.cell? ⟨Q, 4, none⟩ = some (.int .u64 W)) (c5 : w.cell? ⟨Q, 5, none⟩ = some (.int .i64 I)) :
    Calls Tryz.prog 45 #[.pointer (some ⟨Q, 0, none⟩), .pointer (some ⟨M, 0, none⟩)] w
      fun e w' => e = .returned (.bool false) ∧ (w'.cell? ⟨Q, 0, none⟩ = some (.int .i64 S.T) ∧ w'.cell? ⟨Q, 1, none⟩ = some (.int .i64 S.K) ∧ w'.cell? ⟨Q, 2, none⟩ = some (.int .i64 S.N) ∧ w'.cell? ⟨Q, 3, none⟩ = some (.int .i64 1) ∧ w'.cell? ⟨Q, 4, none⟩ = some (.int .u64 W) ∧ w'.cell? ⟨Q, 5, none⟩ = some (.int .i64 I)) ∧ (∀ i, w'.frozen? ⟨Q, i, none⟩ = false) ∧ RefIs w' M B n (acc n s 3 S.T (wordAt n s S.T == W) (topW (-1) W)) ∧ But (fun k => k = Q ∨ k = M ∨ k = B) w w' := by
  have hP := lt_of_cell c0
  go_enter Tryz.func45, Tryz.ntmps45
  go_upto_region 10 with fail
  have e0 : (w.setCell ⟨Q, 3, none⟩ (.int .i64 1)).cell? ⟨Q, 0, none⟩ = some (.int .i64 S.T) := by simp [cell_set, *]
  have e1 : (w.setCell ⟨Q, 3, none⟩ (.int .i64 1)).cell? ⟨Q, 1, none⟩ = some (.int .i64 S.K) := by simp [cell_set, *]
  have e2 : (w.setCell ⟨Q, 3, none⟩ (.int .i64 1)).cell? ⟨Q, 2, none⟩ = some (.int .i64 S.N) := by simp [cell_set, *]
  have e3 : (w.setCell ⟨Q, 3, none⟩ (.int .i64 1)).cell? ⟨Q, 3, none⟩ = some (.int .i64 1) := by simp [cell_set, *]
  have e4 : (w.setCell ⟨Q, 3, none⟩ (.int .i64 1)).cell? ⟨Q, 4, none⟩ = some (.int .u64 W) := by simp [cell_set, *]
  have e5 : (w.setCell ⟨Q, 3, none⟩ (.int .i64 1)).cell? ⟨Q, 5, none⟩ = some (.int .i64 I) := by simp [cell_set, *]
  have ef : ∀ i, (w.setCell ⟨Q, 3, none⟩ (.int .i64 1)).frozen? ⟨Q, i, none⟩ = false := fun i => by simp [*]
  have nv : RefIs (w.setCell ⟨Q, 3, none⟩ (.int .i64 1)) M B n (s) := ref_frame hm hn1 (T := fun k => k = Q) ((But.refl _ _).here _ _) (fun h => hQ (Or.inl h.symm)) (fun h => hQ (Or.inr h.symm))
  have gv : But (fun k => k = Q ∨ k = M ∨ k = B) w (w.setCell ⟨Q, 3, none⟩ (.int .i64 1)) := But.setCell (S := fun k => k = Q ∨ k = M ∨ k = B) (But.refl _ _) (p := ⟨Q, 3, none⟩) (Or.inl (Or.inl rfl)) _
  clear c0 c1 c2 c3 c4 c5 f hm
  generalize w.setCell ⟨Q, 3, none⟩ (.int .i64 1) = v1 at *
  have NV := Lib.hid nv
  have GV := Lib.hid gv
  clear nv gv
  go_region_held3 (fun w' => w'.cell? ⟨Q, 0, none⟩ = some (.int .i64 S.T) ∧ w'.cell? ⟨Q, 4, none⟩ = some (.int .u64 W)) (first | go_keep | (exact ⟨q0, q4⟩) | (exact ⟨i0, i4⟩)) (first | (go_at_call 72; refine (ref_top (-1) W _ w0 w1 (by decide) (by decide)).mono ?_; rintro e u1 ⟨rfl, k1⟩; have KT : Kept v1 u1 := Kept.trans (b := _) (by first | exact Kept.refl _ | exact (Kept.refl _).drew | exact (Kept.refl _).drewN _) k1; have i0 := KT.some e0; have i1 := KT.some e1; have i2 := KT.some e2; have i3 := KT.some e3; have i4 := KT.some e4; have i5 := KT.some e5) | (go_at_call 71; refine (r_cas M B n s S.T W (topW (-1) W) _ (ref_kept NV.out hn1 (by first | exact Kept.refl _ | exact (Kept.refl _).drew | exact (Kept.refl _).drewN _ | exact KT | exact KT.drew | exact KT.drewN _)) h0 h1 hn t0 t1).mono ?_; rintro e u2 ⟨rfl, m2, b2⟩; have BT : But (fun k => k = M ∨ k = B) v1 u2 := (Kept.but (w' := _) (by first | exact Kept.refl _ | exact (Kept.refl _).drew | exact (Kept.refl _).drewN _ | exact KT | exact KT.drew | exact KT.drewN _) _).trans b2 (fun _ _ h => h); have q0 := BT.some e0 hQ; have q1 := BT.some e1 hQ; have q2 := BT.some e2 hQ; have q3 := BT.some e3 hQ; have q4 := BT.some e4 hQ; have q5 := BT.some e5 hQ; have qf : ∀ i, u2.frozen? ⟨Q, i, none⟩ = false := fun i => BT.soft (lt_of_cell e0) (ef i)))
  have NM := Lib.hid m2
  have GG : Hid (But (fun k => k = Q ∨ k = M ∨ k = B) w u2) := Lib.hid (GV.out.trans BT (fun _ _ h => Or.inr h))
  clear e0 e1 e2 e3 e4 e5 i0 i1 i2 i3 i4 i5 ef KT k1 m2 b2 BT
  go_wp2
  go_ret
  go_light
  refine ⟨rfl, ?_, fun i => ?_, ?_, ?_⟩
  · simp [cell_set, *]
  · simp [*]
  · exact ref_frame NM.out hn1 (T := fun k => k = Q) (by repeat (first | (with_reducible exact But.refl _ _) | (with_reducible refine But.here ?_ _ _) | (with_reducible refine But.drew ?_) | (with_reducible refine But.drewN ?_ _))) (fun h => hQ (Or.inl h.symm)) (fun h => hQ (Or.inr h.symm))
  · have gg := GG.out
    repeat (first | (with_reducible exact gg) | (with_reducible refine But.drew ?_) | (with_reducible refine But.drewN ?_ _) | ((with_reducible refine But.setCell ?_ (Or.inl (Or.inl rfl)) _)))
set_option maxHeartbeats 2000000 in
theorem rAll_2yes (Q M B n : Nat) (S : Stk) (s : St) (w : World) (f : ∀ i, w.frozen? ⟨Q, i, none⟩ = false) (hm : RefIs w M B n s) (h0 : 0 ≤ s.cnt) (h1 : s.cnt ≤ 1000000) (hn : n ≤ 4096) (hn1 : 1 ≤ n) (hQ : ¬ (Q = M ∨ Q = B)) (W I : Int) (w0 : 0 ≤ W) (w1 : W < 18446744073709551616) (t0 : 0 ≤ S.T) (t1 : S.T < n) (hq : (wordAt n s S.T == W) = true) (c0 : w.cell? ⟨Q, 0, none⟩ = some (.int .i64 S.T)) (c1 : w.cell? ⟨Q, 1, none⟩ = some (.int .i64 S.K)) (c2 : w.cell? ⟨Q, 2, none⟩ = some (.int .i64 S.N)) (c3 : w.cell? ⟨Q, 3, none⟩ = some (.int .i64 2)) (c4 : w.cell? ⟨Q, 4, none⟩ = some (.int .u64 W)) (c5 : w.cell? ⟨Q, 5, none⟩ = some (.int .i64 I)) :
    Calls Tryz.prog 45 #[.pointer (some ⟨Q, 0, none⟩), .pointer (some ⟨M, 0, none⟩)] w
      fun e w' => e = .returned (.bool true) ∧ (w'.cell? ⟨Q, 0, none⟩ = some (.int .i64 S.T) ∧ w'.cell? ⟨Q, 1, none⟩ = some (.int .i64 S.K) ∧ w'.cell? ⟨Q, 2, none⟩ = some (.int .i64 S.N) ∧ w'.cell? ⟨Q, 3, none⟩ = some (.int .i64 9) ∧ w'.cell? ⟨Q, 4, none⟩ = some (.int .u64 W) ∧ w'.cell? ⟨Q, 5, none⟩ = some (.int .i64 I)) ∧ (∀ i, w'.frozen? ⟨Q, i, none⟩ = false) ∧ RefIs w' M B n (acc n s 3 S.T (wordAt n s S.T == W) (topW (-1) W)) ∧ But (fun k => k = Q ∨ k = M ∨ k = B) w w' := by
  have hP := lt_of_cell c0
  go_enter Tryz.func45, Tryz.ntmps45
  go_upto_region 10 with fail
  have e0 : (w.setCell ⟨Q, 3, none⟩ (.int .i64 1)).cell? ⟨Q, 0, none⟩ = some (.int .i64 S.T) := by simp [cell_set, *]
  have e1 : (w.setCell ⟨Q, 3, none⟩ (.int .i64 1)).cell? ⟨Q, 1, none⟩ = some (.int .i64 S.K) := by simp [cell_set, *]
  have e2 : (w.setCell ⟨Q, 3, none⟩ (.int .i64 1)).cell? ⟨Q, 2, none⟩ = some (.int .i64 S.N) := by simp [cell_set, *]
  have e3 : (w.setCell ⟨Q, 3, none⟩ (.int .i64 1)).cell? ⟨Q, 3, none⟩ = some (.int .i64 1) := by simp [cell_set, *]
  have e4 : (w.setCell ⟨Q, 3, none⟩ (.int .i64 1)).cell? ⟨Q, 4, none⟩ = some (.int .u64 W) := by simp [cell_set, *]
  have e5 : (w.setCell ⟨Q, 3, none⟩ (.int .i64 1)).cell? ⟨Q, 5, none⟩ = some (.int .i64 I) := by simp [cell_set, *]
  have ef : ∀ i, (w.setCell ⟨Q, 3, none⟩ (.int .i64 1)).frozen? ⟨Q, i, none⟩ = false := fun i => by simp [*]
  have nv : RefIs (w.setCell ⟨Q, 3, none⟩ (.int .i64 1)) M B n (s) := ref_frame hm hn1 (T := fun k => k = Q) ((But.refl _ _).here _ _) (fun h => hQ (Or.inl h.symm)) (fun h => hQ (Or.inr h.symm))
  have gv : But (fun k => k = Q ∨ k = M ∨ k = B) w (w.setCell ⟨Q, 3, none⟩ (.int .i64 1)) := But.setCell (S := fun k => k = Q ∨ k = M ∨ k = B) (But.refl _ _) (p := ⟨Q, 3, none⟩) (Or.inl (Or.inl rfl)) _
  clear c0 c1 c2 c3 c4 c5 f hm
  generalize w.setCell ⟨Q, 3, none⟩ (.int .i64 1) = v1 at *
  have NV := Lib.hid nv
  have GV := Lib.hid gv
  clear nv gv
  go_region_held3 (fun w' => w'.cell? ⟨Q, 0, none⟩ = some (.int .i64 S.T) ∧ w'.cell? ⟨Q, 4, none⟩ = some (.int .u64 W)) (first | go_keep | (exact ⟨q0, q4⟩) | (exact ⟨i0, i4⟩)) (first | (go_at_call 72; refine (ref_top (-1) W _ w0 w1 (by decide) (by decide)).mono ?_; rintro e u1 ⟨rfl, k1⟩; have KT : Kept v1 u1 := Kept.trans (b := _) (by first | exact Kept.refl _ | exact (Kept.refl _).drew | exact (Kept.refl _).drewN _) k1; have i0 := KT.some e0; have i1 := KT.some e1; have i2 := KT.some e2; have i3 := KT.some e3; have i4 := KT.some e4; have i5 := KT.some e5) | (go_at_call 71; refine (r_cas M B n s S.T W (topW (-1) W) _ (ref_kept NV.out hn1 (by first | exact Kept.refl _ | exact (Kept.refl _).drew | exact (Kept.refl _).drewN _ | exact KT | exact KT.drew | exact KT.drewN _)) h0 h1 hn t0 t1).mono ?_; rintro e u2 ⟨rfl, m2, b2⟩; have BT : But (fun k => k = M ∨ k = B) v1 u2 := (Kept.but (w' := _) (by first | exact Kept.refl _ | exact (Kept.refl _).drew | exact (Kept.refl _).drewN _ | exact KT | exact KT.drew | exact KT.drewN _) _).trans b2 (fun _ _ h => h); have q0 := BT.some e0 hQ; have q1 := BT.some e1 hQ; have q2 := BT.some e2 hQ; have q3 := BT.some e3 hQ; have q4 := BT.some e4 hQ; have q5 := BT.some e5 hQ; have qf : ∀ i, u2.frozen? ⟨Q, i, none⟩ = false := fun i => BT.soft (lt_of_cell e0) (ef i)))
  have NM := Lib.hid m2
  have GG : Hid (But (fun k => k = Q ∨ k = M ∨ k = B) w u2) := Lib.hid (GV.out.trans BT (fun _ _ h => Or.inr h))
  clear e0 e1 e2 e3 e4 e5 i0 i1 i2 i3 i4 i5 ef KT k1 m2 b2 BT
  go_wp2
  go_ret
  go_light
  refine ⟨rfl, ?_, fun i => ?_, ?_, ?_⟩
  · simp [cell_set, *]
  · simp [*]
  · exact ref_frame NM.out hn1 (T := fun k => k = Q) (by repeat (first | (with_reducible exact But.refl _ _) | (with_reducible refine But.here ?_ _ _) | (with_reducible refine But.drew ?_) | (with_reducible refine But.drewN ?_ _))) (fun h => hQ (Or.inl h.symm)) (fun h => hQ (Or.inr h.symm))
  · have gg := GG.out
    repeat (first | (with_reducible exact gg) | (with_reducible refine But.drew ?_) | (with_reducible refine But.drewN ?_ _) | ((with_reducible refine But.setCell ?_ (Or.inl (Or.inl rfl)) _)))
set_option maxHeartbeats 1000000 in
theorem rAll_9 (Q : Nat) (V : Value) (S : Stk) (W I : Int) (w : World) (c0 : w.cell? ⟨Q, 0, none⟩ = some (.int .i64 S.T)) (c1 : w.cell? ⟨Q, 1, none⟩ = some (.int .i64 S.K)) (c2 : w.cell? ⟨Q, 2, none⟩ = some (.int .i64 S.N)) (c3 : w.cell? ⟨Q, 3, none⟩ = some (.int .i64 9)) (c4 : w.cell? ⟨Q, 4, none⟩ = some (.int .u64 W)) (c5 : w.cell? ⟨Q, 5, none⟩ = some (.int .i64 I)) : Calls Tryz.prog 45 #[.pointer (some ⟨Q, 0, none⟩), V] w fun e w' => e = .returned (.bool true) ∧ w = w' := by
  go_enter Tryz.func45, Tryz.ntmps45
  go_wp2
  go_ret
  exact ⟨rfl, rfl⟩
end Go.Proofs.YtfcompikbeebaaaGreat.Sk

namespace Go.Proofs.YtfcompikbeebaaaGreat.Sk
set_option maxRecDepth 20000
open Go.RowKit
open Wo (St acc wordAt PMem RefIs)

structure OpAt (w : World) (P o : Nat) (S : Stk) (W L : Int) (nx : Value) (er : Int) : Prop where
  c0 : w.cell? ⟨P, o, none⟩ = some (.bool true)
  c1 : w.cell? ⟨P, o + 1, none⟩ = some (.int .i64 S.T)
  c2 : w.cell? ⟨P, o + 2, none⟩ = some (.int .i64 S.K)
  c3 : w.cell? ⟨P, o + 3, none⟩ = some (.int .i64 S.N)
  c4 : w.cell? ⟨P, o + 4, none⟩ = some (.int .u64 W)
  c5 : w.cell? ⟨P, o + 5, none⟩ = some (.int .u64 L)
  c6 : w.cell? ⟨P, o + 6, none⟩ = some nx
  c7 : w.cell? ⟨P, o + 7, none⟩ = some (.int .i64 er)
  f : ∀ i, w.frozen? ⟨P, i, none⟩ = false

theorem OpAt.lt {w : World} {P o : Nat} {S : Stk} {W L : Int} {nx : Value} {er : Int} (h : OpAt w P o S W L nx er) : P < w.heap.size := lt_of_cell h.c0
theorem OpAt.frame {w w' : World} {P o : Nat} {S : Stk} {W L : Int} {nx : Value} {er : Int} (h : OpAt w P o S W L nx er) {T : Nat → Prop} (hb : But T w w') (hP : ¬ T P) : OpAt w' P o S W L nx er :=
  ⟨hb.some h.c0 hP, hb.some h.c1 hP, hb.some h.c2 hP, hb.some h.c3 hP, hb.some h.c4 hP, hb.some h.c5 hP, hb.some h.c6 hP, hb.some h.c7 hP, fun i => hb.soft h.lt (h.f i)⟩
theorem OpAt.kept {w w' : World} {P o : Nat} {S : Stk} {W L : Int} {nx : Value} {er : Int} (h : OpAt w P o S W L nx er) (k : Kept w w') : OpAt w' P o S W L nx er := h.frame (k.but (fun _ => False)) id

structure Chg (P o m B : Nat) (w w' : World) : Prop where
  but : But (fun k => k = P ∨ k = B) w w'
  out : ∀ j, (j < o ∨ o + m ≤ j) → w'.cell? ⟨P, j, none⟩ = w.cell? ⟨P, j, none⟩

theorem Chg.refl (P o m B : Nat) (w : World) : Chg P o m B w w := ⟨But.refl _ _, fun _ _ => rfl⟩
theorem Chg.trans {P o m B : Nat} {a b c : World} (h : Chg P o m B a b) (k : Chg P o m B b c) : Chg P o m B a c :=
  ⟨h.but.trans k.but (fun _ _ h => h), fun j hj => (k.out j hj).trans (h.out j hj)⟩
theorem Chg.keep {P o m B : Nat} {a b c : World} (h : Chg P o m B a b) (k : Kept b c) (hP : P < a.heap.size) : Chg P o m B a c :=
  ⟨h.but.then k, fun j hj => (k.cell P j (Nat.lt_of_lt_of_le hP h.but.size)).trans (h.out j hj)⟩
theorem Chg.mem {P o m B : Nat} {a b c : World} (h : Chg P o m B a b) (k : But (fun k => k = B) b c) (hP : P < a.heap.size) (hPB : P ≠ B) : Chg P o m B a c :=
  ⟨h.but.trans k (fun _ _ h => Or.inr h), fun j hj => (k.cell P j (Nat.lt_of_lt_of_le hP h.but.size) hPB).trans (h.out j hj)⟩
theorem Chg.set {P o m B : Nat} {a b : World} (h : Chg P o m B a b) (j : Nat) (hj : o ≤ j ∧ j < o + m) (v : Value) : Chg P o m B a (b.setCell ⟨P, j, none⟩ v) :=
  ⟨h.but.setCell (p := ⟨P, j, none⟩) (Or.inl (Or.inl rfl)) v, fun i hi => by rw [cell_set, if_neg (by omega)]; exact h.out i hi⟩
theorem Chg.alloc {P o m B : Nat} {a b : World} (h : Chg P o m B a b) (hP : P < a.heap.size) (c : Array Value) (t : TypeId) : Chg P o m B a (b.alloc (.cells c t)) := h.keep ((Kept.refl b).alloc c t) hP
theorem Chg.drew {P o m B : Nat} {a b : World} (h : Chg P o m B a b) (hP : P < a.heap.size) : Chg P o m B a b.drew := h.keep (Kept.refl b).drew hP
theorem Chg.drewN {P o m B : Nat} {a b : World} (h : Chg P o m B a b) (hP : P < a.heap.size) (n : Nat) : Chg P o m B a (b.drewN n) := h.keep ((Kept.refl b).drewN n) hP
theorem Chg.some {P o m B : Nat} {w w' : World} (h : Chg P o m B w w') {j : Nat} {v : Value} (hc : w.cell? ⟨P, j, none⟩ = some v) (hj : j < o ∨ o + m ≤ j) : w'.cell? ⟨P, j, none⟩ = some v := (h.out j hj).trans hc
theorem Chg.wide {P o m o' m' B : Nat} {w w' : World} (h : Chg P o m B w w') (h0 : o' ≤ o) (h1 : o + m ≤ o' + m') : Chg P o' m' B w w' := ⟨h.but, fun j hj => h.out j (by omega)⟩
theorem Chg.any {P o m : Nat} {w w' : World} (h : Chg P o m P w w') (B : Nat) : Chg P o m B w w' := ⟨h.but.mono (fun _ _ h => h.elim Or.inl Or.inl), h.out⟩
theorem Chg.own {P o m : Nat} {w w' : World} (h : Chg P o m P w w') : But (fun k => k = P) w w' := h.but.mono (fun _ _ h => h.elim id id)
end Go.Proofs.YtfcompikbeebaaaGreat.Sk
