/- The document's Pop: its step at each line. Written by gen10r.py. -/
import Derived.Test.YtbonnfofoepjcaaGreatG06
import Derived.Lib.Hide
import Derived.Deep.Light
import Derived.Deep.RegionHeld3
set_option linter.unusedVariables false
set_option linter.unusedSimpArgs false

namespace Go.Proofs.YtbonnfofoepjcaaGreat.Sk
set_option maxRecDepth 20000
open Go.RowKit
open Wo (St acc wordAt PMem RefIs)
set_option maxHeartbeats 2000000 in
theorem rPop_1some (Q M B n : Nat) (S : Stk) (s : St) (w : World) (f : ∀ i, w.frozen? ⟨Q, i, none⟩ = false) (hm : RefIs w M B n s) (h0 : 0 ≤ s.cnt) (h1 : s.cnt ≤ 1000000) (hn : n ≤ 4096) (hn1 : 1 ≤ n) (hQ : ¬ (Q = M ∨ Q = B)) (W I J : Int) (wa : 0 ≤ wordAt n s S.T) (wb : wordAt n s S.T < 18446744073709551616) (hi : 0 ≤ idx S.N (wordAt n s S.T)) (c0 : w.cell? ⟨Q, 0, none⟩ = some (.int .i64 S.T)) (c1 : w.cell? ⟨Q, 1, none⟩ = some (.int .i64 S.K)) (c2 : w.cell? ⟨Q, 2, none⟩ = some (.int .i64 S.N)) (c3 : w.cell? ⟨Q, 3, none⟩ = some (.int .i64 1)) (c4 : w.cell? ⟨Q, 4, none⟩ = some (.int .u64 W)) (c5 : w.cell? ⟨Q, 5, none⟩ = some (.int .i64 I)) (c6 : w.cell? ⟨Q, 6, none⟩ = some (.int .i64 J)) :
    Calls Tryz.prog 139 #[.pointer (some ⟨Q, 0, none⟩), .pointer (some ⟨M, 0, none⟩)] w
      fun e w' => e = .returned (.bool false) ∧ (w'.cell? ⟨Q, 0, none⟩ = some (.int .i64 S.T) ∧ w'.cell? ⟨Q, 1, none⟩ = some (.int .i64 S.K) ∧ w'.cell? ⟨Q, 2, none⟩ = some (.int .i64 S.N) ∧ w'.cell? ⟨Q, 3, none⟩ = some (.int .i64 2) ∧ w'.cell? ⟨Q, 4, none⟩ = some (.int .u64 (wordAt n s S.T)) ∧ w'.cell? ⟨Q, 5, none⟩ = some (.int .i64 (idx S.N (wordAt n s S.T))) ∧ w'.cell? ⟨Q, 6, none⟩ = some (.int .i64 J)) ∧ (∀ i, w'.frozen? ⟨Q, i, none⟩ = false) ∧ RefIs w' M B n (acc n s 1 S.T false 0) ∧ But (fun k => k = Q ∨ k = M ∨ k = B) w w' := by
  have HM := Lib.hid hm
  clear hm
  go_enter Tryz.func139, Tryz.ntmps139
  go_wp2_with fail
  refine (r_load M B n s S.T _ HM.out h0 h1 hn).mono ?_
  rintro e w1 ⟨rfl, m1, b1⟩
  have d0 := b1.some c0 hQ
  have d1 := b1.some c1 hQ
  have d2 := b1.some c2 hQ
  have d3 := b1.some c3 hQ
  have d4 := b1.some c4 hQ
  have d5 := b1.some c5 hQ
  have d6 := b1.some c6 hQ
  have df : ∀ i, w1.frozen? ⟨Q, i, none⟩ = false := fun i => b1.soft (lt_of_cell c0) (f i)
  clear c0 c1 c2 c3 c4 c5 c6 f
  go_upto_region 4 with fail
  have e0 : (w1.setCell ⟨Q, 4, none⟩ (.int .u64 (wordAt n s S.T))).cell? ⟨Q, 0, none⟩ = some (.int .i64 S.T) := by simp [cell_set, *]
  have e1 : (w1.setCell ⟨Q, 4, none⟩ (.int .u64 (wordAt n s S.T))).cell? ⟨Q, 1, none⟩ = some (.int .i64 S.K) := by simp [cell_set, *]
  have e2 : (w1.setCell ⟨Q, 4, none⟩ (.int .u64 (wordAt n s S.T))).cell? ⟨Q, 2, none⟩ = some (.int .i64 S.N) := by simp [cell_set, *]
  have e3 : (w1.setCell ⟨Q, 4, none⟩ (.int .u64 (wordAt n s S.T))).cell? ⟨Q, 3, none⟩ = some (.int .i64 1) := by simp [cell_set, *]
  have e4 : (w1.setCell ⟨Q, 4, none⟩ (.int .u64 (wordAt n s S.T))).cell? ⟨Q, 4, none⟩ = some (.int .u64 (wordAt n s S.T)) := by simp [cell_set, *]
  have e5 : (w1.setCell ⟨Q, 4, none⟩ (.int .u64 (wordAt n s S.T))).cell? ⟨Q, 5, none⟩ = some (.int .i64 I) := by simp [cell_set, *]
  have e6 : (w1.setCell ⟨Q, 4, none⟩ (.int .u64 (wordAt n s S.T))).cell? ⟨Q, 6, none⟩ = some (.int .i64 J) := by simp [cell_set, *]
  have ef : ∀ i, (w1.setCell ⟨Q, 4, none⟩ (.int .u64 (wordAt n s S.T))).frozen? ⟨Q, i, none⟩ = false := fun i => by simp [*]
  have nv : RefIs (w1.setCell ⟨Q, 4, none⟩ (.int .u64 (wordAt n s S.T))) M B n (acc n s 1 S.T false 0) := ref_frame m1 hn1 (T := fun k => k = Q) ((But.refl _ _).here _ _) (fun h => hQ (Or.inl h.symm)) (fun h => hQ (Or.inr h.symm))
  have gv : But (fun k => k = Q ∨ k = M ∨ k = B) w (w1.setCell ⟨Q, 4, none⟩ (.int .u64 (wordAt n s S.T))) := But.setCell (S := fun k => k = Q ∨ k = M ∨ k = B) (b1.mono (fun _ _ h => Or.inr h)) (p := ⟨Q, 4, none⟩) (Or.inl (Or.inl rfl)) _
  clear d0 d1 d2 d3 d4 d5 d6 df m1 b1
  generalize w1.setCell ⟨Q, 4, none⟩ (.int .u64 (wordAt n s S.T)) = v1 at *
  have NV := Lib.hid nv
  have GV := Lib.hid gv
  clear nv gv
  go_region_held3 (fun w' => w'.cell? ⟨Q, 0, none⟩ = some (.int .i64 S.T) ∧ w'.cell? ⟨Q, 1, none⟩ = some (.int .i64 S.K) ∧ w'.cell? ⟨Q, 2, none⟩ = some (.int .i64 S.N) ∧ w'.cell? ⟨Q, 4, none⟩ = some (.int .u64 (wordAt n s S.T))) (first | go_keep | (exact ⟨i0, i1, i2, i4⟩) | (refine ⟨?_, ?_, ?_, ?_⟩ <;> (simp [cell_set, *]; done))) (first | (go_at_call 206; refine (ref_index S.T S.K S.N _ _ wa wb).mono ?_; rintro e u1 ⟨rfl, k1⟩; have KT : Kept v1 u1 := Kept.trans (b := _) (by first | exact Kept.refl _ | exact (Kept.refl _).drew | exact (Kept.refl _).drewN _) k1; have i0 := KT.some e0; have i1 := KT.some e1; have i2 := KT.some e2; have i3 := KT.some e3; have i4 := KT.some e4; have i5 := KT.some e5; have i6 := KT.some e6; have jf : ∀ i, u1.frozen? ⟨Q, i, none⟩ = false := fun i => KT.soft (lt_of_cell e0) (ef i)))
  have NM := Lib.hid (ref_kept NV.out hn1 KT)
  have GG := Lib.hid (GV.out.then KT)
  clear e0 e1 e2 e3 e4 e5 e6 ef KT k1
  go_wp2
  go_ret
  go_light
  refine ⟨rfl, ?_, fun i => ?_, ?_, ?_⟩
  · simp [cell_set, *]
  · simp [*]
  · exact ref_frame NM.out hn1 (T := fun k => k = Q) (by repeat (first | (with_reducible exact But.refl _ _) | (with_reducible refine But.here ?_ _ _) | (with_reducible refine But.drew ?_) | (with_reducible refine But.drewN ?_ _))) (fun h => hQ (Or.inl h.symm)) (fun h => hQ (Or.inr h.symm))
  · have gg := GG.out
    repeat (first | (with_reducible exact gg) | (with_reducible refine But.drew ?_) | (with_reducible refine But.drewN ?_ _) | ((with_reducible refine But.setCell ?_ (Or.inl (Or.inl rfl)) _)))
set_option maxHeartbeats 2000000 in
theorem rPop_1none (Q M B n : Nat) (S : Stk) (s : St) (w : World) (f : ∀ i, w.frozen? ⟨Q, i, none⟩ = false) (hm : RefIs w M B n s) (h0 : 0 ≤ s.cnt) (h1 : s.cnt ≤ 1000000) (hn : n ≤ 4096) (hn1 : 1 ≤ n) (hQ : ¬ (Q = M ∨ Q = B)) (W I J : Int) (wa : 0 ≤ wordAt n s S.T) (wb : wordAt n s S.T < 18446744073709551616) (hi : idx S.N (wordAt n s S.T) < 0) (c0 : w.cell? ⟨Q, 0, none⟩ = some (.int .i64 S.T)) (c1 : w.cell? ⟨Q, 1, none⟩ = some (.int .i64 S.K)) (c2 : w.cell? ⟨Q, 2, none⟩ = some (.int .i64 S.N)) (c3 : w.cell? ⟨Q, 3, none⟩ = some (.int .i64 1)) (c4 : w.cell? ⟨Q, 4, none⟩ = some (.int .u64 W)) (c5 : w.cell? ⟨Q, 5, none⟩ = some (.int .i64 I)) (c6 : w.cell? ⟨Q, 6, none⟩ = some (.int .i64 J)) :
    Calls Tryz.prog 139 #[.pointer (some ⟨Q, 0, none⟩), .pointer (some ⟨M, 0, none⟩)] w
      fun e w' => e = .returned (.bool true) ∧ (w'.cell? ⟨Q, 0, none⟩ = some (.int .i64 S.T) ∧ w'.cell? ⟨Q, 1, none⟩ = some (.int .i64 S.K) ∧ w'.cell? ⟨Q, 2, none⟩ = some (.int .i64 S.N) ∧ w'.cell? ⟨Q, 3, none⟩ = some (.int .i64 9) ∧ w'.cell? ⟨Q, 4, none⟩ = some (.int .u64 (wordAt n s S.T)) ∧ w'.cell? ⟨Q, 5, none⟩ = some (.int .i64 (idx S.N (wordAt n s S.T))) ∧ w'.cell? ⟨Q, 6, none⟩ = some (.int .i64 J)) ∧ (∀ i, w'.frozen? ⟨Q, i, none⟩ = false) ∧ RefIs w' M B n (acc n s 1 S.T false 0) ∧ But (fun k => k = Q ∨ k = M ∨ k = B) w w' := by
  have HM := Lib.hid hm
  clear hm
  go_enter Tryz.func139, Tryz.ntmps139
  go_wp2_with fail
  refine (r_load M B n s S.T _ HM.out h0 h1 hn).mono ?_
  rintro e w1 ⟨rfl, m1, b1⟩
  have d0 := b1.some c0 hQ
  have d1 := b1.some c1 hQ
  have d2 := b1.some c2 hQ
  have d3 := b1.some c3 hQ
  have d4 := b1.some c4 hQ
  have d5 := b1.some c5 hQ
  have d6 := b1.some c6 hQ
  have df : ∀ i, w1.frozen? ⟨Q, i, none⟩ = false := fun i => b1.soft (lt_of_cell c0) (f i)
  clear c0 c1 c2 c3 c4 c5 c6 f
  go_upto_region 4 with fail
  have e0 : (w1.setCell ⟨Q, 4, none⟩ (.int .u64 (wordAt n s S.T))).cell? ⟨Q, 0, none⟩ = some (.int .i64 S.T) := by simp [cell_set, *]
  have e1 : (w1.setCell ⟨Q, 4, none⟩ (.int .u64 (wordAt n s S.T))).cell? ⟨Q, 1, none⟩ = some (.int .i64 S.K) := by simp [cell_set, *]
  have e2 : (w1.setCell ⟨Q, 4, none⟩ (.int .u64 (wordAt n s S.T))).cell? ⟨Q, 2, none⟩ = some (.int .i64 S.N) := by simp [cell_set, *]
  have e3 : (w1.setCell ⟨Q, 4, none⟩ (.int .u64 (wordAt n s S.T))).cell? ⟨Q, 3, none⟩ = some (.int .i64 1) := by simp [cell_set, *]
  have e4 : (w1.setCell ⟨Q, 4, none⟩ (.int .u64 (wordAt n s S.T))).cell? ⟨Q, 4, none⟩ = some (.int .u64 (wordAt n s S.T)) := by simp [cell_set, *]
  have e5 : (w1.setCell ⟨Q, 4, none⟩ (.int .u64 (wordAt n s S.T))).cell? ⟨Q, 5, none⟩ = some (.int .i64 I) := by simp [cell_set, *]
  have e6 : (w1.setCell ⟨Q, 4, none⟩ (.int .u64 (wordAt n s S.T))).cell? ⟨Q, 6, none⟩ = some (.int .i64 J) := by simp [cell_set, *]
  have ef : ∀ i, (w1.setCell ⟨Q, 4, none⟩ (.int .u64 (wordAt n s S.T))).frozen? ⟨Q, i, none⟩ = false := fun i => by simp [*]
  have nv : RefIs (w1.setCell ⟨Q, 4, none⟩ (.int .u64 (wordAt n s S.T))) M B n (acc n s 1 S.T false 0) := ref_frame m1 hn1 (T := fun k => k = Q) ((But.refl _ _).here _ _) (fun h => hQ (Or.inl h.symm)) (fun h => hQ (Or.inr h.symm))
  have gv : But (fun k => k = Q ∨ k = M ∨ k = B) w (w1.setCell ⟨Q, 4, none⟩ (.int .u64 (wordAt n s S.T))) := But.setCell (S := fun k => k = Q ∨ k = M ∨ k = B) (b1.mono (fun _ _ h => Or.inr h)) (p := ⟨Q, 4, none⟩) (Or.inl (Or.inl rfl)) _
  clear d0 d1 d2 d3 d4 d5 d6 df m1 b1
  generalize w1.setCell ⟨Q, 4, none⟩ (.int .u64 (wordAt n s S.T)) = v1 at *
  have NV := Lib.hid nv
  have GV := Lib.hid gv
  clear nv gv
  go_region_held3 (fun w' => w'.cell? ⟨Q, 0, none⟩ = some (.int .i64 S.T) ∧ w'.cell? ⟨Q, 1, none⟩ = some (.int .i64 S.K) ∧ w'.cell? ⟨Q, 2, none⟩ = some (.int .i64 S.N) ∧ w'.cell? ⟨Q, 4, none⟩ = some (.int .u64 (wordAt n s S.T))) (first | go_keep | (exact ⟨i0, i1, i2, i4⟩) | (refine ⟨?_, ?_, ?_, ?_⟩ <;> (simp [cell_set, *]; done))) (first | (go_at_call 206; refine (ref_index S.T S.K S.N _ _ wa wb).mono ?_; rintro e u1 ⟨rfl, k1⟩; have KT : Kept v1 u1 := Kept.trans (b := _) (by first | exact Kept.refl _ | exact (Kept.refl _).drew | exact (Kept.refl _).drewN _) k1; have i0 := KT.some e0; have i1 := KT.some e1; have i2 := KT.some e2; have i3 := KT.some e3; have i4 := KT.some e4; have i5 := KT.some e5; have i6 := KT.some e6; have jf : ∀ i, u1.frozen? ⟨Q, i, none⟩ = false := fun i => KT.soft (lt_of_cell e0) (ef i)))
  have NM := Lib.hid (ref_kept NV.out hn1 KT)
  have GG := Lib.hid (GV.out.then KT)
  clear e0 e1 e2 e3 e4 e5 e6 ef KT k1
  go_upto_region 6 with fail
  have a0 : ((u1.setCell ⟨Q, 5, none⟩ (.int .i64 (idx S.N (wordAt n s S.T)))).setCell ⟨Q, 3, none⟩ (.int .i64 2)).cell? ⟨Q, 0, none⟩ = some (.int .i64 S.T) := by simp [cell_set, *]
  have a1 : ((u1.setCell ⟨Q, 5, none⟩ (.int .i64 (idx S.N (wordAt n s S.T)))).setCell ⟨Q, 3, none⟩ (.int .i64 2)).cell? ⟨Q, 1, none⟩ = some (.int .i64 S.K) := by simp [cell_set, *]
  have a2 : ((u1.setCell ⟨Q, 5, none⟩ (.int .i64 (idx S.N (wordAt n s S.T)))).setCell ⟨Q, 3, none⟩ (.int .i64 2)).cell? ⟨Q, 2, none⟩ = some (.int .i64 S.N) := by simp [cell_set, *]
  have a3 : ((u1.setCell ⟨Q, 5, none⟩ (.int .i64 (idx S.N (wordAt n s S.T)))).setCell ⟨Q, 3, none⟩ (.int .i64 2)).cell? ⟨Q, 3, none⟩ = some (.int .i64 2) := by simp [cell_set, *]
  have a4 : ((u1.setCell ⟨Q, 5, none⟩ (.int .i64 (idx S.N (wordAt n s S.T)))).setCell ⟨Q, 3, none⟩ (.int .i64 2)).cell? ⟨Q, 4, none⟩ = some (.int .u64 (wordAt n s S.T)) := by simp [cell_set, *]
  have a5 : ((u1.setCell ⟨Q, 5, none⟩ (.int .i64 (idx S.N (wordAt n s S.T)))).setCell ⟨Q, 3, none⟩ (.int .i64 2)).cell? ⟨Q, 5, none⟩ = some (.int .i64 (idx S.N (wordAt n s S.T))) := by simp [cell_set, *]
  have a6 : ((u1.setCell ⟨Q, 5, none⟩ (.int .i64 (idx S.N (wordAt n s S.T)))).setCell ⟨Q, 3, none⟩ (.int .i64 2)).cell? ⟨Q, 6, none⟩ = some (.int .i64 J) := by simp [cell_set, *]
  have af : ∀ i, ((u1.setCell ⟨Q, 5, none⟩ (.int .i64 (idx S.N (wordAt n s S.T)))).setCell ⟨Q, 3, none⟩ (.int .i64 2)).frozen? ⟨Q, i, none⟩ = false := fun i => by simp [*]
  have NM : Hid (RefIs ((u1.setCell ⟨Q, 5, none⟩ (.int .i64 (idx S.N (wordAt n s S.T)))).setCell ⟨Q, 3, none⟩ (.int .i64 2)) M B n (acc n s 1 S.T false 0)) := Lib.hid (ref_frame NM.out hn1 (T := fun k => k = Q) (((But.refl _ _).here _ _).here _ _) (fun h => hQ (Or.inl h.symm)) (fun h => hQ (Or.inr h.symm)))
  have GG : Hid (But (fun k => k = Q ∨ k = M ∨ k = B) w ((u1.setCell ⟨Q, 5, none⟩ (.int .i64 (idx S.N (wordAt n s S.T)))).setCell ⟨Q, 3, none⟩ (.int .i64 2))) := Lib.hid (But.setCell (S := fun k => k = Q ∨ k = M ∨ k = B) (But.setCell (S := fun k => k = Q ∨ k = M ∨ k = B) GG.out (p := ⟨Q, 5, none⟩) (Or.inl (Or.inl rfl)) _) (p := ⟨Q, 3, none⟩) (Or.inl (Or.inl rfl)) _)
  clear i0 i1 i2 i3 i4 i5 i6 jf
  generalize (u1.setCell ⟨Q, 5, none⟩ (.int .i64 (idx S.N (wordAt n s S.T)))).setCell ⟨Q, 3, none⟩ (.int .i64 2) = v2 at *
  go_wp2
  go_ret
  go_light
  refine ⟨rfl, ?_, fun i => ?_, ?_, ?_⟩
  · simp [cell_set, *]
  · simp [*]
  · exact ref_frame NM.out hn1 (T := fun k => k = Q) (by repeat (first | (with_reducible exact But.refl _ _) | (with_reducible refine But.here ?_ _ _) | (with_reducible refine But.drew ?_) | (with_reducible refine But.drewN ?_ _))) (fun h => hQ (Or.inl h.symm)) (fun h => hQ (Or.inr h.symm))
  · have gg := GG.out
    repeat (first | (with_reducible exact gg) | (with_reducible refine But.drew ?_) | (with_reducible refine But.drewN ?_ _) | ((with_reducible refine But.setCell ?_ (Or.inl (Or.inl rfl)) _)))
set_option maxHeartbeats 2000000 in
theorem rPop_2 (Q M B n : Nat) (S : Stk) (s : St) (w : World) (f : ∀ i, w.frozen? ⟨Q, i, none⟩ = false) (hm : RefIs w M B n s) (h0 : 0 ≤ s.cnt) (h1 : s.cnt ≤ 1000000) (hn : n ≤ 4096) (hn1 : 1 ≤ n) (hQ : ¬ (Q = M ∨ Q = B)) (W J : Int) (z0 : 0 ≤ S.K) (z1 : S.K ≤ 100000) (wa : 0 ≤ wordAt n s (S.K + idx S.N W)) (wb : wordAt n s (S.K + idx S.N W) < 18446744073709551616) (c0 : w.cell? ⟨Q, 0, none⟩ = some (.int .i64 S.T)) (c1 : w.cell? ⟨Q, 1, none⟩ = some (.int .i64 S.K)) (c2 : w.cell? ⟨Q, 2, none⟩ = some (.int .i64 S.N)) (c3 : w.cell? ⟨Q, 3, none⟩ = some (.int .i64 2)) (c4 : w.cell? ⟨Q, 4, none⟩ = some (.int .u64 W)) (c5 : w.cell? ⟨Q, 5, none⟩ = some (.int .i64 (idx S.N W))) (c6 : w.cell? ⟨Q, 6, none⟩ = some (.int .i64 J)) :
    Calls Tryz.prog 139 #[.pointer (some ⟨Q, 0, none⟩), .pointer (some ⟨M, 0, none⟩)] w
      fun e w' => e = .returned (.bool false) ∧ (w'.cell? ⟨Q, 0, none⟩ = some (.int .i64 S.T) ∧ w'.cell? ⟨Q, 1, none⟩ = some (.int .i64 S.K) ∧ w'.cell? ⟨Q, 2, none⟩ = some (.int .i64 S.N) ∧ w'.cell? ⟨Q, 3, none⟩ = some (.int .i64 3) ∧ w'.cell? ⟨Q, 4, none⟩ = some (.int .u64 W) ∧ w'.cell? ⟨Q, 5, none⟩ = some (.int .i64 (idx S.N W)) ∧ w'.cell? ⟨Q, 6, none⟩ = some (.int .i64 (idx S.N (wordAt n s (S.K + idx S.N W))))) ∧ (∀ i, w'.frozen? ⟨Q, i, none⟩ = false) ∧ RefIs w' M B n (acc n s 1 (S.K + idx S.N W) false 0) ∧ But (fun k => k = Q ∨ k = M ∨ k = B) w w' := by
  have hP := lt_of_cell c0
  have j0 := idx_lo S.N W
  have j1 := idx_le S.N W
  have hsum : IntKind.i64.wrap (S.K + idx S.N W) = S.K + idx S.N W := by rw [IntKind.wrap_i64]; omega
  have HM := Lib.hid hm
  clear hm
  go_enter Tryz.func139, Tryz.ntmps139
  go_wp2_with fail
  go_region_held3 (fun w' => w'.cell? ⟨Q, 0, none⟩ = some (.int .i64 S.T) ∧ w'.cell? ⟨Q, 1, none⟩ = some (.int .i64 S.K) ∧ w'.cell? ⟨Q, 2, none⟩ = some (.int .i64 S.N) ∧ w'.cell? ⟨Q, 5, none⟩ = some (.int .i64 (idx S.N W))) (first | go_keep | (exact ⟨q0, q1, q2, q5⟩) | (exact ⟨i0, i1, i2, i5⟩) | (refine ⟨?_, ?_, ?_, ?_⟩ <;> (simp [cell_set, *]; done))) (first | (go_at_call 141; refine (r_load M B n s (S.K + idx S.N W) _ (ref_kept HM.out hn1 (by first | exact Kept.refl _ | exact (Kept.refl _).drew | exact (Kept.refl _).drewN _)) h0 h1 hn).mono ?_; rintro e u1 ⟨rfl, m1, b1⟩; have BT : But (fun k => k = M ∨ k = B) w u1 := (Kept.but (w' := _) (by first | exact Kept.refl _ | exact (Kept.refl _).drew | exact (Kept.refl _).drewN _) _).trans b1 (fun _ _ h => h); have i0 := BT.some c0 hQ; have i1 := BT.some c1 hQ; have i2 := BT.some c2 hQ; have i3 := BT.some c3 hQ; have i4 := BT.some c4 hQ; have i5 := BT.some c5 hQ; have i6 := BT.some c6 hQ; have jf : ∀ i, u1.frozen? ⟨Q, i, none⟩ = false := fun i => BT.soft hP (f i)) | (go_at_call 206; refine (ref_index S.T S.K S.N _ _ wa wb).mono ?_; rintro e u2 ⟨rfl, k2⟩; have KU : Kept u1 u2 := Kept.trans (b := _) (by first | exact Kept.refl _ | exact (Kept.refl _).drew | exact (Kept.refl _).drewN _) k2; have q0 := KU.some i0; have q1 := KU.some i1; have q2 := KU.some i2; have q3 := KU.some i3; have q4 := KU.some i4; have q5 := KU.some i5; have q6 := KU.some i6; have qf : ∀ i, u2.frozen? ⟨Q, i, none⟩ = false := fun i => KU.soft (lt_of_cell i0) (jf i)))
  have NM := Lib.hid (ref_kept m1 hn1 KU)
  have GG : Hid (But (fun k => k = Q ∨ k = M ∨ k = B) w u2) := Lib.hid ((BT.mono (fun _ _ h => Or.inr h)).then KU)
  clear c0 c1 c2 c3 c4 c5 c6 i0 i1 i2 i3 i4 i5 i6 f jf m1 b1 BT KU k2 hsum
  go_wp2
  go_ret
  go_light
  refine ⟨rfl, ?_, fun i => ?_, ?_, ?_⟩
  · simp [cell_set, *]
  · simp [*]
  · exact ref_frame NM.out hn1 (T := fun k => k = Q) (by repeat (first | (with_reducible exact But.refl _ _) | (with_reducible refine But.here ?_ _ _) | (with_reducible refine But.drew ?_) | (with_reducible refine But.drewN ?_ _))) (fun h => hQ (Or.inl h.symm)) (fun h => hQ (Or.inr h.symm))
  · have gg := GG.out
    repeat (first | (with_reducible exact gg) | (with_reducible refine But.drew ?_) | (with_reducible refine But.drewN ?_ _) | ((with_reducible refine But.setCell ?_ (Or.inl (Or.inl rfl)) _)))
set_option maxHeartbeats 2000000 in
theorem rPop_3no (Q M B n : Nat) (S : Stk) (s : St) (w : World) (f : ∀ i, w.frozen? ⟨Q, i, none⟩ = false) (hm : RefIs w M B n s) (h0 : 0 ≤ s.cnt) (h1 : s.cnt ≤ 1000000) (hn : n ≤ 4096) (hn1 : 1 ≤ n) (hQ : ¬ (Q = M ∨ Q = B)) (W I J0 : Int) (i0 : -1 ≤ J0) (i1 : J0 ≤ 65534) (w0 : 0 ≤ W) (w1 : W < 18446744073709551616) (t0 : 0 ≤ S.T) (t1 : S.T < n) (hq : (wordAt n s S.T == W) = false) (c0 : w.cell? ⟨Q, 0, none⟩ = some (.int .i64 S.T)) (c1 : w.cell? ⟨Q, 1, none⟩ = some (.int .i64 S.K)) (c2 : w.cell? ⟨Q, 2, none⟩ = some (.int .i64 S.N)) (c3 : w.cell? ⟨Q, 3, none⟩ = some (.int .i64 3)) (c4 : w.cell? ⟨Q, 4, none⟩ = some (.int .u64 W)) (c5 : w.cell? ⟨Q, 5, none⟩ = some (.int .i64 I)) (c6 : w.cell? ⟨Q, 6, none⟩ = some (.int .i64 J0)) :
    Calls Tryz.prog 139 #[.pointer (some ⟨Q, 0, none⟩), .pointer (some ⟨M, 0, none⟩)] w
      fun e w' => e = .returned (.bool false) ∧ (w'.cell? ⟨Q, 0, none⟩ = some (.int .i64 S.T) ∧ w'.cell? ⟨Q, 1, none⟩ = some (.int .i64 S.K) ∧ w'.cell? ⟨Q, 2, none⟩ = some (.int .i64 S.N) ∧ w'.cell? ⟨Q, 3, none⟩ = some (.int .i64 1) ∧ w'.cell? ⟨Q, 4, none⟩ = some (.int .u64 W) ∧ w'.cell? ⟨Q, 5, none⟩ = some (.int .i64 I) ∧ w'.cell? ⟨Q, 6, none⟩ = some (.int .i64 J0)) ∧ (∀ i, w'.frozen? ⟨Q, i, none⟩ = false) ∧ RefIs w' M B n (acc n s 3 S.T (wordAt n s S.T == W) (topW J0 W)) ∧ But (fun k => k = Q ∨ k = M ∨ k = B) w w' := by
  have hP := lt_of_cell c0
  go_enter Tryz.func139, Tryz.ntmps139
  go_upto_region 13 with fail
  have e0 : (w.setCell ⟨Q, 3, none⟩ (.int .i64 1)).cell? ⟨Q, 0, none⟩ = some (.int .i64 S.T) := by simp [cell_set, *]
  have e1 : (w.setCell ⟨Q, 3, none⟩ (.int .i64 1)).cell? ⟨Q, 1, none⟩ = some (.int .i64 S.K) := by simp [cell_set, *]
  have e2 : (w.setCell ⟨Q, 3, none⟩ (.int .i64 1)).cell? ⟨Q, 2, none⟩ = some (.int .i64 S.N) := by simp [cell_set, *]
  have e3 : (w.setCell ⟨Q, 3, none⟩ (.int .i64 1)).cell? ⟨Q, 3, none⟩ = some (.int .i64 1) := by simp [cell_set, *]
  have e4 : (w.setCell ⟨Q, 3, none⟩ (.int .i64 1)).cell? ⟨Q, 4, none⟩ = some (.int .u64 W) := by simp [cell_set, *]
  have e5 : (w.setCell ⟨Q, 3, none⟩ (.int .i64 1)).cell? ⟨Q, 5, none⟩ = some (.int .i64 I) := by simp [cell_set, *]
  have e6 : (w.setCell ⟨Q, 3, none⟩ (.int .i64 1)).cell? ⟨Q, 6, none⟩ = some (.int .i64 J0) := by simp [cell_set, *]
  have ef : ∀ i, (w.setCell ⟨Q, 3, none⟩ (.int .i64 1)).frozen? ⟨Q, i, none⟩ = false := fun i => by simp [*]
  have nv : RefIs (w.setCell ⟨Q, 3, none⟩ (.int .i64 1)) M B n (s) := ref_frame hm hn1 (T := fun k => k = Q) ((But.refl _ _).here _ _) (fun h => hQ (Or.inl h.symm)) (fun h => hQ (Or.inr h.symm))
  have gv : But (fun k => k = Q ∨ k = M ∨ k = B) w (w.setCell ⟨Q, 3, none⟩ (.int .i64 1)) := But.setCell (S := fun k => k = Q ∨ k = M ∨ k = B) (But.refl _ _) (p := ⟨Q, 3, none⟩) (Or.inl (Or.inl rfl)) _
  clear c0 c1 c2 c3 c4 c5 c6 f hm
  generalize w.setCell ⟨Q, 3, none⟩ (.int .i64 1) = v1 at *
  have NV := Lib.hid nv
  have GV := Lib.hid gv
  clear nv gv
  go_region_held3 (fun w' => w'.cell? ⟨Q, 0, none⟩ = some (.int .i64 S.T) ∧ w'.cell? ⟨Q, 4, none⟩ = some (.int .u64 W) ∧ w'.cell? ⟨Q, 6, none⟩ = some (.int .i64 J0)) (first | go_keep | (exact ⟨q0, q4, q6⟩) | (exact ⟨i0, i4, i6⟩)) (first | (go_at_call 208; refine (ref_top J0 W _ w0 w1 i0 i1).mono ?_; rintro e u1 ⟨rfl, k1⟩; have KT : Kept v1 u1 := Kept.trans (b := _) (by first | exact Kept.refl _ | exact (Kept.refl _).drew | exact (Kept.refl _).drewN _) k1; have i0 := KT.some e0; have i1 := KT.some e1; have i2 := KT.some e2; have i3 := KT.some e3; have i4 := KT.some e4; have i5 := KT.some e5; have i6 := KT.some e6) | (go_at_call 207; refine (r_cas M B n s S.T W (topW J0 W) _ (ref_kept NV.out hn1 (by first | exact Kept.refl _ | exact (Kept.refl _).drew | exact (Kept.refl _).drewN _ | exact KT | exact KT.drew | exact KT.drewN _)) h0 h1 hn t0 t1).mono ?_; rintro e u2 ⟨rfl, m2, b2⟩; have BT : But (fun k => k = M ∨ k = B) v1 u2 := (Kept.but (w' := _) (by first | exact Kept.refl _ | exact (Kept.refl _).drew | exact (Kept.refl _).drewN _ | exact KT | exact KT.drew | exact KT.drewN _) _).trans b2 (fun _ _ h => h); have q0 := BT.some e0 hQ; have q1 := BT.some e1 hQ; have q2 := BT.some e2 hQ; have q3 := BT.some e3 hQ; have q4 := BT.some e4 hQ; have q5 := BT.some e5 hQ; have q6 := BT.some e6 hQ; have qf : ∀ i, u2.frozen? ⟨Q, i, none⟩ = false := fun i => BT.soft (lt_of_cell e0) (ef i)))
  have NM := Lib.hid m2
  have GG : Hid (But (fun k => k = Q ∨ k = M ∨ k = B) w u2) := Lib.hid (GV.out.trans BT (fun _ _ h => Or.inr h))
  clear e0 e1 e2 e3 e4 e5 e6 i0 i1 i2 i3 i4 i5 i6 ef KT k1 m2 b2 BT
  go_wp2
  go_ret
  go_light
  refine ⟨rfl, ?_, fun i => ?_, ?_, ?_⟩
  · simp [cell_set, *]
  · simp [*]
  · exact ref_frame NM.out hn1 (T := fun k => k = Q) (by repeat (first | (with_reducible exact But.refl _ _) | (with_reducible refine But.here ?_ _ _) | (with_reducible refine But.drew ?_) | (with_reducible refine But.drewN ?_ _))) (fun h => hQ (Or.inl h.symm)) (fun h => hQ (Or.inr h.symm))
  · have gg := GG.out
    repeat (first | (with_reducible exact gg) | (with_reducible refine But.drew ?_) | (with_reducible refine But.drewN ?_ _) | ((with_reducible refine But.setCell ?_ (Or.inl (Or.inl rfl)) _)))
set_option maxHeartbeats 2000000 in
theorem rPop_3yes (Q M B n : Nat) (S : Stk) (s : St) (w : World) (f : ∀ i, w.frozen? ⟨Q, i, none⟩ = false) (hm : RefIs w M B n s) (h0 : 0 ≤ s.cnt) (h1 : s.cnt ≤ 1000000) (hn : n ≤ 4096) (hn1 : 1 ≤ n) (hQ : ¬ (Q = M ∨ Q = B)) (W I J0 : Int) (i0 : -1 ≤ J0) (i1 : J0 ≤ 65534) (w0 : 0 ≤ W) (w1 : W < 18446744073709551616) (t0 : 0 ≤ S.T) (t1 : S.T < n) (hq : (wordAt n s S.T == W) = true) (c0 : w.cell? ⟨Q, 0, none⟩ = some (.int .i64 S.T)) (c1 : w.cell? ⟨Q, 1, none⟩ = some (.int .i64 S.K)) (c2 : w.cell? ⟨Q, 2, none⟩ = some (.int .i64 S.N)) (c3 : w.cell? ⟨Q, 3, none⟩ = some (.int .i64 3)) (c4 : w.cell? ⟨Q, 4, none⟩ = some (.int .u64 W)) (c5 : w.cell? ⟨Q, 5, none⟩ = some (.int .i64 I)) (c6 : w.cell? ⟨Q, 6, none⟩ = some (.int .i64 J0)) :
    Calls Tryz.prog 139 #[.pointer (some ⟨Q, 0, none⟩), .pointer (some ⟨M, 0, none⟩)] w
      fun e w' => e = .returned (.bool true) ∧ (w'.cell? ⟨Q, 0, none⟩ = some (.int .i64 S.T) ∧ w'.cell? ⟨Q, 1, none⟩ = some (.int .i64 S.K) ∧ w'.cell? ⟨Q, 2, none⟩ = some (.int .i64 S.N) ∧ w'.cell? ⟨Q, 3, none⟩ = some (.int .i64 9) ∧ w'.cell? ⟨Q, 4, none⟩ = some (.int .u64 W) ∧ w'.cell? ⟨Q, 5, none⟩ = some (.int .i64 I) ∧ w'.cell? ⟨Q, 6, none⟩ = some (.int .i64 J0)) ∧ (∀ i, w'.frozen? ⟨Q, i, none⟩ = false) ∧ RefIs w' M B n (acc n s 3 S.T (wordAt n s S.T == W) (topW J0 W)) ∧ But (fun k => k = Q ∨ k = M ∨ k = B) w w' := by
  have hP := lt_of_cell c0
  go_enter Tryz.func139, Tryz.ntmps139
  go_upto_region 13 with fail
  have e0 : (w.setCell ⟨Q, 3, none⟩ (.int .i64 1)).cell? ⟨Q, 0, none⟩ = some (.int .i64 S.T) := by simp [cell_set, *]
  have e1 : (w.setCell ⟨Q, 3, none⟩ (.int .i64 1)).cell? ⟨Q, 1, none⟩ = some (.int .i64 S.K) := by simp [cell_set, *]
  have e2 : (w.setCell ⟨Q, 3, none⟩ (.int .i64 1)).cell? ⟨Q, 2, none⟩ = some (.int .i64 S.N) := by simp [cell_set, *]
  have e3 : (w.setCell ⟨Q, 3, none⟩ (.int .i64 1)).cell? ⟨Q, 3, none⟩ = some (.int .i64 1) := by simp [cell_set, *]
  have e4 : (w.setCell ⟨Q, 3, none⟩ (.int .i64 1)).cell? ⟨Q, 4, none⟩ = some (.int .u64 W) := by simp [cell_set, *]
  have e5 : (w.setCell ⟨Q, 3, none⟩ (.int .i64 1)).cell? ⟨Q, 5, none⟩ = some (.int .i64 I) := by simp [cell_set, *]
  have e6 : (w.setCell ⟨Q, 3, none⟩ (.int .i64 1)).cell? ⟨Q, 6, none⟩ = some (.int .i64 J0) := by simp [cell_set, *]
  have ef : ∀ i, (w.setCell ⟨Q, 3, none⟩ (.int .i64 1)).frozen? ⟨Q, i, none⟩ = false := fun i => by simp [*]
  have nv : RefIs (w.setCell ⟨Q, 3, none⟩ (.int .i64 1)) M B n (s) := ref_frame hm hn1 (T := fun k => k = Q) ((But.refl _ _).here _ _) (fun h => hQ (Or.inl h.symm)) (fun h => hQ (Or.inr h.symm))
  have gv : But (fun k => k = Q ∨ k = M ∨ k = B) w (w.setCell ⟨Q, 3, none⟩ (.int .i64 1)) := But.setCell (S := fun k => k = Q ∨ k = M ∨ k = B) (But.refl _ _) (p := ⟨Q, 3, none⟩) (Or.inl (Or.inl rfl)) _
  clear c0 c1 c2 c3 c4 c5 c6 f hm
  generalize w.setCell ⟨Q, 3, none⟩ (.int .i64 1) = v1 at *
  have NV := Lib.hid nv
  have GV := Lib.hid gv
  clear nv gv
  go_region_held3 (fun w' => w'.cell? ⟨Q, 0, none⟩ = some (.int .i64 S.T) ∧ w'.cell? ⟨Q, 4, none⟩ = some (.int .u64 W) ∧ w'.cell? ⟨Q, 6, none⟩ = some (.int .i64 J0)) (first | go_keep | (exact ⟨q0, q4, q6⟩) | (exact ⟨i0, i4, i6⟩)) (first | (go_at_call 208; refine (ref_top J0 W _ w0 w1 i0 i1).mono ?_; rintro e u1 ⟨rfl, k1⟩; have KT : Kept v1 u1 := Kept.trans (b := _) (by first | exact Kept.refl _ | exact (Kept.refl _).drew | exact (Kept.refl _).drewN _) k1; have i0 := KT.some e0; have i1 := KT.some e1; have i2 := KT.some e2; have i3 := KT.some e3; have i4 := KT.some e4; have i5 := KT.some e5; have i6 := KT.some e6) | (go_at_call 207; refine (r_cas M B n s S.T W (topW J0 W) _ (ref_kept NV.out hn1 (by first | exact Kept.refl _ | exact (Kept.refl _).drew | exact (Kept.refl _).drewN _ | exact KT | exact KT.drew | exact KT.drewN _)) h0 h1 hn t0 t1).mono ?_; rintro e u2 ⟨rfl, m2, b2⟩; have BT : But (fun k => k = M ∨ k = B) v1 u2 := (Kept.but (w' := _) (by first | exact Kept.refl _ | exact (Kept.refl _).drew | exact (Kept.refl _).drewN _ | exact KT | exact KT.drew | exact KT.drewN _) _).trans b2 (fun _ _ h => h); have q0 := BT.some e0 hQ; have q1 := BT.some e1 hQ; have q2 := BT.some e2 hQ; have q3 := BT.some e3 hQ; have q4 := BT.some e4 hQ; have q5 := BT.some e5 hQ; have q6 := BT.some e6 hQ; have qf : ∀ i, u2.frozen? ⟨Q, i, none⟩ = false := fun i => BT.soft (lt_of_cell e0) (ef i)))
  have NM := Lib.hid m2
  have GG : Hid (But (fun k => k = Q ∨ k = M ∨ k = B) w u2) := Lib.hid (GV.out.trans BT (fun _ _ h => Or.inr h))
  clear e0 e1 e2 e3 e4 e5 e6 i0 i1 i2 i3 i4 i5 i6 ef KT k1 m2 b2 BT
  go_wp2
  go_ret
  go_light
  refine ⟨rfl, ?_, fun i => ?_, ?_, ?_⟩
  · simp [cell_set, *]
  · simp [*]
  · exact ref_frame NM.out hn1 (T := fun k => k = Q) (by repeat (first | (with_reducible exact But.refl _ _) | (with_reducible refine But.here ?_ _ _) | (with_reducible refine But.drew ?_) | (with_reducible refine But.drewN ?_ _))) (fun h => hQ (Or.inl h.symm)) (fun h => hQ (Or.inr h.symm))
  · have gg := GG.out
    repeat (first | (with_reducible exact gg) | (with_reducible refine But.drew ?_) | (with_reducible refine But.drewN ?_ _) | ((with_reducible refine But.setCell ?_ (Or.inl (Or.inl rfl)) _)))
set_option maxHeartbeats 1000000 in
theorem rPop_9 (Q : Nat) (V : Value) (S : Stk) (W I J : Int) (w : World) (c0 : w.cell? ⟨Q, 0, none⟩ = some (.int .i64 S.T)) (c1 : w.cell? ⟨Q, 1, none⟩ = some (.int .i64 S.K)) (c2 : w.cell? ⟨Q, 2, none⟩ = some (.int .i64 S.N)) (c3 : w.cell? ⟨Q, 3, none⟩ = some (.int .i64 9)) (c4 : w.cell? ⟨Q, 4, none⟩ = some (.int .u64 W)) (c5 : w.cell? ⟨Q, 5, none⟩ = some (.int .i64 I)) (c6 : w.cell? ⟨Q, 6, none⟩ = some (.int .i64 J)) : Calls Tryz.prog 139 #[.pointer (some ⟨Q, 0, none⟩), V] w fun e w' => e = .returned (.bool true) ∧ w = w' := by
  go_enter Tryz.func139, Tryz.ntmps139
  go_wp2
  go_ret
  exact ⟨rfl, rfl⟩
end Go.Proofs.YtbonnfofoepjcaaGreat.Sk
