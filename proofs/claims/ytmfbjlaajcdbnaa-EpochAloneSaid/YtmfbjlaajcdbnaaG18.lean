/- The document's Advance: its step at each line. Written by gen12r.py. -/
import Derived.Test.YtmfbjlaajcdbnaaG17
set_option linter.unusedVariables false
set_option linter.unusedSimpArgs false

namespace Go.Proofs.Ytmfbjlaajcdbnaa.Ep
set_option maxRecDepth 20000
open Go.RowKit
open Wo (St acc wordAt PMem RefIs)
open Sk (Stk Wd r_load r_store r_cas ref_frame ref_kept ref_lt)

set_option maxHeartbeats 2000000 in
theorem rAdvance_1no (Q M B n : Nat) (s : St) (w : World) (f : ∀ i, w.frozen? ⟨Q, i, none⟩ = false) (hm : RefIs w M B n s) (h0 : 0 ≤ s.cnt) (h1 : s.cnt ≤ 1000000) (hn : n ≤ 4096) (hn1 : 1 ≤ n) (hQ : ¬ (Q = M ∨ Q = B)) (T K N c p x b W : Int) (wd : 0 ≤ wordAt n s T ∧ wordAt n s T < 18446744073709551616) (hp : ep (wordAt n s T) ≠ p) (c0 : w.cell? ⟨Q, 0, none⟩ = some (.int .i64 T)) (c1 : w.cell? ⟨Q, 1, none⟩ = some (.int .i64 K)) (c2 : w.cell? ⟨Q, 2, none⟩ = some (.int .i64 N)) (c3 : w.cell? ⟨Q, 3, none⟩ = some (.int .i64 c)) (c4 : w.cell? ⟨Q, 4, none⟩ = some (.int .i64 p)) (c5 : w.cell? ⟨Q, 5, none⟩ = some (.int .i64 1)) (c6 : w.cell? ⟨Q, 6, none⟩ = some (.int .u64 W)) (c7 : w.cell? ⟨Q, 7, none⟩ = some (.int .i64 x)) (c8 : w.cell? ⟨Q, 8, none⟩ = some (.int .i64 b)) :
    Calls Try.prog 62 #[.pointer (some ⟨Q, 0, none⟩), .pointer (some ⟨M, 0, none⟩)] w
      fun e w' => e = .returned (.bool true) ∧ RAdvanceC w' Q (T) (K) (N) (c) (p) (9) ((wordAt n s T)) (x) (14) ∧ (∀ i, w'.frozen? ⟨Q, i, none⟩ = false) ∧ RefIs w' M B n (acc n s 1 T false 0) ∧ But (fun k => k = Q ∨ k = M ∨ k = B) w w' := by
  have hP := lt_of_cell c0
  go_enter Try.func62, Try.ntmps62
  go_wp2_with fail
  refine (r_load M B n s T _ hm h0 h1 hn).mono ?_
  rintro e w1 ⟨rfl, m1, b1⟩
  have c0 := b1.some c0 hQ
  have c1 := b1.some c1 hQ
  have c2 := b1.some c2 hQ
  have c3 := b1.some c3 hQ
  have c4 := b1.some c4 hQ
  have c5 := b1.some c5 hQ
  have c6 := b1.some c6 hQ
  have c7 := b1.some c7 hQ
  have c8 := b1.some c8 hQ
  have f : ∀ i, w1.frozen? ⟨Q, i, none⟩ = false := fun i => b1.soft hP (f i)
  have hP := Nat.lt_of_lt_of_le hP b1.size
  have NM := Lib.hid m1
  have GG : Hid (But (fun k => k = Q ∨ k = M ∨ k = B) w w1) := Lib.hid (b1.mono (fun _ _ h => Or.inr h))
  clear hm m1 b1
  have hb : (ep (wordAt n s T) != p) = true := by simpa using hp
  go_upto_region 4 with fail
  have d0 : (w1.setCell ⟨Q, 6, none⟩ (.int .u64 (wordAt n s T))).cell? ⟨Q, 0, none⟩ = some (.int .i64 T) := by simp [cell_set, *]
  have d1 : (w1.setCell ⟨Q, 6, none⟩ (.int .u64 (wordAt n s T))).cell? ⟨Q, 1, none⟩ = some (.int .i64 K) := by simp [cell_set, *]
  have d2 : (w1.setCell ⟨Q, 6, none⟩ (.int .u64 (wordAt n s T))).cell? ⟨Q, 2, none⟩ = some (.int .i64 N) := by simp [cell_set, *]
  have d3 : (w1.setCell ⟨Q, 6, none⟩ (.int .u64 (wordAt n s T))).cell? ⟨Q, 3, none⟩ = some (.int .i64 c) := by simp [cell_set, *]
  have d4 : (w1.setCell ⟨Q, 6, none⟩ (.int .u64 (wordAt n s T))).cell? ⟨Q, 4, none⟩ = some (.int .i64 p) := by simp [cell_set, *]
  have d5 : (w1.setCell ⟨Q, 6, none⟩ (.int .u64 (wordAt n s T))).cell? ⟨Q, 5, none⟩ = some (.int .i64 1) := by simp [cell_set, *]
  have d6 : (w1.setCell ⟨Q, 6, none⟩ (.int .u64 (wordAt n s T))).cell? ⟨Q, 6, none⟩ = some (.int .u64 (wordAt n s T)) := by simp [cell_set, *]
  have d7 : (w1.setCell ⟨Q, 6, none⟩ (.int .u64 (wordAt n s T))).cell? ⟨Q, 7, none⟩ = some (.int .i64 x) := by simp [cell_set, *]
  have d8 : (w1.setCell ⟨Q, 6, none⟩ (.int .u64 (wordAt n s T))).cell? ⟨Q, 8, none⟩ = some (.int .i64 b) := by simp [cell_set, *]
  have df : ∀ i, (w1.setCell ⟨Q, 6, none⟩ (.int .u64 (wordAt n s T))).frozen? ⟨Q, i, none⟩ = false := fun i => by simp [*]
  have nv : RefIs (w1.setCell ⟨Q, 6, none⟩ (.int .u64 (wordAt n s T))) M B n (acc n s 1 T false 0) := ref_frame NM.out hn1 (T := fun k => k = Q) ((But.refl _ _).here _ _) (fun h => hQ (Or.inl h.symm)) (fun h => hQ (Or.inr h.symm))
  have gv : But (fun k => k = Q ∨ k = M ∨ k = B) w (w1.setCell ⟨Q, 6, none⟩ (.int .u64 (wordAt n s T))) := But.setCell (S := fun k => k = Q ∨ k = M ∨ k = B) GG.out (p := ⟨Q, 6, none⟩) (Or.inl (Or.inl rfl)) _
  have hV : Q < (w1.setCell ⟨Q, 6, none⟩ (.int .u64 (wordAt n s T))).heap.size := lt_of_cell d0
  clear c0 c1 c2 c3 c4 c5 c6 c7 c8 f hP NM GG
  generalize w1.setCell ⟨Q, 6, none⟩ (.int .u64 (wordAt n s T)) = v1 at *
  have NM := Lib.hid nv
  have GG := Lib.hid gv
  clear nv gv
  have c0 := d0
  have c1 := d1
  have c2 := d2
  have c3 := d3
  have c4 := d4
  have c5 := d5
  have c6 := d6
  have c7 := d7
  have c8 := d8
  have f := df
  have hP := hV
  clear d0 d1 d2 d3 d4 d5 d6 d7 d8 df hV
  go_region_held3 (fun w' => w'.cell? ⟨Q, 0, none⟩ = some (.int .i64 T) ∧ w'.cell? ⟨Q, 1, none⟩ = some (.int .i64 K) ∧ w'.cell? ⟨Q, 2, none⟩ = some (.int .i64 N) ∧ w'.cell? ⟨Q, 3, none⟩ = some (.int .i64 c) ∧ w'.cell? ⟨Q, 4, none⟩ = some (.int .i64 p) ∧ w'.cell? ⟨Q, 5, none⟩ = some (.int .i64 1) ∧ w'.cell? ⟨Q, 6, none⟩ = some (.int .u64 (wordAt n s T)) ∧ w'.cell? ⟨Q, 7, none⟩ = some (.int .i64 x) ∧ w'.cell? ⟨Q, 8, none⟩ = some (.int .i64 b)) (first | go_keep) (first | (go_at_call 67; refine (rread_any _ _ wd.1 wd.2).mono ?_; rintro e _ ⟨rfl, rfl⟩))
  all_goals rename_i hcells
  all_goals obtain ⟨g0, g1, g2, g3, g4, g5, g6, g7, g8⟩ := hcells
  all_goals
    go_wp2_with fail
    refine (rends_any Q 14 T K N c p 1 (wordAt n s T) x b _ (by exact f) (by exact g0) (by exact g1) (by exact g2) (by exact g3) (by exact g4) (by exact g5) (by exact g6) (by exact g7) (by exact g8)).mono ?_
    rintro e w3 ⟨rfl, ac, fz, b3⟩
    have b4 : But (fun k => k = Q) v1 w3 := by
      refine But.trans ?_ b3 (fun _ _ h => h)
      exact Kept.but (by repeat (first | (with_reducible exact Kept.refl _) | (with_reducible refine Kept.drew ?_) | (with_reducible refine Kept.drewN ?_ _))) _
    have NX := Lib.hid (ref_frame NM.out hn1 b4 (fun h => hQ (Or.inl h.symm)) (fun h => hQ (Or.inr h.symm)))
    have GX : Hid (But (fun k => k = Q ∨ k = M ∨ k = B) w w3) := Lib.hid (GG.out.trans b4 (fun _ _ h => Or.inl h))
    have AC := Lib.hid ac
    obtain ⟨a0, a1, a2, a3, a4, a5, a6, a7, a8⟩ := ac
    clear g0 g1 g2 g3 g4 g5 g6 g7 g8 c0 c1 c2 c3 c4 c5 c6 c7 c8 b3 b4
    go_wp2
    go_ret
    exact ⟨rfl, AC.out, fz, NX.out, GX.out⟩
set_option maxHeartbeats 2000000 in
theorem rAdvance_1yes (Q M B n : Nat) (s : St) (w : World) (f : ∀ i, w.frozen? ⟨Q, i, none⟩ = false) (hm : RefIs w M B n s) (h0 : 0 ≤ s.cnt) (h1 : s.cnt ≤ 1000000) (hn : n ≤ 4096) (hn1 : 1 ≤ n) (hQ : ¬ (Q = M ∨ Q = B)) (T K N c p b W : Int) (wd : 0 ≤ wordAt n s T ∧ wordAt n s T < 18446744073709551616) (hp : ep (wordAt n s T) = p) (c0 : w.cell? ⟨Q, 0, none⟩ = some (.int .i64 T)) (c1 : w.cell? ⟨Q, 1, none⟩ = some (.int .i64 K)) (c2 : w.cell? ⟨Q, 2, none⟩ = some (.int .i64 N)) (c3 : w.cell? ⟨Q, 3, none⟩ = some (.int .i64 c)) (c4 : w.cell? ⟨Q, 4, none⟩ = some (.int .i64 p)) (c5 : w.cell? ⟨Q, 5, none⟩ = some (.int .i64 1)) (c6 : w.cell? ⟨Q, 6, none⟩ = some (.int .u64 W)) (c7 : w.cell? ⟨Q, 7, none⟩ = some (.int .i64 0)) (c8 : w.cell? ⟨Q, 8, none⟩ = some (.int .i64 b)) :
    Calls Try.prog 62 #[.pointer (some ⟨Q, 0, none⟩), .pointer (some ⟨M, 0, none⟩)] w
      fun e w' => e = .returned (.bool false) ∧ RAdvanceC w' Q (T) (K) (N) (c) (p) (if skip c 0 < N then 2 else 3) ((wordAt n s T)) (skip c 0) (b) ∧ (∀ i, w'.frozen? ⟨Q, i, none⟩ = false) ∧ RefIs w' M B n (acc n s 1 T false 0) ∧ But (fun k => k = Q ∨ k = M ∨ k = B) w w' := by
  obtain ⟨lv, hlv⟩ : ∃ lv : Int, (if skip c 0 < N then (2 : Int) else 3) = lv := ⟨_, rfl⟩
  have SK := Lib.hid (fun (X : World) (F : ∀ i, X.frozen? ⟨Q, i, none⟩ = false) (G0 : X.cell? ⟨Q, 0, none⟩ = some (.int .i64 T)) (G1 : X.cell? ⟨Q, 1, none⟩ = some (.int .i64 K)) (G2 : X.cell? ⟨Q, 2, none⟩ = some (.int .i64 N)) (G3 : X.cell? ⟨Q, 3, none⟩ = some (.int .i64 c)) (G4 : X.cell? ⟨Q, 4, none⟩ = some (.int .i64 p)) (G5 : X.cell? ⟨Q, 5, none⟩ = some (.int .i64 1)) (G6 : X.cell? ⟨Q, 6, none⟩ = some (.int .u64 (wordAt n s T))) (G7 : X.cell? ⟨Q, 7, none⟩ = some (.int .i64 0)) (G8 : X.cell? ⟨Q, 8, none⟩ = some (.int .i64 b)) => rskips_any Q T K N c p 1 (wordAt n s T) 0 b X (by decide) (by decide) F G0 G1 G2 G3 G4 G5 G6 G7 G8)
  rw [hlv] at SK
  rw [hlv]
  have hl9 : (lv == 9) = false := by rw [← hlv]; split <;> rfl
  clear hlv
  have hP := lt_of_cell c0
  go_enter Try.func62, Try.ntmps62
  go_wp2_with fail
  refine (r_load M B n s T _ hm h0 h1 hn).mono ?_
  rintro e w1 ⟨rfl, m1, b1⟩
  have c0 := b1.some c0 hQ
  have c1 := b1.some c1 hQ
  have c2 := b1.some c2 hQ
  have c3 := b1.some c3 hQ
  have c4 := b1.some c4 hQ
  have c5 := b1.some c5 hQ
  have c6 := b1.some c6 hQ
  have c7 := b1.some c7 hQ
  have c8 := b1.some c8 hQ
  have f : ∀ i, w1.frozen? ⟨Q, i, none⟩ = false := fun i => b1.soft hP (f i)
  have hP := Nat.lt_of_lt_of_le hP b1.size
  have NM := Lib.hid m1
  have GG : Hid (But (fun k => k = Q ∨ k = M ∨ k = B) w w1) := Lib.hid (b1.mono (fun _ _ h => Or.inr h))
  clear hm m1 b1
  have hb : (ep (wordAt n s T) != p) = false := by rw [hp]; simp
  go_upto_region 4 with fail
  have d0 : (w1.setCell ⟨Q, 6, none⟩ (.int .u64 (wordAt n s T))).cell? ⟨Q, 0, none⟩ = some (.int .i64 T) := by simp [cell_set, *]
  have d1 : (w1.setCell ⟨Q, 6, none⟩ (.int .u64 (wordAt n s T))).cell? ⟨Q, 1, none⟩ = some (.int .i64 K) := by simp [cell_set, *]
  have d2 : (w1.setCell ⟨Q, 6, none⟩ (.int .u64 (wordAt n s T))).cell? ⟨Q, 2, none⟩ = some (.int .i64 N) := by simp [cell_set, *]
  have d3 : (w1.setCell ⟨Q, 6, none⟩ (.int .u64 (wordAt n s T))).cell? ⟨Q, 3, none⟩ = some (.int .i64 c) := by simp [cell_set, *]
  have d4 : (w1.setCell ⟨Q, 6, none⟩ (.int .u64 (wordAt n s T))).cell? ⟨Q, 4, none⟩ = some (.int .i64 p) := by simp [cell_set, *]
  have d5 : (w1.setCell ⟨Q, 6, none⟩ (.int .u64 (wordAt n s T))).cell? ⟨Q, 5, none⟩ = some (.int .i64 1) := by simp [cell_set, *]
  have d6 : (w1.setCell ⟨Q, 6, none⟩ (.int .u64 (wordAt n s T))).cell? ⟨Q, 6, none⟩ = some (.int .u64 (wordAt n s T)) := by simp [cell_set, *]
  have d7 : (w1.setCell ⟨Q, 6, none⟩ (.int .u64 (wordAt n s T))).cell? ⟨Q, 7, none⟩ = some (.int .i64 0) := by simp [cell_set, *]
  have d8 : (w1.setCell ⟨Q, 6, none⟩ (.int .u64 (wordAt n s T))).cell? ⟨Q, 8, none⟩ = some (.int .i64 b) := by simp [cell_set, *]
  have df : ∀ i, (w1.setCell ⟨Q, 6, none⟩ (.int .u64 (wordAt n s T))).frozen? ⟨Q, i, none⟩ = false := fun i => by simp [*]
  have nv : RefIs (w1.setCell ⟨Q, 6, none⟩ (.int .u64 (wordAt n s T))) M B n (acc n s 1 T false 0) := ref_frame NM.out hn1 (T := fun k => k = Q) ((But.refl _ _).here _ _) (fun h => hQ (Or.inl h.symm)) (fun h => hQ (Or.inr h.symm))
  have gv : But (fun k => k = Q ∨ k = M ∨ k = B) w (w1.setCell ⟨Q, 6, none⟩ (.int .u64 (wordAt n s T))) := But.setCell (S := fun k => k = Q ∨ k = M ∨ k = B) GG.out (p := ⟨Q, 6, none⟩) (Or.inl (Or.inl rfl)) _
  have hV : Q < (w1.setCell ⟨Q, 6, none⟩ (.int .u64 (wordAt n s T))).heap.size := lt_of_cell d0
  clear c0 c1 c2 c3 c4 c5 c6 c7 c8 f hP NM GG
  generalize w1.setCell ⟨Q, 6, none⟩ (.int .u64 (wordAt n s T)) = v1 at *
  have NM := Lib.hid nv
  have GG := Lib.hid gv
  clear nv gv
  have c0 := d0
  have c1 := d1
  have c2 := d2
  have c3 := d3
  have c4 := d4
  have c5 := d5
  have c6 := d6
  have c7 := d7
  have c8 := d8
  have f := df
  have hP := hV
  clear d0 d1 d2 d3 d4 d5 d6 d7 d8 df hV
  go_region_held3 (fun w' => w'.cell? ⟨Q, 0, none⟩ = some (.int .i64 T) ∧ w'.cell? ⟨Q, 1, none⟩ = some (.int .i64 K) ∧ w'.cell? ⟨Q, 2, none⟩ = some (.int .i64 N) ∧ w'.cell? ⟨Q, 3, none⟩ = some (.int .i64 c) ∧ w'.cell? ⟨Q, 4, none⟩ = some (.int .i64 p) ∧ w'.cell? ⟨Q, 5, none⟩ = some (.int .i64 1) ∧ w'.cell? ⟨Q, 6, none⟩ = some (.int .u64 (wordAt n s T)) ∧ w'.cell? ⟨Q, 7, none⟩ = some (.int .i64 0) ∧ w'.cell? ⟨Q, 8, none⟩ = some (.int .i64 b)) (first | go_keep) (first | (go_at_call 67; refine (rread_any _ _ wd.1 wd.2).mono ?_; rintro e _ ⟨rfl, rfl⟩))
  all_goals rename_i hcells
  all_goals obtain ⟨g0, g1, g2, g3, g4, g5, g6, g7, g8⟩ := hcells
  all_goals
    go_wp2_with fail
    refine (SK.out _ (by exact f) (by exact g0) (by exact g1) (by exact g2) (by exact g3) (by exact g4) (by exact g5) (by exact g6) (by exact g7) (by exact g8)).mono ?_
    rintro e w3 ⟨rfl, ac, fz, b3⟩
    have b4 : But (fun k => k = Q) v1 w3 := by
      refine But.trans ?_ b3 (fun _ _ h => h)
      exact Kept.but (by repeat (first | (with_reducible exact Kept.refl _) | (with_reducible refine Kept.drew ?_) | (with_reducible refine Kept.drewN ?_ _))) _
    have NX := Lib.hid (ref_frame NM.out hn1 b4 (fun h => hQ (Or.inl h.symm)) (fun h => hQ (Or.inr h.symm)))
    have GX : Hid (But (fun k => k = Q ∨ k = M ∨ k = B) w w3) := Lib.hid (GG.out.trans b4 (fun _ _ h => Or.inl h))
    have AC := Lib.hid ac
    obtain ⟨a0, a1, a2, a3, a4, a5, a6, a7, a8⟩ := ac
    clear g0 g1 g2 g3 g4 g5 g6 g7 g8 c0 c1 c2 c3 c4 c5 c6 c7 c8 b3 b4
    go_wp2
    go_ret
    exact ⟨rfl, AC.out, fz, NX.out, GX.out⟩
set_option maxHeartbeats 2000000 in
theorem rAdvance_2busy (Q M B n : Nat) (s : St) (w : World) (f : ∀ i, w.frozen? ⟨Q, i, none⟩ = false) (hm : RefIs w M B n s) (h0 : 0 ≤ s.cnt) (h1 : s.cnt ≤ 1000000) (hn : n ≤ 4096) (hn1 : 1 ≤ n) (hQ : ¬ (Q = M ∨ Q = B)) (T K N c p x b W : Int) (wd : 0 ≤ wordAt n s (K + x) ∧ wordAt n s (K + x) < 18446744073709551616) (x0 : 0 ≤ x) (x1 : x ≤ 100000) (k0 : 0 ≤ K) (k1 : K ≤ 100000) (p0 : 0 ≤ p) (p1 : p ≤ 4294967295) (hz : wordAt n s (K + x) ≠ 0) (hp : wordAt n s (K + x) ≠ p + 1) (c0 : w.cell? ⟨Q, 0, none⟩ = some (.int .i64 T)) (c1 : w.cell? ⟨Q, 1, none⟩ = some (.int .i64 K)) (c2 : w.cell? ⟨Q, 2, none⟩ = some (.int .i64 N)) (c3 : w.cell? ⟨Q, 3, none⟩ = some (.int .i64 c)) (c4 : w.cell? ⟨Q, 4, none⟩ = some (.int .i64 p)) (c5 : w.cell? ⟨Q, 5, none⟩ = some (.int .i64 2)) (c6 : w.cell? ⟨Q, 6, none⟩ = some (.int .u64 W)) (c7 : w.cell? ⟨Q, 7, none⟩ = some (.int .i64 x)) (c8 : w.cell? ⟨Q, 8, none⟩ = some (.int .i64 b)) :
    Calls Try.prog 62 #[.pointer (some ⟨Q, 0, none⟩), .pointer (some ⟨M, 0, none⟩)] w
      fun e w' => e = .returned (.bool true) ∧ RAdvanceC w' Q (T) (K) (N) (c) (p) (9) (W) (x + 1) (14) ∧ (∀ i, w'.frozen? ⟨Q, i, none⟩ = false) ∧ RefIs w' M B n (acc n s 1 (K + x) false 0) ∧ But (fun k => k = Q ∨ k = M ∨ k = B) w w' := by
  have hP := lt_of_cell c0
  have hs1 : IntKind.i64.wrap (K + x) = K + x := by rw [IntKind.wrap_i64]; omega
  have hs2 : IntKind.u64.wrap p = p := by rw [IntKind.wrap_u64]; omega
  have hs3 : IntKind.u64.wrap (p + 1) = p + 1 := by rw [IntKind.wrap_u64]; omega
  have hs4 : IntKind.i64.wrap (x + 1) = x + 1 := by rw [IntKind.wrap_i64]; omega
  have hb0 : (wordAt n s (K + x) != 0) = true := by simpa using hz
  have hb1 : (wordAt n s (K + x) != p + 1) = true := by simpa using hp
  go_enter Try.func62, Try.ntmps62
  go_wp2_with fail
  go_region_held3 (fun w' => w'.cell? ⟨Q, 1, none⟩ = some (.int .i64 K) ∧ w'.cell? ⟨Q, 7, none⟩ = some (.int .i64 x)) (first | go_keep | (exact ⟨q1, q7⟩)) (first | (go_at_call 91; refine (r_load M B n s (K + x) _ (ref_kept hm hn1 (by first | exact Kept.refl _ | exact (Kept.refl _).drew | exact (Kept.refl _).drewN _)) h0 h1 hn).mono ?_; rintro e w1 ⟨rfl, m1, b1⟩; have BW : But (fun k => k = M ∨ k = B) w w1 := (Kept.but (w := w) (by first | exact Kept.refl _ | exact (Kept.refl _).drew | exact (Kept.refl _).drewN _) _).trans b1 (fun _ _ h => h); have q0 := BW.some c0 hQ; have q1 := BW.some c1 hQ; have q2 := BW.some c2 hQ; have q3 := BW.some c3 hQ; have q4 := BW.some c4 hQ; have q5 := BW.some c5 hQ; have q6 := BW.some c6 hQ; have q7 := BW.some c7 hQ; have q8 := BW.some c8 hQ))
  rename_i hcells
  clear hcells
  have c0 := q0
  have c1 := q1
  have c2 := q2
  have c3 := q3
  have c4 := q4
  have c5 := q5
  have c6 := q6
  have c7 := q7
  have c8 := q8
  have f : ∀ i, w1.frozen? ⟨Q, i, none⟩ = false := fun i => BW.soft hP (f i)
  have hP := Nat.lt_of_lt_of_le hP BW.size
  have NM := Lib.hid m1
  have GG : Hid (But (fun k => k = Q ∨ k = M ∨ k = B) w w1) := Lib.hid (BW.mono (fun _ _ h => Or.inr h))
  clear hm m1 b1 BW q0 q1 q2 q3 q4 q5 q6 q7 q8
  go_wp2_with fail
  have d0 : (w1.setCell ⟨Q, 7, none⟩ (.int .i64 (x + 1))).cell? ⟨Q, 0, none⟩ = some (.int .i64 T) := by simp [cell_set, *]
  have d1 : (w1.setCell ⟨Q, 7, none⟩ (.int .i64 (x + 1))).cell? ⟨Q, 1, none⟩ = some (.int .i64 K) := by simp [cell_set, *]
  have d2 : (w1.setCell ⟨Q, 7, none⟩ (.int .i64 (x + 1))).cell? ⟨Q, 2, none⟩ = some (.int .i64 N) := by simp [cell_set, *]
  have d3 : (w1.setCell ⟨Q, 7, none⟩ (.int .i64 (x + 1))).cell? ⟨Q, 3, none⟩ = some (.int .i64 c) := by simp [cell_set, *]
  have d4 : (w1.setCell ⟨Q, 7, none⟩ (.int .i64 (x + 1))).cell? ⟨Q, 4, none⟩ = some (.int .i64 p) := by simp [cell_set, *]
  have d5 : (w1.setCell ⟨Q, 7, none⟩ (.int .i64 (x + 1))).cell? ⟨Q, 5, none⟩ = some (.int .i64 2) := by simp [cell_set, *]
  have d6 : (w1.setCell ⟨Q, 7, none⟩ (.int .i64 (x + 1))).cell? ⟨Q, 6, none⟩ = some (.int .u64 W) := by simp [cell_set, *]
  have d7 : (w1.setCell ⟨Q, 7, none⟩ (.int .i64 (x + 1))).cell? ⟨Q, 7, none⟩ = some (.int .i64 (x + 1)) := by simp [cell_set, *]
  have d8 : (w1.setCell ⟨Q, 7, none⟩ (.int .i64 (x + 1))).cell? ⟨Q, 8, none⟩ = some (.int .i64 b) := by simp [cell_set, *]
  have df : ∀ i, (w1.setCell ⟨Q, 7, none⟩ (.int .i64 (x + 1))).frozen? ⟨Q, i, none⟩ = false := fun i => by simp [*]
  have nv : RefIs (w1.setCell ⟨Q, 7, none⟩ (.int .i64 (x + 1))) M B n (acc n s 1 (K + x) false 0) := ref_frame NM.out hn1 (T := fun k => k = Q) ((But.refl _ _).here _ _) (fun h => hQ (Or.inl h.symm)) (fun h => hQ (Or.inr h.symm))
  have gv : But (fun k => k = Q ∨ k = M ∨ k = B) w (w1.setCell ⟨Q, 7, none⟩ (.int .i64 (x + 1))) := But.setCell (S := fun k => k = Q ∨ k = M ∨ k = B) GG.out (p := ⟨Q, 7, none⟩) (Or.inl (Or.inl rfl)) _
  have hV : Q < (w1.setCell ⟨Q, 7, none⟩ (.int .i64 (x + 1))).heap.size := lt_of_cell d0
  clear c0 c1 c2 c3 c4 c5 c6 c7 c8 f hP NM GG
  generalize w1.setCell ⟨Q, 7, none⟩ (.int .i64 (x + 1)) = v1 at *
  have NM := Lib.hid nv
  have GG := Lib.hid gv
  clear nv gv
  have c0 := d0
  have c1 := d1
  have c2 := d2
  have c3 := d3
  have c4 := d4
  have c5 := d5
  have c6 := d6
  have c7 := d7
  have c8 := d8
  have f := df
  have hP := hV
  clear d0 d1 d2 d3 d4 d5 d6 d7 d8 df hV
  have g0 := c0
  have g1 := c1
  have g2 := c2
  have g3 := c3
  have g4 := c4
  have g5 := c5
  have g6 := c6
  have g7 := c7
  have g8 := c8
  all_goals
    refine (rends_any Q 14 T K N c p 2 W (x + 1) b _ (by exact f) (by exact g0) (by exact g1) (by exact g2) (by exact g3) (by exact g4) (by exact g5) (by exact g6) (by exact g7) (by exact g8)).mono ?_
    rintro e w3 ⟨rfl, ac, fz, b3⟩
    have b4 : But (fun k => k = Q) v1 w3 := by
      refine But.trans ?_ b3 (fun _ _ h => h)
      exact Kept.but (by repeat (first | (with_reducible exact Kept.refl _) | (with_reducible refine Kept.drew ?_) | (with_reducible refine Kept.drewN ?_ _))) _
    have NX := Lib.hid (ref_frame NM.out hn1 b4 (fun h => hQ (Or.inl h.symm)) (fun h => hQ (Or.inr h.symm)))
    have GX : Hid (But (fun k => k = Q ∨ k = M ∨ k = B) w w3) := Lib.hid (GG.out.trans b4 (fun _ _ h => Or.inl h))
    have AC := Lib.hid ac
    obtain ⟨a0, a1, a2, a3, a4, a5, a6, a7, a8⟩ := ac
    clear g0 g1 g2 g3 g4 g5 g6 g7 g8 c0 c1 c2 c3 c4 c5 c6 c7 c8 b3 b4
    go_wp2
    go_ret
    exact ⟨rfl, AC.out, fz, NX.out, GX.out⟩
set_option maxHeartbeats 2000000 in
theorem rAdvance_2free (Q M B n : Nat) (s : St) (w : World) (f : ∀ i, w.frozen? ⟨Q, i, none⟩ = false) (hm : RefIs w M B n s) (h0 : 0 ≤ s.cnt) (h1 : s.cnt ≤ 1000000) (hn : n ≤ 4096) (hn1 : 1 ≤ n) (hQ : ¬ (Q = M ∨ Q = B)) (T K N c p x b W : Int) (wd : 0 ≤ wordAt n s (K + x) ∧ wordAt n s (K + x) < 18446744073709551616) (x0 : 0 ≤ x) (x1 : x ≤ 100000) (k0 : 0 ≤ K) (k1 : K ≤ 100000) (p0 : 0 ≤ p) (p1 : p ≤ 4294967295) (hz : wordAt n s (K + x) = 0) (c0 : w.cell? ⟨Q, 0, none⟩ = some (.int .i64 T)) (c1 : w.cell? ⟨Q, 1, none⟩ = some (.int .i64 K)) (c2 : w.cell? ⟨Q, 2, none⟩ = some (.int .i64 N)) (c3 : w.cell? ⟨Q, 3, none⟩ = some (.int .i64 c)) (c4 : w.cell? ⟨Q, 4, none⟩ = some (.int .i64 p)) (c5 : w.cell? ⟨Q, 5, none⟩ = some (.int .i64 2)) (c6 : w.cell? ⟨Q, 6, none⟩ = some (.int .u64 W)) (c7 : w.cell? ⟨Q, 7, none⟩ = some (.int .i64 x)) (c8 : w.cell? ⟨Q, 8, none⟩ = some (.int .i64 b)) :
    Calls Try.prog 62 #[.pointer (some ⟨Q, 0, none⟩), .pointer (some ⟨M, 0, none⟩)] w
      fun e w' => e = .returned (.bool false) ∧ RAdvanceC w' Q (T) (K) (N) (c) (p) (if skip c (x + 1) < N then 2 else 3) (W) (skip c (x + 1)) (b) ∧ (∀ i, w'.frozen? ⟨Q, i, none⟩ = false) ∧ RefIs w' M B n (acc n s 1 (K + x) false 0) ∧ But (fun k => k = Q ∨ k = M ∨ k = B) w w' := by
  obtain ⟨lv, hlv⟩ : ∃ lv : Int, (if skip c (x + 1) < N then (2 : Int) else 3) = lv := ⟨_, rfl⟩
  have SK := Lib.hid (fun (X : World) (F : ∀ i, X.frozen? ⟨Q, i, none⟩ = false) (G0 : X.cell? ⟨Q, 0, none⟩ = some (.int .i64 T)) (G1 : X.cell? ⟨Q, 1, none⟩ = some (.int .i64 K)) (G2 : X.cell? ⟨Q, 2, none⟩ = some (.int .i64 N)) (G3 : X.cell? ⟨Q, 3, none⟩ = some (.int .i64 c)) (G4 : X.cell? ⟨Q, 4, none⟩ = some (.int .i64 p)) (G5 : X.cell? ⟨Q, 5, none⟩ = some (.int .i64 2)) (G6 : X.cell? ⟨Q, 6, none⟩ = some (.int .u64 W)) (G7 : X.cell? ⟨Q, 7, none⟩ = some (.int .i64 (x + 1))) (G8 : X.cell? ⟨Q, 8, none⟩ = some (.int .i64 b)) => rskips_any Q T K N c p 2 W (x + 1) b X (by omega) (by omega) F G0 G1 G2 G3 G4 G5 G6 G7 G8)
  rw [hlv] at SK
  rw [hlv]
  have hl9 : (lv == 9) = false := by rw [← hlv]; split <;> rfl
  clear hlv
  have hP := lt_of_cell c0
  have hs1 : IntKind.i64.wrap (K + x) = K + x := by rw [IntKind.wrap_i64]; omega
  have hs2 : IntKind.u64.wrap p = p := by rw [IntKind.wrap_u64]; omega
  have hs3 : IntKind.u64.wrap (p + 1) = p + 1 := by rw [IntKind.wrap_u64]; omega
  have hs4 : IntKind.i64.wrap (x + 1) = x + 1 := by rw [IntKind.wrap_i64]; omega
  have hb0 : (wordAt n s (K + x) != 0) = false := by simpa using hz
  go_enter Try.func62, Try.ntmps62
  go_wp2_with fail
  go_region_held3 (fun w' => w'.cell? ⟨Q, 1, none⟩ = some (.int .i64 K) ∧ w'.cell? ⟨Q, 7, none⟩ = some (.int .i64 x)) (first | go_keep | (exact ⟨q1, q7⟩)) (first | (go_at_call 91; refine (r_load M B n s (K + x) _ (ref_kept hm hn1 (by first | exact Kept.refl _ | exact (Kept.refl _).drew | exact (Kept.refl _).drewN _)) h0 h1 hn).mono ?_; rintro e w1 ⟨rfl, m1, b1⟩; have BW : But (fun k => k = M ∨ k = B) w w1 := (Kept.but (w := w) (by first | exact Kept.refl _ | exact (Kept.refl _).drew | exact (Kept.refl _).drewN _) _).trans b1 (fun _ _ h => h); have q0 := BW.some c0 hQ; have q1 := BW.some c1 hQ; have q2 := BW.some c2 hQ; have q3 := BW.some c3 hQ; have q4 := BW.some c4 hQ; have q5 := BW.some c5 hQ; have q6 := BW.some c6 hQ; have q7 := BW.some c7 hQ; have q8 := BW.some c8 hQ))
  rename_i hcells
  clear hcells
  have c0 := q0
  have c1 := q1
  have c2 := q2
  have c3 := q3
  have c4 := q4
  have c5 := q5
  have c6 := q6
  have c7 := q7
  have c8 := q8
  have f : ∀ i, w1.frozen? ⟨Q, i, none⟩ = false := fun i => BW.soft hP (f i)
  have hP := Nat.lt_of_lt_of_le hP BW.size
  have NM := Lib.hid m1
  have GG : Hid (But (fun k => k = Q ∨ k = M ∨ k = B) w w1) := Lib.hid (BW.mono (fun _ _ h => Or.inr h))
  clear hm m1 b1 BW q0 q1 q2 q3 q4 q5 q6 q7 q8
  go_wp2_with fail
  have d0 : (w1.setCell ⟨Q, 7, none⟩ (.int .i64 (x + 1))).cell? ⟨Q, 0, none⟩ = some (.int .i64 T) := by simp [cell_set, *]
  have d1 : (w1.setCell ⟨Q, 7, none⟩ (.int .i64 (x + 1))).cell? ⟨Q, 1, none⟩ = some (.int .i64 K) := by simp [cell_set, *]
  have d2 : (w1.setCell ⟨Q, 7, none⟩ (.int .i64 (x + 1))).cell? ⟨Q, 2, none⟩ = some (.int .i64 N) := by simp [cell_set, *]
  have d3 : (w1.setCell ⟨Q, 7, none⟩ (.int .i64 (x + 1))).cell? ⟨Q, 3, none⟩ = some (.int .i64 c) := by simp [cell_set, *]
  have d4 : (w1.setCell ⟨Q, 7, none⟩ (.int .i64 (x + 1))).cell? ⟨Q, 4, none⟩ = some (.int .i64 p) := by simp [cell_set, *]
  have d5 : (w1.setCell ⟨Q, 7, none⟩ (.int .i64 (x + 1))).cell? ⟨Q, 5, none⟩ = some (.int .i64 2) := by simp [cell_set, *]
  have d6 : (w1.setCell ⟨Q, 7, none⟩ (.int .i64 (x + 1))).cell? ⟨Q, 6, none⟩ = some (.int .u64 W) := by simp [cell_set, *]
  have d7 : (w1.setCell ⟨Q, 7, none⟩ (.int .i64 (x + 1))).cell? ⟨Q, 7, none⟩ = some (.int .i64 (x + 1)) := by simp [cell_set, *]
  have d8 : (w1.setCell ⟨Q, 7, none⟩ (.int .i64 (x + 1))).cell? ⟨Q, 8, none⟩ = some (.int .i64 b) := by simp [cell_set, *]
  have df : ∀ i, (w1.setCell ⟨Q, 7, none⟩ (.int .i64 (x + 1))).frozen? ⟨Q, i, none⟩ = false := fun i => by simp [*]
  have nv : RefIs (w1.setCell ⟨Q, 7, none⟩ (.int .i64 (x + 1))) M B n (acc n s 1 (K + x) false 0) := ref_frame NM.out hn1 (T := fun k => k = Q) ((But.refl _ _).here _ _) (fun h => hQ (Or.inl h.symm)) (fun h => hQ (Or.inr h.symm))
  have gv : But (fun k => k = Q ∨ k = M ∨ k = B) w (w1.setCell ⟨Q, 7, none⟩ (.int .i64 (x + 1))) := But.setCell (S := fun k => k = Q ∨ k = M ∨ k = B) GG.out (p := ⟨Q, 7, none⟩) (Or.inl (Or.inl rfl)) _
  have hV : Q < (w1.setCell ⟨Q, 7, none⟩ (.int .i64 (x + 1))).heap.size := lt_of_cell d0
  clear c0 c1 c2 c3 c4 c5 c6 c7 c8 f hP NM GG
  generalize w1.setCell ⟨Q, 7, none⟩ (.int .i64 (x + 1)) = v1 at *
  have NM := Lib.hid nv
  have GG := Lib.hid gv
  clear nv gv
  have c0 := d0
  have c1 := d1
  have c2 := d2
  have c3 := d3
  have c4 := d4
  have c5 := d5
  have c6 := d6
  have c7 := d7
  have c8 := d8
  have f := df
  have hP := hV
  clear d0 d1 d2 d3 d4 d5 d6 d7 d8 df hV
  have g0 := c0
  have g1 := c1
  have g2 := c2
  have g3 := c3
  have g4 := c4
  have g5 := c5
  have g6 := c6
  have g7 := c7
  have g8 := c8
  all_goals
    refine (SK.out _ (by exact f) (by exact g0) (by exact g1) (by exact g2) (by exact g3) (by exact g4) (by exact g5) (by exact g6) (by exact g7) (by exact g8)).mono ?_
    rintro e w3 ⟨rfl, ac, fz, b3⟩
    have b4 : But (fun k => k = Q) v1 w3 := by
      refine But.trans ?_ b3 (fun _ _ h => h)
      exact Kept.but (by repeat (first | (with_reducible exact Kept.refl _) | (with_reducible refine Kept.drew ?_) | (with_reducible refine Kept.drewN ?_ _))) _
    have NX := Lib.hid (ref_frame NM.out hn1 b4 (fun h => hQ (Or.inl h.symm)) (fun h => hQ (Or.inr h.symm)))
    have GX : Hid (But (fun k => k = Q ∨ k = M ∨ k = B) w w3) := Lib.hid (GG.out.trans b4 (fun _ _ h => Or.inl h))
    have AC := Lib.hid ac
    obtain ⟨a0, a1, a2, a3, a4, a5, a6, a7, a8⟩ := ac
    clear g0 g1 g2 g3 g4 g5 g6 g7 g8 c0 c1 c2 c3 c4 c5 c6 c7 c8 b3 b4
    go_wp2
    go_ret
    exact ⟨rfl, AC.out, fz, NX.out, GX.out⟩
set_option maxHeartbeats 2000000 in
theorem rAdvance_2same (Q M B n : Nat) (s : St) (w : World) (f : ∀ i, w.frozen? ⟨Q, i, none⟩ = false) (hm : RefIs w M B n s) (h0 : 0 ≤ s.cnt) (h1 : s.cnt ≤ 1000000) (hn : n ≤ 4096) (hn1 : 1 ≤ n) (hQ : ¬ (Q = M ∨ Q = B)) (T K N c p x b W : Int) (wd : 0 ≤ wordAt n s (K + x) ∧ wordAt n s (K + x) < 18446744073709551616) (x0 : 0 ≤ x) (x1 : x ≤ 100000) (k0 : 0 ≤ K) (k1 : K ≤ 100000) (p0 : 0 ≤ p) (p1 : p ≤ 4294967295) (hz : wordAt n s (K + x) ≠ 0) (hp : wordAt n s (K + x) = p + 1) (c0 : w.cell? ⟨Q, 0, none⟩ = some (.int .i64 T)) (c1 : w.cell? ⟨Q, 1, none⟩ = some (.int .i64 K)) (c2 : w.cell? ⟨Q, 2, none⟩ = some (.int .i64 N)) (c3 : w.cell? ⟨Q, 3, none⟩ = some (.int .i64 c)) (c4 : w.cell? ⟨Q, 4, none⟩ = some (.int .i64 p)) (c5 : w.cell? ⟨Q, 5, none⟩ = some (.int .i64 2)) (c6 : w.cell? ⟨Q, 6, none⟩ = some (.int .u64 W)) (c7 : w.cell? ⟨Q, 7, none⟩ = some (.int .i64 x)) (c8 : w.cell? ⟨Q, 8, none⟩ = some (.int .i64 b)) :
    Calls Try.prog 62 #[.pointer (some ⟨Q, 0, none⟩), .pointer (some ⟨M, 0, none⟩)] w
      fun e w' => e = .returned (.bool false) ∧ RAdvanceC w' Q (T) (K) (N) (c) (p) (if skip c (x + 1) < N then 2 else 3) (W) (skip c (x + 1)) (b) ∧ (∀ i, w'.frozen? ⟨Q, i, none⟩ = false) ∧ RefIs w' M B n (acc n s 1 (K + x) false 0) ∧ But (fun k => k = Q ∨ k = M ∨ k = B) w w' := by
  obtain ⟨lv, hlv⟩ : ∃ lv : Int, (if skip c (x + 1) < N then (2 : Int) else 3) = lv := ⟨_, rfl⟩
  have SK := Lib.hid (fun (X : World) (F : ∀ i, X.frozen? ⟨Q, i, none⟩ = false) (G0 : X.cell? ⟨Q, 0, none⟩ = some (.int .i64 T)) (G1 : X.cell? ⟨Q, 1, none⟩ = some (.int .i64 K)) (G2 : X.cell? ⟨Q, 2, none⟩ = some (.int .i64 N)) (G3 : X.cell? ⟨Q, 3, none⟩ = some (.int .i64 c)) (G4 : X.cell? ⟨Q, 4, none⟩ = some (.int .i64 p)) (G5 : X.cell? ⟨Q, 5, none⟩ = some (.int .i64 2)) (G6 : X.cell? ⟨Q, 6, none⟩ = some (.int .u64 W)) (G7 : X.cell? ⟨Q, 7, none⟩ = some (.int .i64 (x + 1))) (G8 : X.cell? ⟨Q, 8, none⟩ = some (.int .i64 b)) => rskips_any Q T K N c p 2 W (x + 1) b X (by omega) (by omega) F G0 G1 G2 G3 G4 G5 G6 G7 G8)
  rw [hlv] at SK
  rw [hlv]
  have hl9 : (lv == 9) = false := by rw [← hlv]; split <;> rfl
  clear hlv
  have hP := lt_of_cell c0
  have hs1 : IntKind.i64.wrap (K + x) = K + x := by rw [IntKind.wrap_i64]; omega
  have hs2 : IntKind.u64.wrap p = p := by rw [IntKind.wrap_u64]; omega
  have hs3 : IntKind.u64.wrap (p + 1) = p + 1 := by rw [IntKind.wrap_u64]; omega
  have hs4 : IntKind.i64.wrap (x + 1) = x + 1 := by rw [IntKind.wrap_i64]; omega
  have hb0 : (wordAt n s (K + x) != 0) = true := by simpa using hz
  have hb1 : (wordAt n s (K + x) != p + 1) = false := by simpa using hp
  go_enter Try.func62, Try.ntmps62
  go_wp2_with fail
  go_region_held3 (fun w' => w'.cell? ⟨Q, 1, none⟩ = some (.int .i64 K) ∧ w'.cell? ⟨Q, 7, none⟩ = some (.int .i64 x)) (first | go_keep | (exact ⟨q1, q7⟩)) (first | (go_at_call 91; refine (r_load M B n s (K + x) _ (ref_kept hm hn1 (by first | exact Kept.refl _ | exact (Kept.refl _).drew | exact (Kept.refl _).drewN _)) h0 h1 hn).mono ?_; rintro e w1 ⟨rfl, m1, b1⟩; have BW : But (fun k => k = M ∨ k = B) w w1 := (Kept.but (w := w) (by first | exact Kept.refl _ | exact (Kept.refl _).drew | exact (Kept.refl _).drewN _) _).trans b1 (fun _ _ h => h); have q0 := BW.some c0 hQ; have q1 := BW.some c1 hQ; have q2 := BW.some c2 hQ; have q3 := BW.some c3 hQ; have q4 := BW.some c4 hQ; have q5 := BW.some c5 hQ; have q6 := BW.some c6 hQ; have q7 := BW.some c7 hQ; have q8 := BW.some c8 hQ))
  rename_i hcells
  clear hcells
  have c0 := q0
  have c1 := q1
  have c2 := q2
  have c3 := q3
  have c4 := q4
  have c5 := q5
  have c6 := q6
  have c7 := q7
  have c8 := q8
  have f : ∀ i, w1.frozen? ⟨Q, i, none⟩ = false := fun i => BW.soft hP (f i)
  have hP := Nat.lt_of_lt_of_le hP BW.size
  have NM := Lib.hid m1
  have GG : Hid (But (fun k => k = Q ∨ k = M ∨ k = B) w w1) := Lib.hid (BW.mono (fun _ _ h => Or.inr h))
  clear hm m1 b1 BW q0 q1 q2 q3 q4 q5 q6 q7 q8
  go_wp2_with fail
  have d0 : (w1.setCell ⟨Q, 7, none⟩ (.int .i64 (x + 1))).cell? ⟨Q, 0, none⟩ = some (.int .i64 T) := by simp [cell_set, *]
  have d1 : (w1.setCell ⟨Q, 7, none⟩ (.int .i64 (x + 1))).cell? ⟨Q, 1, none⟩ = some (.int .i64 K) := by simp [cell_set, *]
  have d2 : (w1.setCell ⟨Q, 7, none⟩ (.int .i64 (x + 1))).cell? ⟨Q, 2, none⟩ = some (.int .i64 N) := by simp [cell_set, *]
  have d3 : (w1.setCell ⟨Q, 7, none⟩ (.int .i64 (x + 1))).cell? ⟨Q, 3, none⟩ = some (.int .i64 c) := by simp [cell_set, *]
  have d4 : (w1.setCell ⟨Q, 7, none⟩ (.int .i64 (x + 1))).cell? ⟨Q, 4, none⟩ = some (.int .i64 p) := by simp [cell_set, *]
  have d5 : (w1.setCell ⟨Q, 7, none⟩ (.int .i64 (x + 1))).cell? ⟨Q, 5, none⟩ = some (.int .i64 2) := by simp [cell_set, *]
  have d6 : (w1.setCell ⟨Q, 7, none⟩ (.int .i64 (x + 1))).cell? ⟨Q, 6, none⟩ = some (.int .u64 W) := by simp [cell_set, *]
  have d7 : (w1.setCell ⟨Q, 7, none⟩ (.int .i64 (x + 1))).cell? ⟨Q, 7, none⟩ = some (.int .i64 (x + 1)) := by simp [cell_set, *]
  have d8 : (w1.setCell ⟨Q, 7, none⟩ (.int .i64 (x + 1))).cell? ⟨Q, 8, none⟩ = some (.int .i64 b) := by simp [cell_set, *]
  have df : ∀ i, (w1.setCell ⟨Q, 7, none⟩ (.int .i64 (x + 1))).frozen? ⟨Q, i, none⟩ = false := fun i => by simp [*]
  have nv : RefIs (w1.setCell ⟨Q, 7, none⟩ (.int .i64 (x + 1))) M B n (acc n s 1 (K + x) false 0) := ref_frame NM.out hn1 (T := fun k => k = Q) ((But.refl _ _).here _ _) (fun h => hQ (Or.inl h.symm)) (fun h => hQ (Or.inr h.symm))
  have gv : But (fun k => k = Q ∨ k = M ∨ k = B) w (w1.setCell ⟨Q, 7, none⟩ (.int .i64 (x + 1))) := But.setCell (S := fun k => k = Q ∨ k = M ∨ k = B) GG.out (p := ⟨Q, 7, none⟩) (Or.inl (Or.inl rfl)) _
  have hV : Q < (w1.setCell ⟨Q, 7, none⟩ (.int .i64 (x + 1))).heap.size := lt_of_cell d0
  clear c0 c1 c2 c3 c4 c5 c6 c7 c8 f hP NM GG
  generalize w1.setCell ⟨Q, 7, none⟩ (.int .i64 (x + 1)) = v1 at *
  have NM := Lib.hid nv
  have GG := Lib.hid gv
  clear nv gv
  have c0 := d0
  have c1 := d1
  have c2 := d2
  have c3 := d3
  have c4 := d4
  have c5 := d5
  have c6 := d6
  have c7 := d7
  have c8 := d8
  have f := df
  have hP := hV
  clear d0 d1 d2 d3 d4 d5 d6 d7 d8 df hV
  have g0 := c0
  have g1 := c1
  have g2 := c2
  have g3 := c3
  have g4 := c4
  have g5 := c5
  have g6 := c6
  have g7 := c7
  have g8 := c8
  all_goals
    refine (SK.out _ (by exact f) (by exact g0) (by exact g1) (by exact g2) (by exact g3) (by exact g4) (by exact g5) (by exact g6) (by exact g7) (by exact g8)).mono ?_
    rintro e w3 ⟨rfl, ac, fz, b3⟩
    have b4 : But (fun k => k = Q) v1 w3 := by
      refine But.trans ?_ b3 (fun _ _ h => h)
      exact Kept.but (by repeat (first | (with_reducible exact Kept.refl _) | (with_reducible refine Kept.drew ?_) | (with_reducible refine Kept.drewN ?_ _))) _
    have NX := Lib.hid (ref_frame NM.out hn1 b4 (fun h => hQ (Or.inl h.symm)) (fun h => hQ (Or.inr h.symm)))
    have GX : Hid (But (fun k => k = Q ∨ k = M ∨ k = B) w w3) := Lib.hid (GG.out.trans b4 (fun _ _ h => Or.inl h))
    have AC := Lib.hid ac
    obtain ⟨a0, a1, a2, a3, a4, a5, a6, a7, a8⟩ := ac
    clear g0 g1 g2 g3 g4 g5 g6 g7 g8 c0 c1 c2 c3 c4 c5 c6 c7 c8 b3 b4
    go_wp2
    go_ret
    exact ⟨rfl, AC.out, fz, NX.out, GX.out⟩
set_option maxHeartbeats 2000000 in
theorem rAdvance_3yes (Q M B n : Nat) (s : St) (w : World) (f : ∀ i, w.frozen? ⟨Q, i, none⟩ = false) (hm : RefIs w M B n s) (h0 : 0 ≤ s.cnt) (h1 : s.cnt ≤ 1000000) (hn : n ≤ 4096) (hn1 : 1 ≤ n) (hQ : ¬ (Q = M ∨ Q = B)) (T K N c p x b W : Int) (w0 : 0 ≤ W) (w1 : W < 18446744073709551616) (t0 : 0 ≤ T) (t1 : T < n) (p0 : 0 ≤ p) (p1 : p ≤ 4294967295) (hq : (wordAt n s T == W) = true) (c0 : w.cell? ⟨Q, 0, none⟩ = some (.int .i64 T)) (c1 : w.cell? ⟨Q, 1, none⟩ = some (.int .i64 K)) (c2 : w.cell? ⟨Q, 2, none⟩ = some (.int .i64 N)) (c3 : w.cell? ⟨Q, 3, none⟩ = some (.int .i64 c)) (c4 : w.cell? ⟨Q, 4, none⟩ = some (.int .i64 p)) (c5 : w.cell? ⟨Q, 5, none⟩ = some (.int .i64 3)) (c6 : w.cell? ⟨Q, 6, none⟩ = some (.int .u64 W)) (c7 : w.cell? ⟨Q, 7, none⟩ = some (.int .i64 x)) (c8 : w.cell? ⟨Q, 8, none⟩ = some (.int .i64 b)) :
    Calls Try.prog 62 #[.pointer (some ⟨Q, 0, none⟩), .pointer (some ⟨M, 0, none⟩)] w
      fun e w' => e = .returned (.bool true) ∧ RAdvanceC w' Q (T) (K) (N) (c) (p) (9) (W) (x) (0) ∧ (∀ i, w'.frozen? ⟨Q, i, none⟩ = false) ∧ RefIs w' M B n (acc n s 3 T (wordAt n s T == W) (p + 1)) ∧ But (fun k => k = Q ∨ k = M ∨ k = B) w w' := by
  have hP := lt_of_cell c0
  have hs2 : IntKind.u64.wrap p = p := by rw [IntKind.wrap_u64]; omega
  have hs3 : IntKind.u64.wrap (p + 1) = p + 1 := by rw [IntKind.wrap_u64]; omega
  go_enter Try.func62, Try.ntmps62
  go_wp2_with fail
  go_region_held3 (fun w' => w'.cell? ⟨Q, 0, none⟩ = some (.int .i64 T) ∧ w'.cell? ⟨Q, 4, none⟩ = some (.int .i64 p) ∧ w'.cell? ⟨Q, 6, none⟩ = some (.int .u64 W)) (first | go_keep | (exact ⟨q0, q4, q6⟩)) (first | (go_at_call 95; refine (r_cas M B n s T W (p + 1) _ (ref_kept hm hn1 (by first | exact Kept.refl _ | exact (Kept.refl _).drew | exact (Kept.refl _).drewN _)) h0 h1 hn t0 t1).mono ?_; rintro e w1 ⟨rfl, m1, b1⟩; have BW : But (fun k => k = M ∨ k = B) w w1 := (Kept.but (w := w) (by first | exact Kept.refl _ | exact (Kept.refl _).drew | exact (Kept.refl _).drewN _) _).trans b1 (fun _ _ h => h); have q0 := BW.some c0 hQ; have q1 := BW.some c1 hQ; have q2 := BW.some c2 hQ; have q3 := BW.some c3 hQ; have q4 := BW.some c4 hQ; have q5 := BW.some c5 hQ; have q6 := BW.some c6 hQ; have q7 := BW.some c7 hQ; have q8 := BW.some c8 hQ))
  rename_i hcells
  clear hcells
  have c0 := q0
  have c1 := q1
  have c2 := q2
  have c3 := q3
  have c4 := q4
  have c5 := q5
  have c6 := q6
  have c7 := q7
  have c8 := q8
  have f : ∀ i, w1.frozen? ⟨Q, i, none⟩ = false := fun i => BW.soft hP (f i)
  have hP := Nat.lt_of_lt_of_le hP BW.size
  have NM := Lib.hid m1
  have GG : Hid (But (fun k => k = Q ∨ k = M ∨ k = B) w w1) := Lib.hid (BW.mono (fun _ _ h => Or.inr h))
  clear hm m1 b1 BW q0 q1 q2 q3 q4 q5 q6 q7 q8
  have g0 := c0
  have g1 := c1
  have g2 := c2
  have g3 := c3
  have g4 := c4
  have g5 := c5
  have g6 := c6
  have g7 := c7
  have g8 := c8
  all_goals
    go_wp2_with fail
    refine (rends_any Q 0 T K N c p 3 W x b _ (by exact f) (by exact g0) (by exact g1) (by exact g2) (by exact g3) (by exact g4) (by exact g5) (by exact g6) (by exact g7) (by exact g8)).mono ?_
    rintro e w3 ⟨rfl, ac, fz, b3⟩
    have b4 : But (fun k => k = Q) w1 w3 := by
      refine But.trans ?_ b3 (fun _ _ h => h)
      exact Kept.but (by repeat (first | (with_reducible exact Kept.refl _) | (with_reducible refine Kept.drew ?_) | (with_reducible refine Kept.drewN ?_ _))) _
    have NX := Lib.hid (ref_frame NM.out hn1 b4 (fun h => hQ (Or.inl h.symm)) (fun h => hQ (Or.inr h.symm)))
    have GX : Hid (But (fun k => k = Q ∨ k = M ∨ k = B) w w3) := Lib.hid (GG.out.trans b4 (fun _ _ h => Or.inl h))
    have AC := Lib.hid ac
    obtain ⟨a0, a1, a2, a3, a4, a5, a6, a7, a8⟩ := ac
    clear g0 g1 g2 g3 g4 g5 g6 g7 g8 c0 c1 c2 c3 c4 c5 c6 c7 c8 b3 b4
    go_wp2
    go_ret
    exact ⟨rfl, AC.out, fz, NX.out, GX.out⟩
set_option maxHeartbeats 2000000 in
theorem rAdvance_3no (Q M B n : Nat) (s : St) (w : World) (f : ∀ i, w.frozen? ⟨Q, i, none⟩ = false) (hm : RefIs w M B n s) (h0 : 0 ≤ s.cnt) (h1 : s.cnt ≤ 1000000) (hn : n ≤ 4096) (hn1 : 1 ≤ n) (hQ : ¬ (Q = M ∨ Q = B)) (T K N c p x b W : Int) (w0 : 0 ≤ W) (w1 : W < 18446744073709551616) (t0 : 0 ≤ T) (t1 : T < n) (p0 : 0 ≤ p) (p1 : p ≤ 4294967295) (hq : (wordAt n s T == W) = false) (c0 : w.cell? ⟨Q, 0, none⟩ = some (.int .i64 T)) (c1 : w.cell? ⟨Q, 1, none⟩ = some (.int .i64 K)) (c2 : w.cell? ⟨Q, 2, none⟩ = some (.int .i64 N)) (c3 : w.cell? ⟨Q, 3, none⟩ = some (.int .i64 c)) (c4 : w.cell? ⟨Q, 4, none⟩ = some (.int .i64 p)) (c5 : w.cell? ⟨Q, 5, none⟩ = some (.int .i64 3)) (c6 : w.cell? ⟨Q, 6, none⟩ = some (.int .u64 W)) (c7 : w.cell? ⟨Q, 7, none⟩ = some (.int .i64 x)) (c8 : w.cell? ⟨Q, 8, none⟩ = some (.int .i64 b)) :
    Calls Try.prog 62 #[.pointer (some ⟨Q, 0, none⟩), .pointer (some ⟨M, 0, none⟩)] w
      fun e w' => e = .returned (.bool true) ∧ RAdvanceC w' Q (T) (K) (N) (c) (p) (9) (W) (x) (14) ∧ (∀ i, w'.frozen? ⟨Q, i, none⟩ = false) ∧ RefIs w' M B n (acc n s 3 T (wordAt n s T == W) (p + 1)) ∧ But (fun k => k = Q ∨ k = M ∨ k = B) w w' := by
  have hP := lt_of_cell c0
  have hs2 : IntKind.u64.wrap p = p := by rw [IntKind.wrap_u64]; omega
  have hs3 : IntKind.u64.wrap (p + 1) = p + 1 := by rw [IntKind.wrap_u64]; omega
  go_enter Try.func62, Try.ntmps62
  go_wp2_with fail
  go_region_held3 (fun w' => w'.cell? ⟨Q, 0, none⟩ = some (.int .i64 T) ∧ w'.cell? ⟨Q, 4, none⟩ = some (.int .i64 p) ∧ w'.cell? ⟨Q, 6, none⟩ = some (.int .u64 W)) (first | go_keep | (exact ⟨q0, q4, q6⟩)) (first | (go_at_call 95; refine (r_cas M B n s T W (p + 1) _ (ref_kept hm hn1 (by first | exact Kept.refl _ | exact (Kept.refl _).drew | exact (Kept.refl _).drewN _)) h0 h1 hn t0 t1).mono ?_; rintro e w1 ⟨rfl, m1, b1⟩; have BW : But (fun k => k = M ∨ k = B) w w1 := (Kept.but (w := w) (by first | exact Kept.refl _ | exact (Kept.refl _).drew | exact (Kept.refl _).drewN _) _).trans b1 (fun _ _ h => h); have q0 := BW.some c0 hQ; have q1 := BW.some c1 hQ; have q2 := BW.some c2 hQ; have q3 := BW.some c3 hQ; have q4 := BW.some c4 hQ; have q5 := BW.some c5 hQ; have q6 := BW.some c6 hQ; have q7 := BW.some c7 hQ; have q8 := BW.some c8 hQ))
  rename_i hcells
  clear hcells
  have c0 := q0
  have c1 := q1
  have c2 := q2
  have c3 := q3
  have c4 := q4
  have c5 := q5
  have c6 := q6
  have c7 := q7
  have c8 := q8
  have f : ∀ i, w1.frozen? ⟨Q, i, none⟩ = false := fun i => BW.soft hP (f i)
  have hP := Nat.lt_of_lt_of_le hP BW.size
  have NM := Lib.hid m1
  have GG : Hid (But (fun k => k = Q ∨ k = M ∨ k = B) w w1) := Lib.hid (BW.mono (fun _ _ h => Or.inr h))
  clear hm m1 b1 BW q0 q1 q2 q3 q4 q5 q6 q7 q8
  have g0 := c0
  have g1 := c1
  have g2 := c2
  have g3 := c3
  have g4 := c4
  have g5 := c5
  have g6 := c6
  have g7 := c7
  have g8 := c8
  all_goals
    go_wp2_with fail
    refine (rends_any Q 14 T K N c p 3 W x b _ (by exact f) (by exact g0) (by exact g1) (by exact g2) (by exact g3) (by exact g4) (by exact g5) (by exact g6) (by exact g7) (by exact g8)).mono ?_
    rintro e w3 ⟨rfl, ac, fz, b3⟩
    have b4 : But (fun k => k = Q) w1 w3 := by
      refine But.trans ?_ b3 (fun _ _ h => h)
      exact Kept.but (by repeat (first | (with_reducible exact Kept.refl _) | (with_reducible refine Kept.drew ?_) | (with_reducible refine Kept.drewN ?_ _))) _
    have NX := Lib.hid (ref_frame NM.out hn1 b4 (fun h => hQ (Or.inl h.symm)) (fun h => hQ (Or.inr h.symm)))
    have GX : Hid (But (fun k => k = Q ∨ k = M ∨ k = B) w w3) := Lib.hid (GG.out.trans b4 (fun _ _ h => Or.inl h))
    have AC := Lib.hid ac
    obtain ⟨a0, a1, a2, a3, a4, a5, a6, a7, a8⟩ := ac
    clear g0 g1 g2 g3 g4 g5 g6 g7 g8 c0 c1 c2 c3 c4 c5 c6 c7 c8 b3 b4
    go_wp2
    go_ret
    exact ⟨rfl, AC.out, fz, NX.out, GX.out⟩
set_option maxHeartbeats 1000000 in
theorem rAdvance_9 (Q : Nat) (V : Value) (w : World) (T K N c p W x b : Int) (c0 : w.cell? ⟨Q, 0, none⟩ = some (.int .i64 T)) (c1 : w.cell? ⟨Q, 1, none⟩ = some (.int .i64 K)) (c2 : w.cell? ⟨Q, 2, none⟩ = some (.int .i64 N)) (c3 : w.cell? ⟨Q, 3, none⟩ = some (.int .i64 c)) (c4 : w.cell? ⟨Q, 4, none⟩ = some (.int .i64 p)) (c5 : w.cell? ⟨Q, 5, none⟩ = some (.int .i64 9)) (c6 : w.cell? ⟨Q, 6, none⟩ = some (.int .u64 W)) (c7 : w.cell? ⟨Q, 7, none⟩ = some (.int .i64 x)) (c8 : w.cell? ⟨Q, 8, none⟩ = some (.int .i64 b)) : Calls Try.prog 62 #[.pointer (some ⟨Q, 0, none⟩), V] w fun e w' => e = .returned (.bool true) ∧ w = w' := by
  go_enter Try.func62, Try.ntmps62
  go_wp2
  go_ret
  exact ⟨rfl, rfl⟩
end Go.Proofs.Ytmfbjlaajcdbnaa.Ep
