/- The document's operations: each step at each line. Written by gen14r.py. -/
import Derived.Test.YtlfdiffbepfgbaaGreatG09
import Derived.Test.YtlfdiffbepfgbaaGreatG04
import Derived.Lib.Hide
import Derived.Deep.Light
import Derived.Deep.RegionHeld3
import Derived.Deep.RegionLaw
import Derived.Deep.QuietTactic
import Derived.BigQuiet
set_option linter.unusedVariables false
set_option linter.unusedSimpArgs false

namespace Go.Proofs.YtlfdiffbepfgbaaGreat.Ri
set_option maxRecDepth 20000
open Go.RowKit
open Wo (St acc wordAt PMem RefIs)
open Sk (Wd r_load r_store r_cas ref_frame ref_kept ref_lt)

set_option maxHeartbeats 400000 in
theorem rplace_any (H T K N t : Int) (w : World) (n1 : 1 ≤ N) (n2 : N ≤ 4096) (t0 : 0 ≤ t) (t1 : t < 18446744073709551616) (k0 : 0 ≤ K) (k1 : K ≤ 10000) : Calls Tryz.prog 137 #[.agg #[.int .i64 H, .int .i64 T, .int .i64 K, .int .i64 N], .int .u64 t] w fun e w' => e = .returned (.int .i64 (K + t % N)) ∧ Kept w w' := by
  have m0 := Int.emod_nonneg t (show N ≠ 0 by omega)
  have m1 := Int.emod_lt_of_pos t (show 0 < N by omega)
  have hw : IntKind.i64.wrap (K + t % N) = K + t % N := by rw [IntKind.wrap_i64]; omega
  go_enter Tryz.func137, Tryz.ntmps137
  go_wp2_with fail
  go_quiet (fail)
  go_wp2
  go_ret
  exact ⟨rfl, by (go_light; repeat (first | (with_reducible exact Kept.refl _) | (with_reducible assumption) | (with_reducible refine Kept.alloc ?_ _ _) | (with_reducible refine Kept.drew ?_) | (with_reducible refine Kept.drewN ?_ _) | ((with_reducible refine Kept.setCell ?_ ?_ _); rotate_left; focus (first | (simp; done) | (simp; omega))) | refine Kept.trans ?_ (by assumption)))⟩
set_option maxHeartbeats 400000 in
theorem rlap_any (H T K N t : Int) (w : World) (n1 : 1 ≤ N) (n2 : N ≤ 4096) (t0 : 0 ≤ t) (t1 : t < 18446744073709551616) : Calls Tryz.prog 138 #[.agg #[.int .i64 H, .int .i64 T, .int .i64 K, .int .i64 N], .int .u64 t] w fun e w' => e = .returned (.int .u64 (t / N % 4294967296)) ∧ Kept w w' := by
  have d0 : 0 ≤ t / N := Int.ediv_nonneg t0 (by omega)
  have d1 : t / N < 18446744073709551616 := Int.lt_of_le_of_lt (Int.ediv_le_self _ t0) t1
  go_enter Tryz.func138, Tryz.ntmps138
  go_wp2
  go_ret
  exact ⟨rfl, by (go_light; repeat (first | (with_reducible exact Kept.refl _) | (with_reducible assumption) | (with_reducible refine Kept.alloc ?_ _ _) | (with_reducible refine Kept.drew ?_) | (with_reducible refine Kept.drewN ?_ _) | ((with_reducible refine Kept.setCell ?_ ?_ _); rotate_left; focus (first | (simp; done) | (simp; omega))) | refine Kept.trans ?_ (by assumption)))⟩
theorem full_nat (w : Int) (h0 : 0 ≤ w) : full w = (w / 65536 % 2 == 1) := rfl
set_option maxHeartbeats 400000 in
theorem rfull_yes (w l : Int) (W : World) (h0 : 0 ≤ w) (h1 : w < 18446744073709551616) (e : wlap w = l) : Calls Tryz.prog 136 #[.int .u64 w, .int .u64 l] W fun e w' => e = .returned (.bool (full w)) ∧ Kept W w' := by
  have q : (w / 4294967296 == l) = true := by unfold wlap at e; simpa using e
  have q2 : w / 4294967296 = l := by unfold wlap at e; exact e
  have m : w / 65536 % 2 = 0 ∨ w / 65536 % 2 = 1 := by omega
  have hf : full w = (w / 65536 % 2 == 1) := rfl
  rw [hf]
  clear hf e
  rcases m with m | m
  · rw [m]
    go_enter Tryz.func136, Tryz.ntmps136
    go_wp2
    go_ret
    exact ⟨rfl, by (go_light; repeat (first | (with_reducible exact Kept.refl _) | (with_reducible assumption) | (with_reducible refine Kept.alloc ?_ _ _) | (with_reducible refine Kept.drew ?_) | (with_reducible refine Kept.drewN ?_ _) | ((with_reducible refine Kept.setCell ?_ ?_ _); rotate_left; focus (first | (simp; done) | (simp; omega))) | refine Kept.trans ?_ (by assumption)))⟩
  · rw [m]
    go_enter Tryz.func136, Tryz.ntmps136
    go_wp2
    go_ret
    exact ⟨rfl, by (go_light; repeat (first | (with_reducible exact Kept.refl _) | (with_reducible assumption) | (with_reducible refine Kept.alloc ?_ _ _) | (with_reducible refine Kept.drew ?_) | (with_reducible refine Kept.drewN ?_ _) | ((with_reducible refine Kept.setCell ?_ ?_ _); rotate_left; focus (first | (simp; done) | (simp; omega))) | refine Kept.trans ?_ (by assumption)))⟩
set_option maxHeartbeats 400000 in
theorem rfull_no (w l : Int) (W : World) (h0 : 0 ≤ w) (h1 : w < 18446744073709551616) (e : ¬ wlap w = l) : Calls Tryz.prog 136 #[.int .u64 w, .int .u64 l] W fun e w' => e = .returned (.bool false) ∧ Kept W w' := by
  have q : (w / 4294967296 == l) = false := by unfold wlap at e; simpa using e
  go_enter Tryz.func136, Tryz.ntmps136
  go_wp2
  go_ret
  exact ⟨rfl, by (go_light; repeat (first | (with_reducible exact Kept.refl _) | (with_reducible assumption) | (with_reducible refine Kept.alloc ?_ _ _) | (with_reducible refine Kept.drew ?_) | (with_reducible refine Kept.drewN ?_ _) | ((with_reducible refine Kept.setCell ?_ ?_ _); rotate_left; focus (first | (simp; done) | (simp; omega))) | refine Kept.trans ?_ (by assumption)))⟩
theorem rfull_any (w l : Int) (W : World) (h0 : 0 ≤ w) (h1 : w < 18446744073709551616) : Calls Tryz.prog 136 #[.int .u64 w, .int .u64 l] W fun e w' => e = .returned (.bool (wlap w == l && (full w))) ∧ Kept W w' := by
  by_cases e : wlap w = l
  · rw [show (wlap w == l && (full w)) = (full w) by rw [e]; simp]
    exact rfull_yes w l W h0 h1 e
  · rw [show (wlap w == l && (full w)) = false by simp [e]]
    exact rfull_no w l W h0 h1 e
set_option maxHeartbeats 400000 in
theorem rempty_yes (w l : Int) (W : World) (h0 : 0 ≤ w) (h1 : w < 18446744073709551616) (e : wlap w = l) : Calls Tryz.prog 293 #[.int .u64 w, .int .u64 l] W fun e w' => e = .returned (.bool (!full w)) ∧ Kept W w' := by
  have q : (w / 4294967296 == l) = true := by unfold wlap at e; simpa using e
  have q2 : w / 4294967296 = l := by unfold wlap at e; exact e
  have m : w / 65536 % 2 = 0 ∨ w / 65536 % 2 = 1 := by omega
  have hf : full w = (w / 65536 % 2 == 1) := rfl
  rw [hf]
  clear hf e
  rcases m with m | m
  · rw [m]
    go_enter Tryz.func293, Tryz.ntmps293
    go_wp2
    go_ret
    exact ⟨rfl, by (go_light; repeat (first | (with_reducible exact Kept.refl _) | (with_reducible assumption) | (with_reducible refine Kept.alloc ?_ _ _) | (with_reducible refine Kept.drew ?_) | (with_reducible refine Kept.drewN ?_ _) | ((with_reducible refine Kept.setCell ?_ ?_ _); rotate_left; focus (first | (simp; done) | (simp; omega))) | refine Kept.trans ?_ (by assumption)))⟩
  · rw [m]
    go_enter Tryz.func293, Tryz.ntmps293
    go_wp2
    go_ret
    exact ⟨rfl, by (go_light; repeat (first | (with_reducible exact Kept.refl _) | (with_reducible assumption) | (with_reducible refine Kept.alloc ?_ _ _) | (with_reducible refine Kept.drew ?_) | (with_reducible refine Kept.drewN ?_ _) | ((with_reducible refine Kept.setCell ?_ ?_ _); rotate_left; focus (first | (simp; done) | (simp; omega))) | refine Kept.trans ?_ (by assumption)))⟩
set_option maxHeartbeats 400000 in
theorem rempty_no (w l : Int) (W : World) (h0 : 0 ≤ w) (h1 : w < 18446744073709551616) (e : ¬ wlap w = l) : Calls Tryz.prog 293 #[.int .u64 w, .int .u64 l] W fun e w' => e = .returned (.bool false) ∧ Kept W w' := by
  have q : (w / 4294967296 == l) = false := by unfold wlap at e; simpa using e
  go_enter Tryz.func293, Tryz.ntmps293
  go_wp2
  go_ret
  exact ⟨rfl, by (go_light; repeat (first | (with_reducible exact Kept.refl _) | (with_reducible assumption) | (with_reducible refine Kept.alloc ?_ _ _) | (with_reducible refine Kept.drew ?_) | (with_reducible refine Kept.drewN ?_ _) | ((with_reducible refine Kept.setCell ?_ ?_ _); rotate_left; focus (first | (simp; done) | (simp; omega))) | refine Kept.trans ?_ (by assumption)))⟩
theorem rempty_any (w l : Int) (W : World) (h0 : 0 ≤ w) (h1 : w < 18446744073709551616) : Calls Tryz.prog 293 #[.int .u64 w, .int .u64 l] W fun e w' => e = .returned (.bool (wlap w == l && (!full w))) ∧ Kept W w' := by
  by_cases e : wlap w = l
  · rw [show (wlap w == l && (!full w)) = (!full w) by rw [e]; simp]
    exact rempty_yes w l W h0 h1 e
  · rw [show (wlap w == l && (!full w)) = false by simp [e]]
    exact rempty_no w l W h0 h1 e
def DPushC (w : World) (Q : Nat) (H T K N v l t u b : Int) : Prop := w.cell? ⟨Q, 0, none⟩ = some (.int .i64 H) ∧ w.cell? ⟨Q, 1, none⟩ = some (.int .i64 T) ∧ w.cell? ⟨Q, 2, none⟩ = some (.int .i64 K) ∧ w.cell? ⟨Q, 3, none⟩ = some (.int .i64 N) ∧ w.cell? ⟨Q, 4, none⟩ = some (.int .i64 v) ∧ w.cell? ⟨Q, 5, none⟩ = some (.int .i64 l) ∧ w.cell? ⟨Q, 6, none⟩ = some (.int .u64 t) ∧ w.cell? ⟨Q, 7, none⟩ = some (.int .u64 u) ∧ w.cell? ⟨Q, 8, none⟩ = some (.int .i64 b)
theorem DPushC.frame {w w' : World} {Q : Nat} {H T K N v l t u b : Int} (h : DPushC w Q H T K N v l t u b) {T' : Nat → Prop} (hb : But T' w w') (hQ : ¬ T' Q) : DPushC w' Q H T K N v l t u b := by
  obtain ⟨h0, h1, h2, h3, h4, h5, h6, h7, h8⟩ := h
  exact ⟨hb.some h0 hQ, hb.some h1 hQ, hb.some h2 hQ, hb.some h3 hQ, hb.some h4 hQ, hb.some h5 hQ, hb.some h6 hQ, hb.some h7 hQ, hb.some h8 hQ⟩
def DFrontC (w : World) (Q : Nat) (H T K N l t v b : Int) : Prop := w.cell? ⟨Q, 0, none⟩ = some (.int .i64 H) ∧ w.cell? ⟨Q, 1, none⟩ = some (.int .i64 T) ∧ w.cell? ⟨Q, 2, none⟩ = some (.int .i64 K) ∧ w.cell? ⟨Q, 3, none⟩ = some (.int .i64 N) ∧ w.cell? ⟨Q, 4, none⟩ = some (.int .i64 l) ∧ w.cell? ⟨Q, 5, none⟩ = some (.int .u64 t) ∧ w.cell? ⟨Q, 6, none⟩ = some (.int .i64 v) ∧ w.cell? ⟨Q, 7, none⟩ = some (.int .i64 b)
theorem DFrontC.frame {w w' : World} {Q : Nat} {H T K N l t v b : Int} (h : DFrontC w Q H T K N l t v b) {T' : Nat → Prop} (hb : But T' w w') (hQ : ¬ T' Q) : DFrontC w' Q H T K N l t v b := by
  obtain ⟨h0, h1, h2, h3, h4, h5, h6, h7⟩ := h
  exact ⟨hb.some h0 hQ, hb.some h1 hQ, hb.some h2 hQ, hb.some h3 hQ, hb.some h4 hQ, hb.some h5 hQ, hb.some h6 hQ, hb.some h7 hQ⟩
def DDropC (w : World) (Q : Nat) (H T K N l t b : Int) : Prop := w.cell? ⟨Q, 0, none⟩ = some (.int .i64 H) ∧ w.cell? ⟨Q, 1, none⟩ = some (.int .i64 T) ∧ w.cell? ⟨Q, 2, none⟩ = some (.int .i64 K) ∧ w.cell? ⟨Q, 3, none⟩ = some (.int .i64 N) ∧ w.cell? ⟨Q, 4, none⟩ = some (.int .i64 l) ∧ w.cell? ⟨Q, 5, none⟩ = some (.int .u64 t) ∧ w.cell? ⟨Q, 6, none⟩ = some (.int .i64 b)
theorem DDropC.frame {w w' : World} {Q : Nat} {H T K N l t b : Int} (h : DDropC w Q H T K N l t b) {T' : Nat → Prop} (hb : But T' w w') (hQ : ¬ T' Q) : DDropC w' Q H T K N l t b := by
  obtain ⟨h0, h1, h2, h3, h4, h5, h6⟩ := h
  exact ⟨hb.some h0 hQ, hb.some h1 hQ, hb.some h2 hQ, hb.some h3 hQ, hb.some h4 hQ, hb.some h5 hQ, hb.some h6 hQ⟩
set_option maxHeartbeats 2000000 in
theorem rPush_1 (Q M B n : Nat) (s : St) (w : World) (f : ∀ i, w.frozen? ⟨Q, i, none⟩ = false) (hm : RefIs w M B n s) (h0 : 0 ≤ s.cnt) (h1 : s.cnt ≤ 1000000) (hn : n ≤ 4096) (hn1 : 1 ≤ n) (hQ : ¬ (Q = M ∨ Q = B)) (H T K N v t u b : Int)  (c0 : w.cell? ⟨Q, 0, none⟩ = some (.int .i64 H)) (c1 : w.cell? ⟨Q, 1, none⟩ = some (.int .i64 T)) (c2 : w.cell? ⟨Q, 2, none⟩ = some (.int .i64 K)) (c3 : w.cell? ⟨Q, 3, none⟩ = some (.int .i64 N)) (c4 : w.cell? ⟨Q, 4, none⟩ = some (.int .i64 v)) (c5 : w.cell? ⟨Q, 5, none⟩ = some (.int .i64 1)) (c6 : w.cell? ⟨Q, 6, none⟩ = some (.int .u64 t)) (c7 : w.cell? ⟨Q, 7, none⟩ = some (.int .u64 u)) (c8 : w.cell? ⟨Q, 8, none⟩ = some (.int .i64 b)) :
    Calls Tryz.prog 118 #[.pointer (some ⟨Q, 0, none⟩), .pointer (some ⟨M, 0, none⟩)] w
      fun e w' => e = .returned (.bool false) ∧ DPushC w' Q (H) (T) (K) (N) (v) (2) (wordAt n s T) (u) (b) ∧ (∀ i, w'.frozen? ⟨Q, i, none⟩ = false) ∧ RefIs w' M B n (acc n s 1 T false 0) ∧ But (fun k => k = Q ∨ k = M ∨ k = B) w w' := by
  have hP := lt_of_cell c0
  go_enter Tryz.func118, Tryz.ntmps118
  go_wp2_with fail
  refine (r_load M B n s T _ hm h0 h1 hn).mono ?_
  rintro e w1 ⟨rfl, m1, b1⟩
  have c0 := b1.some c0 hQ
  have c1 := b1.some c1 hQ
  have c2 := b1.some c2 hQ
  have c3 := b1.some c3 hQ
  have c4 := b1.some c4 hQ
  have c5 := b1.some c5 hQ
  have c6 := b1.some c6 hQ
  have c7 := b1.some c7 hQ
  have c8 := b1.some c8 hQ
  have f : ∀ i, w1.frozen? ⟨Q, i, none⟩ = false := fun i => b1.soft hP (f i)
  have hP := Nat.lt_of_lt_of_le hP b1.size
  have NM := Lib.hid m1
  have GG : Hid (But (fun k => k = Q ∨ k = M ∨ k = B) w w1) := Lib.hid (b1.mono (fun _ _ h => Or.inr h))
  clear hm m1 b1
  go_wp2
  go_ret
  go_light
  refine ⟨rfl, ?_, fun i => ?_, ?_, ?_⟩
  · simp [DPushC, cell_set, *]
  · simp [*]
  · exact ref_frame NM.out hn1 (T := fun k => k = Q) (by repeat (first | (with_reducible exact But.refl _ _) | (with_reducible refine But.here ?_ _ _) | (with_reducible refine But.drew ?_) | (with_reducible refine But.drewN ?_ _))) (fun h => hQ (Or.inl h.symm)) (fun h => hQ (Or.inr h.symm))
  · have gg := GG.out
    repeat (first | (with_reducible exact gg) | (with_reducible refine But.drew ?_) | (with_reducible refine But.drewN ?_ _) | ((with_reducible refine But.setCell ?_ (Or.inl (Or.inl rfl)) _)))
set_option maxHeartbeats 2000000 in
theorem rreads_3 (Q M B n : Nat) (s : St) (w : World) (f : ∀ i, w.frozen? ⟨Q, i, none⟩ = false) (hm : RefIs w M B n s) (h0 : 0 ≤ s.cnt) (h1 : s.cnt ≤ 1000000) (hn : n ≤ 4096) (hn1 : 1 ≤ n) (hQ : ¬ (Q = M ∨ Q = B)) (H T K N v t u b : Int) (n1 : 1 ≤ N) (n2 : N ≤ 4096) (k0 : 0 ≤ K) (k1 : K ≤ 10000) (t0 : 0 ≤ t) (t1 : t < 18446744073709551616) (wd : 0 ≤ wordAt n s (K + t % N) ∧ wordAt n s (K + t % N) < 18446744073709551616) (hz : (wlap (wordAt n s (K + t % N)) == t / N % 4294967296 && !full (wordAt n s (K + t % N))) = true) (c0 : w.cell? ⟨Q, 0, none⟩ = some (.int .i64 H)) (c1 : w.cell? ⟨Q, 1, none⟩ = some (.int .i64 T)) (c2 : w.cell? ⟨Q, 2, none⟩ = some (.int .i64 K)) (c3 : w.cell? ⟨Q, 3, none⟩ = some (.int .i64 N)) (c4 : w.cell? ⟨Q, 4, none⟩ = some (.int .i64 v)) (c5 : w.cell? ⟨Q, 5, none⟩ = some (.int .i64 2)) (c6 : w.cell? ⟨Q, 6, none⟩ = some (.int .u64 t)) (c7 : w.cell? ⟨Q, 7, none⟩ = some (.int .u64 u)) (c8 : w.cell? ⟨Q, 8, none⟩ = some (.int .i64 b)) :
    Calls Tryz.prog 219 #[.pointer (some ⟨Q, 0, none⟩), .pointer (some ⟨M, 0, none⟩)] w
      fun e w' => e = .returned (.tuple #[]) ∧ DPushC w' Q (H) (T) (K) (N) (v) (3) (t) (wordAt n s (K + t % N)) (b) ∧ (∀ i, w'.frozen? ⟨Q, i, none⟩ = false) ∧ RefIs w' M B n (acc n s 1 (K + t % N) false 0) ∧ But (fun k => k = Q ∨ k = M ∨ k = B) w w' := by
  have hP := lt_of_cell c0
  have PL : ∀ W, Hid (Calls Tryz.prog 137 #[.agg #[.int .i64 H, .int .i64 T, .int .i64 K, .int .i64 N], .int .u64 t] W fun e w' => e = .returned (.int .i64 (K + t % N)) ∧ Kept W w') := fun W => Lib.hid (rplace_any H T K N t W n1 n2 t0 t1 k0 k1)
  have LA : ∀ W, Hid (Calls Tryz.prog 138 #[.agg #[.int .i64 H, .int .i64 T, .int .i64 K, .int .i64 N], .int .u64 t] W fun e w' => e = .returned (.int .u64 (t / N % 4294967296)) ∧ Kept W w') := fun W => Lib.hid (rlap_any H T K N t W n1 n2 t0 t1)
  have W0 := wd.1
  have W1 := wd.2
  have EM : ∀ W, Hid (Calls Tryz.prog 293 #[.int .u64 (wordAt n s (K + t % N)), .int .u64 (t / N % 4294967296)] W fun e w' => e = .returned (.bool true) ∧ Kept W w') := fun W => Lib.hid (by have := rempty_any (wordAt n s (K + t % N)) (t / N % 4294967296) W W0 W1; rwa [hz] at this)
  have PL0 : 0 ≤ t / N % 4294967296 := by omega
  have PL1 : t / N % 4294967296 < 4294967296 := by omega
  have hS : ∀ W, RefIs W M B n s → Hid (Calls Tryz.prog 176 #[.pointer (some ⟨M, 0, none⟩), .int .i64 (K + t % N)] W fun e w' => e = .returned (.int .u64 (wordAt n s (K + t % N))) ∧ RefIs w' M B n (acc n s 1 (K + t % N) false 0) ∧ But (fun k => k = M ∨ k = B) W w') := fun W m => Lib.hid (r_load M B n s (K + t % N) W m h0 h1 hn)
  obtain ⟨sN, hsN⟩ : ∃ sN, sN = acc n s 1 (K + t % N) false 0 := ⟨_, rfl⟩
  rw [← hsN]
  rw [← hsN] at hS
  clear hsN
  generalize wordAt n s (K + t % N) = q at *
  generalize K + t % N = pl at *
  generalize t / N % 4294967296 = lp at *
  clear hz wd
  go_enter Tryz.func219, Tryz.ntmps219
  have KT : Kept w w := Kept.refl _
  go_wp2_with fail
  go_region_held3 (fun w' => w'.cell? ⟨Q, 0, none⟩ = some (.int .i64 H) ∧ w'.cell? ⟨Q, 1, none⟩ = some (.int .i64 T) ∧ w'.cell? ⟨Q, 2, none⟩ = some (.int .i64 K) ∧ w'.cell? ⟨Q, 3, none⟩ = some (.int .i64 N) ∧ w'.cell? ⟨Q, 6, none⟩ = some (.int .u64 t)) (first | go_keep | (exact ⟨KT.some c0, KT.some c1, KT.some c2, KT.some c3, KT.some c6⟩) | (refine ⟨?_, ?_, ?_, ?_, ?_⟩ <;> simp [cell_set, e0, e1, e2, e3, e6])) (first
    | (go_at_call 137; refine (PL _).out.mono ?_; rintro e wa ⟨rfl, ka⟩; have KT : Kept w wa := Kept.trans (b := _) (by first | exact KT | exact KT.drew | exact KT.drewN _) ka)
    | (go_at_call 176; refine (hS _ (ref_kept hm hn1 (by first | exact KT | exact KT.drew | exact KT.drewN _))).out.mono ?_; rintro e w1 ⟨rfl, m1, b1⟩; have BT : But (fun k => k = M ∨ k = B) w w1 := (Kept.but (w' := _) (by first | exact KT | exact KT.drew | exact KT.drewN _) _).trans b1 (fun _ _ h => h); have e0 := BT.some c0 hQ; have e1 := BT.some c1 hQ; have e2 := BT.some c2 hQ; have e3 := BT.some c3 hQ; have e6 := BT.some c6 hQ; have e7 := BT.some c7 hQ; have f1 : (∀ i, w1.frozen? ⟨Q, i, none⟩ = false) := (fun i => BT.soft hP (f i)); have hP1 := Nat.lt_of_lt_of_le hP BT.size))
  rename_i hcells
  clear hcells f1 hP1 e7
  have c0 := BT.some c0 hQ
  have c1 := BT.some c1 hQ
  have c2 := BT.some c2 hQ
  have c3 := BT.some c3 hQ
  have c4 := BT.some c4 hQ
  have c5 := BT.some c5 hQ
  have c6 := BT.some c6 hQ
  have c7 := BT.some c7 hQ
  have c8 := BT.some c8 hQ
  have f : ∀ i, w1.frozen? ⟨Q, i, none⟩ = false := fun i => BT.soft hP (f i)
  have hP := Nat.lt_of_lt_of_le hP BT.size
  have NM := Lib.hid m1
  have GG : Hid (But (fun k => k = Q ∨ k = M ∨ k = B) w w1) := Lib.hid (BT.mono (fun _ _ h => Or.inr h))
  clear hm m1 b1 BT KT e0 e1 e2 e3 e6
  obtain ⟨wb, hwb⟩ : ∃ wb, wb = w1.setCell ⟨Q, 7, none⟩ (.int .u64 q) := ⟨_, rfl⟩
  have d0 : wb.cell? ⟨Q, 0, none⟩ = some (.int .i64 H) := by rw [hwb]; simp [cell_set, c0]
  have d1 : wb.cell? ⟨Q, 1, none⟩ = some (.int .i64 T) := by rw [hwb]; simp [cell_set, c1]
  have d2 : wb.cell? ⟨Q, 2, none⟩ = some (.int .i64 K) := by rw [hwb]; simp [cell_set, c2]
  have d3 : wb.cell? ⟨Q, 3, none⟩ = some (.int .i64 N) := by rw [hwb]; simp [cell_set, c3]
  have d4 : wb.cell? ⟨Q, 4, none⟩ = some (.int .i64 v) := by rw [hwb]; simp [cell_set, c4]
  have d5 : wb.cell? ⟨Q, 5, none⟩ = some (.int .i64 2) := by rw [hwb]; simp [cell_set, c5]
  have d6 : wb.cell? ⟨Q, 6, none⟩ = some (.int .u64 t) := by rw [hwb]; simp [cell_set, c6]
  have d7 : wb.cell? ⟨Q, 7, none⟩ = some (.int .u64 q) := by rw [hwb]; simp [cell_set, c7]
  have d8 : wb.cell? ⟨Q, 8, none⟩ = some (.int .i64 b) := by rw [hwb]; simp [cell_set, c8]
  have fd : ∀ i, wb.frozen? ⟨Q, i, none⟩ = false := fun i => by rw [hwb]; simp [f]
  have b2 : But (fun k => k = Q) w1 wb := by rw [hwb]; exact (But.refl _ w1).here _ _
  have NM2 := Lib.hid (ref_frame NM.out hn1 b2 (fun h => hQ (Or.inl h.symm)) (fun h => hQ (Or.inr h.symm)))
  have GG2 := Lib.hid (GG.out.trans b2 (fun _ _ h => Or.inl h))
  have KT : Kept wb wb := Kept.refl _
  clear b2 NM GG
  go_wp2_with fail
  rw [← hwb]
  clear hwb c0 c1 c2 c3 c4 c5 c6 c7 c8 f hP
  have hP : Q < wb.heap.size := lt_of_cell d0
  go_region_held3 (fun w' => w'.cell? ⟨Q, 0, none⟩ = some (.int .i64 H) ∧ w'.cell? ⟨Q, 1, none⟩ = some (.int .i64 T) ∧ w'.cell? ⟨Q, 2, none⟩ = some (.int .i64 K) ∧ w'.cell? ⟨Q, 3, none⟩ = some (.int .i64 N) ∧ w'.cell? ⟨Q, 6, none⟩ = some (.int .u64 t)) (first | go_keep | (exact ⟨KT.some d0, KT.some d1, KT.some d2, KT.some d3, KT.some d6⟩)) (first
    | (go_at_call 138; refine (LA _).out.mono ?_; rintro e w2 ⟨rfl, k2⟩; have KT : Kept wb w2 := Kept.trans (b := _) (by first | exact KT | exact KT.drew | exact KT.drewN _) k2))
  have c0 := KT.some d0
  have c1 := KT.some d1
  have c2 := KT.some d2
  have c3 := KT.some d3
  have c4 := KT.some d4
  have c5 := KT.some d5
  have c6 := KT.some d6
  have c7 := KT.some d7
  have c8 := KT.some d8
  have f : ∀ i, w2.frozen? ⟨Q, i, none⟩ = false := fun i => KT.soft hP (fd i)
  have hP := lt_of_cell c0
  have NM := Lib.hid (ref_kept NM2.out hn1 KT)
  have GG := Lib.hid (GG2.out.then KT)
  clear KT NM2 GG2 d0 d1 d2 d3 d4 d5 d6 d7 d8 fd
  clear k2
  go_wp2_with fail
  refine (EM _).out.mono ?_
  rintro e w3 ⟨rfl, k3⟩
  have c0 := k3.some c0
  have c1 := k3.some c1
  have c2 := k3.some c2
  have c3 := k3.some c3
  have c4 := k3.some c4
  have c5 := k3.some c5
  have c6 := k3.some c6
  have c7 := k3.some c7
  have c8 := k3.some c8
  have f : ∀ i, w3.frozen? ⟨Q, i, none⟩ = false := fun i => k3.soft hP (f i)
  have hP := Nat.lt_of_lt_of_le hP k3.size
  have NM := Lib.hid (ref_kept NM.out hn1 k3)
  have GG := Lib.hid (GG.out.then k3)
  clear k3
  go_wp2
  go_end0
  go_light
  refine ⟨rfl, ?_, fun i => ?_, ?_, ?_⟩
  · simp [DPushC, cell_set, *]
  · simp [*]
  · exact ref_frame NM.out hn1 (T := fun k => k = Q) (by repeat (first | (with_reducible exact But.refl _ _) | (with_reducible refine But.here ?_ _ _) | (with_reducible refine But.drew ?_) | (with_reducible refine But.drewN ?_ _))) (fun h => hQ (Or.inl h.symm)) (fun h => hQ (Or.inr h.symm))
  · have gg := GG.out
    repeat (first | (with_reducible exact gg) | (with_reducible refine But.drew ?_) | (with_reducible refine But.drewN ?_ _) | ((with_reducible refine But.setCell ?_ (Or.inl (Or.inl rfl)) _)))
set_option maxHeartbeats 2000000 in
theorem rreads_9 (Q M B n : Nat) (s : St) (w : World) (f : ∀ i, w.frozen? ⟨Q, i, none⟩ = false) (hm : RefIs w M B n s) (h0 : 0 ≤ s.cnt) (h1 : s.cnt ≤ 1000000) (hn : n ≤ 4096) (hn1 : 1 ≤ n) (hQ : ¬ (Q = M ∨ Q = B)) (H T K N v t u b : Int) (n1 : 1 ≤ N) (n2 : N ≤ 4096) (k0 : 0 ≤ K) (k1 : K ≤ 10000) (t0 : 0 ≤ t) (t1 : t < 18446744073709551616) (wd : 0 ≤ wordAt n s (K + t % N) ∧ wordAt n s (K + t % N) < 18446744073709551616) (hz : (wlap (wordAt n s (K + t % N)) == t / N % 4294967296 && !full (wordAt n s (K + t % N))) = false ∧ (wlap (wordAt n s (K + t % N)) == (t / N % 4294967296 + 4294967296 - 1) % 4294967296 && full (wordAt n s (K + t % N))) = true) (c0 : w.cell? ⟨Q, 0, none⟩ = some (.int .i64 H)) (c1 : w.cell? ⟨Q, 1, none⟩ = some (.int .i64 T)) (c2 : w.cell? ⟨Q, 2, none⟩ = some (.int .i64 K)) (c3 : w.cell? ⟨Q, 3, none⟩ = some (.int .i64 N)) (c4 : w.cell? ⟨Q, 4, none⟩ = some (.int .i64 v)) (c5 : w.cell? ⟨Q, 5, none⟩ = some (.int .i64 2)) (c6 : w.cell? ⟨Q, 6, none⟩ = some (.int .u64 t)) (c7 : w.cell? ⟨Q, 7, none⟩ = some (.int .u64 u)) (c8 : w.cell? ⟨Q, 8, none⟩ = some (.int .i64 b)) :
    Calls Tryz.prog 219 #[.pointer (some ⟨Q, 0, none⟩), .pointer (some ⟨M, 0, none⟩)] w
      fun e w' => e = .returned (.tuple #[]) ∧ DPushC w' Q (H) (T) (K) (N) (v) (9) (t) (wordAt n s (K + t % N)) (7) ∧ (∀ i, w'.frozen? ⟨Q, i, none⟩ = false) ∧ RefIs w' M B n (acc n s 1 (K + t % N) false 0) ∧ But (fun k => k = Q ∨ k = M ∨ k = B) w w' := by
  have hP := lt_of_cell c0
  have PL : ∀ W, Hid (Calls Tryz.prog 137 #[.agg #[.int .i64 H, .int .i64 T, .int .i64 K, .int .i64 N], .int .u64 t] W fun e w' => e = .returned (.int .i64 (K + t % N)) ∧ Kept W w') := fun W => Lib.hid (rplace_any H T K N t W n1 n2 t0 t1 k0 k1)
  have LA : ∀ W, Hid (Calls Tryz.prog 138 #[.agg #[.int .i64 H, .int .i64 T, .int .i64 K, .int .i64 N], .int .u64 t] W fun e w' => e = .returned (.int .u64 (t / N % 4294967296)) ∧ Kept W w') := fun W => Lib.hid (rlap_any H T K N t W n1 n2 t0 t1)
  have W0 := wd.1
  have W1 := wd.2
  have EM : ∀ W, Hid (Calls Tryz.prog 293 #[.int .u64 (wordAt n s (K + t % N)), .int .u64 (t / N % 4294967296)] W fun e w' => e = .returned (.bool false) ∧ Kept W w') := fun W => Lib.hid (by have := rempty_any (wordAt n s (K + t % N)) (t / N % 4294967296) W W0 W1; rwa [hz.1] at this)
  have FU : ∀ W, Hid (Calls Tryz.prog 136 #[.int .u64 (wordAt n s (K + t % N)), .int .u64 ((t / N % 4294967296 + 4294967296 - 1) % 4294967296)] W fun e w' => e = .returned (.bool true) ∧ Kept W w') := fun W => Lib.hid (by have := rfull_any (wordAt n s (K + t % N)) ((t / N % 4294967296 + 4294967296 - 1) % 4294967296) W W0 W1; rwa [hz.2] at this)
  have PL0 : 0 ≤ t / N % 4294967296 := by omega
  have PL1 : t / N % 4294967296 < 4294967296 := by omega
  have hS : ∀ W, RefIs W M B n s → Hid (Calls Tryz.prog 176 #[.pointer (some ⟨M, 0, none⟩), .int .i64 (K + t % N)] W fun e w' => e = .returned (.int .u64 (wordAt n s (K + t % N))) ∧ RefIs w' M B n (acc n s 1 (K + t % N) false 0) ∧ But (fun k => k = M ∨ k = B) W w') := fun W m => Lib.hid (r_load M B n s (K + t % N) W m h0 h1 hn)
  obtain ⟨sN, hsN⟩ : ∃ sN, sN = acc n s 1 (K + t % N) false 0 := ⟨_, rfl⟩
  rw [← hsN]
  rw [← hsN] at hS
  clear hsN
  generalize wordAt n s (K + t % N) = q at *
  generalize K + t % N = pl at *
  generalize t / N % 4294967296 = lp at *
  clear hz wd
  go_enter Tryz.func219, Tryz.ntmps219
  have KT : Kept w w := Kept.refl _
  go_wp2_with fail
  go_region_held3 (fun w' => w'.cell? ⟨Q, 0, none⟩ = some (.int .i64 H) ∧ w'.cell? ⟨Q, 1, none⟩ = some (.int .i64 T) ∧ w'.cell? ⟨Q, 2, none⟩ = some (.int .i64 K) ∧ w'.cell? ⟨Q, 3, none⟩ = some (.int .i64 N) ∧ w'.cell? ⟨Q, 6, none⟩ = some (.int .u64 t)) (first | go_keep | (exact ⟨KT.some c0, KT.some c1, KT.some c2, KT.some c3, KT.some c6⟩) | (refine ⟨?_, ?_, ?_, ?_, ?_⟩ <;> simp [cell_set, e0, e1, e2, e3, e6])) (first
    | (go_at_call 137; refine (PL _).out.mono ?_; rintro e wa ⟨rfl, ka⟩; have KT : Kept w wa := Kept.trans (b := _) (by first | exact KT | exact KT.drew | exact KT.drewN _) ka)
    | (go_at_call 176; refine (hS _ (ref_kept hm hn1 (by first | exact KT | exact KT.drew | exact KT.drewN _))).out.mono ?_; rintro e w1 ⟨rfl, m1, b1⟩; have BT : But (fun k => k = M ∨ k = B) w w1 := (Kept.but (w' := _) (by first | exact KT | exact KT.drew | exact KT.drewN _) _).trans b1 (fun _ _ h => h); have e0 := BT.some c0 hQ; have e1 := BT.some c1 hQ; have e2 := BT.some c2 hQ; have e3 := BT.some c3 hQ; have e6 := BT.some c6 hQ; have e7 := BT.some c7 hQ; have f1 : (∀ i, w1.frozen? ⟨Q, i, none⟩ = false) := (fun i => BT.soft hP (f i)); have hP1 := Nat.lt_of_lt_of_le hP BT.size))
  rename_i hcells
  clear hcells f1 hP1 e7
  have c0 := BT.some c0 hQ
  have c1 := BT.some c1 hQ
  have c2 := BT.some c2 hQ
  have c3 := BT.some c3 hQ
  have c4 := BT.some c4 hQ
  have c5 := BT.some c5 hQ
  have c6 := BT.some c6 hQ
  have c7 := BT.some c7 hQ
  have c8 := BT.some c8 hQ
  have f : ∀ i, w1.frozen? ⟨Q, i, none⟩ = false := fun i => BT.soft hP (f i)
  have hP := Nat.lt_of_lt_of_le hP BT.size
  have NM := Lib.hid m1
  have GG : Hid (But (fun k => k = Q ∨ k = M ∨ k = B) w w1) := Lib.hid (BT.mono (fun _ _ h => Or.inr h))
  clear hm m1 b1 BT KT e0 e1 e2 e3 e6
  obtain ⟨wb, hwb⟩ : ∃ wb, wb = w1.setCell ⟨Q, 7, none⟩ (.int .u64 q) := ⟨_, rfl⟩
  have d0 : wb.cell? ⟨Q, 0, none⟩ = some (.int .i64 H) := by rw [hwb]; simp [cell_set, c0]
  have d1 : wb.cell? ⟨Q, 1, none⟩ = some (.int .i64 T) := by rw [hwb]; simp [cell_set, c1]
  have d2 : wb.cell? ⟨Q, 2, none⟩ = some (.int .i64 K) := by rw [hwb]; simp [cell_set, c2]
  have d3 : wb.cell? ⟨Q, 3, none⟩ = some (.int .i64 N) := by rw [hwb]; simp [cell_set, c3]
  have d4 : wb.cell? ⟨Q, 4, none⟩ = some (.int .i64 v) := by rw [hwb]; simp [cell_set, c4]
  have d5 : wb.cell? ⟨Q, 5, none⟩ = some (.int .i64 2) := by rw [hwb]; simp [cell_set, c5]
  have d6 : wb.cell? ⟨Q, 6, none⟩ = some (.int .u64 t) := by rw [hwb]; simp [cell_set, c6]
  have d7 : wb.cell? ⟨Q, 7, none⟩ = some (.int .u64 q) := by rw [hwb]; simp [cell_set, c7]
  have d8 : wb.cell? ⟨Q, 8, none⟩ = some (.int .i64 b) := by rw [hwb]; simp [cell_set, c8]
  have fd : ∀ i, wb.frozen? ⟨Q, i, none⟩ = false := fun i => by rw [hwb]; simp [f]
  have b2 : But (fun k => k = Q) w1 wb := by rw [hwb]; exact (But.refl _ w1).here _ _
  have NM2 := Lib.hid (ref_frame NM.out hn1 b2 (fun h => hQ (Or.inl h.symm)) (fun h => hQ (Or.inr h.symm)))
  have GG2 := Lib.hid (GG.out.trans b2 (fun _ _ h => Or.inl h))
  have KT : Kept wb wb := Kept.refl _
  clear b2 NM GG
  go_wp2_with fail
  rw [← hwb]
  clear hwb c0 c1 c2 c3 c4 c5 c6 c7 c8 f hP
  have hP : Q < wb.heap.size := lt_of_cell d0
  go_region_held3 (fun w' => w'.cell? ⟨Q, 0, none⟩ = some (.int .i64 H) ∧ w'.cell? ⟨Q, 1, none⟩ = some (.int .i64 T) ∧ w'.cell? ⟨Q, 2, none⟩ = some (.int .i64 K) ∧ w'.cell? ⟨Q, 3, none⟩ = some (.int .i64 N) ∧ w'.cell? ⟨Q, 6, none⟩ = some (.int .u64 t)) (first | go_keep | (exact ⟨KT.some d0, KT.some d1, KT.some d2, KT.some d3, KT.some d6⟩)) (first
    | (go_at_call 138; refine (LA _).out.mono ?_; rintro e w2 ⟨rfl, k2⟩; have KT : Kept wb w2 := Kept.trans (b := _) (by first | exact KT | exact KT.drew | exact KT.drewN _) k2))
  have c0 := KT.some d0
  have c1 := KT.some d1
  have c2 := KT.some d2
  have c3 := KT.some d3
  have c4 := KT.some d4
  have c5 := KT.some d5
  have c6 := KT.some d6
  have c7 := KT.some d7
  have c8 := KT.some d8
  have f : ∀ i, w2.frozen? ⟨Q, i, none⟩ = false := fun i => KT.soft hP (fd i)
  have hP := lt_of_cell c0
  have NM := Lib.hid (ref_kept NM2.out hn1 KT)
  have GG := Lib.hid (GG2.out.then KT)
  clear KT NM2 GG2 d0 d1 d2 d3 d4 d5 d6 d7 d8 fd
  clear k2
  go_wp2_with fail
  refine (EM _).out.mono ?_
  rintro e w3 ⟨rfl, k3⟩
  have c0 := k3.some c0
  have c1 := k3.some c1
  have c2 := k3.some c2
  have c3 := k3.some c3
  have c4 := k3.some c4
  have c5 := k3.some c5
  have c6 := k3.some c6
  have c7 := k3.some c7
  have c8 := k3.some c8
  have f : ∀ i, w3.frozen? ⟨Q, i, none⟩ = false := fun i => k3.soft hP (f i)
  have hP := Nat.lt_of_lt_of_le hP k3.size
  have NM := Lib.hid (ref_kept NM.out hn1 k3)
  have GG := Lib.hid (GG.out.then k3)
  clear k3
  go_wp2_with fail
  refine (FU _).out.mono ?_
  rintro e w4 ⟨rfl, k4⟩
  have c0 := k4.some c0
  have c1 := k4.some c1
  have c2 := k4.some c2
  have c3 := k4.some c3
  have c4 := k4.some c4
  have c5 := k4.some c5
  have c6 := k4.some c6
  have c7 := k4.some c7
  have c8 := k4.some c8
  have f : ∀ i, w4.frozen? ⟨Q, i, none⟩ = false := fun i => k4.soft hP (f i)
  have hP := Nat.lt_of_lt_of_le hP k4.size
  have NM := Lib.hid (ref_kept NM.out hn1 k4)
  have GG := Lib.hid (GG.out.then k4)
  clear k4
  go_wp2
  go_end0
  go_light
  refine ⟨rfl, ?_, fun i => ?_, ?_, ?_⟩
  · simp [DPushC, cell_set, *]
  · simp [*]
  · exact ref_frame NM.out hn1 (T := fun k => k = Q) (by repeat (first | (with_reducible exact But.refl _ _) | (with_reducible refine But.here ?_ _ _) | (with_reducible refine But.drew ?_) | (with_reducible refine But.drewN ?_ _))) (fun h => hQ (Or.inl h.symm)) (fun h => hQ (Or.inr h.symm))
  · have gg := GG.out
    repeat (first | (with_reducible exact gg) | (with_reducible refine But.drew ?_) | (with_reducible refine But.drewN ?_ _) | ((with_reducible refine But.setCell ?_ (Or.inl (Or.inl rfl)) _)))
set_option maxHeartbeats 2000000 in
theorem rreads_5 (Q M B n : Nat) (s : St) (w : World) (f : ∀ i, w.frozen? ⟨Q, i, none⟩ = false) (hm : RefIs w M B n s) (h0 : 0 ≤ s.cnt) (h1 : s.cnt ≤ 1000000) (hn : n ≤ 4096) (hn1 : 1 ≤ n) (hQ : ¬ (Q = M ∨ Q = B)) (H T K N v t u b : Int) (n1 : 1 ≤ N) (n2 : N ≤ 4096) (k0 : 0 ≤ K) (k1 : K ≤ 10000) (t0 : 0 ≤ t) (t1 : t < 18446744073709551616) (wd : 0 ≤ wordAt n s (K + t % N) ∧ wordAt n s (K + t % N) < 18446744073709551616) (hz : (wlap (wordAt n s (K + t % N)) == t / N % 4294967296 && !full (wordAt n s (K + t % N))) = false ∧ (wlap (wordAt n s (K + t % N)) == (t / N % 4294967296 + 4294967296 - 1) % 4294967296 && full (wordAt n s (K + t % N))) = false) (c0 : w.cell? ⟨Q, 0, none⟩ = some (.int .i64 H)) (c1 : w.cell? ⟨Q, 1, none⟩ = some (.int .i64 T)) (c2 : w.cell? ⟨Q, 2, none⟩ = some (.int .i64 K)) (c3 : w.cell? ⟨Q, 3, none⟩ = some (.int .i64 N)) (c4 : w.cell? ⟨Q, 4, none⟩ = some (.int .i64 v)) (c5 : w.cell? ⟨Q, 5, none⟩ = some (.int .i64 2)) (c6 : w.cell? ⟨Q, 6, none⟩ = some (.int .u64 t)) (c7 : w.cell? ⟨Q, 7, none⟩ = some (.int .u64 u)) (c8 : w.cell? ⟨Q, 8, none⟩ = some (.int .i64 b)) :
    Calls Tryz.prog 219 #[.pointer (some ⟨Q, 0, none⟩), .pointer (some ⟨M, 0, none⟩)] w
      fun e w' => e = .returned (.tuple #[]) ∧ DPushC w' Q (H) (T) (K) (N) (v) (5) (t) (wordAt n s (K + t % N)) (b) ∧ (∀ i, w'.frozen? ⟨Q, i, none⟩ = false) ∧ RefIs w' M B n (acc n s 1 (K + t % N) false 0) ∧ But (fun k => k = Q ∨ k = M ∨ k = B) w w' := by
  have hP := lt_of_cell c0
  have PL : ∀ W, Hid (Calls Tryz.prog 137 #[.agg #[.int .i64 H, .int .i64 T, .int .i64 K, .int .i64 N], .int .u64 t] W fun e w' => e = .returned (.int .i64 (K + t % N)) ∧ Kept W w') := fun W => Lib.hid (rplace_any H T K N t W n1 n2 t0 t1 k0 k1)
  have LA : ∀ W, Hid (Calls Tryz.prog 138 #[.agg #[.int .i64 H, .int .i64 T, .int .i64 K, .int .i64 N], .int .u64 t] W fun e w' => e = .returned (.int .u64 (t / N % 4294967296)) ∧ Kept W w') := fun W => Lib.hid (rlap_any H T K N t W n1 n2 t0 t1)
  have W0 := wd.1
  have W1 := wd.2
  have EM : ∀ W, Hid (Calls Tryz.prog 293 #[.int .u64 (wordAt n s (K + t % N)), .int .u64 (t / N % 4294967296)] W fun e w' => e = .returned (.bool false) ∧ Kept W w') := fun W => Lib.hid (by have := rempty_any (wordAt n s (K + t % N)) (t / N % 4294967296) W W0 W1; rwa [hz.1] at this)
  have FU : ∀ W, Hid (Calls Tryz.prog 136 #[.int .u64 (wordAt n s (K + t % N)), .int .u64 ((t / N % 4294967296 + 4294967296 - 1) % 4294967296)] W fun e w' => e = .returned (.bool false) ∧ Kept W w') := fun W => Lib.hid (by have := rfull_any (wordAt n s (K + t % N)) ((t / N % 4294967296 + 4294967296 - 1) % 4294967296) W W0 W1; rwa [hz.2] at this)
  have PL0 : 0 ≤ t / N % 4294967296 := by omega
  have PL1 : t / N % 4294967296 < 4294967296 := by omega
  have hS : ∀ W, RefIs W M B n s → Hid (Calls Tryz.prog 176 #[.pointer (some ⟨M, 0, none⟩), .int .i64 (K + t % N)] W fun e w' => e = .returned (.int .u64 (wordAt n s (K + t % N))) ∧ RefIs w' M B n (acc n s 1 (K + t % N) false 0) ∧ But (fun k => k = M ∨ k = B) W w') := fun W m => Lib.hid (r_load M B n s (K + t % N) W m h0 h1 hn)
  obtain ⟨sN, hsN⟩ : ∃ sN, sN = acc n s 1 (K + t % N) false 0 := ⟨_, rfl⟩
  rw [← hsN]
  rw [← hsN] at hS
  clear hsN
  generalize wordAt n s (K + t % N) = q at *
  generalize K + t % N = pl at *
  generalize t / N % 4294967296 = lp at *
  clear hz wd
  go_enter Tryz.func219, Tryz.ntmps219
  have KT : Kept w w := Kept.refl _
  go_wp2_with fail
  go_region_held3 (fun w' => w'.cell? ⟨Q, 0, none⟩ = some (.int .i64 H) ∧ w'.cell? ⟨Q, 1, none⟩ = some (.int .i64 T) ∧ w'.cell? ⟨Q, 2, none⟩ = some (.int .i64 K) ∧ w'.cell? ⟨Q, 3, none⟩ = some (.int .i64 N) ∧ w'.cell? ⟨Q, 6, none⟩ = some (.int .u64 t)) (first | go_keep | (exact ⟨KT.some c0, KT.some c1, KT.some c2, KT.some c3, KT.some c6⟩) | (refine ⟨?_, ?_, ?_, ?_, ?_⟩ <;> simp [cell_set, e0, e1, e2, e3, e6])) (first
    | (go_at_call 137; refine (PL _).out.mono ?_; rintro e wa ⟨rfl, ka⟩; have KT : Kept w wa := Kept.trans (b := _) (by first | exact KT | exact KT.drew | exact KT.drewN _) ka)
    | (go_at_call 176; refine (hS _ (ref_kept hm hn1 (by first | exact KT | exact KT.drew | exact KT.drewN _))).out.mono ?_; rintro e w1 ⟨rfl, m1, b1⟩; have BT : But (fun k => k = M ∨ k = B) w w1 := (Kept.but (w' := _) (by first | exact KT | exact KT.drew | exact KT.drewN _) _).trans b1 (fun _ _ h => h); have e0 := BT.some c0 hQ; have e1 := BT.some c1 hQ; have e2 := BT.some c2 hQ; have e3 := BT.some c3 hQ; have e6 := BT.some c6 hQ; have e7 := BT.some c7 hQ; have f1 : (∀ i, w1.frozen? ⟨Q, i, none⟩ = false) := (fun i => BT.soft hP (f i)); have hP1 := Nat.lt_of_lt_of_le hP BT.size))
  rename_i hcells
  clear hcells f1 hP1 e7
  have c0 := BT.some c0 hQ
  have c1 := BT.some c1 hQ
  have c2 := BT.some c2 hQ
  have c3 := BT.some c3 hQ
  have c4 := BT.some c4 hQ
  have c5 := BT.some c5 hQ
  have c6 := BT.some c6 hQ
  have c7 := BT.some c7 hQ
  have c8 := BT.some c8 hQ
  have f : ∀ i, w1.frozen? ⟨Q, i, none⟩ = false := fun i => BT.soft hP (f i)
  have hP := Nat.lt_of_lt_of_le hP BT.size
  have NM := Lib.hid m1
  have GG : Hid (But (fun k => k = Q ∨ k = M ∨ k = B) w w1) := Lib.hid (BT.mono (fun _ _ h => Or.inr h))
  clear hm m1 b1 BT KT e0 e1 e2 e3 e6
  obtain ⟨wb, hwb⟩ : ∃ wb, wb = w1.setCell ⟨Q, 7, none⟩ (.int .u64 q) := ⟨_, rfl⟩
  have d0 : wb.cell? ⟨Q, 0, none⟩ = some (.int .i64 H) := by rw [hwb]; simp [cell_set, c0]
  have d1 : wb.cell? ⟨Q, 1, none⟩ = some (.int .i64 T) := by rw [hwb]; simp [cell_set, c1]
  have d2 : wb.cell? ⟨Q, 2, none⟩ = some (.int .i64 K) := by rw [hwb]; simp [cell_set, c2]
  have d3 : wb.cell? ⟨Q, 3, none⟩ = some (.int .i64 N) := by rw [hwb]; simp [cell_set, c3]
  have d4 : wb.cell? ⟨Q, 4, none⟩ = some (.int .i64 v) := by rw [hwb]; simp [cell_set, c4]
  have d5 : wb.cell? ⟨Q, 5, none⟩ = some (.int .i64 2) := by rw [hwb]; simp [cell_set, c5]
  have d6 : wb.cell? ⟨Q, 6, none⟩ = some (.int .u64 t) := by rw [hwb]; simp [cell_set, c6]
  have d7 : wb.cell? ⟨Q, 7, none⟩ = some (.int .u64 q) := by rw [hwb]; simp [cell_set, c7]
  have d8 : wb.cell? ⟨Q, 8, none⟩ = some (.int .i64 b) := by rw [hwb]; simp [cell_set, c8]
  have fd : ∀ i, wb.frozen? ⟨Q, i, none⟩ = false := fun i => by rw [hwb]; simp [f]
  have b2 : But (fun k => k = Q) w1 wb := by rw [hwb]; exact (But.refl _ w1).here _ _
  have NM2 := Lib.hid (ref_frame NM.out hn1 b2 (fun h => hQ (Or.inl h.symm)) (fun h => hQ (Or.inr h.symm)))
  have GG2 := Lib.hid (GG.out.trans b2 (fun _ _ h => Or.inl h))
  have KT : Kept wb wb := Kept.refl _
  clear b2 NM GG
  go_wp2_with fail
  rw [← hwb]
  clear hwb c0 c1 c2 c3 c4 c5 c6 c7 c8 f hP
  have hP : Q < wb.heap.size := lt_of_cell d0
  go_region_held3 (fun w' => w'.cell? ⟨Q, 0, none⟩ = some (.int .i64 H) ∧ w'.cell? ⟨Q, 1, none⟩ = some (.int .i64 T) ∧ w'.cell? ⟨Q, 2, none⟩ = some (.int .i64 K) ∧ w'.cell? ⟨Q, 3, none⟩ = some (.int .i64 N) ∧ w'.cell? ⟨Q, 6, none⟩ = some (.int .u64 t)) (first | go_keep | (exact ⟨KT.some d0, KT.some d1, KT.some d2, KT.some d3, KT.some d6⟩)) (first
    | (go_at_call 138; refine (LA _).out.mono ?_; rintro e w2 ⟨rfl, k2⟩; have KT : Kept wb w2 := Kept.trans (b := _) (by first | exact KT | exact KT.drew | exact KT.drewN _) k2))
  have c0 := KT.some d0
  have c1 := KT.some d1
  have c2 := KT.some d2
  have c3 := KT.some d3
  have c4 := KT.some d4
  have c5 := KT.some d5
  have c6 := KT.some d6
  have c7 := KT.some d7
  have c8 := KT.some d8
  have f : ∀ i, w2.frozen? ⟨Q, i, none⟩ = false := fun i => KT.soft hP (fd i)
  have hP := lt_of_cell c0
  have NM := Lib.hid (ref_kept NM2.out hn1 KT)
  have GG := Lib.hid (GG2.out.then KT)
  clear KT NM2 GG2 d0 d1 d2 d3 d4 d5 d6 d7 d8 fd
  clear k2
  go_wp2_with fail
  refine (EM _).out.mono ?_
  rintro e w3 ⟨rfl, k3⟩
  have c0 := k3.some c0
  have c1 := k3.some c1
  have c2 := k3.some c2
  have c3 := k3.some c3
  have c4 := k3.some c4
  have c5 := k3.some c5
  have c6 := k3.some c6
  have c7 := k3.some c7
  have c8 := k3.some c8
  have f : ∀ i, w3.frozen? ⟨Q, i, none⟩ = false := fun i => k3.soft hP (f i)
  have hP := Nat.lt_of_lt_of_le hP k3.size
  have NM := Lib.hid (ref_kept NM.out hn1 k3)
  have GG := Lib.hid (GG.out.then k3)
  clear k3
  go_wp2_with fail
  refine (FU _).out.mono ?_
  rintro e w4 ⟨rfl, k4⟩
  have c0 := k4.some c0
  have c1 := k4.some c1
  have c2 := k4.some c2
  have c3 := k4.some c3
  have c4 := k4.some c4
  have c5 := k4.some c5
  have c6 := k4.some c6
  have c7 := k4.some c7
  have c8 := k4.some c8
  have f : ∀ i, w4.frozen? ⟨Q, i, none⟩ = false := fun i => k4.soft hP (f i)
  have hP := Nat.lt_of_lt_of_le hP k4.size
  have NM := Lib.hid (ref_kept NM.out hn1 k4)
  have GG := Lib.hid (GG.out.then k4)
  clear k4
  go_wp2
  go_end0
  go_light
  refine ⟨rfl, ?_, fun i => ?_, ?_, ?_⟩
  · simp [DPushC, cell_set, *]
  · simp [*]
  · exact ref_frame NM.out hn1 (T := fun k => k = Q) (by repeat (first | (with_reducible exact But.refl _ _) | (with_reducible refine But.here ?_ _ _) | (with_reducible refine But.drew ?_) | (with_reducible refine But.drewN ?_ _))) (fun h => hQ (Or.inl h.symm)) (fun h => hQ (Or.inr h.symm))
  · have gg := GG.out
    repeat (first | (with_reducible exact gg) | (with_reducible refine But.drew ?_) | (with_reducible refine But.drewN ?_ _) | ((with_reducible refine But.setCell ?_ (Or.inl (Or.inl rfl)) _)))
set_option maxHeartbeats 2000000 in
theorem rPush_2_3 (Q M B n : Nat) (s : St) (w : World) (f : ∀ i, w.frozen? ⟨Q, i, none⟩ = false) (hm : RefIs w M B n s) (h0 : 0 ≤ s.cnt) (h1 : s.cnt ≤ 1000000) (hn : n ≤ 4096) (hn1 : 1 ≤ n) (hQ : ¬ (Q = M ∨ Q = B)) (H T K N v t u b : Int) (n1 : 1 ≤ N) (n2 : N ≤ 4096) (k0 : 0 ≤ K) (k1 : K ≤ 10000) (t0 : 0 ≤ t) (t1 : t < 18446744073709551616) (wd : 0 ≤ wordAt n s (K + t % N) ∧ wordAt n s (K + t % N) < 18446744073709551616) (hz : (wlap (wordAt n s (K + t % N)) == t / N % 4294967296 && !full (wordAt n s (K + t % N))) = true) (c0 : w.cell? ⟨Q, 0, none⟩ = some (.int .i64 H)) (c1 : w.cell? ⟨Q, 1, none⟩ = some (.int .i64 T)) (c2 : w.cell? ⟨Q, 2, none⟩ = some (.int .i64 K)) (c3 : w.cell? ⟨Q, 3, none⟩ = some (.int .i64 N)) (c4 : w.cell? ⟨Q, 4, none⟩ = some (.int .i64 v)) (c5 : w.cell? ⟨Q, 5, none⟩ = some (.int .i64 2)) (c6 : w.cell? ⟨Q, 6, none⟩ = some (.int .u64 t)) (c7 : w.cell? ⟨Q, 7, none⟩ = some (.int .u64 u)) (c8 : w.cell? ⟨Q, 8, none⟩ = some (.int .i64 b)) :
    Calls Tryz.prog 118 #[.pointer (some ⟨Q, 0, none⟩), .pointer (some ⟨M, 0, none⟩)] w
      fun e w' => e = .returned (.bool false) ∧ DPushC w' Q (H) (T) (K) (N) (v) (3) (t) (wordAt n s (K + t % N)) (b) ∧ (∀ i, w'.frozen? ⟨Q, i, none⟩ = false) ∧ RefIs w' M B n (acc n s 1 (K + t % N) false 0) ∧ But (fun k => k = Q ∨ k = M ∨ k = B) w w' := by
  have hP := lt_of_cell c0
  have RD := Lib.hid (rreads_3 Q M B n s w f hm h0 h1 hn hn1 hQ H T K N v t u b n1 n2 k0 k1 t0 t1 wd hz c0 c1 c2 c3 c4 c5 c6 c7 c8)
  generalize wordAt n s (K + t % N) = q at *
  obtain ⟨sN, hsN⟩ : ∃ sN, sN = acc n s 1 (K + t % N) false 0 := ⟨_, rfl⟩
  rw [← hsN] at RD ⊢
  clear hsN hz wd hm
  go_enter Tryz.func118, Tryz.ntmps118
  go_wp2_with fail
  refine RD.out.mono ?_
  rintro e w1 ⟨rfl, d1, f1, m1, b1⟩
  have D1 := Lib.hid d1
  have F1 := Lib.hid f1
  have M1 := Lib.hid m1
  have B1 := Lib.hid b1
  have c5 := d1.2.2.2.2.2.1
  clear d1 f1 m1 b1
  go_wp2
  go_ret
  exact ⟨rfl, D1.out, F1.out, M1.out, B1.out⟩
set_option maxHeartbeats 2000000 in
theorem rPush_2_9 (Q M B n : Nat) (s : St) (w : World) (f : ∀ i, w.frozen? ⟨Q, i, none⟩ = false) (hm : RefIs w M B n s) (h0 : 0 ≤ s.cnt) (h1 : s.cnt ≤ 1000000) (hn : n ≤ 4096) (hn1 : 1 ≤ n) (hQ : ¬ (Q = M ∨ Q = B)) (H T K N v t u b : Int) (n1 : 1 ≤ N) (n2 : N ≤ 4096) (k0 : 0 ≤ K) (k1 : K ≤ 10000) (t0 : 0 ≤ t) (t1 : t < 18446744073709551616) (wd : 0 ≤ wordAt n s (K + t % N) ∧ wordAt n s (K + t % N) < 18446744073709551616) (hz : (wlap (wordAt n s (K + t % N)) == t / N % 4294967296 && !full (wordAt n s (K + t % N))) = false ∧ (wlap (wordAt n s (K + t % N)) == (t / N % 4294967296 + 4294967296 - 1) % 4294967296 && full (wordAt n s (K + t % N))) = true) (c0 : w.cell? ⟨Q, 0, none⟩ = some (.int .i64 H)) (c1 : w.cell? ⟨Q, 1, none⟩ = some (.int .i64 T)) (c2 : w.cell? ⟨Q, 2, none⟩ = some (.int .i64 K)) (c3 : w.cell? ⟨Q, 3, none⟩ = some (.int .i64 N)) (c4 : w.cell? ⟨Q, 4, none⟩ = some (.int .i64 v)) (c5 : w.cell? ⟨Q, 5, none⟩ = some (.int .i64 2)) (c6 : w.cell? ⟨Q, 6, none⟩ = some (.int .u64 t)) (c7 : w.cell? ⟨Q, 7, none⟩ = some (.int .u64 u)) (c8 : w.cell? ⟨Q, 8, none⟩ = some (.int .i64 b)) :
    Calls Tryz.prog 118 #[.pointer (some ⟨Q, 0, none⟩), .pointer (some ⟨M, 0, none⟩)] w
      fun e w' => e = .returned (.bool true) ∧ DPushC w' Q (H) (T) (K) (N) (v) (9) (t) (wordAt n s (K + t % N)) (7) ∧ (∀ i, w'.frozen? ⟨Q, i, none⟩ = false) ∧ RefIs w' M B n (acc n s 1 (K + t % N) false 0) ∧ But (fun k => k = Q ∨ k = M ∨ k = B) w w' := by
  have hP := lt_of_cell c0
  have RD := Lib.hid (rreads_9 Q M B n s w f hm h0 h1 hn hn1 hQ H T K N v t u b n1 n2 k0 k1 t0 t1 wd hz c0 c1 c2 c3 c4 c5 c6 c7 c8)
  generalize wordAt n s (K + t % N) = q at *
  obtain ⟨sN, hsN⟩ : ∃ sN, sN = acc n s 1 (K + t % N) false 0 := ⟨_, rfl⟩
  rw [← hsN] at RD ⊢
  clear hsN hz wd hm
  go_enter Tryz.func118, Tryz.ntmps118
  go_wp2_with fail
  refine RD.out.mono ?_
  rintro e w1 ⟨rfl, d1, f1, m1, b1⟩
  have D1 := Lib.hid d1
  have F1 := Lib.hid f1
  have M1 := Lib.hid m1
  have B1 := Lib.hid b1
  have c5 := d1.2.2.2.2.2.1
  clear d1 f1 m1 b1
  go_wp2
  go_ret
  exact ⟨rfl, D1.out, F1.out, M1.out, B1.out⟩
set_option maxHeartbeats 2000000 in
theorem rPush_2_5 (Q M B n : Nat) (s : St) (w : World) (f : ∀ i, w.frozen? ⟨Q, i, none⟩ = false) (hm : RefIs w M B n s) (h0 : 0 ≤ s.cnt) (h1 : s.cnt ≤ 1000000) (hn : n ≤ 4096) (hn1 : 1 ≤ n) (hQ : ¬ (Q = M ∨ Q = B)) (H T K N v t u b : Int) (n1 : 1 ≤ N) (n2 : N ≤ 4096) (k0 : 0 ≤ K) (k1 : K ≤ 10000) (t0 : 0 ≤ t) (t1 : t < 18446744073709551616) (wd : 0 ≤ wordAt n s (K + t % N) ∧ wordAt n s (K + t % N) < 18446744073709551616) (hz : (wlap (wordAt n s (K + t % N)) == t / N % 4294967296 && !full (wordAt n s (K + t % N))) = false ∧ (wlap (wordAt n s (K + t % N)) == (t / N % 4294967296 + 4294967296 - 1) % 4294967296 && full (wordAt n s (K + t % N))) = false) (c0 : w.cell? ⟨Q, 0, none⟩ = some (.int .i64 H)) (c1 : w.cell? ⟨Q, 1, none⟩ = some (.int .i64 T)) (c2 : w.cell? ⟨Q, 2, none⟩ = some (.int .i64 K)) (c3 : w.cell? ⟨Q, 3, none⟩ = some (.int .i64 N)) (c4 : w.cell? ⟨Q, 4, none⟩ = some (.int .i64 v)) (c5 : w.cell? ⟨Q, 5, none⟩ = some (.int .i64 2)) (c6 : w.cell? ⟨Q, 6, none⟩ = some (.int .u64 t)) (c7 : w.cell? ⟨Q, 7, none⟩ = some (.int .u64 u)) (c8 : w.cell? ⟨Q, 8, none⟩ = some (.int .i64 b)) :
    Calls Tryz.prog 118 #[.pointer (some ⟨Q, 0, none⟩), .pointer (some ⟨M, 0, none⟩)] w
      fun e w' => e = .returned (.bool false) ∧ DPushC w' Q (H) (T) (K) (N) (v) (5) (t) (wordAt n s (K + t % N)) (b) ∧ (∀ i, w'.frozen? ⟨Q, i, none⟩ = false) ∧ RefIs w' M B n (acc n s 1 (K + t % N) false 0) ∧ But (fun k => k = Q ∨ k = M ∨ k = B) w w' := by
  have hP := lt_of_cell c0
  have RD := Lib.hid (rreads_5 Q M B n s w f hm h0 h1 hn hn1 hQ H T K N v t u b n1 n2 k0 k1 t0 t1 wd hz c0 c1 c2 c3 c4 c5 c6 c7 c8)
  generalize wordAt n s (K + t % N) = q at *
  obtain ⟨sN, hsN⟩ : ∃ sN, sN = acc n s 1 (K + t % N) false 0 := ⟨_, rfl⟩
  rw [← hsN] at RD ⊢
  clear hsN hz wd hm
  go_enter Tryz.func118, Tryz.ntmps118
  go_wp2_with fail
  refine RD.out.mono ?_
  rintro e w1 ⟨rfl, d1, f1, m1, b1⟩
  have D1 := Lib.hid d1
  have F1 := Lib.hid f1
  have M1 := Lib.hid m1
  have B1 := Lib.hid b1
  have c5 := d1.2.2.2.2.2.1
  clear d1 f1 m1 b1
  go_wp2
  go_ret
  exact ⟨rfl, D1.out, F1.out, M1.out, B1.out⟩
theorem or_slot (l v : Int) (l0 : 0 ≤ l) (l1 : l ≤ 4294967295) (v0 : 0 ≤ v) (v1 : v ≤ 65535) : bits .or .u64 (bits .or .u64 (l * 4294967296) 65536) v = l * 4294967296 + 65536 + v := by
  have e1 : bits .or .u64 (l * 4294967296) 65536 = l * 4294967296 + 65536 := Wo.or_down 32 65536 (l * 4294967296) (by decide) (by decide) (by decide) (by omega) (by omega) (by omega)
  rw [e1]
  exact Wo.or_down 16 v (l * 4294967296 + 65536) v0 (by omega) (by omega) (by omega) (by omega) (by omega)
set_option maxHeartbeats 2000000 in
theorem rPush_3_4 (Q M B n : Nat) (s : St) (w : World) (f : ∀ i, w.frozen? ⟨Q, i, none⟩ = false) (hm : RefIs w M B n s) (h0 : 0 ≤ s.cnt) (h1 : s.cnt ≤ 1000000) (hn : n ≤ 4096) (hn1 : 1 ≤ n) (hQ : ¬ (Q = M ∨ Q = B)) (H T K N v t u b : Int) (n1 : 1 ≤ N) (n2 : N ≤ 4096) (k0 : 0 ≤ K) (k1 : K ≤ 10000) (t0 : 0 ≤ t) (t1 : t < 18446744073709551616) (k2 : K + N ≤ n) (v0 : 0 ≤ v) (v1 : v ≤ 65535) (hz : (wordAt n s (K + t % N) == u) = true) (c0 : w.cell? ⟨Q, 0, none⟩ = some (.int .i64 H)) (c1 : w.cell? ⟨Q, 1, none⟩ = some (.int .i64 T)) (c2 : w.cell? ⟨Q, 2, none⟩ = some (.int .i64 K)) (c3 : w.cell? ⟨Q, 3, none⟩ = some (.int .i64 N)) (c4 : w.cell? ⟨Q, 4, none⟩ = some (.int .i64 v)) (c5 : w.cell? ⟨Q, 5, none⟩ = some (.int .i64 3)) (c6 : w.cell? ⟨Q, 6, none⟩ = some (.int .u64 t)) (c7 : w.cell? ⟨Q, 7, none⟩ = some (.int .u64 u)) (c8 : w.cell? ⟨Q, 8, none⟩ = some (.int .i64 b)) :
    Calls Tryz.prog 118 #[.pointer (some ⟨Q, 0, none⟩), .pointer (some ⟨M, 0, none⟩)] w
      fun e w' => e = .returned (.bool false) ∧ DPushC w' Q (H) (T) (K) (N) (v) (4) (t) (u) (b) ∧ (∀ i, w'.frozen? ⟨Q, i, none⟩ = false) ∧ RefIs w' M B n (acc n s 3 (K + t % N) true (t / N % 4294967296 * 4294967296 + 65536 + v)) ∧ But (fun k => k = Q ∨ k = M ∨ k = B) w w' := by
  have hP := lt_of_cell c0
  have PL : ∀ W, Hid (Calls Tryz.prog 137 #[.agg #[.int .i64 H, .int .i64 T, .int .i64 K, .int .i64 N], .int .u64 t] W fun e w' => e = .returned (.int .i64 (K + t % N)) ∧ Kept W w') := fun W => Lib.hid (rplace_any H T K N t W n1 n2 t0 t1 k0 k1)
  have LA : ∀ W, Hid (Calls Tryz.prog 138 #[.agg #[.int .i64 H, .int .i64 T, .int .i64 K, .int .i64 N], .int .u64 t] W fun e w' => e = .returned (.int .u64 (t / N % 4294967296)) ∧ Kept W w') := fun W => Lib.hid (rlap_any H T K N t W n1 n2 t0 t1)
  have l0 : 0 ≤ t / N % 4294967296 := by omega
  have l1 : t / N % 4294967296 ≤ 4294967295 := by omega
  have hj := or_slot (t / N % 4294967296) v l0 l1 v0 v1
  have wv : IntKind.u64.wrap v = v := by rw [IntKind.wrap_u64]; omega
  have wl : IntKind.u64.wrap (t / N % 4294967296 * 4294967296) = t / N % 4294967296 * 4294967296 := by rw [IntKind.wrap_u64]; omega
  have m0 := Int.emod_nonneg t (show N ≠ 0 by omega)
  have m1 := Int.emod_lt_of_pos t (show 0 < N by omega)
  have hS : ∀ W, RefIs W M B n s → Hid (Calls Tryz.prog 220 #[.pointer (some ⟨M, 0, none⟩), .int .i64 (K + t % N), .int .u64 u, .int .u64 (t / N % 4294967296 * 4294967296 + 65536 + v)] W fun e w' => e = .returned (.bool true) ∧ RefIs w' M B n (acc n s 3 (K + t % N) true (t / N % 4294967296 * 4294967296 + 65536 + v)) ∧ But (fun k => k = M ∨ k = B) W w') := fun W m => Lib.hid (by have := r_cas M B n s (K + t % N) u (t / N % 4294967296 * 4294967296 + 65536 + v) W m h0 h1 hn (by omega) (by omega); rwa [hz] at this)
  obtain ⟨sN, hsN⟩ : ∃ sN, sN = acc n s 3 (K + t % N) true (t / N % 4294967296 * 4294967296 + 65536 + v) := ⟨_, rfl⟩
  rw [← hsN]
  rw [← hsN] at hS
  clear hsN
  rw [show t / N % 4294967296 * 4294967296 + 65536 + v = fullW (t / N % 4294967296) v from rfl] at *
  generalize hFF : fullW (t / N % 4294967296) v = FF at *
  clear hFF
  generalize K + t % N = pl at *
  generalize t / N % 4294967296 = lp at *
  clear hz m0 m1
  have a0 := c0
  have a1 := c1
  have a2 := c2
  have a3 := c3
  have a4 := c4
  have a5 := c5
  have a6 := c6
  have a7 := c7
  have a8 := c8
  have fa := f
  have hPa := hP
  obtain ⟨w0, hw0⟩ : ∃ w0, w0 = w.setCell ⟨Q, 5, none⟩ (.int .i64 5) := ⟨_, rfl⟩
  have b0 : But (fun k => k = Q) w w0 := by rw [hw0]; exact (But.refl _ w).here _ _
  have c0 : w0.cell? ⟨Q, 0, none⟩ = some (.int .i64 H) := by rw [hw0]; simp [cell_set, c0]
  have c1 : w0.cell? ⟨Q, 1, none⟩ = some (.int .i64 T) := by rw [hw0]; simp [cell_set, c1]
  have c2 : w0.cell? ⟨Q, 2, none⟩ = some (.int .i64 K) := by rw [hw0]; simp [cell_set, c2]
  have c3 : w0.cell? ⟨Q, 3, none⟩ = some (.int .i64 N) := by rw [hw0]; simp [cell_set, c3]
  have c4 : w0.cell? ⟨Q, 4, none⟩ = some (.int .i64 v) := by rw [hw0]; simp [cell_set, c4]
  have c5 : w0.cell? ⟨Q, 5, none⟩ = some (.int .i64 5) := by rw [hw0]; simp [cell_set, c5]
  have c6 : w0.cell? ⟨Q, 6, none⟩ = some (.int .u64 t) := by rw [hw0]; simp [cell_set, c6]
  have c7 : w0.cell? ⟨Q, 7, none⟩ = some (.int .u64 u) := by rw [hw0]; simp [cell_set, c7]
  have c8 : w0.cell? ⟨Q, 8, none⟩ = some (.int .i64 b) := by rw [hw0]; simp [cell_set, c8]
  have f : ∀ i, w0.frozen? ⟨Q, i, none⟩ = false := fun i => b0.soft hP (f i)
  have NM0 := Lib.hid (ref_frame hm hn1 b0 (fun h => hQ (Or.inl h.symm)) (fun h => hQ (Or.inr h.symm)))
  have B0 := Lib.hid b0
  have hP : Q < w0.heap.size := lt_of_cell c0
  have KT : Kept w0 w0 := Kept.refl _
  clear b0 hm
  go_enter Tryz.func118, Tryz.ntmps118
  go_wp2_with fail
  rw [← hw0]
  clear hw0 a0 a1 a2 a3 a4 a5 a6 a7 a8 fa hPa
  go_region_held3 (fun w' => w'.cell? ⟨Q, 0, none⟩ = some (.int .i64 H) ∧ w'.cell? ⟨Q, 1, none⟩ = some (.int .i64 T) ∧ w'.cell? ⟨Q, 2, none⟩ = some (.int .i64 K) ∧ w'.cell? ⟨Q, 3, none⟩ = some (.int .i64 N) ∧ w'.cell? ⟨Q, 4, none⟩ = some (.int .i64 v) ∧ w'.cell? ⟨Q, 6, none⟩ = some (.int .u64 t) ∧ w'.cell? ⟨Q, 7, none⟩ = some (.int .u64 u)) (first | go_keep | (exact ⟨KT.some c0, KT.some c1, KT.some c2, KT.some c3, KT.some c4, KT.some c6, KT.some c7⟩) | (exact ⟨e0, e1, e2, e3, e4, e6, e7⟩)) (first
    | (go_at_call 137; refine (PL _).out.mono ?_; rintro e w2 ⟨rfl, k2⟩; have KT : Kept w0 w2 := Kept.trans (b := _) (by first | exact KT | exact KT.drew | exact KT.drewN _) k2)
    | (go_at_call 138; refine (LA _).out.mono ?_; rintro e w3 ⟨rfl, k3⟩; have KT : Kept w0 w3 := Kept.trans (b := _) (by first | exact KT | exact KT.drew | exact KT.drewN _) k3)
    | (go_at_call 220; refine (hS _ (ref_kept NM0.out hn1 (by first | exact KT | exact KT.drew | exact KT.drewN _))).out.mono ?_; rintro e w1 ⟨rfl, m1, b1⟩; have BT : But (fun k => k = M ∨ k = B) w0 w1 := (Kept.but (w' := _) (by first | exact KT | exact KT.drew | exact KT.drewN _) _).trans b1 (fun _ _ h => h); have e0 := BT.some c0 hQ; have e1 := BT.some c1 hQ; have e2 := BT.some c2 hQ; have e3 := BT.some c3 hQ; have e4 := BT.some c4 hQ; have e6 := BT.some c6 hQ; have e7 := BT.some c7 hQ))
  rename_i hcells
  clear hcells
  have c0 := BT.some c0 hQ
  have c1 := BT.some c1 hQ
  have c2 := BT.some c2 hQ
  have c3 := BT.some c3 hQ
  have c4 := BT.some c4 hQ
  have c5 := BT.some c5 hQ
  have c6 := BT.some c6 hQ
  have c7 := BT.some c7 hQ
  have c8 := BT.some c8 hQ
  have f : ∀ i, w1.frozen? ⟨Q, i, none⟩ = false := fun i => BT.soft hP (f i)
  have hP := Nat.lt_of_lt_of_le hP BT.size
  have NM := Lib.hid m1
  have GG : Hid (But (fun k => k = Q ∨ k = M ∨ k = B) w w1) := Lib.hid ((B0.out.mono (fun _ _ h => Or.inl h)).trans BT (fun _ _ h => Or.inr h))
  clear m1 b1 BT KT e0 e1 e2 e3 e4 e6 e7
  go_wp2
  go_ret
  go_light
  refine ⟨rfl, ?_, fun i => ?_, ?_, ?_⟩
  · simp [DPushC, cell_set, *]
  · simp [*]
  · exact ref_frame NM.out hn1 (T := fun k => k = Q) (by repeat (first | (with_reducible exact But.refl _ _) | (with_reducible refine But.here ?_ _ _) | (with_reducible refine But.drew ?_) | (with_reducible refine But.drewN ?_ _))) (fun h => hQ (Or.inl h.symm)) (fun h => hQ (Or.inr h.symm))
  · have gg := GG.out
    repeat (first | (with_reducible exact gg) | (with_reducible refine But.drew ?_) | (with_reducible refine But.drewN ?_ _) | ((with_reducible refine But.setCell ?_ (Or.inl (Or.inl rfl)) _)))
set_option maxHeartbeats 2000000 in
theorem rPush_3_5 (Q M B n : Nat) (s : St) (w : World) (f : ∀ i, w.frozen? ⟨Q, i, none⟩ = false) (hm : RefIs w M B n s) (h0 : 0 ≤ s.cnt) (h1 : s.cnt ≤ 1000000) (hn : n ≤ 4096) (hn1 : 1 ≤ n) (hQ : ¬ (Q = M ∨ Q = B)) (H T K N v t u b : Int) (n1 : 1 ≤ N) (n2 : N ≤ 4096) (k0 : 0 ≤ K) (k1 : K ≤ 10000) (t0 : 0 ≤ t) (t1 : t < 18446744073709551616) (k2 : K + N ≤ n) (v0 : 0 ≤ v) (v1 : v ≤ 65535) (hz : (wordAt n s (K + t % N) == u) = false) (c0 : w.cell? ⟨Q, 0, none⟩ = some (.int .i64 H)) (c1 : w.cell? ⟨Q, 1, none⟩ = some (.int .i64 T)) (c2 : w.cell? ⟨Q, 2, none⟩ = some (.int .i64 K)) (c3 : w.cell? ⟨Q, 3, none⟩ = some (.int .i64 N)) (c4 : w.cell? ⟨Q, 4, none⟩ = some (.int .i64 v)) (c5 : w.cell? ⟨Q, 5, none⟩ = some (.int .i64 3)) (c6 : w.cell? ⟨Q, 6, none⟩ = some (.int .u64 t)) (c7 : w.cell? ⟨Q, 7, none⟩ = some (.int .u64 u)) (c8 : w.cell? ⟨Q, 8, none⟩ = some (.int .i64 b)) :
    Calls Tryz.prog 118 #[.pointer (some ⟨Q, 0, none⟩), .pointer (some ⟨M, 0, none⟩)] w
      fun e w' => e = .returned (.bool false) ∧ DPushC w' Q (H) (T) (K) (N) (v) (5) (t) (u) (b) ∧ (∀ i, w'.frozen? ⟨Q, i, none⟩ = false) ∧ RefIs w' M B n (acc n s 3 (K + t % N) false (t / N % 4294967296 * 4294967296 + 65536 + v)) ∧ But (fun k => k = Q ∨ k = M ∨ k = B) w w' := by
  have hP := lt_of_cell c0
  have PL : ∀ W, Hid (Calls Tryz.prog 137 #[.agg #[.int .i64 H, .int .i64 T, .int .i64 K, .int .i64 N], .int .u64 t] W fun e w' => e = .returned (.int .i64 (K + t % N)) ∧ Kept W w') := fun W => Lib.hid (rplace_any H T K N t W n1 n2 t0 t1 k0 k1)
  have LA : ∀ W, Hid (Calls Tryz.prog 138 #[.agg #[.int .i64 H, .int .i64 T, .int .i64 K, .int .i64 N], .int .u64 t] W fun e w' => e = .returned (.int .u64 (t / N % 4294967296)) ∧ Kept W w') := fun W => Lib.hid (rlap_any H T K N t W n1 n2 t0 t1)
  have l0 : 0 ≤ t / N % 4294967296 := by omega
  have l1 : t / N % 4294967296 ≤ 4294967295 := by omega
  have hj := or_slot (t / N % 4294967296) v l0 l1 v0 v1
  have wv : IntKind.u64.wrap v = v := by rw [IntKind.wrap_u64]; omega
  have wl : IntKind.u64.wrap (t / N % 4294967296 * 4294967296) = t / N % 4294967296 * 4294967296 := by rw [IntKind.wrap_u64]; omega
  have m0 := Int.emod_nonneg t (show N ≠ 0 by omega)
  have m1 := Int.emod_lt_of_pos t (show 0 < N by omega)
  have hS : ∀ W, RefIs W M B n s → Hid (Calls Tryz.prog 220 #[.pointer (some ⟨M, 0, none⟩), .int .i64 (K + t % N), .int .u64 u, .int .u64 (t / N % 4294967296 * 4294967296 + 65536 + v)] W fun e w' => e = .returned (.bool false) ∧ RefIs w' M B n (acc n s 3 (K + t % N) false (t / N % 4294967296 * 4294967296 + 65536 + v)) ∧ But (fun k => k = M ∨ k = B) W w') := fun W m => Lib.hid (by have := r_cas M B n s (K + t % N) u (t / N % 4294967296 * 4294967296 + 65536 + v) W m h0 h1 hn (by omega) (by omega); rwa [hz] at this)
  obtain ⟨sN, hsN⟩ : ∃ sN, sN = acc n s 3 (K + t % N) false (t / N % 4294967296 * 4294967296 + 65536 + v) := ⟨_, rfl⟩
  rw [← hsN]
  rw [← hsN] at hS
  clear hsN
  rw [show t / N % 4294967296 * 4294967296 + 65536 + v = fullW (t / N % 4294967296) v from rfl] at *
  generalize hFF : fullW (t / N % 4294967296) v = FF at *
  clear hFF
  generalize K + t % N = pl at *
  generalize t / N % 4294967296 = lp at *
  clear hz m0 m1
  have a0 := c0
  have a1 := c1
  have a2 := c2
  have a3 := c3
  have a4 := c4
  have a5 := c5
  have a6 := c6
  have a7 := c7
  have a8 := c8
  have fa := f
  have hPa := hP
  obtain ⟨w0, hw0⟩ : ∃ w0, w0 = w.setCell ⟨Q, 5, none⟩ (.int .i64 5) := ⟨_, rfl⟩
  have b0 : But (fun k => k = Q) w w0 := by rw [hw0]; exact (But.refl _ w).here _ _
  have c0 : w0.cell? ⟨Q, 0, none⟩ = some (.int .i64 H) := by rw [hw0]; simp [cell_set, c0]
  have c1 : w0.cell? ⟨Q, 1, none⟩ = some (.int .i64 T) := by rw [hw0]; simp [cell_set, c1]
  have c2 : w0.cell? ⟨Q, 2, none⟩ = some (.int .i64 K) := by rw [hw0]; simp [cell_set, c2]
  have c3 : w0.cell? ⟨Q, 3, none⟩ = some (.int .i64 N) := by rw [hw0]; simp [cell_set, c3]
  have c4 : w0.cell? ⟨Q, 4, none⟩ = some (.int .i64 v) := by rw [hw0]; simp [cell_set, c4]
  have c5 : w0.cell? ⟨Q, 5, none⟩ = some (.int .i64 5) := by rw [hw0]; simp [cell_set, c5]
  have c6 : w0.cell? ⟨Q, 6, none⟩ = some (.int .u64 t) := by rw [hw0]; simp [cell_set, c6]
  have c7 : w0.cell? ⟨Q, 7, none⟩ = some (.int .u64 u) := by rw [hw0]; simp [cell_set, c7]
  have c8 : w0.cell? ⟨Q, 8, none⟩ = some (.int .i64 b) := by rw [hw0]; simp [cell_set, c8]
  have f : ∀ i, w0.frozen? ⟨Q, i, none⟩ = false := fun i => b0.soft hP (f i)
  have NM0 := Lib.hid (ref_frame hm hn1 b0 (fun h => hQ (Or.inl h.symm)) (fun h => hQ (Or.inr h.symm)))
  have B0 := Lib.hid b0
  have hP : Q < w0.heap.size := lt_of_cell c0
  have KT : Kept w0 w0 := Kept.refl _
  clear b0 hm
  go_enter Tryz.func118, Tryz.ntmps118
  go_wp2_with fail
  rw [← hw0]
  clear hw0 a0 a1 a2 a3 a4 a5 a6 a7 a8 fa hPa
  go_region_held3 (fun w' => w'.cell? ⟨Q, 0, none⟩ = some (.int .i64 H) ∧ w'.cell? ⟨Q, 1, none⟩ = some (.int .i64 T) ∧ w'.cell? ⟨Q, 2, none⟩ = some (.int .i64 K) ∧ w'.cell? ⟨Q, 3, none⟩ = some (.int .i64 N) ∧ w'.cell? ⟨Q, 4, none⟩ = some (.int .i64 v) ∧ w'.cell? ⟨Q, 6, none⟩ = some (.int .u64 t) ∧ w'.cell? ⟨Q, 7, none⟩ = some (.int .u64 u)) (first | go_keep | (exact ⟨KT.some c0, KT.some c1, KT.some c2, KT.some c3, KT.some c4, KT.some c6, KT.some c7⟩) | (exact ⟨e0, e1, e2, e3, e4, e6, e7⟩)) (first
    | (go_at_call 137; refine (PL _).out.mono ?_; rintro e w2 ⟨rfl, k2⟩; have KT : Kept w0 w2 := Kept.trans (b := _) (by first | exact KT | exact KT.drew | exact KT.drewN _) k2)
    | (go_at_call 138; refine (LA _).out.mono ?_; rintro e w3 ⟨rfl, k3⟩; have KT : Kept w0 w3 := Kept.trans (b := _) (by first | exact KT | exact KT.drew | exact KT.drewN _) k3)
    | (go_at_call 220; refine (hS _ (ref_kept NM0.out hn1 (by first | exact KT | exact KT.drew | exact KT.drewN _))).out.mono ?_; rintro e w1 ⟨rfl, m1, b1⟩; have BT : But (fun k => k = M ∨ k = B) w0 w1 := (Kept.but (w' := _) (by first | exact KT | exact KT.drew | exact KT.drewN _) _).trans b1 (fun _ _ h => h); have e0 := BT.some c0 hQ; have e1 := BT.some c1 hQ; have e2 := BT.some c2 hQ; have e3 := BT.some c3 hQ; have e4 := BT.some c4 hQ; have e6 := BT.some c6 hQ; have e7 := BT.some c7 hQ))
  rename_i hcells
  clear hcells
  have c0 := BT.some c0 hQ
  have c1 := BT.some c1 hQ
  have c2 := BT.some c2 hQ
  have c3 := BT.some c3 hQ
  have c4 := BT.some c4 hQ
  have c5 := BT.some c5 hQ
  have c6 := BT.some c6 hQ
  have c7 := BT.some c7 hQ
  have c8 := BT.some c8 hQ
  have f : ∀ i, w1.frozen? ⟨Q, i, none⟩ = false := fun i => BT.soft hP (f i)
  have hP := Nat.lt_of_lt_of_le hP BT.size
  have NM := Lib.hid m1
  have GG : Hid (But (fun k => k = Q ∨ k = M ∨ k = B) w w1) := Lib.hid ((B0.out.mono (fun _ _ h => Or.inl h)).trans BT (fun _ _ h => Or.inr h))
  clear m1 b1 BT KT e0 e1 e2 e3 e4 e6 e7
  go_wp2
  go_ret
  go_light
  refine ⟨rfl, ?_, fun i => ?_, ?_, ?_⟩
  · simp [DPushC, cell_set, *]
  · simp [*]
  · exact ref_frame NM.out hn1 (T := fun k => k = Q) (by repeat (first | (with_reducible exact But.refl _ _) | (with_reducible refine But.here ?_ _ _) | (with_reducible refine But.drew ?_) | (with_reducible refine But.drewN ?_ _))) (fun h => hQ (Or.inl h.symm)) (fun h => hQ (Or.inr h.symm))
  · have gg := GG.out
    repeat (first | (with_reducible exact gg) | (with_reducible refine But.drew ?_) | (with_reducible refine But.drewN ?_ _) | ((with_reducible refine But.setCell ?_ (Or.inl (Or.inl rfl)) _)))
set_option maxHeartbeats 2000000 in
theorem rPush_4 (Q M B n : Nat) (s : St) (w : World) (f : ∀ i, w.frozen? ⟨Q, i, none⟩ = false) (hm : RefIs w M B n s) (h0 : 0 ≤ s.cnt) (h1 : s.cnt ≤ 1000000) (hn : n ≤ 4096) (hn1 : 1 ≤ n) (hQ : ¬ (Q = M ∨ Q = B)) (H T K N v t u b : Int) (T0 : 0 ≤ T) (T1 : T < n) (c0 : w.cell? ⟨Q, 0, none⟩ = some (.int .i64 H)) (c1 : w.cell? ⟨Q, 1, none⟩ = some (.int .i64 T)) (c2 : w.cell? ⟨Q, 2, none⟩ = some (.int .i64 K)) (c3 : w.cell? ⟨Q, 3, none⟩ = some (.int .i64 N)) (c4 : w.cell? ⟨Q, 4, none⟩ = some (.int .i64 v)) (c5 : w.cell? ⟨Q, 5, none⟩ = some (.int .i64 4)) (c6 : w.cell? ⟨Q, 6, none⟩ = some (.int .u64 t)) (c7 : w.cell? ⟨Q, 7, none⟩ = some (.int .u64 u)) (c8 : w.cell? ⟨Q, 8, none⟩ = some (.int .i64 b)) :
    Calls Tryz.prog 118 #[.pointer (some ⟨Q, 0, none⟩), .pointer (some ⟨M, 0, none⟩)] w
      fun e w' => e = .returned (.bool true) ∧ DPushC w' Q (H) (T) (K) (N) (v) (9) (t) (u) (b) ∧ (∀ i, w'.frozen? ⟨Q, i, none⟩ = false) ∧ RefIs w' M B n (acc n s 3 T (wordAt n s T == t) (plus t)) ∧ But (fun k => k = Q ∨ k = M ∨ k = B) w w' := by
  have hP := lt_of_cell c0
  have hS : ∀ W, RefIs W M B n s → Hid (Calls Tryz.prog 220 #[.pointer (some ⟨M, 0, none⟩), .int .i64 T, .int .u64 t, .int .u64 ((t + 1) % 18446744073709551616)] W fun e w' => e = .returned (.bool (wordAt n s T == t)) ∧ RefIs w' M B n (acc n s 3 T (wordAt n s T == t) (plus t)) ∧ But (fun k => k = M ∨ k = B) W w') := fun W m => Lib.hid (r_cas M B n s T t (plus t) W m h0 h1 hn T0 T1)
  have wr : IntKind.u64.wrap (t + 1) = (t + 1) % 18446744073709551616 := IntKind.wrap_u64 _
  generalize (t + 1) % 18446744073709551616 = q at *
  obtain ⟨sN, hsN⟩ : ∃ sN, sN = acc n s 3 T (wordAt n s T == t) (plus t) := ⟨_, rfl⟩
  rw [← hsN]
  rw [← hsN] at hS
  clear hsN
  go_enter Tryz.func118, Tryz.ntmps118
  go_wp2_with fail
  go_region_held3 (fun w' => w'.cell? ⟨Q, 1, none⟩ = some (.int .i64 T) ∧ w'.cell? ⟨Q, 6, none⟩ = some (.int .u64 t)) (first | go_keep | (exact ⟨e1, e6⟩)) (first | (go_at_call 220; refine (hS _ (ref_kept hm hn1 (by first | exact Kept.refl _ | exact (Kept.refl _).drew | exact (Kept.refl _).drewN _))).out.mono ?_; rintro e w1 ⟨rfl, m1, b1⟩; have BT : But (fun k => k = M ∨ k = B) w w1 := (Kept.but (w' := _) (by first | exact Kept.refl _ | exact (Kept.refl _).drew | exact (Kept.refl _).drewN _) _).trans b1 (fun _ _ h => h); have e1 := BT.some c1 hQ; have e6 := BT.some c6 hQ))
  rename_i hcells
  clear hcells
  have c0 := BT.some c0 hQ
  have c1 := BT.some c1 hQ
  have c2 := BT.some c2 hQ
  have c3 := BT.some c3 hQ
  have c4 := BT.some c4 hQ
  have c5 := BT.some c5 hQ
  have c6 := BT.some c6 hQ
  have c7 := BT.some c7 hQ
  have c8 := BT.some c8 hQ
  have f : ∀ i, w1.frozen? ⟨Q, i, none⟩ = false := fun i => BT.soft hP (f i)
  have hP := Nat.lt_of_lt_of_le hP BT.size
  have NM := Lib.hid m1
  have GG : Hid (But (fun k => k = Q ∨ k = M ∨ k = B) w w1) := Lib.hid (BT.mono (fun _ _ h => Or.inr h))
  clear hm m1 b1 BT e1 e6
  go_wp2
  go_ret
  go_light
  refine ⟨rfl, ?_, fun i => ?_, ?_, ?_⟩
  · simp [DPushC, cell_set, *]
  · simp [*]
  · exact ref_frame NM.out hn1 (T := fun k => k = Q) (by repeat (first | (with_reducible exact But.refl _ _) | (with_reducible refine But.here ?_ _ _) | (with_reducible refine But.drew ?_) | (with_reducible refine But.drewN ?_ _))) (fun h => hQ (Or.inl h.symm)) (fun h => hQ (Or.inr h.symm))
  · have gg := GG.out
    repeat (first | (with_reducible exact gg) | (with_reducible refine But.drew ?_) | (with_reducible refine But.drewN ?_ _) | ((with_reducible refine But.setCell ?_ (Or.inl (Or.inl rfl)) _)))
set_option maxHeartbeats 2000000 in
theorem rPush_5 (Q M B n : Nat) (s : St) (w : World) (f : ∀ i, w.frozen? ⟨Q, i, none⟩ = false) (hm : RefIs w M B n s) (h0 : 0 ≤ s.cnt) (h1 : s.cnt ≤ 1000000) (hn : n ≤ 4096) (hn1 : 1 ≤ n) (hQ : ¬ (Q = M ∨ Q = B)) (H T K N v t u b : Int) (T0 : 0 ≤ T) (T1 : T < n) (c0 : w.cell? ⟨Q, 0, none⟩ = some (.int .i64 H)) (c1 : w.cell? ⟨Q, 1, none⟩ = some (.int .i64 T)) (c2 : w.cell? ⟨Q, 2, none⟩ = some (.int .i64 K)) (c3 : w.cell? ⟨Q, 3, none⟩ = some (.int .i64 N)) (c4 : w.cell? ⟨Q, 4, none⟩ = some (.int .i64 v)) (c5 : w.cell? ⟨Q, 5, none⟩ = some (.int .i64 5)) (c6 : w.cell? ⟨Q, 6, none⟩ = some (.int .u64 t)) (c7 : w.cell? ⟨Q, 7, none⟩ = some (.int .u64 u)) (c8 : w.cell? ⟨Q, 8, none⟩ = some (.int .i64 b)) :
    Calls Tryz.prog 118 #[.pointer (some ⟨Q, 0, none⟩), .pointer (some ⟨M, 0, none⟩)] w
      fun e w' => e = .returned (.bool false) ∧ DPushC w' Q (H) (T) (K) (N) (v) (1) (t) (u) (b) ∧ (∀ i, w'.frozen? ⟨Q, i, none⟩ = false) ∧ RefIs w' M B n (acc n s 3 T (wordAt n s T == t) (plus t)) ∧ But (fun k => k = Q ∨ k = M ∨ k = B) w w' := by
  have hP := lt_of_cell c0
  have hS : ∀ W, RefIs W M B n s → Hid (Calls Tryz.prog 220 #[.pointer (some ⟨M, 0, none⟩), .int .i64 T, .int .u64 t, .int .u64 ((t + 1) % 18446744073709551616)] W fun e w' => e = .returned (.bool (wordAt n s T == t)) ∧ RefIs w' M B n (acc n s 3 T (wordAt n s T == t) (plus t)) ∧ But (fun k => k = M ∨ k = B) W w') := fun W m => Lib.hid (r_cas M B n s T t (plus t) W m h0 h1 hn T0 T1)
  have wr : IntKind.u64.wrap (t + 1) = (t + 1) % 18446744073709551616 := IntKind.wrap_u64 _
  generalize (t + 1) % 18446744073709551616 = q at *
  obtain ⟨sN, hsN⟩ : ∃ sN, sN = acc n s 3 T (wordAt n s T == t) (plus t) := ⟨_, rfl⟩
  rw [← hsN]
  rw [← hsN] at hS
  clear hsN
  go_enter Tryz.func118, Tryz.ntmps118
  go_wp2_with fail
  go_region_held3 (fun w' => w'.cell? ⟨Q, 1, none⟩ = some (.int .i64 T) ∧ w'.cell? ⟨Q, 6, none⟩ = some (.int .u64 t)) (first | go_keep | (exact ⟨e1, e6⟩)) (first | (go_at_call 220; refine (hS _ (ref_kept hm hn1 (by first | exact Kept.refl _ | exact (Kept.refl _).drew | exact (Kept.refl _).drewN _))).out.mono ?_; rintro e w1 ⟨rfl, m1, b1⟩; have BT : But (fun k => k = M ∨ k = B) w w1 := (Kept.but (w' := _) (by first | exact Kept.refl _ | exact (Kept.refl _).drew | exact (Kept.refl _).drewN _) _).trans b1 (fun _ _ h => h); have e1 := BT.some c1 hQ; have e6 := BT.some c6 hQ))
  rename_i hcells
  clear hcells
  have c0 := BT.some c0 hQ
  have c1 := BT.some c1 hQ
  have c2 := BT.some c2 hQ
  have c3 := BT.some c3 hQ
  have c4 := BT.some c4 hQ
  have c5 := BT.some c5 hQ
  have c6 := BT.some c6 hQ
  have c7 := BT.some c7 hQ
  have c8 := BT.some c8 hQ
  have f : ∀ i, w1.frozen? ⟨Q, i, none⟩ = false := fun i => BT.soft hP (f i)
  have hP := Nat.lt_of_lt_of_le hP BT.size
  have NM := Lib.hid m1
  have GG : Hid (But (fun k => k = Q ∨ k = M ∨ k = B) w w1) := Lib.hid (BT.mono (fun _ _ h => Or.inr h))
  clear hm m1 b1 BT e1 e6
  go_wp2
  go_ret
  go_light
  refine ⟨rfl, ?_, fun i => ?_, ?_, ?_⟩
  · simp [DPushC, cell_set, *]
  · simp [*]
  · exact ref_frame NM.out hn1 (T := fun k => k = Q) (by repeat (first | (with_reducible exact But.refl _ _) | (with_reducible refine But.here ?_ _ _) | (with_reducible refine But.drew ?_) | (with_reducible refine But.drewN ?_ _))) (fun h => hQ (Or.inl h.symm)) (fun h => hQ (Or.inr h.symm))
  · have gg := GG.out
    repeat (first | (with_reducible exact gg) | (with_reducible refine But.drew ?_) | (with_reducible refine But.drewN ?_ _) | ((with_reducible refine But.setCell ?_ (Or.inl (Or.inl rfl)) _)))
set_option maxHeartbeats 2000000 in
theorem rFront_1 (Q M B n : Nat) (s : St) (w : World) (f : ∀ i, w.frozen? ⟨Q, i, none⟩ = false) (hm : RefIs w M B n s) (h0 : 0 ≤ s.cnt) (h1 : s.cnt ≤ 1000000) (hn : n ≤ 4096) (hn1 : 1 ≤ n) (hQ : ¬ (Q = M ∨ Q = B)) (H T K N t v b : Int)  (c0 : w.cell? ⟨Q, 0, none⟩ = some (.int .i64 H)) (c1 : w.cell? ⟨Q, 1, none⟩ = some (.int .i64 T)) (c2 : w.cell? ⟨Q, 2, none⟩ = some (.int .i64 K)) (c3 : w.cell? ⟨Q, 3, none⟩ = some (.int .i64 N)) (c4 : w.cell? ⟨Q, 4, none⟩ = some (.int .i64 1)) (c5 : w.cell? ⟨Q, 5, none⟩ = some (.int .u64 t)) (c6 : w.cell? ⟨Q, 6, none⟩ = some (.int .i64 v)) (c7 : w.cell? ⟨Q, 7, none⟩ = some (.int .i64 b)) :
    Calls Tryz.prog 122 #[.pointer (some ⟨Q, 0, none⟩), .pointer (some ⟨M, 0, none⟩)] w
      fun e w' => e = .returned (.bool false) ∧ DFrontC w' Q (H) (T) (K) (N) (2) (wordAt n s H) (v) (b) ∧ (∀ i, w'.frozen? ⟨Q, i, none⟩ = false) ∧ RefIs w' M B n (acc n s 1 H false 0) ∧ But (fun k => k = Q ∨ k = M ∨ k = B) w w' := by
  have hP := lt_of_cell c0
  go_enter Tryz.func122, Tryz.ntmps122
  go_wp2_with fail
  refine (r_load M B n s H _ hm h0 h1 hn).mono ?_
  rintro e w1 ⟨rfl, m1, b1⟩
  have c0 := b1.some c0 hQ
  have c1 := b1.some c1 hQ
  have c2 := b1.some c2 hQ
  have c3 := b1.some c3 hQ
  have c4 := b1.some c4 hQ
  have c5 := b1.some c5 hQ
  have c6 := b1.some c6 hQ
  have c7 := b1.some c7 hQ
  have f : ∀ i, w1.frozen? ⟨Q, i, none⟩ = false := fun i => b1.soft hP (f i)
  have hP := Nat.lt_of_lt_of_le hP b1.size
  have NM := Lib.hid m1
  have GG : Hid (But (fun k => k = Q ∨ k = M ∨ k = B) w w1) := Lib.hid (b1.mono (fun _ _ h => Or.inr h))
  clear hm m1 b1
  go_wp2
  go_ret
  go_light
  refine ⟨rfl, ?_, fun i => ?_, ?_, ?_⟩
  · simp [DFrontC, cell_set, *]
  · simp [*]
  · exact ref_frame NM.out hn1 (T := fun k => k = Q) (by repeat (first | (with_reducible exact But.refl _ _) | (with_reducible refine But.here ?_ _ _) | (with_reducible refine But.drew ?_) | (with_reducible refine But.drewN ?_ _))) (fun h => hQ (Or.inl h.symm)) (fun h => hQ (Or.inr h.symm))
  · have gg := GG.out
    repeat (first | (with_reducible exact gg) | (with_reducible refine But.drew ?_) | (with_reducible refine But.drewN ?_ _) | ((with_reducible refine But.setCell ?_ (Or.inl (Or.inl rfl)) _)))
set_option maxHeartbeats 2000000 in
theorem rFront_2_yes (Q M B n : Nat) (s : St) (w : World) (f : ∀ i, w.frozen? ⟨Q, i, none⟩ = false) (hm : RefIs w M B n s) (h0 : 0 ≤ s.cnt) (h1 : s.cnt ≤ 1000000) (hn : n ≤ 4096) (hn1 : 1 ≤ n) (hQ : ¬ (Q = M ∨ Q = B)) (H T K N t v b : Int) (n1 : 1 ≤ N) (n2 : N ≤ 4096) (k0 : 0 ≤ K) (k1 : K ≤ 10000) (t0 : 0 ≤ t) (t1 : t < 18446744073709551616) (wd : 0 ≤ wordAt n s (K + t % N) ∧ wordAt n s (K + t % N) < 18446744073709551616) (hz : (wlap (wordAt n s (K + t % N)) == t / N % 4294967296 && full (wordAt n s (K + t % N))) = true) (c0 : w.cell? ⟨Q, 0, none⟩ = some (.int .i64 H)) (c1 : w.cell? ⟨Q, 1, none⟩ = some (.int .i64 T)) (c2 : w.cell? ⟨Q, 2, none⟩ = some (.int .i64 K)) (c3 : w.cell? ⟨Q, 3, none⟩ = some (.int .i64 N)) (c4 : w.cell? ⟨Q, 4, none⟩ = some (.int .i64 2)) (c5 : w.cell? ⟨Q, 5, none⟩ = some (.int .u64 t)) (c6 : w.cell? ⟨Q, 6, none⟩ = some (.int .i64 v)) (c7 : w.cell? ⟨Q, 7, none⟩ = some (.int .i64 b)) :
    Calls Tryz.prog 122 #[.pointer (some ⟨Q, 0, none⟩), .pointer (some ⟨M, 0, none⟩)] w
      fun e w' => e = .returned (.bool true) ∧ DFrontC w' Q (H) (T) (K) (N) (9) (t) (wordAt n s (K + t % N) % 65536) (0) ∧ (∀ i, w'.frozen? ⟨Q, i, none⟩ = false) ∧ RefIs w' M B n (acc n s 1 (K + t % N) false 0) ∧ But (fun k => k = Q ∨ k = M ∨ k = B) w w' := by
  have hP := lt_of_cell c0
  have PL : ∀ W, Hid (Calls Tryz.prog 137 #[.agg #[.int .i64 H, .int .i64 T, .int .i64 K, .int .i64 N], .int .u64 t] W fun e w' => e = .returned (.int .i64 (K + t % N)) ∧ Kept W w') := fun W => Lib.hid (rplace_any H T K N t W n1 n2 t0 t1 k0 k1)
  have LA : ∀ W, Hid (Calls Tryz.prog 138 #[.agg #[.int .i64 H, .int .i64 T, .int .i64 K, .int .i64 N], .int .u64 t] W fun e w' => e = .returned (.int .u64 (t / N % 4294967296)) ∧ Kept W w') := fun W => Lib.hid (rlap_any H T K N t W n1 n2 t0 t1)
  have W0 := wd.1
  have W1 := wd.2
  have FU : ∀ W, Hid (Calls Tryz.prog 136 #[.int .u64 (wordAt n s (K + t % N)), .int .u64 (t / N % 4294967296)] W fun e w' => e = .returned (.bool true) ∧ Kept W w') := fun W => Lib.hid (by have := rfull_any (wordAt n s (K + t % N)) (t / N % 4294967296) W W0 W1; rwa [hz] at this)
  have hS : ∀ W, RefIs W M B n s → Hid (Calls Tryz.prog 176 #[.pointer (some ⟨M, 0, none⟩), .int .i64 (K + t % N)] W fun e w' => e = .returned (.int .u64 (wordAt n s (K + t % N))) ∧ RefIs w' M B n (acc n s 1 (K + t % N) false 0) ∧ But (fun k => k = M ∨ k = B) W w') := fun W m => Lib.hid (r_load M B n s (K + t % N) W m h0 h1 hn)
  obtain ⟨sN, hsN⟩ : ∃ sN, sN = acc n s 1 (K + t % N) false 0 := ⟨_, rfl⟩
  rw [← hsN]
  rw [← hsN] at hS
  clear hsN
  generalize wordAt n s (K + t % N) = q at *
  generalize K + t % N = pl at *
  generalize t / N % 4294967296 = lp at *
  clear hz wd
  go_enter Tryz.func122, Tryz.ntmps122
  have KT : Kept w w := Kept.refl _
  go_wp2_with fail
  go_region_held3 (fun w' => w'.cell? ⟨Q, 0, none⟩ = some (.int .i64 H) ∧ w'.cell? ⟨Q, 1, none⟩ = some (.int .i64 T) ∧ w'.cell? ⟨Q, 2, none⟩ = some (.int .i64 K) ∧ w'.cell? ⟨Q, 3, none⟩ = some (.int .i64 N) ∧ w'.cell? ⟨Q, 5, none⟩ = some (.int .u64 t)) (first | go_keep | (exact ⟨KT.some c0, KT.some c1, KT.some c2, KT.some c3, KT.some c5⟩) | (exact ⟨e0, e1, e2, e3, e5⟩)) (first
    | (go_at_call 137; refine (PL _).out.mono ?_; rintro e wa ⟨rfl, ka⟩; have KT : Kept w wa := Kept.trans (b := _) (by first | exact KT | exact KT.drew | exact KT.drewN _) ka)
    | (go_at_call 176; refine (hS _ (ref_kept hm hn1 (by first | exact KT | exact KT.drew | exact KT.drewN _))).out.mono ?_; rintro e w1 ⟨rfl, m1, b1⟩; have BT : But (fun k => k = M ∨ k = B) w w1 := (Kept.but (w' := _) (by first | exact KT | exact KT.drew | exact KT.drewN _) _).trans b1 (fun _ _ h => h); have e0 := BT.some c0 hQ; have e1 := BT.some c1 hQ; have e2 := BT.some c2 hQ; have e3 := BT.some c3 hQ; have e5 := BT.some c5 hQ))
  rename_i hcells
  clear hcells
  have c0 := BT.some c0 hQ
  have c1 := BT.some c1 hQ
  have c2 := BT.some c2 hQ
  have c3 := BT.some c3 hQ
  have c4 := BT.some c4 hQ
  have c5 := BT.some c5 hQ
  have c6 := BT.some c6 hQ
  have c7 := BT.some c7 hQ
  have f : ∀ i, w1.frozen? ⟨Q, i, none⟩ = false := fun i => BT.soft hP (f i)
  have hP := Nat.lt_of_lt_of_le hP BT.size
  have NM := Lib.hid m1
  have GG : Hid (But (fun k => k = Q ∨ k = M ∨ k = B) w w1) := Lib.hid (BT.mono (fun _ _ h => Or.inr h))
  clear hm m1 b1 BT KT e0 e1 e2 e3 e5
  obtain ⟨w2, hw2⟩ : ∃ w2, w2 = (w1.setCell ⟨Q, 4, none⟩ (.int .i64 9)).setCell ⟨Q, 7, none⟩ (.int .i64 15) := ⟨_, rfl⟩
  have d0 : w2.cell? ⟨Q, 0, none⟩ = some (.int .i64 H) := by rw [hw2]; simp [cell_set, c0]
  have d1 : w2.cell? ⟨Q, 1, none⟩ = some (.int .i64 T) := by rw [hw2]; simp [cell_set, c1]
  have d2 : w2.cell? ⟨Q, 2, none⟩ = some (.int .i64 K) := by rw [hw2]; simp [cell_set, c2]
  have d3 : w2.cell? ⟨Q, 3, none⟩ = some (.int .i64 N) := by rw [hw2]; simp [cell_set, c3]
  have d4 : w2.cell? ⟨Q, 4, none⟩ = some (.int .i64 9) := by rw [hw2]; simp [cell_set, c4]
  have d5 : w2.cell? ⟨Q, 5, none⟩ = some (.int .u64 t) := by rw [hw2]; simp [cell_set, c5]
  have d6 : w2.cell? ⟨Q, 6, none⟩ = some (.int .i64 v) := by rw [hw2]; simp [cell_set, c6]
  have d7 : w2.cell? ⟨Q, 7, none⟩ = some (.int .i64 15) := by rw [hw2]; simp [cell_set, c7]
  have fd : ∀ i, w2.frozen? ⟨Q, i, none⟩ = false := fun i => by rw [hw2]; simp [f]
  have b2 : But (fun k => k = Q) w1 w2 := by rw [hw2]; exact ((But.refl _ w1).here _ _).here _ _
  have NM2 := Lib.hid (ref_frame NM.out hn1 b2 (fun h => hQ (Or.inl h.symm)) (fun h => hQ (Or.inr h.symm)))
  have GG2 := Lib.hid (GG.out.trans b2 (fun _ _ h => Or.inl h))
  have KT : Kept w2 w2 := Kept.refl _
  clear b2 NM GG
  go_wp2_with fail
  rw [← hw2]
  clear hw2 c0 c1 c2 c3 c4 c5 c6 c7 f hP
  have hP : Q < w2.heap.size := lt_of_cell d0
  go_region_held3 (fun w' => w'.cell? ⟨Q, 0, none⟩ = some (.int .i64 H) ∧ w'.cell? ⟨Q, 1, none⟩ = some (.int .i64 T) ∧ w'.cell? ⟨Q, 2, none⟩ = some (.int .i64 K) ∧ w'.cell? ⟨Q, 3, none⟩ = some (.int .i64 N) ∧ w'.cell? ⟨Q, 5, none⟩ = some (.int .u64 t)) (first | go_keep | (exact ⟨KT.some d0, KT.some d1, KT.some d2, KT.some d3, KT.some d5⟩)) (first
    | (go_at_call 138; refine (LA _).out.mono ?_; rintro e w3 ⟨rfl, k3⟩; have KT : Kept w2 w3 := Kept.trans (b := _) (by first | exact KT | exact KT.drew | exact KT.drewN _) k3)
    | (go_at_call 136; refine (FU _).out.mono ?_; rintro e w4 ⟨rfl, k4⟩; have KT : Kept w2 w4 := Kept.trans (b := _) (by first | exact KT | exact KT.drew | exact KT.drewN _) k4))
  have c0 := KT.some d0
  have c1 := KT.some d1
  have c2 := KT.some d2
  have c3 := KT.some d3
  have c4 := KT.some d4
  have c5 := KT.some d5
  have c6 := KT.some d6
  have c7 := KT.some d7
  have f : ∀ i, w4.frozen? ⟨Q, i, none⟩ = false := fun i => KT.soft hP (fd i)
  have hP := lt_of_cell c0
  have NM := Lib.hid (ref_kept NM2.out hn1 KT)
  have GG := Lib.hid (GG2.out.then KT)
  clear KT NM2 GG2 d0 d1 d2 d3 d4 d5 d6 d7 fd
  go_wp2
  go_ret
  go_light
  refine ⟨rfl, ?_, fun i => ?_, ?_, ?_⟩
  · simp [DFrontC, cell_set, *]
  · simp [*]
  · exact ref_frame NM.out hn1 (T := fun k => k = Q) (by repeat (first | (with_reducible exact But.refl _ _) | (with_reducible refine But.here ?_ _ _) | (with_reducible refine But.drew ?_) | (with_reducible refine But.drewN ?_ _))) (fun h => hQ (Or.inl h.symm)) (fun h => hQ (Or.inr h.symm))
  · have gg := GG.out
    repeat (first | (with_reducible exact gg) | (with_reducible refine But.drew ?_) | (with_reducible refine But.drewN ?_ _) | ((with_reducible refine But.setCell ?_ (Or.inl (Or.inl rfl)) _)))
set_option maxHeartbeats 2000000 in
theorem rFront_2_no (Q M B n : Nat) (s : St) (w : World) (f : ∀ i, w.frozen? ⟨Q, i, none⟩ = false) (hm : RefIs w M B n s) (h0 : 0 ≤ s.cnt) (h1 : s.cnt ≤ 1000000) (hn : n ≤ 4096) (hn1 : 1 ≤ n) (hQ : ¬ (Q = M ∨ Q = B)) (H T K N t v b : Int) (n1 : 1 ≤ N) (n2 : N ≤ 4096) (k0 : 0 ≤ K) (k1 : K ≤ 10000) (t0 : 0 ≤ t) (t1 : t < 18446744073709551616) (wd : 0 ≤ wordAt n s (K + t % N) ∧ wordAt n s (K + t % N) < 18446744073709551616) (hz : (wlap (wordAt n s (K + t % N)) == t / N % 4294967296 && full (wordAt n s (K + t % N))) = false) (c0 : w.cell? ⟨Q, 0, none⟩ = some (.int .i64 H)) (c1 : w.cell? ⟨Q, 1, none⟩ = some (.int .i64 T)) (c2 : w.cell? ⟨Q, 2, none⟩ = some (.int .i64 K)) (c3 : w.cell? ⟨Q, 3, none⟩ = some (.int .i64 N)) (c4 : w.cell? ⟨Q, 4, none⟩ = some (.int .i64 2)) (c5 : w.cell? ⟨Q, 5, none⟩ = some (.int .u64 t)) (c6 : w.cell? ⟨Q, 6, none⟩ = some (.int .i64 v)) (c7 : w.cell? ⟨Q, 7, none⟩ = some (.int .i64 b)) :
    Calls Tryz.prog 122 #[.pointer (some ⟨Q, 0, none⟩), .pointer (some ⟨M, 0, none⟩)] w
      fun e w' => e = .returned (.bool true) ∧ DFrontC w' Q (H) (T) (K) (N) (9) (t) (v) (15) ∧ (∀ i, w'.frozen? ⟨Q, i, none⟩ = false) ∧ RefIs w' M B n (acc n s 1 (K + t % N) false 0) ∧ But (fun k => k = Q ∨ k = M ∨ k = B) w w' := by
  have hP := lt_of_cell c0
  have PL : ∀ W, Hid (Calls Tryz.prog 137 #[.agg #[.int .i64 H, .int .i64 T, .int .i64 K, .int .i64 N], .int .u64 t] W fun e w' => e = .returned (.int .i64 (K + t % N)) ∧ Kept W w') := fun W => Lib.hid (rplace_any H T K N t W n1 n2 t0 t1 k0 k1)
  have LA : ∀ W, Hid (Calls Tryz.prog 138 #[.agg #[.int .i64 H, .int .i64 T, .int .i64 K, .int .i64 N], .int .u64 t] W fun e w' => e = .returned (.int .u64 (t / N % 4294967296)) ∧ Kept W w') := fun W => Lib.hid (rlap_any H T K N t W n1 n2 t0 t1)
  have W0 := wd.1
  have W1 := wd.2
  have FU : ∀ W, Hid (Calls Tryz.prog 136 #[.int .u64 (wordAt n s (K + t % N)), .int .u64 (t / N % 4294967296)] W fun e w' => e = .returned (.bool false) ∧ Kept W w') := fun W => Lib.hid (by have := rfull_any (wordAt n s (K + t % N)) (t / N % 4294967296) W W0 W1; rwa [hz] at this)
  have hS : ∀ W, RefIs W M B n s → Hid (Calls Tryz.prog 176 #[.pointer (some ⟨M, 0, none⟩), .int .i64 (K + t % N)] W fun e w' => e = .returned (.int .u64 (wordAt n s (K + t % N))) ∧ RefIs w' M B n (acc n s 1 (K + t % N) false 0) ∧ But (fun k => k = M ∨ k = B) W w') := fun W m => Lib.hid (r_load M B n s (K + t % N) W m h0 h1 hn)
  obtain ⟨sN, hsN⟩ : ∃ sN, sN = acc n s 1 (K + t % N) false 0 := ⟨_, rfl⟩
  rw [← hsN]
  rw [← hsN] at hS
  clear hsN
  generalize wordAt n s (K + t % N) = q at *
  generalize K + t % N = pl at *
  generalize t / N % 4294967296 = lp at *
  clear hz wd
  go_enter Tryz.func122, Tryz.ntmps122
  have KT : Kept w w := Kept.refl _
  go_wp2_with fail
  go_region_held3 (fun w' => w'.cell? ⟨Q, 0, none⟩ = some (.int .i64 H) ∧ w'.cell? ⟨Q, 1, none⟩ = some (.int .i64 T) ∧ w'.cell? ⟨Q, 2, none⟩ = some (.int .i64 K) ∧ w'.cell? ⟨Q, 3, none⟩ = some (.int .i64 N) ∧ w'.cell? ⟨Q, 5, none⟩ = some (.int .u64 t)) (first | go_keep | (exact ⟨KT.some c0, KT.some c1, KT.some c2, KT.some c3, KT.some c5⟩) | (exact ⟨e0, e1, e2, e3, e5⟩)) (first
    | (go_at_call 137; refine (PL _).out.mono ?_; rintro e wa ⟨rfl, ka⟩; have KT : Kept w wa := Kept.trans (b := _) (by first | exact KT | exact KT.drew | exact KT.drewN _) ka)
    | (go_at_call 176; refine (hS _ (ref_kept hm hn1 (by first | exact KT | exact KT.drew | exact KT.drewN _))).out.mono ?_; rintro e w1 ⟨rfl, m1, b1⟩; have BT : But (fun k => k = M ∨ k = B) w w1 := (Kept.but (w' := _) (by first | exact KT | exact KT.drew | exact KT.drewN _) _).trans b1 (fun _ _ h => h); have e0 := BT.some c0 hQ; have e1 := BT.some c1 hQ; have e2 := BT.some c2 hQ; have e3 := BT.some c3 hQ; have e5 := BT.some c5 hQ))
  rename_i hcells
  clear hcells
  have c0 := BT.some c0 hQ
  have c1 := BT.some c1 hQ
  have c2 := BT.some c2 hQ
  have c3 := BT.some c3 hQ
  have c4 := BT.some c4 hQ
  have c5 := BT.some c5 hQ
  have c6 := BT.some c6 hQ
  have c7 := BT.some c7 hQ
  have f : ∀ i, w1.frozen? ⟨Q, i, none⟩ = false := fun i => BT.soft hP (f i)
  have hP := Nat.lt_of_lt_of_le hP BT.size
  have NM := Lib.hid m1
  have GG : Hid (But (fun k => k = Q ∨ k = M ∨ k = B) w w1) := Lib.hid (BT.mono (fun _ _ h => Or.inr h))
  clear hm m1 b1 BT KT e0 e1 e2 e3 e5
  obtain ⟨w2, hw2⟩ : ∃ w2, w2 = (w1.setCell ⟨Q, 4, none⟩ (.int .i64 9)).setCell ⟨Q, 7, none⟩ (.int .i64 15) := ⟨_, rfl⟩
  have d0 : w2.cell? ⟨Q, 0, none⟩ = some (.int .i64 H) := by rw [hw2]; simp [cell_set, c0]
  have d1 : w2.cell? ⟨Q, 1, none⟩ = some (.int .i64 T) := by rw [hw2]; simp [cell_set, c1]
  have d2 : w2.cell? ⟨Q, 2, none⟩ = some (.int .i64 K) := by rw [hw2]; simp [cell_set, c2]
  have d3 : w2.cell? ⟨Q, 3, none⟩ = some (.int .i64 N) := by rw [hw2]; simp [cell_set, c3]
  have d4 : w2.cell? ⟨Q, 4, none⟩ = some (.int .i64 9) := by rw [hw2]; simp [cell_set, c4]
  have d5 : w2.cell? ⟨Q, 5, none⟩ = some (.int .u64 t) := by rw [hw2]; simp [cell_set, c5]
  have d6 : w2.cell? ⟨Q, 6, none⟩ = some (.int .i64 v) := by rw [hw2]; simp [cell_set, c6]
  have d7 : w2.cell? ⟨Q, 7, none⟩ = some (.int .i64 15) := by rw [hw2]; simp [cell_set, c7]
  have fd : ∀ i, w2.frozen? ⟨Q, i, none⟩ = false := fun i => by rw [hw2]; simp [f]
  have b2 : But (fun k => k = Q) w1 w2 := by rw [hw2]; exact ((But.refl _ w1).here _ _).here _ _
  have NM2 := Lib.hid (ref_frame NM.out hn1 b2 (fun h => hQ (Or.inl h.symm)) (fun h => hQ (Or.inr h.symm)))
  have GG2 := Lib.hid (GG.out.trans b2 (fun _ _ h => Or.inl h))
  have KT : Kept w2 w2 := Kept.refl _
  clear b2 NM GG
  go_wp2_with fail
  rw [← hw2]
  clear hw2 c0 c1 c2 c3 c4 c5 c6 c7 f hP
  have hP : Q < w2.heap.size := lt_of_cell d0
  go_region_held3 (fun w' => w'.cell? ⟨Q, 0, none⟩ = some (.int .i64 H) ∧ w'.cell? ⟨Q, 1, none⟩ = some (.int .i64 T) ∧ w'.cell? ⟨Q, 2, none⟩ = some (.int .i64 K) ∧ w'.cell? ⟨Q, 3, none⟩ = some (.int .i64 N) ∧ w'.cell? ⟨Q, 5, none⟩ = some (.int .u64 t)) (first | go_keep | (exact ⟨KT.some d0, KT.some d1, KT.some d2, KT.some d3, KT.some d5⟩)) (first
    | (go_at_call 138; refine (LA _).out.mono ?_; rintro e w3 ⟨rfl, k3⟩; have KT : Kept w2 w3 := Kept.trans (b := _) (by first | exact KT | exact KT.drew | exact KT.drewN _) k3)
    | (go_at_call 136; refine (FU _).out.mono ?_; rintro e w4 ⟨rfl, k4⟩; have KT : Kept w2 w4 := Kept.trans (b := _) (by first | exact KT | exact KT.drew | exact KT.drewN _) k4))
  have c0 := KT.some d0
  have c1 := KT.some d1
  have c2 := KT.some d2
  have c3 := KT.some d3
  have c4 := KT.some d4
  have c5 := KT.some d5
  have c6 := KT.some d6
  have c7 := KT.some d7
  have f : ∀ i, w4.frozen? ⟨Q, i, none⟩ = false := fun i => KT.soft hP (fd i)
  have hP := lt_of_cell c0
  have NM := Lib.hid (ref_kept NM2.out hn1 KT)
  have GG := Lib.hid (GG2.out.then KT)
  clear KT NM2 GG2 d0 d1 d2 d3 d4 d5 d6 d7 fd
  go_wp2
  go_ret
  go_light
  refine ⟨rfl, ?_, fun i => ?_, ?_, ?_⟩
  · simp [DFrontC, cell_set, *]
  · simp [*]
  · exact ref_frame NM.out hn1 (T := fun k => k = Q) (by repeat (first | (with_reducible exact But.refl _ _) | (with_reducible refine But.here ?_ _ _) | (with_reducible refine But.drew ?_) | (with_reducible refine But.drewN ?_ _))) (fun h => hQ (Or.inl h.symm)) (fun h => hQ (Or.inr h.symm))
  · have gg := GG.out
    repeat (first | (with_reducible exact gg) | (with_reducible refine But.drew ?_) | (with_reducible refine But.drewN ?_ _) | ((with_reducible refine But.setCell ?_ (Or.inl (Or.inl rfl)) _)))
set_option maxHeartbeats 2000000 in
theorem rDrop_1 (Q M B n : Nat) (s : St) (w : World) (f : ∀ i, w.frozen? ⟨Q, i, none⟩ = false) (hm : RefIs w M B n s) (h0 : 0 ≤ s.cnt) (h1 : s.cnt ≤ 1000000) (hn : n ≤ 4096) (hn1 : 1 ≤ n) (hQ : ¬ (Q = M ∨ Q = B)) (H T K N t b : Int) (n1 : 1 ≤ N) (n2 : N ≤ 4096) (k0 : 0 ≤ K) (k1 : K ≤ 10000) (t0 : 0 ≤ t) (t1 : t < 18446744073709551616) (c0 : w.cell? ⟨Q, 0, none⟩ = some (.int .i64 H)) (c1 : w.cell? ⟨Q, 1, none⟩ = some (.int .i64 T)) (c2 : w.cell? ⟨Q, 2, none⟩ = some (.int .i64 K)) (c3 : w.cell? ⟨Q, 3, none⟩ = some (.int .i64 N)) (c4 : w.cell? ⟨Q, 4, none⟩ = some (.int .i64 1)) (c5 : w.cell? ⟨Q, 5, none⟩ = some (.int .u64 t)) (c6 : w.cell? ⟨Q, 6, none⟩ = some (.int .i64 b)) :
    Calls Tryz.prog 128 #[.pointer (some ⟨Q, 0, none⟩), .pointer (some ⟨M, 0, none⟩)] w
      fun e w' => e = .returned (.bool false) ∧ DDropC w' Q (H) (T) (K) (N) (2) (t) (b) ∧ (∀ i, w'.frozen? ⟨Q, i, none⟩ = false) ∧ RefIs w' M B n (acc n s 2 (K + t % N) true ((t / N % 4294967296 + 1) % 4294967296 * 4294967296)) ∧ But (fun k => k = Q ∨ k = M ∨ k = B) w w' := by
  have hP := lt_of_cell c0
  have PL : ∀ W, Hid (Calls Tryz.prog 137 #[.agg #[.int .i64 H, .int .i64 T, .int .i64 K, .int .i64 N], .int .u64 t] W fun e w' => e = .returned (.int .i64 (K + t % N)) ∧ Kept W w') := fun W => Lib.hid (rplace_any H T K N t W n1 n2 t0 t1 k0 k1)
  have LA : ∀ W, Hid (Calls Tryz.prog 138 #[.agg #[.int .i64 H, .int .i64 T, .int .i64 K, .int .i64 N], .int .u64 t] W fun e w' => e = .returned (.int .u64 (t / N % 4294967296)) ∧ Kept W w') := fun W => Lib.hid (rlap_any H T K N t W n1 n2 t0 t1)
  have l0 : 0 ≤ t / N % 4294967296 := by omega
  have l1 : t / N % 4294967296 ≤ 4294967295 := by omega
  have hS : ∀ W, RefIs W M B n s → Hid (Calls Tryz.prog 79 #[.pointer (some ⟨M, 0, none⟩), .int .i64 (K + t % N), .int .u64 ((t / N % 4294967296 + 1) % 4294967296 * 4294967296)] W fun e w' => e = .returned (.tuple #[]) ∧ RefIs w' M B n (acc n s 2 (K + t % N) true ((t / N % 4294967296 + 1) % 4294967296 * 4294967296)) ∧ But (fun k => k = M ∨ k = B) W w') := fun W m => Lib.hid (r_store M B n s (K + t % N) ((t / N % 4294967296 + 1) % 4294967296 * 4294967296) W m h0 h1 hn)
  obtain ⟨sN, hsN⟩ : ∃ sN, sN = acc n s 2 (K + t % N) true ((t / N % 4294967296 + 1) % 4294967296 * 4294967296) := ⟨_, rfl⟩
  rw [← hsN]
  rw [← hsN] at hS
  clear hsN
  generalize K + t % N = pl at *
  generalize t / N % 4294967296 = lp at *
  have KT : Kept w w := Kept.refl _
  have q1 : IntKind.u64.wrap (lp + 1) = lp + 1 := by rw [IntKind.wrap_u64]; omega
  have q2 : (lp + 1).tmod 4294967296 = (lp + 1) % 4294967296 := Int.tmod_eq_emod_of_nonneg (by omega)
  have q3 : IntKind.u64.wrap ((lp + 1) % 4294967296 * 4294967296) = (lp + 1) % 4294967296 * 4294967296 := by rw [IntKind.wrap_u64]; omega
  go_enter Tryz.func128, Tryz.ntmps128
  go_wp2_with fail
  go_region_held3 (fun w' => w'.cell? ⟨Q, 0, none⟩ = some (.int .i64 H) ∧ w'.cell? ⟨Q, 1, none⟩ = some (.int .i64 T) ∧ w'.cell? ⟨Q, 2, none⟩ = some (.int .i64 K) ∧ w'.cell? ⟨Q, 3, none⟩ = some (.int .i64 N) ∧ w'.cell? ⟨Q, 5, none⟩ = some (.int .u64 t)) (first | go_keep | (exact ⟨KT.some c0, KT.some c1, KT.some c2, KT.some c3, KT.some c5⟩) | (exact ⟨e0, e1, e2, e3, e5⟩)) (first
    | (go_at_call 137; refine (PL _).out.mono ?_; rintro e w2 ⟨rfl, k2⟩; have KT : Kept w w2 := Kept.trans (b := _) (by first | exact KT | exact KT.drew | exact KT.drewN _) k2)
    | (go_at_call 138; refine (LA _).out.mono ?_; rintro e w3 ⟨rfl, k3⟩; have KT : Kept w w3 := Kept.trans (b := _) (by first | exact KT | exact KT.drew | exact KT.drewN _) k3)
    | (go_at_call 79; refine (hS _ (ref_kept hm hn1 (by first | exact KT | exact KT.drew | exact KT.drewN _))).out.mono ?_; rintro e w1 ⟨rfl, m1, b1⟩; have BT : But (fun k => k = M ∨ k = B) w w1 := (Kept.but (w' := _) (by first | exact KT | exact KT.drew | exact KT.drewN _) _).trans b1 (fun _ _ h => h); have e0 := BT.some c0 hQ; have e1 := BT.some c1 hQ; have e2 := BT.some c2 hQ; have e3 := BT.some c3 hQ; have e5 := BT.some c5 hQ))
  rename_i hcells
  clear hcells
  have c0 := BT.some c0 hQ
  have c1 := BT.some c1 hQ
  have c2 := BT.some c2 hQ
  have c3 := BT.some c3 hQ
  have c4 := BT.some c4 hQ
  have c5 := BT.some c5 hQ
  have c6 := BT.some c6 hQ
  have f : ∀ i, w1.frozen? ⟨Q, i, none⟩ = false := fun i => BT.soft hP (f i)
  have hP := Nat.lt_of_lt_of_le hP BT.size
  have NM := Lib.hid m1
  have GG : Hid (But (fun k => k = Q ∨ k = M ∨ k = B) w w1) := Lib.hid (BT.mono (fun _ _ h => Or.inr h))
  clear hm m1 b1 BT KT e0 e1 e2 e3 e5
  go_wp2
  go_ret
  go_light
  refine ⟨rfl, ?_, fun i => ?_, ?_, ?_⟩
  · simp [DDropC, cell_set, *]
  · simp [*]
  · exact ref_frame NM.out hn1 (T := fun k => k = Q) (by repeat (first | (with_reducible exact But.refl _ _) | (with_reducible refine But.here ?_ _ _) | (with_reducible refine But.drew ?_) | (with_reducible refine But.drewN ?_ _))) (fun h => hQ (Or.inl h.symm)) (fun h => hQ (Or.inr h.symm))
  · have gg := GG.out
    repeat (first | (with_reducible exact gg) | (with_reducible refine But.drew ?_) | (with_reducible refine But.drewN ?_ _) | ((with_reducible refine But.setCell ?_ (Or.inl (Or.inl rfl)) _)))
set_option maxHeartbeats 2000000 in
theorem rDrop_2 (Q M B n : Nat) (s : St) (w : World) (f : ∀ i, w.frozen? ⟨Q, i, none⟩ = false) (hm : RefIs w M B n s) (h0 : 0 ≤ s.cnt) (h1 : s.cnt ≤ 1000000) (hn : n ≤ 4096) (hn1 : 1 ≤ n) (hQ : ¬ (Q = M ∨ Q = B)) (H T K N t b : Int)  (c0 : w.cell? ⟨Q, 0, none⟩ = some (.int .i64 H)) (c1 : w.cell? ⟨Q, 1, none⟩ = some (.int .i64 T)) (c2 : w.cell? ⟨Q, 2, none⟩ = some (.int .i64 K)) (c3 : w.cell? ⟨Q, 3, none⟩ = some (.int .i64 N)) (c4 : w.cell? ⟨Q, 4, none⟩ = some (.int .i64 2)) (c5 : w.cell? ⟨Q, 5, none⟩ = some (.int .u64 t)) (c6 : w.cell? ⟨Q, 6, none⟩ = some (.int .i64 b)) :
    Calls Tryz.prog 128 #[.pointer (some ⟨Q, 0, none⟩), .pointer (some ⟨M, 0, none⟩)] w
      fun e w' => e = .returned (.bool true) ∧ DDropC w' Q (H) (T) (K) (N) (9) (t) (b) ∧ (∀ i, w'.frozen? ⟨Q, i, none⟩ = false) ∧ RefIs w' M B n (acc n s 2 H true (plus t)) ∧ But (fun k => k = Q ∨ k = M ∨ k = B) w w' := by
  have hP := lt_of_cell c0
  have hS : ∀ W, RefIs W M B n s → Hid (Calls Tryz.prog 79 #[.pointer (some ⟨M, 0, none⟩), .int .i64 H, .int .u64 ((t + 1) % 18446744073709551616)] W fun e w' => e = .returned (.tuple #[]) ∧ RefIs w' M B n (acc n s 2 H true (plus t)) ∧ But (fun k => k = M ∨ k = B) W w') := fun W m => Lib.hid (r_store M B n s H (plus t) W m h0 h1 hn)
  have wr : IntKind.u64.wrap (t + 1) = (t + 1) % 18446744073709551616 := IntKind.wrap_u64 _
  generalize (t + 1) % 18446744073709551616 = q at *
  obtain ⟨sN, hsN⟩ : ∃ sN, sN = acc n s 2 H true (plus t) := ⟨_, rfl⟩
  rw [← hsN]
  rw [← hsN] at hS
  clear hsN
  go_enter Tryz.func128, Tryz.ntmps128
  go_wp2_with fail
  go_region_held3 (fun w' => w'.cell? ⟨Q, 0, none⟩ = some (.int .i64 H) ∧ w'.cell? ⟨Q, 5, none⟩ = some (.int .u64 t)) (first | go_keep | (exact ⟨e0, e5⟩)) (first | (go_at_call 79; refine (hS _ (ref_kept hm hn1 (by first | exact Kept.refl _ | exact (Kept.refl _).drew | exact (Kept.refl _).drewN _))).out.mono ?_; rintro e w1 ⟨rfl, m1, b1⟩; have BT : But (fun k => k = M ∨ k = B) w w1 := (Kept.but (w' := _) (by first | exact Kept.refl _ | exact (Kept.refl _).drew | exact (Kept.refl _).drewN _) _).trans b1 (fun _ _ h => h); have e0 := BT.some c0 hQ; have e5 := BT.some c5 hQ))
  rename_i hcells
  clear hcells
  have c0 := BT.some c0 hQ
  have c1 := BT.some c1 hQ
  have c2 := BT.some c2 hQ
  have c3 := BT.some c3 hQ
  have c4 := BT.some c4 hQ
  have c5 := BT.some c5 hQ
  have c6 := BT.some c6 hQ
  have f : ∀ i, w1.frozen? ⟨Q, i, none⟩ = false := fun i => BT.soft hP (f i)
  have hP := Nat.lt_of_lt_of_le hP BT.size
  have NM := Lib.hid m1
  have GG : Hid (But (fun k => k = Q ∨ k = M ∨ k = B) w w1) := Lib.hid (BT.mono (fun _ _ h => Or.inr h))
  clear hm m1 b1 BT e0 e5
  go_wp2
  go_ret
  go_light
  refine ⟨rfl, ?_, fun i => ?_, ?_, ?_⟩
  · simp [DDropC, cell_set, *]
  · simp [*]
  · exact ref_frame NM.out hn1 (T := fun k => k = Q) (by repeat (first | (with_reducible exact But.refl _ _) | (with_reducible refine But.here ?_ _ _) | (with_reducible refine But.drew ?_) | (with_reducible refine But.drewN ?_ _))) (fun h => hQ (Or.inl h.symm)) (fun h => hQ (Or.inr h.symm))
  · have gg := GG.out
    repeat (first | (with_reducible exact gg) | (with_reducible refine But.drew ?_) | (with_reducible refine But.drewN ?_ _) | ((with_reducible refine But.setCell ?_ (Or.inl (Or.inl rfl)) _)))
theorem rPush_9 (Q : Nat) (m : Value) (w : World) (c : w.cell? ⟨Q, 5, none⟩ = some (.int .i64 9)) : Calls Tryz.prog 118 #[.pointer (some ⟨Q, 0, none⟩), m] w fun e w' => e = .returned (.bool true) ∧ w = w' := by
  go_enter Tryz.func118, Tryz.ntmps118
  go_wp2
  go_ret
  exact ⟨rfl, rfl⟩
theorem rFront_9 (Q : Nat) (m : Value) (w : World) (c : w.cell? ⟨Q, 4, none⟩ = some (.int .i64 9)) : Calls Tryz.prog 122 #[.pointer (some ⟨Q, 0, none⟩), m] w fun e w' => e = .returned (.bool true) ∧ w = w' := by
  go_enter Tryz.func122, Tryz.ntmps122
  go_wp2
  go_ret
  exact ⟨rfl, rfl⟩
theorem rDrop_9 (Q : Nat) (m : Value) (w : World) (c : w.cell? ⟨Q, 4, none⟩ = some (.int .i64 9)) : Calls Tryz.prog 128 #[.pointer (some ⟨Q, 0, none⟩), m] w fun e w' => e = .returned (.bool true) ∧ w = w' := by
  go_enter Tryz.func128, Tryz.ntmps128
  go_wp2
  go_ret
  exact ⟨rfl, rfl⟩
end Go.Proofs.YtlfdiffbepfgbaaGreat.Ri
