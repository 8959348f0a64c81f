/- The document's operations: each step at each line, what they have come to, how they are made. Written by gen12r.py. -/
import Derived.Test.YtmfbjlaajcdbnaaG09
import Derived.Test.YtmfbjlaajcdbnaaG04
import Derived.Test.YtmfbjlaajcdbnaaG11
import Derived.Lib.Hide
import Derived.Deep.Light
import Derived.Deep.RegionHeld3
import Derived.Deep.QuietTactic
import Derived.BigQuiet
set_option linter.unusedVariables false
set_option linter.unusedSimpArgs false

namespace Go.Proofs.Ytmfbjlaajcdbnaa.Ep
set_option maxRecDepth 20000
open Go.RowKit
open Wo (St acc wordAt PMem RefIs)
open Sk (Stk Wd r_load r_store r_cas ref_frame ref_kept ref_lt)

set_option maxHeartbeats 1000000 in
theorem rread_any (W : Int) (w : World) (h0 : 0 ≤ W) (h1 : W < 18446744073709551616) : Calls Try.prog 67 #[.int .u64 W] w fun e w' => e = .returned (.int .i64 (ep W)) ∧ w = w' := by
  have e0 := ep_lo W
  have e1 := ep_hi W
  have hm : W.tmod 4294967296 = ep W := Int.tmod_eq_emod_of_nonneg h0
  go_enter Try.func67, Try.ntmps67
  go_wp2
  go_ret
  exact ⟨rfl, rfl⟩
def RPinC (w : World) (Q : Nat) (T K N c l p b : Int) : Prop := w.cell? ⟨Q, 0, none⟩ = some (.int .i64 T) ∧ w.cell? ⟨Q, 1, none⟩ = some (.int .i64 K) ∧ w.cell? ⟨Q, 2, none⟩ = some (.int .i64 N) ∧ w.cell? ⟨Q, 3, none⟩ = some (.int .i64 c) ∧ w.cell? ⟨Q, 4, none⟩ = some (.int .i64 l) ∧ w.cell? ⟨Q, 5, none⟩ = some (.int .i64 p) ∧ w.cell? ⟨Q, 6, none⟩ = some (.int .i64 b)
theorem RPinC.frame {w w' : World} {Q : Nat} {T K N c l p b : Int} (h : RPinC w Q T K N c l p b) {T' : Nat → Prop} (hb : But T' w w') (hQ : ¬ T' Q) : RPinC w' Q T K N c l p b := by
  obtain ⟨h0, h1, h2, h3, h4, h5, h6⟩ := h
  exact ⟨hb.some h0 hQ, hb.some h1 hQ, hb.some h2 hQ, hb.some h3 hQ, hb.some h4 hQ, hb.some h5 hQ, hb.some h6 hQ⟩
def RUnpinC (w : World) (Q : Nat) (T K N c l b : Int) : Prop := w.cell? ⟨Q, 0, none⟩ = some (.int .i64 T) ∧ w.cell? ⟨Q, 1, none⟩ = some (.int .i64 K) ∧ w.cell? ⟨Q, 2, none⟩ = some (.int .i64 N) ∧ w.cell? ⟨Q, 3, none⟩ = some (.int .i64 c) ∧ w.cell? ⟨Q, 4, none⟩ = some (.int .i64 l) ∧ w.cell? ⟨Q, 5, none⟩ = some (.int .i64 b)
theorem RUnpinC.frame {w w' : World} {Q : Nat} {T K N c l b : Int} (h : RUnpinC w Q T K N c l b) {T' : Nat → Prop} (hb : But T' w w') (hQ : ¬ T' Q) : RUnpinC w' Q T K N c l b := by
  obtain ⟨h0, h1, h2, h3, h4, h5⟩ := h
  exact ⟨hb.some h0 hQ, hb.some h1 hQ, hb.some h2 hQ, hb.some h3 hQ, hb.some h4 hQ, hb.some h5 hQ⟩
def RAdvanceC (w : World) (Q : Nat) (T K N c p l W x b : Int) : Prop := w.cell? ⟨Q, 0, none⟩ = some (.int .i64 T) ∧ w.cell? ⟨Q, 1, none⟩ = some (.int .i64 K) ∧ w.cell? ⟨Q, 2, none⟩ = some (.int .i64 N) ∧ w.cell? ⟨Q, 3, none⟩ = some (.int .i64 c) ∧ w.cell? ⟨Q, 4, none⟩ = some (.int .i64 p) ∧ w.cell? ⟨Q, 5, none⟩ = some (.int .i64 l) ∧ w.cell? ⟨Q, 6, none⟩ = some (.int .u64 W) ∧ w.cell? ⟨Q, 7, none⟩ = some (.int .i64 x) ∧ w.cell? ⟨Q, 8, none⟩ = some (.int .i64 b)
theorem RAdvanceC.frame {w w' : World} {Q : Nat} {T K N c p l W x b : Int} (h : RAdvanceC w Q T K N c p l W x b) {T' : Nat → Prop} (hb : But T' w w') (hQ : ¬ T' Q) : RAdvanceC w' Q T K N c p l W x b := by
  obtain ⟨h0, h1, h2, h3, h4, h5, h6, h7, h8⟩ := h
  exact ⟨hb.some h0 hQ, hb.some h1 hQ, hb.some h2 hQ, hb.some h3 hQ, hb.some h4 hQ, hb.some h5 hQ, hb.some h6 hQ, hb.some h7 hQ, hb.some h8 hQ⟩
set_option maxHeartbeats 2000000 in
theorem rPin_1 (Q M B n : Nat) (s : St) (w : World) (f : ∀ i, w.frozen? ⟨Q, i, none⟩ = false) (hm : RefIs w M B n s) (h0 : 0 ≤ s.cnt) (h1 : s.cnt ≤ 1000000) (hn : n ≤ 4096) (hn1 : 1 ≤ n) (hQ : ¬ (Q = M ∨ Q = B)) (T K N c p b : Int) (wd : 0 ≤ wordAt n s T ∧ wordAt n s T < 18446744073709551616) (c0 : w.cell? ⟨Q, 0, none⟩ = some (.int .i64 T)) (c1 : w.cell? ⟨Q, 1, none⟩ = some (.int .i64 K)) (c2 : w.cell? ⟨Q, 2, none⟩ = some (.int .i64 N)) (c3 : w.cell? ⟨Q, 3, none⟩ = some (.int .i64 c)) (c4 : w.cell? ⟨Q, 4, none⟩ = some (.int .i64 1)) (c5 : w.cell? ⟨Q, 5, none⟩ = some (.int .i64 p)) (c6 : w.cell? ⟨Q, 6, none⟩ = some (.int .i64 b)) :
    Calls Try.prog 58 #[.pointer (some ⟨Q, 0, none⟩), .pointer (some ⟨M, 0, none⟩)] w
      fun e w' => e = .returned (.bool false) ∧ RPinC w' Q (T) (K) (N) (c) (2) (ep (wordAt n s T)) (b) ∧ (∀ i, w'.frozen? ⟨Q, i, none⟩ = false) ∧ RefIs w' M B n (acc n s 1 T false 0) ∧ But (fun k => k = Q ∨ k = M ∨ k = B) w w' := by
  have hP := lt_of_cell c0
  go_enter Try.func58, Try.ntmps58
  go_wp2_with fail
  refine (r_load M B n s T _ hm h0 h1 hn).mono ?_
  rintro e w1 ⟨rfl, m1, b1⟩
  have c0 := b1.some c0 hQ
  have c1 := b1.some c1 hQ
  have c2 := b1.some c2 hQ
  have c3 := b1.some c3 hQ
  have c4 := b1.some c4 hQ
  have c5 := b1.some c5 hQ
  have c6 := b1.some c6 hQ
  have f : ∀ i, w1.frozen? ⟨Q, i, none⟩ = false := fun i => b1.soft hP (f i)
  have hP := Nat.lt_of_lt_of_le hP b1.size
  have NM := Lib.hid m1
  have GG : Hid (But (fun k => k = Q ∨ k = M ∨ k = B) w w1) := Lib.hid (b1.mono (fun _ _ h => Or.inr h))
  clear hm m1 b1
  go_wp2_with fail
  refine (rread_any _ _ wd.1 wd.2).mono ?_
  rintro e _ ⟨rfl, rfl⟩
  go_wp2
  go_ret
  go_light
  refine ⟨rfl, ?_, fun i => ?_, ?_, ?_⟩
  · simp [RPinC, cell_set, *]
  · simp [*]
  · exact ref_frame NM.out hn1 (T := fun k => k = Q) (by repeat (first | (with_reducible exact But.refl _ _) | (with_reducible refine But.here ?_ _ _) | (with_reducible refine But.drew ?_) | (with_reducible refine But.drewN ?_ _))) (fun h => hQ (Or.inl h.symm)) (fun h => hQ (Or.inr h.symm))
  · have gg := GG.out
    repeat (first | (with_reducible exact gg) | (with_reducible refine But.drew ?_) | (with_reducible refine But.drewN ?_ _) | ((with_reducible refine But.setCell ?_ (Or.inl (Or.inl rfl)) _)))
set_option maxHeartbeats 2000000 in
theorem rPin_2 (Q M B n : Nat) (s : St) (w : World) (f : ∀ i, w.frozen? ⟨Q, i, none⟩ = false) (hm : RefIs w M B n s) (h0 : 0 ≤ s.cnt) (h1 : s.cnt ≤ 1000000) (hn : n ≤ 4096) (hn1 : 1 ≤ n) (hQ : ¬ (Q = M ∨ Q = B)) (T K N c p b : Int) (p0 : 0 ≤ p) (p1 : p ≤ 4294967295) (k0 : -9223372036854775808 ≤ K + c) (k1 : K + c ≤ 9223372036854775807) (c0 : w.cell? ⟨Q, 0, none⟩ = some (.int .i64 T)) (c1 : w.cell? ⟨Q, 1, none⟩ = some (.int .i64 K)) (c2 : w.cell? ⟨Q, 2, none⟩ = some (.int .i64 N)) (c3 : w.cell? ⟨Q, 3, none⟩ = some (.int .i64 c)) (c4 : w.cell? ⟨Q, 4, none⟩ = some (.int .i64 2)) (c5 : w.cell? ⟨Q, 5, none⟩ = some (.int .i64 p)) (c6 : w.cell? ⟨Q, 6, none⟩ = some (.int .i64 b)) :
    Calls Try.prog 58 #[.pointer (some ⟨Q, 0, none⟩), .pointer (some ⟨M, 0, none⟩)] w
      fun e w' => e = .returned (.bool false) ∧ RPinC w' Q (T) (K) (N) (c) (3) (p) (b) ∧ (∀ i, w'.frozen? ⟨Q, i, none⟩ = false) ∧ RefIs w' M B n (acc n s 2 (K + c) true (p + 1)) ∧ But (fun k => k = Q ∨ k = M ∨ k = B) w w' := by
  have hP := lt_of_cell c0
  have hs1 : IntKind.i64.wrap (K + c) = K + c := by rw [IntKind.wrap_i64]; omega
  have hs2 : IntKind.u64.wrap p = p := by rw [IntKind.wrap_u64]; omega
  have hs3 : IntKind.u64.wrap (p + 1) = p + 1 := by rw [IntKind.wrap_u64]; omega
  go_enter Try.func58, Try.ntmps58
  go_wp2_with fail
  go_region_held3 (fun w' => w'.cell? ⟨Q, 1, none⟩ = some (.int .i64 K) ∧ w'.cell? ⟨Q, 3, none⟩ = some (.int .i64 c) ∧ w'.cell? ⟨Q, 5, none⟩ = some (.int .i64 p)) (first | go_keep | (exact ⟨q1, q3, q5⟩)) (first | (go_at_call 54; refine (r_store M B n s (K + c) (p + 1) _ (ref_kept hm hn1 (by first | exact Kept.refl _ | exact (Kept.refl _).drew | exact (Kept.refl _).drewN _)) h0 h1 hn).mono ?_; rintro e w1 ⟨rfl, m1, b1⟩; have BW : But (fun k => k = M ∨ k = B) w w1 := (Kept.but (w := w) (by first | exact Kept.refl _ | exact (Kept.refl _).drew | exact (Kept.refl _).drewN _) _).trans b1 (fun _ _ h => h); have q0 := BW.some c0 hQ; have q1 := BW.some c1 hQ; have q2 := BW.some c2 hQ; have q3 := BW.some c3 hQ; have q4 := BW.some c4 hQ; have q5 := BW.some c5 hQ; have q6 := BW.some c6 hQ))
  rename_i hcells
  clear hcells
  have c0 := q0
  have c1 := q1
  have c2 := q2
  have c3 := q3
  have c4 := q4
  have c5 := q5
  have c6 := q6
  have f : ∀ i, w1.frozen? ⟨Q, i, none⟩ = false := fun i => BW.soft hP (f i)
  have hP := Nat.lt_of_lt_of_le hP BW.size
  have NM := Lib.hid m1
  have GG : Hid (But (fun k => k = Q ∨ k = M ∨ k = B) w w1) := Lib.hid (BW.mono (fun _ _ h => Or.inr h))
  clear hm m1 b1 BW q0 q1 q2 q3 q4 q5 q6
  go_wp2
  go_ret
  go_light
  refine ⟨rfl, ?_, fun i => ?_, ?_, ?_⟩
  · simp [RPinC, cell_set, *]
  · simp [*]
  · exact ref_frame NM.out hn1 (T := fun k => k = Q) (by repeat (first | (with_reducible exact But.refl _ _) | (with_reducible refine But.here ?_ _ _) | (with_reducible refine But.drew ?_) | (with_reducible refine But.drewN ?_ _))) (fun h => hQ (Or.inl h.symm)) (fun h => hQ (Or.inr h.symm))
  · have gg := GG.out
    repeat (first | (with_reducible exact gg) | (with_reducible refine But.drew ?_) | (with_reducible refine But.drewN ?_ _) | ((with_reducible refine But.setCell ?_ (Or.inl (Or.inl rfl)) _)))
set_option maxHeartbeats 2000000 in
theorem rPin_3yes (Q M B n : Nat) (s : St) (w : World) (f : ∀ i, w.frozen? ⟨Q, i, none⟩ = false) (hm : RefIs w M B n s) (h0 : 0 ≤ s.cnt) (h1 : s.cnt ≤ 1000000) (hn : n ≤ 4096) (hn1 : 1 ≤ n) (hQ : ¬ (Q = M ∨ Q = B)) (T K N c p b : Int) (wd : 0 ≤ wordAt n s T ∧ wordAt n s T < 18446744073709551616) (he : ep (wordAt n s T) = p) (c0 : w.cell? ⟨Q, 0, none⟩ = some (.int .i64 T)) (c1 : w.cell? ⟨Q, 1, none⟩ = some (.int .i64 K)) (c2 : w.cell? ⟨Q, 2, none⟩ = some (.int .i64 N)) (c3 : w.cell? ⟨Q, 3, none⟩ = some (.int .i64 c)) (c4 : w.cell? ⟨Q, 4, none⟩ = some (.int .i64 3)) (c5 : w.cell? ⟨Q, 5, none⟩ = some (.int .i64 p)) (c6 : w.cell? ⟨Q, 6, none⟩ = some (.int .i64 b)) :
    Calls Try.prog 58 #[.pointer (some ⟨Q, 0, none⟩), .pointer (some ⟨M, 0, none⟩)] w
      fun e w' => e = .returned (.bool true) ∧ RPinC w' Q (T) (K) (N) (c) (9) (p) (b) ∧ (∀ i, w'.frozen? ⟨Q, i, none⟩ = false) ∧ RefIs w' M B n (acc n s 1 T false 0) ∧ But (fun k => k = Q ∨ k = M ∨ k = B) w w' := by
  have hP := lt_of_cell c0
  go_enter Try.func58, Try.ntmps58
  go_wp2_with fail
  refine (r_load M B n s T _ hm h0 h1 hn).mono ?_
  rintro e w1 ⟨rfl, m1, b1⟩
  have c0 := b1.some c0 hQ
  have c1 := b1.some c1 hQ
  have c2 := b1.some c2 hQ
  have c3 := b1.some c3 hQ
  have c4 := b1.some c4 hQ
  have c5 := b1.some c5 hQ
  have c6 := b1.some c6 hQ
  have f : ∀ i, w1.frozen? ⟨Q, i, none⟩ = false := fun i => b1.soft hP (f i)
  have hP := Nat.lt_of_lt_of_le hP b1.size
  have NM := Lib.hid m1
  have GG : Hid (But (fun k => k = Q ∨ k = M ∨ k = B) w w1) := Lib.hid (b1.mono (fun _ _ h => Or.inr h))
  clear hm m1 b1
  go_wp2_with fail
  refine (rread_any _ _ wd.1 wd.2).mono ?_
  rintro e _ ⟨rfl, rfl⟩
  have hb : (ep (wordAt n s T) != p) = false := by rw [he]; simp
  go_wp2
  go_ret
  go_light
  refine ⟨rfl, ?_, fun i => ?_, ?_, ?_⟩
  · simp [RPinC, cell_set, *]
  · simp [*]
  · exact ref_frame NM.out hn1 (T := fun k => k = Q) (by repeat (first | (with_reducible exact But.refl _ _) | (with_reducible refine But.here ?_ _ _) | (with_reducible refine But.drew ?_) | (with_reducible refine But.drewN ?_ _))) (fun h => hQ (Or.inl h.symm)) (fun h => hQ (Or.inr h.symm))
  · have gg := GG.out
    repeat (first | (with_reducible exact gg) | (with_reducible refine But.drew ?_) | (with_reducible refine But.drewN ?_ _) | ((with_reducible refine But.setCell ?_ (Or.inl (Or.inl rfl)) _)))
set_option maxHeartbeats 2000000 in
theorem rPin_3no (Q M B n : Nat) (s : St) (w : World) (f : ∀ i, w.frozen? ⟨Q, i, none⟩ = false) (hm : RefIs w M B n s) (h0 : 0 ≤ s.cnt) (h1 : s.cnt ≤ 1000000) (hn : n ≤ 4096) (hn1 : 1 ≤ n) (hQ : ¬ (Q = M ∨ Q = B)) (T K N c p b : Int) (wd : 0 ≤ wordAt n s T ∧ wordAt n s T < 18446744073709551616) (he : ep (wordAt n s T) ≠ p) (c0 : w.cell? ⟨Q, 0, none⟩ = some (.int .i64 T)) (c1 : w.cell? ⟨Q, 1, none⟩ = some (.int .i64 K)) (c2 : w.cell? ⟨Q, 2, none⟩ = some (.int .i64 N)) (c3 : w.cell? ⟨Q, 3, none⟩ = some (.int .i64 c)) (c4 : w.cell? ⟨Q, 4, none⟩ = some (.int .i64 3)) (c5 : w.cell? ⟨Q, 5, none⟩ = some (.int .i64 p)) (c6 : w.cell? ⟨Q, 6, none⟩ = some (.int .i64 b)) :
    Calls Try.prog 58 #[.pointer (some ⟨Q, 0, none⟩), .pointer (some ⟨M, 0, none⟩)] w
      fun e w' => e = .returned (.bool false) ∧ RPinC w' Q (T) (K) (N) (c) (2) (ep (wordAt n s T)) (b) ∧ (∀ i, w'.frozen? ⟨Q, i, none⟩ = false) ∧ RefIs w' M B n (acc n s 1 T false 0) ∧ But (fun k => k = Q ∨ k = M ∨ k = B) w w' := by
  have hP := lt_of_cell c0
  go_enter Try.func58, Try.ntmps58
  go_wp2_with fail
  refine (r_load M B n s T _ hm h0 h1 hn).mono ?_
  rintro e w1 ⟨rfl, m1, b1⟩
  have c0 := b1.some c0 hQ
  have c1 := b1.some c1 hQ
  have c2 := b1.some c2 hQ
  have c3 := b1.some c3 hQ
  have c4 := b1.some c4 hQ
  have c5 := b1.some c5 hQ
  have c6 := b1.some c6 hQ
  have f : ∀ i, w1.frozen? ⟨Q, i, none⟩ = false := fun i => b1.soft hP (f i)
  have hP := Nat.lt_of_lt_of_le hP b1.size
  have NM := Lib.hid m1
  have GG : Hid (But (fun k => k = Q ∨ k = M ∨ k = B) w w1) := Lib.hid (b1.mono (fun _ _ h => Or.inr h))
  clear hm m1 b1
  go_wp2_with fail
  refine (rread_any _ _ wd.1 wd.2).mono ?_
  rintro e _ ⟨rfl, rfl⟩
  have hb : (ep (wordAt n s T) != p) = true := by simpa using he
  go_wp2
  go_ret
  go_light
  refine ⟨rfl, ?_, fun i => ?_, ?_, ?_⟩
  · simp [RPinC, cell_set, *]
  · simp [*]
  · exact ref_frame NM.out hn1 (T := fun k => k = Q) (by repeat (first | (with_reducible exact But.refl _ _) | (with_reducible refine But.here ?_ _ _) | (with_reducible refine But.drew ?_) | (with_reducible refine But.drewN ?_ _))) (fun h => hQ (Or.inl h.symm)) (fun h => hQ (Or.inr h.symm))
  · have gg := GG.out
    repeat (first | (with_reducible exact gg) | (with_reducible refine But.drew ?_) | (with_reducible refine But.drewN ?_ _) | ((with_reducible refine But.setCell ?_ (Or.inl (Or.inl rfl)) _)))
set_option maxHeartbeats 1000000 in
theorem rPin_9 (Q : Nat) (V : Value) (w : World) (T K N c p b : Int) (c0 : w.cell? ⟨Q, 0, none⟩ = some (.int .i64 T)) (c1 : w.cell? ⟨Q, 1, none⟩ = some (.int .i64 K)) (c2 : w.cell? ⟨Q, 2, none⟩ = some (.int .i64 N)) (c3 : w.cell? ⟨Q, 3, none⟩ = some (.int .i64 c)) (c4 : w.cell? ⟨Q, 4, none⟩ = some (.int .i64 9)) (c5 : w.cell? ⟨Q, 5, none⟩ = some (.int .i64 p)) (c6 : w.cell? ⟨Q, 6, none⟩ = some (.int .i64 b)) : Calls Try.prog 58 #[.pointer (some ⟨Q, 0, none⟩), V] w fun e w' => e = .returned (.bool true) ∧ w = w' := by
  go_enter Try.func58, Try.ntmps58
  go_wp2
  go_ret
  exact ⟨rfl, rfl⟩
set_option maxHeartbeats 2000000 in
theorem rUnpin_1 (Q M B n : Nat) (s : St) (w : World) (f : ∀ i, w.frozen? ⟨Q, i, none⟩ = false) (hm : RefIs w M B n s) (h0 : 0 ≤ s.cnt) (h1 : s.cnt ≤ 1000000) (hn : n ≤ 4096) (hn1 : 1 ≤ n) (hQ : ¬ (Q = M ∨ Q = B)) (T K N c b : Int) (k0 : -9223372036854775808 ≤ K + c) (k1 : K + c ≤ 9223372036854775807) (c0 : w.cell? ⟨Q, 0, none⟩ = some (.int .i64 T)) (c1 : w.cell? ⟨Q, 1, none⟩ = some (.int .i64 K)) (c2 : w.cell? ⟨Q, 2, none⟩ = some (.int .i64 N)) (c3 : w.cell? ⟨Q, 3, none⟩ = some (.int .i64 c)) (c4 : w.cell? ⟨Q, 4, none⟩ = some (.int .i64 1)) (c5 : w.cell? ⟨Q, 5, none⟩ = some (.int .i64 b)) :
    Calls Try.prog 60 #[.pointer (some ⟨Q, 0, none⟩), .pointer (some ⟨M, 0, none⟩)] w
      fun e w' => e = .returned (.bool true) ∧ RUnpinC w' Q (T) (K) (N) (c) (9) (b) ∧ (∀ i, w'.frozen? ⟨Q, i, none⟩ = false) ∧ RefIs w' M B n (acc n s 2 (K + c) true 0) ∧ But (fun k => k = Q ∨ k = M ∨ k = B) w w' := by
  have hP := lt_of_cell c0
  have hs1 : IntKind.i64.wrap (K + c) = K + c := by rw [IntKind.wrap_i64]; omega
  go_enter Try.func60, Try.ntmps60
  go_wp2_with fail
  go_region_held3 (fun w' => w'.cell? ⟨Q, 1, none⟩ = some (.int .i64 K) ∧ w'.cell? ⟨Q, 3, none⟩ = some (.int .i64 c)) (first | go_keep | (exact ⟨q1, q3⟩)) (first | (go_at_call 54; refine (r_store M B n s (K + c) 0 _ (ref_kept hm hn1 (by first | exact Kept.refl _ | exact (Kept.refl _).drew | exact (Kept.refl _).drewN _)) h0 h1 hn).mono ?_; rintro e w1 ⟨rfl, m1, b1⟩; have BW : But (fun k => k = M ∨ k = B) w w1 := (Kept.but (w := w) (by first | exact Kept.refl _ | exact (Kept.refl _).drew | exact (Kept.refl _).drewN _) _).trans b1 (fun _ _ h => h); have q0 := BW.some c0 hQ; have q1 := BW.some c1 hQ; have q2 := BW.some c2 hQ; have q3 := BW.some c3 hQ; have q4 := BW.some c4 hQ; have q5 := BW.some c5 hQ))
  rename_i hcells
  clear hcells
  have c0 := q0
  have c1 := q1
  have c2 := q2
  have c3 := q3
  have c4 := q4
  have c5 := q5
  have f : ∀ i, w1.frozen? ⟨Q, i, none⟩ = false := fun i => BW.soft hP (f i)
  have hP := Nat.lt_of_lt_of_le hP BW.size
  have NM := Lib.hid m1
  have GG : Hid (But (fun k => k = Q ∨ k = M ∨ k = B) w w1) := Lib.hid (BW.mono (fun _ _ h => Or.inr h))
  clear hm m1 b1 BW q0 q1 q2 q3 q4 q5
  go_wp2
  go_ret
  go_light
  refine ⟨rfl, ?_, fun i => ?_, ?_, ?_⟩
  · simp [RUnpinC, cell_set, *]
  · simp [*]
  · exact ref_frame NM.out hn1 (T := fun k => k = Q) (by repeat (first | (with_reducible exact But.refl _ _) | (with_reducible refine But.here ?_ _ _) | (with_reducible refine But.drew ?_) | (with_reducible refine But.drewN ?_ _))) (fun h => hQ (Or.inl h.symm)) (fun h => hQ (Or.inr h.symm))
  · have gg := GG.out
    repeat (first | (with_reducible exact gg) | (with_reducible refine But.drew ?_) | (with_reducible refine But.drewN ?_ _) | ((with_reducible refine But.setCell ?_ (Or.inl (Or.inl rfl)) _)))
set_option maxHeartbeats 1000000 in
theorem rUnpin_9 (Q : Nat) (V : Value) (w : World) (T K N c b : Int) (c0 : w.cell? ⟨Q, 0, none⟩ = some (.int .i64 T)) (c1 : w.cell? ⟨Q, 1, none⟩ = some (.int .i64 K)) (c2 : w.cell? ⟨Q, 2, none⟩ = some (.int .i64 N)) (c3 : w.cell? ⟨Q, 3, none⟩ = some (.int .i64 c)) (c4 : w.cell? ⟨Q, 4, none⟩ = some (.int .i64 9)) (c5 : w.cell? ⟨Q, 5, none⟩ = some (.int .i64 b)) : Calls Try.prog 60 #[.pointer (some ⟨Q, 0, none⟩), V] w fun e w' => e = .returned (.bool true) ∧ w = w' := by
  go_enter Try.func60, Try.ntmps60
  go_wp2
  go_ret
  exact ⟨rfl, rfl⟩
end Go.Proofs.Ytmfbjlaajcdbnaa.Ep

namespace Go.Proofs.Ytmfbjlaajcdbnaa.Ep
set_option maxRecDepth 20000
open Go.RowKit
open Wo (St acc wordAt PMem RefIs)
open Sk (Stk Wd r_load r_store r_cas ref_frame ref_kept ref_lt)

set_option maxHeartbeats 1000000 in
theorem rends_any (Q : Nat) (e0 T K N c p l W x b : Int) (w : World) (f : ∀ i, w.frozen? ⟨Q, i, none⟩ = false) (c0 : w.cell? ⟨Q, 0, none⟩ = some (.int .i64 T)) (c1 : w.cell? ⟨Q, 1, none⟩ = some (.int .i64 K)) (c2 : w.cell? ⟨Q, 2, none⟩ = some (.int .i64 N)) (c3 : w.cell? ⟨Q, 3, none⟩ = some (.int .i64 c)) (c4 : w.cell? ⟨Q, 4, none⟩ = some (.int .i64 p)) (c5 : w.cell? ⟨Q, 5, none⟩ = some (.int .i64 l)) (c6 : w.cell? ⟨Q, 6, none⟩ = some (.int .u64 W)) (c7 : w.cell? ⟨Q, 7, none⟩ = some (.int .i64 x)) (c8 : w.cell? ⟨Q, 8, none⟩ = some (.int .i64 b)) : Calls Try.prog 93 #[.pointer (some ⟨Q, 0, none⟩), .int .i64 e0] w fun e w' => e = .returned (.tuple #[]) ∧ RAdvanceC w' Q (T) (K) (N) (c) (p) (9) (W) (x) (e0) ∧ (∀ i, w'.frozen? ⟨Q, i, none⟩ = false) ∧ But (fun k => k = Q) w w' := by
  go_enter Try.func93, Try.ntmps93
  go_wp2
  go_end0
  go_light
  refine ⟨rfl, ?_, fun i => ?_, ?_⟩
  · simp [RAdvanceC, cell_set, *]
  · simp [*]
  · repeat (first | (with_reducible exact But.refl _ _) | (with_reducible refine But.drew ?_) | (with_reducible refine But.drewN ?_ _) | (with_reducible refine But.here ?_ _ _))
set_option maxHeartbeats 1000000 in
theorem rskips_eq_on (Q : Nat) (T K N c p l W x b : Int) (w : World) (x0 : -1000000 ≤ x) (x1 : x ≤ 1000000) (hx : x = c) (hs : x + 1 < N) (f : ∀ i, w.frozen? ⟨Q, i, none⟩ = false) (c0 : w.cell? ⟨Q, 0, none⟩ = some (.int .i64 T)) (c1 : w.cell? ⟨Q, 1, none⟩ = some (.int .i64 K)) (c2 : w.cell? ⟨Q, 2, none⟩ = some (.int .i64 N)) (c3 : w.cell? ⟨Q, 3, none⟩ = some (.int .i64 c)) (c4 : w.cell? ⟨Q, 4, none⟩ = some (.int .i64 p)) (c5 : w.cell? ⟨Q, 5, none⟩ = some (.int .i64 l)) (c6 : w.cell? ⟨Q, 6, none⟩ = some (.int .u64 W)) (c7 : w.cell? ⟨Q, 7, none⟩ = some (.int .i64 x)) (c8 : w.cell? ⟨Q, 8, none⟩ = some (.int .i64 b)) : Calls Try.prog 94 #[.pointer (some ⟨Q, 0, none⟩)] w fun e w' => e = .returned (.tuple #[]) ∧ RAdvanceC w' Q (T) (K) (N) (c) (p) (2) (W) (x + 1) (b) ∧ (∀ i, w'.frozen? ⟨Q, i, none⟩ = false) ∧ But (fun k => k = Q) w w' := by
  have h1 : (x == c) = true := by simpa using hx
  have h2 : ¬ (N ≤ x + 1) := by omega
  have hw : IntKind.i64.wrap (x + 1) = x + 1 := by rw [IntKind.wrap_i64]; omega
  go_enter Try.func94, Try.ntmps94
  go_wp2_with fail
  go_quiet (fail)
  go_wp2_with fail
  go_quiet (fail)
  go_wp2
  go_end0
  go_light
  refine ⟨rfl, ?_, fun i => ?_, ?_⟩
  · simp [RAdvanceC, cell_set, *]
  · simp [*]
  · repeat (first | (with_reducible exact But.refl _ _) | (with_reducible refine But.drew ?_) | (with_reducible refine But.drewN ?_ _) | (with_reducible refine But.here ?_ _ _))
set_option maxHeartbeats 1000000 in
theorem rskips_eq_off (Q : Nat) (T K N c p l W x b : Int) (w : World) (x0 : -1000000 ≤ x) (x1 : x ≤ 1000000) (hx : x = c) (hs : N ≤ x + 1) (f : ∀ i, w.frozen? ⟨Q, i, none⟩ = false) (c0 : w.cell? ⟨Q, 0, none⟩ = some (.int .i64 T)) (c1 : w.cell? ⟨Q, 1, none⟩ = some (.int .i64 K)) (c2 : w.cell? ⟨Q, 2, none⟩ = some (.int .i64 N)) (c3 : w.cell? ⟨Q, 3, none⟩ = some (.int .i64 c)) (c4 : w.cell? ⟨Q, 4, none⟩ = some (.int .i64 p)) (c5 : w.cell? ⟨Q, 5, none⟩ = some (.int .i64 l)) (c6 : w.cell? ⟨Q, 6, none⟩ = some (.int .u64 W)) (c7 : w.cell? ⟨Q, 7, none⟩ = some (.int .i64 x)) (c8 : w.cell? ⟨Q, 8, none⟩ = some (.int .i64 b)) : Calls Try.prog 94 #[.pointer (some ⟨Q, 0, none⟩)] w fun e w' => e = .returned (.tuple #[]) ∧ RAdvanceC w' Q (T) (K) (N) (c) (p) (3) (W) (x + 1) (b) ∧ (∀ i, w'.frozen? ⟨Q, i, none⟩ = false) ∧ But (fun k => k = Q) w w' := by
  have h1 : (x == c) = true := by simpa using hx
  have hw : IntKind.i64.wrap (x + 1) = x + 1 := by rw [IntKind.wrap_i64]; omega
  go_enter Try.func94, Try.ntmps94
  go_wp2_with fail
  go_quiet (fail)
  go_wp2_with fail
  go_quiet (fail)
  go_wp2
  go_end0
  go_light
  refine ⟨rfl, ?_, fun i => ?_, ?_⟩
  · simp [RAdvanceC, cell_set, *]
  · simp [*]
  · repeat (first | (with_reducible exact But.refl _ _) | (with_reducible refine But.drew ?_) | (with_reducible refine But.drewN ?_ _) | (with_reducible refine But.here ?_ _ _))
set_option maxHeartbeats 1000000 in
theorem rskips_ne_on (Q : Nat) (T K N c p l W x b : Int) (w : World) (x0 : -1000000 ≤ x) (x1 : x ≤ 1000000) (hx : x ≠ c) (hs : x < N) (f : ∀ i, w.frozen? ⟨Q, i, none⟩ = false) (c0 : w.cell? ⟨Q, 0, none⟩ = some (.int .i64 T)) (c1 : w.cell? ⟨Q, 1, none⟩ = some (.int .i64 K)) (c2 : w.cell? ⟨Q, 2, none⟩ = some (.int .i64 N)) (c3 : w.cell? ⟨Q, 3, none⟩ = some (.int .i64 c)) (c4 : w.cell? ⟨Q, 4, none⟩ = some (.int .i64 p)) (c5 : w.cell? ⟨Q, 5, none⟩ = some (.int .i64 l)) (c6 : w.cell? ⟨Q, 6, none⟩ = some (.int .u64 W)) (c7 : w.cell? ⟨Q, 7, none⟩ = some (.int .i64 x)) (c8 : w.cell? ⟨Q, 8, none⟩ = some (.int .i64 b)) : Calls Try.prog 94 #[.pointer (some ⟨Q, 0, none⟩)] w fun e w' => e = .returned (.tuple #[]) ∧ RAdvanceC w' Q (T) (K) (N) (c) (p) (2) (W) (x) (b) ∧ (∀ i, w'.frozen? ⟨Q, i, none⟩ = false) ∧ But (fun k => k = Q) w w' := by
  have h1 : (x == c) = false := by simpa using hx
  have h2 : ¬ (N ≤ x) := by omega
  have hw : IntKind.i64.wrap (x + 1) = x + 1 := by rw [IntKind.wrap_i64]; omega
  go_enter Try.func94, Try.ntmps94
  go_wp2_with fail
  go_quiet (fail)
  go_wp2_with fail
  go_quiet (fail)
  go_wp2
  go_end0
  go_light
  refine ⟨rfl, ?_, fun i => ?_, ?_⟩
  · simp [RAdvanceC, cell_set, *]
  · simp [*]
  · repeat (first | (with_reducible exact But.refl _ _) | (with_reducible refine But.drew ?_) | (with_reducible refine But.drewN ?_ _) | (with_reducible refine But.here ?_ _ _))
set_option maxHeartbeats 1000000 in
theorem rskips_ne_off (Q : Nat) (T K N c p l W x b : Int) (w : World) (x0 : -1000000 ≤ x) (x1 : x ≤ 1000000) (hx : x ≠ c) (hs : N ≤ x) (f : ∀ i, w.frozen? ⟨Q, i, none⟩ = false) (c0 : w.cell? ⟨Q, 0, none⟩ = some (.int .i64 T)) (c1 : w.cell? ⟨Q, 1, none⟩ = some (.int .i64 K)) (c2 : w.cell? ⟨Q, 2, none⟩ = some (.int .i64 N)) (c3 : w.cell? ⟨Q, 3, none⟩ = some (.int .i64 c)) (c4 : w.cell? ⟨Q, 4, none⟩ = some (.int .i64 p)) (c5 : w.cell? ⟨Q, 5, none⟩ = some (.int .i64 l)) (c6 : w.cell? ⟨Q, 6, none⟩ = some (.int .u64 W)) (c7 : w.cell? ⟨Q, 7, none⟩ = some (.int .i64 x)) (c8 : w.cell? ⟨Q, 8, none⟩ = some (.int .i64 b)) : Calls Try.prog 94 #[.pointer (some ⟨Q, 0, none⟩)] w fun e w' => e = .returned (.tuple #[]) ∧ RAdvanceC w' Q (T) (K) (N) (c) (p) (3) (W) (x) (b) ∧ (∀ i, w'.frozen? ⟨Q, i, none⟩ = false) ∧ But (fun k => k = Q) w w' := by
  have h1 : (x == c) = false := by simpa using hx
  have hw : IntKind.i64.wrap (x + 1) = x + 1 := by rw [IntKind.wrap_i64]; omega
  go_enter Try.func94, Try.ntmps94
  go_wp2_with fail
  go_quiet (fail)
  go_wp2_with fail
  go_quiet (fail)
  go_wp2
  go_end0
  go_light
  refine ⟨rfl, ?_, fun i => ?_, ?_⟩
  · simp [RAdvanceC, cell_set, *]
  · simp [*]
  · repeat (first | (with_reducible exact But.refl _ _) | (with_reducible refine But.drew ?_) | (with_reducible refine But.drewN ?_ _) | (with_reducible refine But.here ?_ _ _))
theorem rskips_any (Q : Nat) (T K N c p l W x b : Int) (w : World) (x0 : -1000000 ≤ x) (x1 : x ≤ 1000000) (f : ∀ i, w.frozen? ⟨Q, i, none⟩ = false) (c0 : w.cell? ⟨Q, 0, none⟩ = some (.int .i64 T)) (c1 : w.cell? ⟨Q, 1, none⟩ = some (.int .i64 K)) (c2 : w.cell? ⟨Q, 2, none⟩ = some (.int .i64 N)) (c3 : w.cell? ⟨Q, 3, none⟩ = some (.int .i64 c)) (c4 : w.cell? ⟨Q, 4, none⟩ = some (.int .i64 p)) (c5 : w.cell? ⟨Q, 5, none⟩ = some (.int .i64 l)) (c6 : w.cell? ⟨Q, 6, none⟩ = some (.int .u64 W)) (c7 : w.cell? ⟨Q, 7, none⟩ = some (.int .i64 x)) (c8 : w.cell? ⟨Q, 8, none⟩ = some (.int .i64 b)) : Calls Try.prog 94 #[.pointer (some ⟨Q, 0, none⟩)] w fun e w' => e = .returned (.tuple #[]) ∧ RAdvanceC w' Q (T) (K) (N) (c) (p) (if skip c x < N then 2 else 3) (W) (skip c x) (b) ∧ (∀ i, w'.frozen? ⟨Q, i, none⟩ = false) ∧ But (fun k => k = Q) w w' := by
  by_cases hx : x = c
  · have es : skip c x = x + 1 := by unfold skip; rw [if_pos hx]
    rw [es]
    by_cases hs : x + 1 < N
    · rw [if_pos hs]; exact rskips_eq_on Q T K N c p l W x b w x0 x1 hx hs f c0 c1 c2 c3 c4 c5 c6 c7 c8
    · rw [if_neg hs]; exact rskips_eq_off Q T K N c p l W x b w x0 x1 hx (by omega) f c0 c1 c2 c3 c4 c5 c6 c7 c8
  · have es : skip c x = x := by unfold skip; rw [if_neg hx]
    rw [es]
    by_cases hs : x < N
    · rw [if_pos hs]; exact rskips_ne_on Q T K N c p l W x b w x0 x1 hx hs f c0 c1 c2 c3 c4 c5 c6 c7 c8
    · rw [if_neg hs]; exact rskips_ne_off Q T K N c p l W x b w x0 x1 hx (by omega) f c0 c1 c2 c3 c4 c5 c6 c7 c8
end Go.Proofs.Ytmfbjlaajcdbnaa.Ep
