/- The program's rows of Pin and Unpin: hold, leave, check. Written by gen12.py. -/
import Derived.Test.YtmfbjlaajcdbnaaG09
import Derived.Deep.RegionHeld3
import Derived.Deep.RegionLaw
set_option linter.unusedVariables false
set_option linter.unusedSimpArgs false

namespace Go.Proofs.Ytmfbjlaajcdbnaa.Ep
set_option maxRecDepth 20000
open Go.RowKit
open Wo (St acc wordAt PMem RefIs)
open Sk (Stk Wd p_load p_store p_cas pmem_kept pmem_lt pmem_frame)

set_option maxHeartbeats 2000000 in
theorem hold_any (S : Stk) (c : Int) (made : Bool) (nx W u q er : Int) (M B n : Nat) (s : St) (w : World) (hm : PMem w M B n s) (h0 : 0 ≤ s.cnt) (h1 : s.cnt ≤ 1000000) (W00 : 0 ≤ W) (W01 : W < 18446744073709551616) (k0 : -9223372036854775808 ≤ S.K + c) (k1 : S.K + c ≤ 9223372036854775807) :
    Calls Try.prog 78 #[seatV S c, stV made nx W u q er, .pointer (some ⟨M, 0, none⟩)] w (Row M B n (acc n s 2 (S.K + c) true (ep W + 1)) (stV made 3 W u q er) w) := by
  have hl := (pmem_lt hm).2
  have hlM := (pmem_lt hm).1
  have HM := Lib.hid hm
  clear hm
  go_enter Try.func78, Try.ntmps78
  go_upto_region 1 with fail
  obtain ⟨W0, hW0⟩ : ∃ W0, W0 = (((w.alloc (.cells #[.int .i64 S.T, .int .i64 S.K, .int .i64 S.N, .int .i64 c] 134)).alloc (.cells #[.bool made, .int .i64 nx, .int .u64 W, .int .i64 u, .int .i64 q, .int .i64 er] 68)).alloc (.cells #[.bool false, .int .i64 0, .int .u64 0, .int .i64 0, .int .i64 0, .int .i64 0] 68)) := ⟨_, rfl⟩
  have T0 : Three w W0 made nx W u q er := by rw [hW0]; exact three_new ..
  have a0 : W0.cell? ⟨w.heap.size, 0, none⟩ = some (.int .i64 S.T) := by rw [hW0]; exact (((Kept.refl _).alloc _ _).alloc _ _).some (cell_new _ _ _ _ 0 rfl)
  have a1 : W0.cell? ⟨w.heap.size, 1, none⟩ = some (.int .i64 S.K) := by rw [hW0]; exact (((Kept.refl _).alloc _ _).alloc _ _).some (cell_new _ _ _ _ 1 rfl)
  have a2 : W0.cell? ⟨w.heap.size, 2, none⟩ = some (.int .i64 S.N) := by rw [hW0]; exact (((Kept.refl _).alloc _ _).alloc _ _).some (cell_new _ _ _ _ 2 rfl)
  have a3 : W0.cell? ⟨w.heap.size, 3, none⟩ = some (.int .i64 c) := by rw [hW0]; exact (((Kept.refl _).alloc _ _).alloc _ _).some (cell_new _ _ _ _ 3 rfl)
  rw [← hW0]
  clear hW0
  have TT := Lib.hid T0
  obtain ⟨q0, q1, q2, q3, q4, q5⟩ := T0.st
  have KT : Kept W0 W0 := Kept.refl _
  have ep0 := ep_lo W
  have ep1 := ep_hi W
  have hw1 : w.heap.size ≠ B := by omega
  have hw2 : w.heap.size + 1 ≠ B := by omega
  have PIN : ∀ X, Hid (Calls Try.prog 98 #[seatV S c] X fun e w' => e = .returned (.int .i64 (S.K + c)) ∧ Kept X w') := fun X => Lib.hid (seatPin_any S c X k0 k1)
  have SEE : ∀ X, Hid (Calls Try.prog 73 #[stV made nx W u q er] X fun e w' => e = .returned (.int .u32 (ep W)) ∧ Kept X w') := fun X => Lib.hid (seen_any made nx W u q er X W00 W01)
  have FOL : ∀ X, Hid (Calls Try.prog 103 #[.int .u32 (ep W)] X fun e w' => e = .returned (.int .u64 (ep W + 1)) ∧ Kept X w') := fun X => Lib.hid (following_any (ep W) X ep0 ep1)
  go_region_held3 (fun w' => w'.cell? ⟨w.heap.size, 0, none⟩ = some (.int .i64 S.T) ∧ w'.cell? ⟨w.heap.size, 1, none⟩ = some (.int .i64 S.K) ∧ w'.cell? ⟨w.heap.size, 2, none⟩ = some (.int .i64 S.N) ∧ w'.cell? ⟨w.heap.size, 3, none⟩ = some (.int .i64 c) ∧ w'.cell? ⟨w.heap.size + 1, 0, none⟩ = some (.bool made) ∧ w'.cell? ⟨w.heap.size + 1, 1, none⟩ = some (.int .i64 nx) ∧ w'.cell? ⟨w.heap.size + 1, 2, none⟩ = some (.int .u64 W) ∧ w'.cell? ⟨w.heap.size + 1, 3, none⟩ = some (.int .i64 u) ∧ w'.cell? ⟨w.heap.size + 1, 4, none⟩ = some (.int .i64 q) ∧ w'.cell? ⟨w.heap.size + 1, 5, none⟩ = some (.int .i64 er)) (first | go_keep | (exact ⟨KT.some a0, KT.some a1, KT.some a2, KT.some a3, KT.some q0, KT.some q1, KT.some q2, KT.some q3, KT.some q4, KT.some q5⟩) | (exact d)) (first
    | (go_at_call 98; refine (PIN _).out.mono ?_; rintro e w2 ⟨rfl, k2⟩; have KT : Kept W0 w2 := Kept.trans (b := _) (by first | exact KT | exact KT.drew | exact KT.drewN _) k2)
    | (go_at_call 73; refine (SEE _).out.mono ?_; rintro e w3 ⟨rfl, k3⟩; have KT : Kept W0 w3 := Kept.trans (b := _) (by first | exact KT | exact KT.drew | exact KT.drewN _) k3)
    | (go_at_call 103; refine (FOL _).out.mono ?_; rintro e w4 ⟨rfl, k4⟩; have KT : Kept W0 w4 := Kept.trans (b := _) (by first | exact KT | exact KT.drew | exact KT.drewN _) k4)
    | (go_at_call 53; refine (p_store M B n s (S.K + c) (ep W + 1) _ (pmem_kept HM.out (TT.out.k.trans (by first | exact KT | exact KT.drew | exact KT.drewN _))) h0 h1).mono ?_; rintro e w5 ⟨rfl, m5, b5⟩; have BT : But (fun k => k = B) W0 w5 := (Kept.but (w' := _) (by first | exact KT | exact KT.drew | exact KT.drewN _) _).trans b5 (fun _ _ h => h); have d := And.intro (BT.some a0 hw1) (And.intro (BT.some a1 hw1) (And.intro (BT.some a2 hw1) (And.intro (BT.some a3 hw1) (And.intro (BT.some q0 hw2) (And.intro (BT.some q1 hw2) (And.intro (BT.some q2 hw2) (And.intro (BT.some q3 hw2) (And.intro (BT.some q4 hw2) (BT.some q5 hw2)))))))))))
  rename_i hcells
  clear hcells
  obtain ⟨_, _, _, _, s0, s1, s2, s3, s4, s5⟩ := d
  have rf : ∀ i, w5.frozen? ⟨w.heap.size + 1 + 1, i, none⟩ = false := fun i => BT.soft TT.out.lt (TT.out.f2 i)
  have RE := TT.out.re.but BT (by omega)
  have lX := Nat.lt_of_lt_of_le TT.out.lt BT.size
  have MX := Lib.hid m5
  have BX : Hid (But (fun k => k = B) w w5) := Lib.hid ((TT.out.k.but (fun k => k = B)).trans BT (fun _ _ h => h))
  clear m5
  go_wp2_with fail
  refine (then_any _ _ _ _ _ _ _ _).mono ?_
  rintro e w8 ⟨rfl, k8⟩
  have rf : ∀ i, w8.frozen? ⟨w.heap.size + 1 + 1, i, none⟩ = false := fun i => k8.soft lX (rf i)
  have BY := Lib.hid (BX.out.then k8)
  have MY := Lib.hid (pmem_kept MX.out k8)
  have lY := Nat.lt_of_lt_of_le lX k8.size
  obtain ⟨r0, r1, r2, r3, r4, r5⟩ := RE.kept k8
  clear k8
  go_wp2
  refine put6_go ⟨r0, r1, r2, r3, r4, r5⟩ ?_
  rintro W9 ⟨e0, e1, e2, e3, e4, e5⟩ b9
  refine bodyPost_ret (v := stV made 3 W u q er) (by simp [results, Try.results78, go_sem, e0, e1, e2, e3, e4, e5]) rfl ⟨rfl, pmem_frame MY.out b9 (by omega) (by omega), (BY.out.trans b9 (fun i hi e => by have e : i = w.heap.size + 1 + 1 := e; omega))⟩
set_option maxHeartbeats 2000000 in
theorem leave_any (S : Stk) (c : Int) (made : Bool) (nx W u q er : Int) (M B n : Nat) (s : St) (w : World) (hm : PMem w M B n s) (h0 : 0 ≤ s.cnt) (h1 : s.cnt ≤ 1000000) (k0 : -9223372036854775808 ≤ S.K + c) (k1 : S.K + c ≤ 9223372036854775807) :
    Calls Try.prog 75 #[seatV S c, stV made nx W u q er, .pointer (some ⟨M, 0, none⟩)] w (Row M B n (acc n s 2 (S.K + c) true 0) (stV made 0 W u q 0) w) := by
  have hl := (pmem_lt hm).2
  have hlM := (pmem_lt hm).1
  have HM := Lib.hid hm
  clear hm
  go_enter Try.func75, Try.ntmps75
  go_upto_region 1 with fail
  obtain ⟨W0, hW0⟩ : ∃ W0, W0 = (((w.alloc (.cells #[.int .i64 S.T, .int .i64 S.K, .int .i64 S.N, .int .i64 c] 134)).alloc (.cells #[.bool made, .int .i64 nx, .int .u64 W, .int .i64 u, .int .i64 q, .int .i64 er] 68)).alloc (.cells #[.bool false, .int .i64 0, .int .u64 0, .int .i64 0, .int .i64 0, .int .i64 0] 68)) := ⟨_, rfl⟩
  have T0 : Three w W0 made nx W u q er := by rw [hW0]; exact three_new ..
  have a0 : W0.cell? ⟨w.heap.size, 0, none⟩ = some (.int .i64 S.T) := by rw [hW0]; exact (((Kept.refl _).alloc _ _).alloc _ _).some (cell_new _ _ _ _ 0 rfl)
  have a1 : W0.cell? ⟨w.heap.size, 1, none⟩ = some (.int .i64 S.K) := by rw [hW0]; exact (((Kept.refl _).alloc _ _).alloc _ _).some (cell_new _ _ _ _ 1 rfl)
  have a2 : W0.cell? ⟨w.heap.size, 2, none⟩ = some (.int .i64 S.N) := by rw [hW0]; exact (((Kept.refl _).alloc _ _).alloc _ _).some (cell_new _ _ _ _ 2 rfl)
  have a3 : W0.cell? ⟨w.heap.size, 3, none⟩ = some (.int .i64 c) := by rw [hW0]; exact (((Kept.refl _).alloc _ _).alloc _ _).some (cell_new _ _ _ _ 3 rfl)
  rw [← hW0]
  clear hW0
  have TT := Lib.hid T0
  obtain ⟨q0, q1, q2, q3, q4, q5⟩ := T0.st
  have KT : Kept W0 W0 := Kept.refl _
  have hw1 : w.heap.size ≠ B := by omega
  have hw2 : w.heap.size + 1 ≠ B := by omega
  have PIN : ∀ X, Hid (Calls Try.prog 98 #[seatV S c] X fun e w' => e = .returned (.int .i64 (S.K + c)) ∧ Kept X w') := fun X => Lib.hid (seatPin_any S c X k0 k1)
  go_wp2_with fail
  refine (PIN _).out.mono ?_
  rintro e w2 ⟨rfl, k2⟩
  have KT : Kept W0 w2 := k2
  obtain ⟨q0, q1, q2, q3, q4, q5⟩ := Box6.kept ⟨q0, q1, q2, q3, q4, q5⟩ k2
  go_wp2_with fail
  refine (p_store M B n s (S.K + c) 0 _ (pmem_kept HM.out (TT.out.k.trans KT)) h0 h1).mono ?_
  rintro e w5 ⟨rfl, m5, b5⟩
  have BT : But (fun k => k = B) W0 w5 := (Kept.but KT _).trans b5 (fun _ _ h => h)
  obtain ⟨q0, q1, q2, q3, q4, q5⟩ := Box6.but ⟨q0, q1, q2, q3, q4, q5⟩ b5 hw2
  have rf : ∀ i, w5.frozen? ⟨w.heap.size + 1 + 1, i, none⟩ = false := fun i => BT.soft TT.out.lt (TT.out.f2 i)
  have RE := TT.out.re.but BT (by omega)
  have lX := Nat.lt_of_lt_of_le TT.out.lt BT.size
  have MX := Lib.hid m5
  have BX : Hid (But (fun k => k = B) w w5) := Lib.hid ((TT.out.k.but (fun k => k = B)).trans BT (fun _ _ h => h))
  clear m5
  go_wp2_with fail
  refine (end_any _ _ _ _ _ _ _ _).mono ?_
  rintro e w8 ⟨rfl, k8⟩
  have rf : ∀ i, w8.frozen? ⟨w.heap.size + 1 + 1, i, none⟩ = false := fun i => k8.soft lX (rf i)
  have BY := Lib.hid (BX.out.then k8)
  have MY := Lib.hid (pmem_kept MX.out k8)
  have lY := Nat.lt_of_lt_of_le lX k8.size
  obtain ⟨r0, r1, r2, r3, r4, r5⟩ := RE.kept k8
  clear k8
  go_wp2
  refine put6_go ⟨r0, r1, r2, r3, r4, r5⟩ ?_
  rintro W9 ⟨e0, e1, e2, e3, e4, e5⟩ b9
  refine bodyPost_ret (v := stV made 0 W u q 0) (by simp [results, Try.results75, go_sem, e0, e1, e2, e3, e4, e5]) rfl ⟨rfl, pmem_frame MY.out b9 (by omega) (by omega), (BY.out.trans b9 (fun i hi e => by have e : i = w.heap.size + 1 + 1 := e; omega))⟩
set_option maxHeartbeats 2000000 in
theorem check_yes (S : Stk) (c : Int) (made : Bool) (nx W u q er : Int) (M B n : Nat) (s : St) (w : World) (hm : PMem w M B n s) (h0 : 0 ≤ s.cnt) (h1 : s.cnt ≤ 1000000) (W00 : 0 ≤ W) (W01 : W < 18446744073709551616) (hwd : 0 ≤ wordAt n s S.T ∧ wordAt n s S.T < 18446744073709551616) (he : ep (wordAt n s S.T) = ep W) :
    Calls Try.prog 79 #[seatV S c, stV made nx W u q er, .pointer (some ⟨M, 0, none⟩)] w (Row M B n (acc n s 1 S.T false 0) (stV made 0 (wordAt n s S.T) u q 0) w) := by
  have hl := (pmem_lt hm).2
  have hlM := (pmem_lt hm).1
  have HM := Lib.hid hm
  clear hm
  go_enter Try.func79, Try.ntmps79
  go_upto_region 1 with fail
  obtain ⟨W0, hW0⟩ : ∃ W0, W0 = (((w.alloc (.cells #[.int .i64 S.T, .int .i64 S.K, .int .i64 S.N, .int .i64 c] 134)).alloc (.cells #[.bool made, .int .i64 nx, .int .u64 W, .int .i64 u, .int .i64 q, .int .i64 er] 68)).alloc (.cells #[.bool false, .int .i64 0, .int .u64 0, .int .i64 0, .int .i64 0, .int .i64 0] 68)) := ⟨_, rfl⟩
  have T0 : Three w W0 made nx W u q er := by rw [hW0]; exact three_new ..
  have a0 : W0.cell? ⟨w.heap.size, 0, none⟩ = some (.int .i64 S.T) := by rw [hW0]; exact (((Kept.refl _).alloc _ _).alloc _ _).some (cell_new _ _ _ _ 0 rfl)
  have a1 : W0.cell? ⟨w.heap.size, 1, none⟩ = some (.int .i64 S.K) := by rw [hW0]; exact (((Kept.refl _).alloc _ _).alloc _ _).some (cell_new _ _ _ _ 1 rfl)
  have a2 : W0.cell? ⟨w.heap.size, 2, none⟩ = some (.int .i64 S.N) := by rw [hW0]; exact (((Kept.refl _).alloc _ _).alloc _ _).some (cell_new _ _ _ _ 2 rfl)
  have a3 : W0.cell? ⟨w.heap.size, 3, none⟩ = some (.int .i64 c) := by rw [hW0]; exact (((Kept.refl _).alloc _ _).alloc _ _).some (cell_new _ _ _ _ 3 rfl)
  rw [← hW0]
  clear hW0
  have TT := Lib.hid T0
  obtain ⟨q0, q1, q2, q3, q4, q5⟩ := T0.st
  have wd := hwd
  have V0 := wd.1
  have V1 := wd.2
  have SEE : ∀ X, Hid (Calls Try.prog 73 #[stV made nx W u q er] X fun e w' => e = .returned (.int .u32 (ep W)) ∧ Kept X w') := fun X => Lib.hid (seen_any made nx W u q er X W00 W01)
  have SEE2 : ∀ X, Hid (Calls Try.prog 73 #[stV made 2 (wordAt n s S.T) u q er] X fun e w' => e = .returned (.int .u32 (ep (wordAt n s S.T))) ∧ Kept X w') := fun X => Lib.hid (seen_any made 2 (wordAt n s S.T) u q er X V0 V1)
  go_wp2_with fail
  refine (SEE _).out.mono ?_
  rintro e w2 ⟨rfl, k2⟩
  obtain ⟨q0, q1, q2, q3, q4, q5⟩ := Box6.kept ⟨q0, q1, q2, q3, q4, q5⟩ k2
  have a0 := k2.some a0
  have a1 := k2.some a1
  have a2 := k2.some a2
  have a3 := k2.some a3
  go_wp2_with fail
  refine (find_any S c made nx W u q er M B n s _ (pmem_kept HM.out (TT.out.k.trans k2)) h0 h1).mono ?_
  rintro e w3 ⟨rfl, m3, b3⟩
  have BT : But (fun k => k = B) W0 w3 := (k2.but _).trans b3 (fun _ _ h => h)
  have BO := Box6.but ⟨q0, q1, q2, q3, q4, q5⟩ b3 (by omega)
  obtain ⟨q0, q1, q2, q3, q4, q5⟩ := BO
  have qf : ∀ i, w3.frozen? ⟨w.heap.size + 1, i, none⟩ = false := fun i => BT.soft (by have := TT.out.lt; omega) (TT.out.f1 i)
  have rf : ∀ i, w3.frozen? ⟨w.heap.size + 1 + 1, i, none⟩ = false := fun i => BT.soft TT.out.lt (TT.out.f2 i)
  have RE := TT.out.re.but BT (by omega)
  have lX := Nat.lt_of_lt_of_le TT.out.lt BT.size
  have M3 := Lib.hid m3
  have BX : Hid (But (fun k => k = B) w w3) := Lib.hid ((TT.out.k.but (fun k => k = B)).trans BT (fun _ _ h => h))
  clear m3 b3 k2
  go_upto_region 3 with fail
  obtain ⟨Wn, hWn⟩ : ∃ Wn, Wn = ((((((w3.setCell ⟨w.heap.size + 1, 0, none⟩ (.bool made)).setCell ⟨w.heap.size + 1, 1, none⟩ (.int .i64 2)).setCell ⟨w.heap.size + 1, 2, none⟩ (.int .u64 (wordAt n s S.T))).setCell ⟨w.heap.size + 1, 3, none⟩ (.int .i64 u)).setCell ⟨w.heap.size + 1, 4, none⟩ (.int .i64 q)).setCell ⟨w.heap.size + 1, 5, none⟩ (.int .i64 er)) := ⟨_, rfl⟩
  have bn : But (fun k => k = w.heap.size + 1) w3 Wn := by rw [hWn]; exact ((((((( But.refl _ _).here _ _).here _ _).here _ _).here _ _).here _ _).here _ _)
  have BOX : Box6 Wn (w.heap.size + 1) made 2 (wordAt n s S.T) u q er := by
    rw [hWn]
    refine ⟨?_, ?_, ?_, ?_, ?_, ?_⟩
    · simp [cell_set, q0]
    · simp [cell_set, q1]
    · simp [cell_set, q2]
    · simp [cell_set, q3]
    · simp [cell_set, q4]
    · simp [cell_set, q5]
  rw [← hWn]
  clear hWn q0 q1 q2 q3 q4 q5
  obtain ⟨q0, q1, q2, q3, q4, q5⟩ := BOX
  have rf : ∀ i, Wn.frozen? ⟨w.heap.size + 1 + 1, i, none⟩ = false := fun i => bn.soft lX (rf i)
  have RE := RE.but bn (by omega)
  have lX := Nat.lt_of_lt_of_le lX bn.size
  have M3 := Lib.hid (pmem_frame M3.out bn (by omega) (by omega))
  have BX : Hid (But (fun k => k = B) w Wn) := Lib.hid (BX.out.trans bn (fun i hi e => by have e : i = w.heap.size + 1 := e; omega))
  clear bn a0 a1 a2 a3
  go_wp2_with fail
  refine (SEE2 _).out.mono ?_
  rintro e w4 ⟨rfl, k4⟩
  obtain ⟨q0, q1, q2, q3, q4, q5⟩ := Box6.kept ⟨q0, q1, q2, q3, q4, q5⟩ k4
  have rf : ∀ i, w4.frozen? ⟨w.heap.size + 1 + 1, i, none⟩ = false := fun i => k4.soft lX (rf i)
  have BY := Lib.hid (BX.out.then k4)
  have MY := Lib.hid (pmem_kept M3.out k4)
  have lY := Nat.lt_of_lt_of_le lX k4.size
  have RE := RE.kept k4
  clear k4 SEE SEE2 qf
  have hne : (ep (wordAt n s S.T) != ep W) = false := by simp [he]
  go_wp2_with fail
  refine (end_any _ _ _ _ _ _ _ _).mono ?_
  rintro e w8 ⟨rfl, k8⟩
  have rf : ∀ i, w8.frozen? ⟨w.heap.size + 1 + 1, i, none⟩ = false := fun i => k8.soft lY (rf i)
  have BY := Lib.hid (BY.out.then k8)
  have MY := Lib.hid (pmem_kept MY.out k8)
  obtain ⟨r0, r1, r2, r3, r4, r5⟩ := RE.kept k8
  clear k8
  go_wp2
  refine put6_go ⟨r0, r1, r2, r3, r4, r5⟩ ?_
  rintro W9 ⟨e0, e1, e2, e3, e4, e5⟩ b9
  refine bodyPost_ret (v := stV made 0 (wordAt n s S.T) u q 0) (by simp [results, Try.results79, go_sem, e0, e1, e2, e3, e4, e5]) rfl ⟨rfl, pmem_frame MY.out b9 (by omega) (by omega), (BY.out.trans b9 (fun i hi e => by have e : i = w.heap.size + 1 + 1 := e; omega))⟩
set_option maxHeartbeats 2000000 in
theorem check_no (S : Stk) (c : Int) (made : Bool) (nx W u q er : Int) (M B n : Nat) (s : St) (w : World) (hm : PMem w M B n s) (h0 : 0 ≤ s.cnt) (h1 : s.cnt ≤ 1000000) (W00 : 0 ≤ W) (W01 : W < 18446744073709551616) (hwd : 0 ≤ wordAt n s S.T ∧ wordAt n s S.T < 18446744073709551616) (he : ¬ ep (wordAt n s S.T) = ep W) :
    Calls Try.prog 79 #[seatV S c, stV made nx W u q er, .pointer (some ⟨M, 0, none⟩)] w (Row M B n (acc n s 1 S.T false 0) (stV made 2 (wordAt n s S.T) u q er) w) := by
  have hl := (pmem_lt hm).2
  have hlM := (pmem_lt hm).1
  have HM := Lib.hid hm
  clear hm
  go_enter Try.func79, Try.ntmps79
  go_upto_region 1 with fail
  obtain ⟨W0, hW0⟩ : ∃ W0, W0 = (((w.alloc (.cells #[.int .i64 S.T, .int .i64 S.K, .int .i64 S.N, .int .i64 c] 134)).alloc (.cells #[.bool made, .int .i64 nx, .int .u64 W, .int .i64 u, .int .i64 q, .int .i64 er] 68)).alloc (.cells #[.bool false, .int .i64 0, .int .u64 0, .int .i64 0, .int .i64 0, .int .i64 0] 68)) := ⟨_, rfl⟩
  have T0 : Three w W0 made nx W u q er := by rw [hW0]; exact three_new ..
  have a0 : W0.cell? ⟨w.heap.size, 0, none⟩ = some (.int .i64 S.T) := by rw [hW0]; exact (((Kept.refl _).alloc _ _).alloc _ _).some (cell_new _ _ _ _ 0 rfl)
  have a1 : W0.cell? ⟨w.heap.size, 1, none⟩ = some (.int .i64 S.K) := by rw [hW0]; exact (((Kept.refl _).alloc _ _).alloc _ _).some (cell_new _ _ _ _ 1 rfl)
  have a2 : W0.cell? ⟨w.heap.size, 2, none⟩ = some (.int .i64 S.N) := by rw [hW0]; exact (((Kept.refl _).alloc _ _).alloc _ _).some (cell_new _ _ _ _ 2 rfl)
  have a3 : W0.cell? ⟨w.heap.size, 3, none⟩ = some (.int .i64 c) := by rw [hW0]; exact (((Kept.refl _).alloc _ _).alloc _ _).some (cell_new _ _ _ _ 3 rfl)
  rw [← hW0]
  clear hW0
  have TT := Lib.hid T0
  obtain ⟨q0, q1, q2, q3, q4, q5⟩ := T0.st
  have wd := hwd
  have V0 := wd.1
  have V1 := wd.2
  have SEE : ∀ X, Hid (Calls Try.prog 73 #[stV made nx W u q er] X fun e w' => e = .returned (.int .u32 (ep W)) ∧ Kept X w') := fun X => Lib.hid (seen_any made nx W u q er X W00 W01)
  have SEE2 : ∀ X, Hid (Calls Try.prog 73 #[stV made 2 (wordAt n s S.T) u q er] X fun e w' => e = .returned (.int .u32 (ep (wordAt n s S.T))) ∧ Kept X w') := fun X => Lib.hid (seen_any made 2 (wordAt n s S.T) u q er X V0 V1)
  go_wp2_with fail
  refine (SEE _).out.mono ?_
  rintro e w2 ⟨rfl, k2⟩
  obtain ⟨q0, q1, q2, q3, q4, q5⟩ := Box6.kept ⟨q0, q1, q2, q3, q4, q5⟩ k2
  have a0 := k2.some a0
  have a1 := k2.some a1
  have a2 := k2.some a2
  have a3 := k2.some a3
  go_wp2_with fail
  refine (find_any S c made nx W u q er M B n s _ (pmem_kept HM.out (TT.out.k.trans k2)) h0 h1).mono ?_
  rintro e w3 ⟨rfl, m3, b3⟩
  have BT : But (fun k => k = B) W0 w3 := (k2.but _).trans b3 (fun _ _ h => h)
  have BO := Box6.but ⟨q0, q1, q2, q3, q4, q5⟩ b3 (by omega)
  obtain ⟨q0, q1, q2, q3, q4, q5⟩ := BO
  have qf : ∀ i, w3.frozen? ⟨w.heap.size + 1, i, none⟩ = false := fun i => BT.soft (by have := TT.out.lt; omega) (TT.out.f1 i)
  have rf : ∀ i, w3.frozen? ⟨w.heap.size + 1 + 1, i, none⟩ = false := fun i => BT.soft TT.out.lt (TT.out.f2 i)
  have RE := TT.out.re.but BT (by omega)
  have lX := Nat.lt_of_lt_of_le TT.out.lt BT.size
  have M3 := Lib.hid m3
  have BX : Hid (But (fun k => k = B) w w3) := Lib.hid ((TT.out.k.but (fun k => k = B)).trans BT (fun _ _ h => h))
  clear m3 b3 k2
  go_upto_region 3 with fail
  obtain ⟨Wn, hWn⟩ : ∃ Wn, Wn = ((((((w3.setCell ⟨w.heap.size + 1, 0, none⟩ (.bool made)).setCell ⟨w.heap.size + 1, 1, none⟩ (.int .i64 2)).setCell ⟨w.heap.size + 1, 2, none⟩ (.int .u64 (wordAt n s S.T))).setCell ⟨w.heap.size + 1, 3, none⟩ (.int .i64 u)).setCell ⟨w.heap.size + 1, 4, none⟩ (.int .i64 q)).setCell ⟨w.heap.size + 1, 5, none⟩ (.int .i64 er)) := ⟨_, rfl⟩
  have bn : But (fun k => k = w.heap.size + 1) w3 Wn := by rw [hWn]; exact ((((((( But.refl _ _).here _ _).here _ _).here _ _).here _ _).here _ _).here _ _)
  have BOX : Box6 Wn (w.heap.size + 1) made 2 (wordAt n s S.T) u q er := by
    rw [hWn]
    refine ⟨?_, ?_, ?_, ?_, ?_, ?_⟩
    · simp [cell_set, q0]
    · simp [cell_set, q1]
    · simp [cell_set, q2]
    · simp [cell_set, q3]
    · simp [cell_set, q4]
    · simp [cell_set, q5]
  rw [← hWn]
  clear hWn q0 q1 q2 q3 q4 q5
  obtain ⟨q0, q1, q2, q3, q4, q5⟩ := BOX
  have rf : ∀ i, Wn.frozen? ⟨w.heap.size + 1 + 1, i, none⟩ = false := fun i => bn.soft lX (rf i)
  have RE := RE.but bn (by omega)
  have lX := Nat.lt_of_lt_of_le lX bn.size
  have M3 := Lib.hid (pmem_frame M3.out bn (by omega) (by omega))
  have BX : Hid (But (fun k => k = B) w Wn) := Lib.hid (BX.out.trans bn (fun i hi e => by have e : i = w.heap.size + 1 := e; omega))
  clear bn a0 a1 a2 a3
  go_wp2_with fail
  refine (SEE2 _).out.mono ?_
  rintro e w4 ⟨rfl, k4⟩
  obtain ⟨q0, q1, q2, q3, q4, q5⟩ := Box6.kept ⟨q0, q1, q2, q3, q4, q5⟩ k4
  have rf : ∀ i, w4.frozen? ⟨w.heap.size + 1 + 1, i, none⟩ = false := fun i => k4.soft lX (rf i)
  have BY := Lib.hid (BX.out.then k4)
  have MY := Lib.hid (pmem_kept M3.out k4)
  have lY := Nat.lt_of_lt_of_le lX k4.size
  have RE := RE.kept k4
  clear k4 SEE SEE2 qf
  have hne : (ep (wordAt n s S.T) != ep W) = true := by simpa using he
  obtain ⟨r0, r1, r2, r3, r4, r5⟩ := RE
  go_wp2
  refine put6_go ⟨r0, r1, r2, r3, r4, r5⟩ ?_
  rintro W9 ⟨e0, e1, e2, e3, e4, e5⟩ b9
  refine bodyPost_ret (v := stV made 2 (wordAt n s S.T) u q er) (by simp [results, Try.results79, go_sem, e0, e1, e2, e3, e4, e5]) rfl ⟨rfl, pmem_frame MY.out b9 (by omega) (by omega), (BY.out.trans b9 (fun i hi e => by have e : i = w.heap.size + 1 + 1 := e; omega))⟩
end Go.Proofs.Ytmfbjlaajcdbnaa.Ep

namespace Go.Proofs.Ytmfbjlaajcdbnaa.Ep
set_option maxRecDepth 20000
open Go.RowKit
open Wo (St acc wordAt PMem RefIs)
open Sk (Stk Wd p_load p_store p_cas pmem_kept pmem_lt pmem_frame)

structure Cell6 (w : World) (P o : Nat) (made : Bool) (nx W u q er : Int) : Prop where
  c0 : w.cell? ⟨P, o, none⟩ = some (.bool made)
  c1 : w.cell? ⟨P, o + 1, none⟩ = some (.int .i64 nx)
  c2 : w.cell? ⟨P, o + 2, none⟩ = some (.int .u64 W)
  c3 : w.cell? ⟨P, o + 3, none⟩ = some (.int .i64 u)
  c4 : w.cell? ⟨P, o + 4, none⟩ = some (.int .i64 q)
  c5 : w.cell? ⟨P, o + 5, none⟩ = some (.int .i64 er)
theorem Cell6.but {w w' : World} {P o : Nat} {made : Bool} {nx W u q er : Int} (h : Cell6 w P o made nx W u q er) {T : Nat → Prop} (b : But T w w') (hT : ¬ T P) : Cell6 w' P o made nx W u q er :=
  ⟨b.some h.c0 hT, b.some h.c1 hT, b.some h.c2 hT, b.some h.c3 hT, b.some h.c4 hT, b.some h.c5 hT⟩
theorem Cell6.kept {w w' : World} {P o : Nat} {made : Bool} {nx W u q er : Int} (h : Cell6 w P o made nx W u q er) (k : Kept w w') : Cell6 w' P o made nx W u q er := h.but (k.but (fun _ => False)) id

set_option maxHeartbeats 1000000 in
theorem step_over (P o k : Nat) (made : Bool) (W u q er : Int) (a : Value) (w : World) (h : Cell6 w P o made 0 W u q er) :
    Calls Try.prog 74 #[.pointer (some ⟨P, o, none⟩), .slice (some ⟨P, 0, none⟩) k k, a] w fun e w' => e = .returned (.bool true) ∧ w = w' := by
  obtain ⟨c0, c1, c2, c3, c4, c5⟩ := h
  go_enter Try.func74, Try.ntmps74
  go_wp2
  go_ret
  exact ⟨rfl, rfl⟩

def RowDoes (F : Nat) (R : Value) (st st' : Value) (M B n : Nat) (s s' : St) : Prop := ∀ W, PMem W M B n s → Calls Try.prog F #[R, st, .pointer (some ⟨M, 0, none⟩)] W (Row M B n s' st' W)
theorem nest_cells {w Wn : World} {P o : Nat} {made : Bool} {nx W u q er : Int} {made' : Bool} {nx' W' u' q' er' : Int} (h : Cell6 w P o made nx W u q er)
    (e : Wn = ((((((w.setCell ⟨P, o, none⟩ (.bool made')).setCell ⟨P, o + 1, none⟩ (.int .i64 nx')).setCell ⟨P, o + 2, none⟩ (.int .u64 W')).setCell ⟨P, o + 3, none⟩ (.int .i64 u')).setCell ⟨P, o + 4, none⟩ (.int .i64 q')).setCell ⟨P, o + 5, none⟩ (.int .i64 er'))) :
    Cell6 Wn P o made' nx' W' u' q' er' ∧ But (fun k => k = P) w Wn ∧ ∀ i, i < o ∨ o + 6 ≤ i → Wn.cell? ⟨P, i, none⟩ = w.cell? ⟨P, i, none⟩ := by
  subst e
  refine ⟨⟨?_, ?_, ?_, ?_, ?_, ?_⟩, ((((((( But.refl _ _).here _ _).here _ _).here _ _).here _ _).here _ _).here _ _), fun i hi => ?_⟩
  · simp [cell_set, h.c0]
  · simp [cell_set, h.c1]
  · simp [cell_set, h.c2]
  · simp [cell_set, h.c3]
  · simp [cell_set, h.c4]
  · simp [cell_set, h.c5]
  · rw [cell_set, if_neg (by omega), cell_set, if_neg (by omega), cell_set, if_neg (by omega), cell_set, if_neg (by omega), cell_set, if_neg (by omega), cell_set, if_neg (by omega)]
def StepPost (P o : Nat) (made' : Bool) (nx' W' u' q' er' : Int) (M B n : Nat) (s' : St) (w : World) (e : Ending) (w' : World) : Prop :=
  e = .returned (.bool (nx' == 0)) ∧ Cell6 w' P o made' nx' W' u' q' er' ∧ PMem w' M B n s' ∧ But (fun k => k = P ∨ k = B) w w' ∧ ∀ i, i < o ∨ o + 6 ≤ i → w'.cell? ⟨P, i, none⟩ = w.cell? ⟨P, i, none⟩
end Go.Proofs.Ytmfbjlaajcdbnaa.Ep

namespace Go.Proofs.Ytmfbjlaajcdbnaa.Ep
set_option maxRecDepth 20000
open Go.RowKit
open Wo (St acc wordAt PMem RefIs)
open Sk (Stk Wd p_load p_store p_cas pmem_kept pmem_lt pmem_frame)

set_option maxHeartbeats 4000000 in
theorem step_find (P o k : Nat) (j : Nat) (R : Value) (made : Bool) (W u q er : Int) (made' : Bool) (nx' W' u' q' er' : Int) (M B n : Nat) (s s' : St) (w : World) (h : Cell6 w P o made (j + 1) W u q er) (hj : j < k) (hk : k ≤ 3)
    (hr : w.cell? ⟨P, j, none⟩ = some (.func (.func 77) #[R] #[])) (hf : ∀ i, w.frozen? ⟨P, i, none⟩ = false) (hm : PMem w M B n s) (hP : P ≠ M ∧ P ≠ B) (hR : RowDoes 77 R (stV made (j + 1) W u q er) (stV made' nx' W' u' q' er') M B n s s') :
    Calls Try.prog 74 #[.pointer (some ⟨P, o, none⟩), .slice (some ⟨P, 0, none⟩) k k, .pointer (some ⟨M, 0, none⟩)] w (StepPost P o made' nx' W' u' q' er' M B n s' w) := by
  have HM := Lib.hid hm
  have HR := Lib.hid hR
  obtain ⟨c0, c1, c2, c3, c4, c5⟩ := h
  have hPl := lt_of_cell c0
  clear hm hR
  go_enter Try.func74, Try.ntmps74
  have jk : (j : Int) < (k : Int) := by omega
  have j3 : j ≤ 2 := by omega
  have qj : IntKind.i64.wrap (j : Int) = j := by rw [IntKind.wrap_i64]; omega
  go_wp2_with fail
  go_region_law (first | (go_simp; go_at_call 77; refine (HR.out _ (pmem_kept HM.out (by first | exact Kept.refl _ | exact (Kept.refl _).drew | exact (Kept.refl _).drewN _))).mono ?_; rintro e v ⟨rfl, m2, b2⟩; have hP1 : ¬ P = B := hP.2; have d0 := b2.some c0 hP1; have d1 := b2.some c1 hP1; have d2 := b2.some c2 hP1; have d3 := b2.some c3 hP1; have d4 := b2.some c4 hP1; have d5 := b2.some c5 hP1; have df : (∀ i, v.frozen? ⟨P, i, none⟩ = false) := (fun i => b2.soft hPl (hf i)); have bw : But (fun k => k = B) w v := (Kept.but (w := w) (by first | exact Kept.refl _ | exact (Kept.refl _).drew | exact (Kept.refl _).drewN _) _).trans b2 (fun _ _ h => h)) | fail)
  all_goals
    obtain ⟨Wn, hWn⟩ : ∃ Wn, Wn = ((((((v.setCell ⟨P, o, none⟩ (.bool made')).setCell ⟨P, o + 1, none⟩ (.int .i64 nx')).setCell ⟨P, o + 2, none⟩ (.int .u64 W')).setCell ⟨P, o + 3, none⟩ (.int .i64 u')).setCell ⟨P, o + 4, none⟩ (.int .i64 q')).setCell ⟨P, o + 5, none⟩ (.int .i64 er')) := ⟨_, rfl⟩
    obtain ⟨CE, bn, rest⟩ := nest_cells ⟨d0, d1, d2, d3, d4, d5⟩ hWn
    have RS : Hid (∀ i, i < o ∨ o + 6 ≤ i → Wn.cell? ⟨P, i, none⟩ = w.cell? ⟨P, i, none⟩) := Lib.hid (fun i hi => (rest i hi).trans (bw.cell P i hPl hP1))
    have BN : Hid (But (fun k => k = P ∨ k = B) w Wn) := Lib.hid ((bw.mono (fun _ _ h => .inr h)).trans bn (fun _ _ h => .inl h))
    have MN : Hid (PMem Wn M B n s') := Lib.hid (pmem_frame m2 bn (fun e => hP.1 e.symm) (fun e => hP1 e.symm))
    have c1' := CE.c1
    have CN := Lib.hid CE
    rw [← hWn]
    clear hWn bn rest bw b2 m2 CE d0 d1 d2 d3 d4 d5 df
    go_wp2
    go_ret
    exact ⟨rfl, CN.out, MN.out, BN.out, RS.out⟩
set_option maxHeartbeats 4000000 in
theorem step_hold (P o k : Nat) (j : Nat) (R : Value) (made : Bool) (W u q er : Int) (made' : Bool) (nx' W' u' q' er' : Int) (M B n : Nat) (s s' : St) (w : World) (h : Cell6 w P o made (j + 1) W u q er) (hj : j < k) (hk : k ≤ 3)
    (hr : w.cell? ⟨P, j, none⟩ = some (.func (.func 78) #[R] #[])) (hf : ∀ i, w.frozen? ⟨P, i, none⟩ = false) (hm : PMem w M B n s) (hP : P ≠ M ∧ P ≠ B) (hR : RowDoes 78 R (stV made (j + 1) W u q er) (stV made' nx' W' u' q' er') M B n s s') :
    Calls Try.prog 74 #[.pointer (some ⟨P, o, none⟩), .slice (some ⟨P, 0, none⟩) k k, .pointer (some ⟨M, 0, none⟩)] w (StepPost P o made' nx' W' u' q' er' M B n s' w) := by
  have HM := Lib.hid hm
  have HR := Lib.hid hR
  obtain ⟨c0, c1, c2, c3, c4, c5⟩ := h
  have hPl := lt_of_cell c0
  clear hm hR
  go_enter Try.func74, Try.ntmps74
  have jk : (j : Int) < (k : Int) := by omega
  have j3 : j ≤ 2 := by omega
  have qj : IntKind.i64.wrap (j : Int) = j := by rw [IntKind.wrap_i64]; omega
  go_wp2_with fail
  go_region_law (first | (go_simp; go_at_call 78; refine (HR.out _ (pmem_kept HM.out (by first | exact Kept.refl _ | exact (Kept.refl _).drew | exact (Kept.refl _).drewN _))).mono ?_; rintro e v ⟨rfl, m2, b2⟩; have hP1 : ¬ P = B := hP.2; have d0 := b2.some c0 hP1; have d1 := b2.some c1 hP1; have d2 := b2.some c2 hP1; have d3 := b2.some c3 hP1; have d4 := b2.some c4 hP1; have d5 := b2.some c5 hP1; have df : (∀ i, v.frozen? ⟨P, i, none⟩ = false) := (fun i => b2.soft hPl (hf i)); have bw : But (fun k => k = B) w v := (Kept.but (w := w) (by first | exact Kept.refl _ | exact (Kept.refl _).drew | exact (Kept.refl _).drewN _) _).trans b2 (fun _ _ h => h)) | fail)
  all_goals
    obtain ⟨Wn, hWn⟩ : ∃ Wn, Wn = ((((((v.setCell ⟨P, o, none⟩ (.bool made')).setCell ⟨P, o + 1, none⟩ (.int .i64 nx')).setCell ⟨P, o + 2, none⟩ (.int .u64 W')).setCell ⟨P, o + 3, none⟩ (.int .i64 u')).setCell ⟨P, o + 4, none⟩ (.int .i64 q')).setCell ⟨P, o + 5, none⟩ (.int .i64 er')) := ⟨_, rfl⟩
    obtain ⟨CE, bn, rest⟩ := nest_cells ⟨d0, d1, d2, d3, d4, d5⟩ hWn
    have RS : Hid (∀ i, i < o ∨ o + 6 ≤ i → Wn.cell? ⟨P, i, none⟩ = w.cell? ⟨P, i, none⟩) := Lib.hid (fun i hi => (rest i hi).trans (bw.cell P i hPl hP1))
    have BN : Hid (But (fun k => k = P ∨ k = B) w Wn) := Lib.hid ((bw.mono (fun _ _ h => .inr h)).trans bn (fun _ _ h => .inl h))
    have MN : Hid (PMem Wn M B n s') := Lib.hid (pmem_frame m2 bn (fun e => hP.1 e.symm) (fun e => hP1 e.symm))
    have c1' := CE.c1
    have CN := Lib.hid CE
    rw [← hWn]
    clear hWn bn rest bw b2 m2 CE d0 d1 d2 d3 d4 d5 df
    go_wp2
    go_ret
    exact ⟨rfl, CN.out, MN.out, BN.out, RS.out⟩
end Go.Proofs.Ytmfbjlaajcdbnaa.Ep

namespace Go.Proofs.Ytmfbjlaajcdbnaa.Ep
set_option maxRecDepth 20000
open Go.RowKit
open Wo (St acc wordAt PMem RefIs)
open Sk (Stk Wd p_load p_store p_cas pmem_kept pmem_lt pmem_frame)

set_option maxHeartbeats 4000000 in
theorem step_check (P o k : Nat) (j : Nat) (R : Value) (made : Bool) (W u q er : Int) (made' : Bool) (nx' W' u' q' er' : Int) (M B n : Nat) (s s' : St) (w : World) (h : Cell6 w P o made (j + 1) W u q er) (hj : j < k) (hk : k ≤ 3)
    (hr : w.cell? ⟨P, j, none⟩ = some (.func (.func 79) #[R] #[])) (hf : ∀ i, w.frozen? ⟨P, i, none⟩ = false) (hm : PMem w M B n s) (hP : P ≠ M ∧ P ≠ B) (hR : RowDoes 79 R (stV made (j + 1) W u q er) (stV made' nx' W' u' q' er') M B n s s') :
    Calls Try.prog 74 #[.pointer (some ⟨P, o, none⟩), .slice (some ⟨P, 0, none⟩) k k, .pointer (some ⟨M, 0, none⟩)] w (StepPost P o made' nx' W' u' q' er' M B n s' w) := by
  have HM := Lib.hid hm
  have HR := Lib.hid hR
  obtain ⟨c0, c1, c2, c3, c4, c5⟩ := h
  have hPl := lt_of_cell c0
  clear hm hR
  go_enter Try.func74, Try.ntmps74
  have jk : (j : Int) < (k : Int) := by omega
  have j3 : j ≤ 2 := by omega
  have qj : IntKind.i64.wrap (j : Int) = j := by rw [IntKind.wrap_i64]; omega
  go_wp2_with fail
  go_region_law (first | (go_simp; go_at_call 79; refine (HR.out _ (pmem_kept HM.out (by first | exact Kept.refl _ | exact (Kept.refl _).drew | exact (Kept.refl _).drewN _))).mono ?_; rintro e v ⟨rfl, m2, b2⟩; have hP1 : ¬ P = B := hP.2; have d0 := b2.some c0 hP1; have d1 := b2.some c1 hP1; have d2 := b2.some c2 hP1; have d3 := b2.some c3 hP1; have d4 := b2.some c4 hP1; have d5 := b2.some c5 hP1; have df : (∀ i, v.frozen? ⟨P, i, none⟩ = false) := (fun i => b2.soft hPl (hf i)); have bw : But (fun k => k = B) w v := (Kept.but (w := w) (by first | exact Kept.refl _ | exact (Kept.refl _).drew | exact (Kept.refl _).drewN _) _).trans b2 (fun _ _ h => h)) | fail)
  all_goals
    obtain ⟨Wn, hWn⟩ : ∃ Wn, Wn = ((((((v.setCell ⟨P, o, none⟩ (.bool made')).setCell ⟨P, o + 1, none⟩ (.int .i64 nx')).setCell ⟨P, o + 2, none⟩ (.int .u64 W')).setCell ⟨P, o + 3, none⟩ (.int .i64 u')).setCell ⟨P, o + 4, none⟩ (.int .i64 q')).setCell ⟨P, o + 5, none⟩ (.int .i64 er')) := ⟨_, rfl⟩
    obtain ⟨CE, bn, rest⟩ := nest_cells ⟨d0, d1, d2, d3, d4, d5⟩ hWn
    have RS : Hid (∀ i, i < o ∨ o + 6 ≤ i → Wn.cell? ⟨P, i, none⟩ = w.cell? ⟨P, i, none⟩) := Lib.hid (fun i hi => (rest i hi).trans (bw.cell P i hPl hP1))
    have BN : Hid (But (fun k => k = P ∨ k = B) w Wn) := Lib.hid ((bw.mono (fun _ _ h => .inr h)).trans bn (fun _ _ h => .inl h))
    have MN : Hid (PMem Wn M B n s') := Lib.hid (pmem_frame m2 bn (fun e => hP.1 e.symm) (fun e => hP1 e.symm))
    have c1' := CE.c1
    have CN := Lib.hid CE
    rw [← hWn]
    clear hWn bn rest bw b2 m2 CE d0 d1 d2 d3 d4 d5 df
    go_wp2
    go_ret
    exact ⟨rfl, CN.out, MN.out, BN.out, RS.out⟩
set_option maxHeartbeats 4000000 in
theorem step_leave (P o k : Nat) (j : Nat) (R : Value) (made : Bool) (W u q er : Int) (made' : Bool) (nx' W' u' q' er' : Int) (M B n : Nat) (s s' : St) (w : World) (h : Cell6 w P o made (j + 1) W u q er) (hj : j < k) (hk : k ≤ 3)
    (hr : w.cell? ⟨P, j, none⟩ = some (.func (.func 75) #[R] #[])) (hf : ∀ i, w.frozen? ⟨P, i, none⟩ = false) (hm : PMem w M B n s) (hP : P ≠ M ∧ P ≠ B) (hR : RowDoes 75 R (stV made (j + 1) W u q er) (stV made' nx' W' u' q' er') M B n s s') :
    Calls Try.prog 74 #[.pointer (some ⟨P, o, none⟩), .slice (some ⟨P, 0, none⟩) k k, .pointer (some ⟨M, 0, none⟩)] w (StepPost P o made' nx' W' u' q' er' M B n s' w) := by
  have HM := Lib.hid hm
  have HR := Lib.hid hR
  obtain ⟨c0, c1, c2, c3, c4, c5⟩ := h
  have hPl := lt_of_cell c0
  clear hm hR
  go_enter Try.func74, Try.ntmps74
  have jk : (j : Int) < (k : Int) := by omega
  have j3 : j ≤ 2 := by omega
  have qj : IntKind.i64.wrap (j : Int) = j := by rw [IntKind.wrap_i64]; omega
  go_wp2_with fail
  go_region_law (first | (go_simp; go_at_call 75; refine (HR.out _ (pmem_kept HM.out (by first | exact Kept.refl _ | exact (Kept.refl _).drew | exact (Kept.refl _).drewN _))).mono ?_; rintro e v ⟨rfl, m2, b2⟩; have hP1 : ¬ P = B := hP.2; have d0 := b2.some c0 hP1; have d1 := b2.some c1 hP1; have d2 := b2.some c2 hP1; have d3 := b2.some c3 hP1; have d4 := b2.some c4 hP1; have d5 := b2.some c5 hP1; have df : (∀ i, v.frozen? ⟨P, i, none⟩ = false) := (fun i => b2.soft hPl (hf i)); have bw : But (fun k => k = B) w v := (Kept.but (w := w) (by first | exact Kept.refl _ | exact (Kept.refl _).drew | exact (Kept.refl _).drewN _) _).trans b2 (fun _ _ h => h)) | fail)
  all_goals
    obtain ⟨Wn, hWn⟩ : ∃ Wn, Wn = ((((((v.setCell ⟨P, o, none⟩ (.bool made')).setCell ⟨P, o + 1, none⟩ (.int .i64 nx')).setCell ⟨P, o + 2, none⟩ (.int .u64 W')).setCell ⟨P, o + 3, none⟩ (.int .i64 u')).setCell ⟨P, o + 4, none⟩ (.int .i64 q')).setCell ⟨P, o + 5, none⟩ (.int .i64 er')) := ⟨_, rfl⟩
    obtain ⟨CE, bn, rest⟩ := nest_cells ⟨d0, d1, d2, d3, d4, d5⟩ hWn
    have RS : Hid (∀ i, i < o ∨ o + 6 ≤ i → Wn.cell? ⟨P, i, none⟩ = w.cell? ⟨P, i, none⟩) := Lib.hid (fun i hi => (rest i hi).trans (bw.cell P i hPl hP1))
    have BN : Hid (But (fun k => k = P ∨ k = B) w Wn) := Lib.hid ((bw.mono (fun _ _ h => .inr h)).trans bn (fun _ _ h => .inl h))
    have MN : Hid (PMem Wn M B n s') := Lib.hid (pmem_frame m2 bn (fun e => hP.1 e.symm) (fun e => hP1 e.symm))
    have c1' := CE.c1
    have CN := Lib.hid CE
    rw [← hWn]
    clear hWn bn rest bw b2 m2 CE d0 d1 d2 d3 d4 d5 df
    go_wp2
    go_ret
    exact ⟨rfl, CN.out, MN.out, BN.out, RS.out⟩
end Go.Proofs.Ytmfbjlaajcdbnaa.Ep
