/- The program's row ask. Written by gen12.py. -/
import Derived.Test.YtmfbjlaajcdbnaaG12
set_option linter.unusedVariables false
set_option linter.unusedSimpArgs false

namespace Go.Proofs.Ytmfbjlaajcdbnaa.Ep
set_option maxRecDepth 20000
open Go.RowKit
open Wo (St acc wordAt PMem RefIs)
open Sk (Stk Wd p_load p_store p_cas pmem_kept pmem_lt pmem_frame)

set_option maxHeartbeats 2000000 in
theorem ask_busy (S : Stk) (c : Int) (p : Int) (made : Bool) (nx W u q er : Int) (M B n : Nat) (s : St) (w : World) (hm : PMem w M B n s) (h0 : 0 ≤ s.cnt) (h1 : s.cnt ≤ 1000000) (W00 : 0 ≤ W) (W01 : W < 18446744073709551616) (hwd : 0 ≤ wordAt n s q ∧ wordAt n s q < 18446744073709551616) (he : wordAt n s q ≠ 0 ∧ wordAt n s q ≠ ep W + 1) :
    Calls Try.prog 81 #[advV S c p, stV made nx W u q er, .pointer (some ⟨M, 0, none⟩)] w (Row M B n (acc n s 1 q false 0) (stV made 0 W u q 14) w) := by
  have hl := (pmem_lt hm).2
  have hlM := (pmem_lt hm).1
  have HM := Lib.hid hm
  clear hm
  go_enter Try.func81, Try.ntmps81
  go_upto_region 1 with fail
  obtain ⟨W0, hW0⟩ : ∃ W0, W0 = (((w.alloc (.cells #[.int .i64 S.T, .int .i64 S.K, .int .i64 S.N, .int .i64 c, .int .i64 p] 137)).alloc (.cells #[.bool made, .int .i64 nx, .int .u64 W, .int .i64 u, .int .i64 q, .int .i64 er] 68)).alloc (.cells #[.bool false, .int .i64 0, .int .u64 0, .int .i64 0, .int .i64 0, .int .i64 0] 68)) := ⟨_, rfl⟩
  have T0 : Three w W0 made nx W u q er := by rw [hW0]; exact three_new ..
  have a0 : W0.cell? ⟨w.heap.size, 0, none⟩ = some (.int .i64 S.T) := by rw [hW0]; exact (((Kept.refl _).alloc _ _).alloc _ _).some (cell_new _ _ _ _ 0 rfl)
  have a1 : W0.cell? ⟨w.heap.size, 1, none⟩ = some (.int .i64 S.K) := by rw [hW0]; exact (((Kept.refl _).alloc _ _).alloc _ _).some (cell_new _ _ _ _ 1 rfl)
  have a2 : W0.cell? ⟨w.heap.size, 2, none⟩ = some (.int .i64 S.N) := by rw [hW0]; exact (((Kept.refl _).alloc _ _).alloc _ _).some (cell_new _ _ _ _ 2 rfl)
  have a3 : W0.cell? ⟨w.heap.size, 3, none⟩ = some (.int .i64 c) := by rw [hW0]; exact (((Kept.refl _).alloc _ _).alloc _ _).some (cell_new _ _ _ _ 3 rfl)
  have a4 : W0.cell? ⟨w.heap.size, 4, none⟩ = some (.int .i64 p) := by rw [hW0]; exact (((Kept.refl _).alloc _ _).alloc _ _).some (cell_new _ _ _ _ 4 rfl)
  rw [← hW0]
  clear hW0
  have TT := Lib.hid T0
  obtain ⟨q0, q1, q2, q3, q4, q5⟩ := T0.st
  have V0 := hwd.1
  have V1 := hwd.2
  have SEE : ∀ X, Hid (Calls Try.prog 73 #[stV made nx W u q er] X fun e w' => e = .returned (.int .u32 (ep W)) ∧ Kept X w') := fun X => Lib.hid (seen_any made nx W u q er X W00 W01)
  have ep0 := ep_lo W
  have ep1 := ep_hi W
  have FOL : ∀ X, Hid (Calls Try.prog 103 #[.int .u32 (ep W)] X fun e w' => e = .returned (.int .u64 (ep W + 1)) ∧ Kept X w') := fun X => Lib.hid (following_any (ep W) X ep0 ep1)
  obtain ⟨pv, hpv⟩ : ∃ pv, pv = (wordAt n s q) := ⟨_, rfl⟩
  rw [← hpv] at V0 V1 he
  have HPV := Lib.hid hpv
  have LD : ∀ X, Hid (PMem X M B n s → Calls Try.prog 102 #[.pointer (some ⟨M, 0, none⟩), .int .i64 q] X fun e w' => e = .returned (.int .u64 pv) ∧ PMem w' M B n (acc n s 1 q false 0) ∧ But (fun k => k = B) X w') := fun X => Lib.hid (fun h => by rw [HPV.out]; exact p_load M B n s q X h h0 h1)
  clear hpv
  go_wp2_with fail
  refine ((LD _).out (pmem_kept HM.out TT.out.k)).mono ?_
  rintro e w3 ⟨rfl, m3, b3⟩
  have BT : But (fun k => k = B) W0 w3 := b3
  obtain ⟨q0, q1, q2, q3, q4, q5⟩ := Box6.but ⟨q0, q1, q2, q3, q4, q5⟩ b3 (by omega)
  have a0 := b3.some a0 (by omega)
  have a1 := b3.some a1 (by omega)
  have a2 := b3.some a2 (by omega)
  have a3 := b3.some a3 (by omega)
  have a4 := b3.some a4 (by omega)
  have rf : ∀ i, w3.frozen? ⟨w.heap.size + 1 + 1, i, none⟩ = false := fun i => BT.soft TT.out.lt (TT.out.f2 i)
  have RE := TT.out.re.but BT (by omega)
  have lX := Nat.lt_of_lt_of_le TT.out.lt BT.size
  have M3 := Lib.hid m3
  have BX : Hid (But (fun k => k = B) w w3) := Lib.hid ((TT.out.k.but (fun k => k = B)).trans BT (fun _ _ h => h))
  clear m3 b3 BT
  have g0 : (pv != 0) = true := by simpa using he.1
  have g1 : (pv != ep W + 1) = true := by simpa using he.2
  clear he
  go_wp2_with fail
  refine (SEE _).out.mono ?_
  rintro e w4 ⟨rfl, k4⟩
  go_wp2_with fail
  refine (FOL _).out.mono ?_
  rintro e w5 ⟨rfl, k5⟩
  have KT : Kept w3 w5 := k4.trans k5
  clear k4 k5
  obtain ⟨q0, q1, q2, q3, q4, q5⟩ := Box6.kept ⟨q0, q1, q2, q3, q4, q5⟩ KT
  have a0 := KT.some a0
  have a1 := KT.some a1
  have a2 := KT.some a2
  have a3 := KT.some a3
  have a4 := KT.some a4
  have rf : ∀ i, w5.frozen? ⟨w.heap.size + 1 + 1, i, none⟩ = false := fun i => KT.soft lX (rf i)
  have BY := Lib.hid (BX.out.then KT)
  have MY := Lib.hid (pmem_kept M3.out KT)
  have lY := Nat.lt_of_lt_of_le lX KT.size
  have RE := RE.kept KT
  clear KT SEE FOL
  go_wp2_with fail
  refine (end_any _ _ _ _ _ _ _ _).mono ?_
  rintro e w8 ⟨rfl, k8⟩
  have rf : ∀ i, w8.frozen? ⟨w.heap.size + 1 + 1, i, none⟩ = false := fun i => k8.soft lY (rf i)
  have BY := Lib.hid (BY.out.then k8)
  have MY := Lib.hid (pmem_kept MY.out k8)
  obtain ⟨r0, r1, r2, r3, r4, r5⟩ := RE.kept k8
  clear k8
  go_wp2
  refine put6_go ⟨r0, r1, r2, r3, r4, r5⟩ ?_
  rintro W9 ⟨e0, e1, e2, e3, e4, e5⟩ b9
  refine bodyPost_ret (v := stV made 0 W u q 14) (by simp [results, Try.results81, go_sem, e0, e1, e2, e3, e4, e5]) rfl ⟨rfl, pmem_frame MY.out b9 (by omega) (by omega), (BY.out.trans b9 (fun i hi e => by have e : i = w.heap.size + 1 + 1 := e; omega))⟩
set_option maxHeartbeats 2000000 in
theorem ask_zero (S : Stk) (c : Int) (p : Int) (made : Bool) (nx W u q er : Int) (M B n : Nat) (s : St) (w : World) (hm : PMem w M B n s) (h0 : 0 ≤ s.cnt) (h1 : s.cnt ≤ 1000000) (W00 : 0 ≤ W) (W01 : W < 18446744073709551616) (hwd : 0 ≤ wordAt n s q ∧ wordAt n s q < 18446744073709551616) (he : wordAt n s q = 0) (NX U Q : Int) (hsk : (if skip c (u + 1) < S.N then stV made 2 W (skip c (u + 1)) (S.K + skip c (u + 1)) er else stV made 3 W u q er) = stV made NX W U Q er) (u0 : 0 ≤ u) (u1 : u ≤ 900) (hN : S.N ≤ 1000) (K0 : 0 ≤ S.K) (K1 : S.K ≤ 10000) :
    Calls Try.prog 81 #[advV S c p, stV made nx W u q er, .pointer (some ⟨M, 0, none⟩)] w (Row M B n (acc n s 1 q false 0) (stV made NX W U Q er) w) := by
  have SEK : ∀ X, Hid (Calls Try.prog 104 #[advV S c p, stV made nx W u q er, .int .i64 (u + 1)] X fun e w' => e = .returned (stV made NX W U Q er) ∧ Kept X w') := fun X => Lib.hid (by rw [← hsk]; exact seek_any S c p made nx W u q er (u + 1) X (by omega) (by omega) hN K0 K1)
  clear hsk
  have hl := (pmem_lt hm).2
  have hlM := (pmem_lt hm).1
  have HM := Lib.hid hm
  clear hm
  go_enter Try.func81, Try.ntmps81
  go_upto_region 1 with fail
  obtain ⟨W0, hW0⟩ : ∃ W0, W0 = (((w.alloc (.cells #[.int .i64 S.T, .int .i64 S.K, .int .i64 S.N, .int .i64 c, .int .i64 p] 137)).alloc (.cells #[.bool made, .int .i64 nx, .int .u64 W, .int .i64 u, .int .i64 q, .int .i64 er] 68)).alloc (.cells #[.bool false, .int .i64 0, .int .u64 0, .int .i64 0, .int .i64 0, .int .i64 0] 68)) := ⟨_, rfl⟩
  have T0 : Three w W0 made nx W u q er := by rw [hW0]; exact three_new ..
  have a0 : W0.cell? ⟨w.heap.size, 0, none⟩ = some (.int .i64 S.T) := by rw [hW0]; exact (((Kept.refl _).alloc _ _).alloc _ _).some (cell_new _ _ _ _ 0 rfl)
  have a1 : W0.cell? ⟨w.heap.size, 1, none⟩ = some (.int .i64 S.K) := by rw [hW0]; exact (((Kept.refl _).alloc _ _).alloc _ _).some (cell_new _ _ _ _ 1 rfl)
  have a2 : W0.cell? ⟨w.heap.size, 2, none⟩ = some (.int .i64 S.N) := by rw [hW0]; exact (((Kept.refl _).alloc _ _).alloc _ _).some (cell_new _ _ _ _ 2 rfl)
  have a3 : W0.cell? ⟨w.heap.size, 3, none⟩ = some (.int .i64 c) := by rw [hW0]; exact (((Kept.refl _).alloc _ _).alloc _ _).some (cell_new _ _ _ _ 3 rfl)
  have a4 : W0.cell? ⟨w.heap.size, 4, none⟩ = some (.int .i64 p) := by rw [hW0]; exact (((Kept.refl _).alloc _ _).alloc _ _).some (cell_new _ _ _ _ 4 rfl)
  rw [← hW0]
  clear hW0
  have TT := Lib.hid T0
  obtain ⟨q0, q1, q2, q3, q4, q5⟩ := T0.st
  have V0 := hwd.1
  have V1 := hwd.2
  have SEE : ∀ X, Hid (Calls Try.prog 73 #[stV made nx W u q er] X fun e w' => e = .returned (.int .u32 (ep W)) ∧ Kept X w') := fun X => Lib.hid (seen_any made nx W u q er X W00 W01)
  have ep0 := ep_lo W
  have ep1 := ep_hi W
  have FOL : ∀ X, Hid (Calls Try.prog 103 #[.int .u32 (ep W)] X fun e w' => e = .returned (.int .u64 (ep W + 1)) ∧ Kept X w') := fun X => Lib.hid (following_any (ep W) X ep0 ep1)
  obtain ⟨pv, hpv⟩ : ∃ pv, pv = (wordAt n s q) := ⟨_, rfl⟩
  rw [← hpv] at V0 V1 he
  have HPV := Lib.hid hpv
  have LD : ∀ X, Hid (PMem X M B n s → Calls Try.prog 102 #[.pointer (some ⟨M, 0, none⟩), .int .i64 q] X fun e w' => e = .returned (.int .u64 pv) ∧ PMem w' M B n (acc n s 1 q false 0) ∧ But (fun k => k = B) X w') := fun X => Lib.hid (fun h => by rw [HPV.out]; exact p_load M B n s q X h h0 h1)
  clear hpv
  go_wp2_with fail
  refine ((LD _).out (pmem_kept HM.out TT.out.k)).mono ?_
  rintro e w3 ⟨rfl, m3, b3⟩
  have BT : But (fun k => k = B) W0 w3 := b3
  obtain ⟨q0, q1, q2, q3, q4, q5⟩ := Box6.but ⟨q0, q1, q2, q3, q4, q5⟩ b3 (by omega)
  have a0 := b3.some a0 (by omega)
  have a1 := b3.some a1 (by omega)
  have a2 := b3.some a2 (by omega)
  have a3 := b3.some a3 (by omega)
  have a4 := b3.some a4 (by omega)
  have rf : ∀ i, w3.frozen? ⟨w.heap.size + 1 + 1, i, none⟩ = false := fun i => BT.soft TT.out.lt (TT.out.f2 i)
  have RE := TT.out.re.but BT (by omega)
  have lX := Nat.lt_of_lt_of_le TT.out.lt BT.size
  have M3 := Lib.hid m3
  have BX : Hid (But (fun k => k = B) w w3) := Lib.hid ((TT.out.k.but (fun k => k = B)).trans BT (fun _ _ h => h))
  clear m3 b3 BT
  have g0 : (pv != 0) = false := by simp [he]
  clear he
  have KT : Kept w3 w3 := Kept.refl _
  obtain ⟨q0, q1, q2, q3, q4, q5⟩ := Box6.kept ⟨q0, q1, q2, q3, q4, q5⟩ KT
  have a0 := KT.some a0
  have a1 := KT.some a1
  have a2 := KT.some a2
  have a3 := KT.some a3
  have a4 := KT.some a4
  have rf : ∀ i, w3.frozen? ⟨w.heap.size + 1 + 1, i, none⟩ = false := fun i => KT.soft lX (rf i)
  have BY := Lib.hid (BX.out.then KT)
  have MY := Lib.hid (pmem_kept M3.out KT)
  have lY := Nat.lt_of_lt_of_le lX KT.size
  have RE := RE.kept KT
  clear KT SEE FOL
  go_wp2_with fail
  refine (SEK _).out.mono ?_
  rintro e w8 ⟨rfl, k8⟩
  have rf : ∀ i, w8.frozen? ⟨w.heap.size + 1 + 1, i, none⟩ = false := fun i => k8.soft lY (rf i)
  have BY := Lib.hid (BY.out.then k8)
  have MY := Lib.hid (pmem_kept MY.out k8)
  obtain ⟨r0, r1, r2, r3, r4, r5⟩ := RE.kept k8
  clear k8
  go_wp2
  refine put6_go ⟨r0, r1, r2, r3, r4, r5⟩ ?_
  rintro W9 ⟨e0, e1, e2, e3, e4, e5⟩ b9
  refine bodyPost_ret (v := stV made NX W U Q er) (by simp [results, Try.results81, go_sem, e0, e1, e2, e3, e4, e5]) rfl ⟨rfl, pmem_frame MY.out b9 (by omega) (by omega), (BY.out.trans b9 (fun i hi e => by have e : i = w.heap.size + 1 + 1 := e; omega))⟩
set_option maxHeartbeats 2000000 in
theorem ask_same (S : Stk) (c : Int) (p : Int) (made : Bool) (nx W u q er : Int) (M B n : Nat) (s : St) (w : World) (hm : PMem w M B n s) (h0 : 0 ≤ s.cnt) (h1 : s.cnt ≤ 1000000) (W00 : 0 ≤ W) (W01 : W < 18446744073709551616) (hwd : 0 ≤ wordAt n s q ∧ wordAt n s q < 18446744073709551616) (he : wordAt n s q = ep W + 1) (NX U Q : Int) (hsk : (if skip c (u + 1) < S.N then stV made 2 W (skip c (u + 1)) (S.K + skip c (u + 1)) er else stV made 3 W u q er) = stV made NX W U Q er) (u0 : 0 ≤ u) (u1 : u ≤ 900) (hN : S.N ≤ 1000) (K0 : 0 ≤ S.K) (K1 : S.K ≤ 10000) :
    Calls Try.prog 81 #[advV S c p, stV made nx W u q er, .pointer (some ⟨M, 0, none⟩)] w (Row M B n (acc n s 1 q false 0) (stV made NX W U Q er) w) := by
  have SEK : ∀ X, Hid (Calls Try.prog 104 #[advV S c p, stV made nx W u q er, .int .i64 (u + 1)] X fun e w' => e = .returned (stV made NX W U Q er) ∧ Kept X w') := fun X => Lib.hid (by rw [← hsk]; exact seek_any S c p made nx W u q er (u + 1) X (by omega) (by omega) hN K0 K1)
  clear hsk
  have hl := (pmem_lt hm).2
  have hlM := (pmem_lt hm).1
  have HM := Lib.hid hm
  clear hm
  go_enter Try.func81, Try.ntmps81
  go_upto_region 1 with fail
  obtain ⟨W0, hW0⟩ : ∃ W0, W0 = (((w.alloc (.cells #[.int .i64 S.T, .int .i64 S.K, .int .i64 S.N, .int .i64 c, .int .i64 p] 137)).alloc (.cells #[.bool made, .int .i64 nx, .int .u64 W, .int .i64 u, .int .i64 q, .int .i64 er] 68)).alloc (.cells #[.bool false, .int .i64 0, .int .u64 0, .int .i64 0, .int .i64 0, .int .i64 0] 68)) := ⟨_, rfl⟩
  have T0 : Three w W0 made nx W u q er := by rw [hW0]; exact three_new ..
  have a0 : W0.cell? ⟨w.heap.size, 0, none⟩ = some (.int .i64 S.T) := by rw [hW0]; exact (((Kept.refl _).alloc _ _).alloc _ _).some (cell_new _ _ _ _ 0 rfl)
  have a1 : W0.cell? ⟨w.heap.size, 1, none⟩ = some (.int .i64 S.K) := by rw [hW0]; exact (((Kept.refl _).alloc _ _).alloc _ _).some (cell_new _ _ _ _ 1 rfl)
  have a2 : W0.cell? ⟨w.heap.size, 2, none⟩ = some (.int .i64 S.N) := by rw [hW0]; exact (((Kept.refl _).alloc _ _).alloc _ _).some (cell_new _ _ _ _ 2 rfl)
  have a3 : W0.cell? ⟨w.heap.size, 3, none⟩ = some (.int .i64 c) := by rw [hW0]; exact (((Kept.refl _).alloc _ _).alloc _ _).some (cell_new _ _ _ _ 3 rfl)
  have a4 : W0.cell? ⟨w.heap.size, 4, none⟩ = some (.int .i64 p) := by rw [hW0]; exact (((Kept.refl _).alloc _ _).alloc _ _).some (cell_new _ _ _ _ 4 rfl)
  rw [← hW0]
  clear hW0
  have TT := Lib.hid T0
  obtain ⟨q0, q1, q2, q3, q4, q5⟩ := T0.st
  have V0 := hwd.1
  have V1 := hwd.2
  have SEE : ∀ X, Hid (Calls Try.prog 73 #[stV made nx W u q er] X fun e w' => e = .returned (.int .u32 (ep W)) ∧ Kept X w') := fun X => Lib.hid (seen_any made nx W u q er X W00 W01)
  have ep0 := ep_lo W
  have ep1 := ep_hi W
  have FOL : ∀ X, Hid (Calls Try.prog 103 #[.int .u32 (ep W)] X fun e w' => e = .returned (.int .u64 (ep W + 1)) ∧ Kept X w') := fun X => Lib.hid (following_any (ep W) X ep0 ep1)
  obtain ⟨pv, hpv⟩ : ∃ pv, pv = (wordAt n s q) := ⟨_, rfl⟩
  rw [← hpv] at V0 V1 he
  have HPV := Lib.hid hpv
  have LD : ∀ X, Hid (PMem X M B n s → Calls Try.prog 102 #[.pointer (some ⟨M, 0, none⟩), .int .i64 q] X fun e w' => e = .returned (.int .u64 pv) ∧ PMem w' M B n (acc n s 1 q false 0) ∧ But (fun k => k = B) X w') := fun X => Lib.hid (fun h => by rw [HPV.out]; exact p_load M B n s q X h h0 h1)
  clear hpv
  go_wp2_with fail
  refine ((LD _).out (pmem_kept HM.out TT.out.k)).mono ?_
  rintro e w3 ⟨rfl, m3, b3⟩
  have BT : But (fun k => k = B) W0 w3 := b3
  obtain ⟨q0, q1, q2, q3, q4, q5⟩ := Box6.but ⟨q0, q1, q2, q3, q4, q5⟩ b3 (by omega)
  have a0 := b3.some a0 (by omega)
  have a1 := b3.some a1 (by omega)
  have a2 := b3.some a2 (by omega)
  have a3 := b3.some a3 (by omega)
  have a4 := b3.some a4 (by omega)
  have rf : ∀ i, w3.frozen? ⟨w.heap.size + 1 + 1, i, none⟩ = false := fun i => BT.soft TT.out.lt (TT.out.f2 i)
  have RE := TT.out.re.but BT (by omega)
  have lX := Nat.lt_of_lt_of_le TT.out.lt BT.size
  have M3 := Lib.hid m3
  have BX : Hid (But (fun k => k = B) w w3) := Lib.hid ((TT.out.k.but (fun k => k = B)).trans BT (fun _ _ h => h))
  clear m3 b3 BT
  have g0 : (pv != 0) = true := by simp; omega
  have g1 : (pv != ep W + 1) = false := by simp [he]
  clear he
  go_wp2_with fail
  refine (SEE _).out.mono ?_
  rintro e w4 ⟨rfl, k4⟩
  go_wp2_with fail
  refine (FOL _).out.mono ?_
  rintro e w5 ⟨rfl, k5⟩
  have KT : Kept w3 w5 := k4.trans k5
  clear k4 k5
  obtain ⟨q0, q1, q2, q3, q4, q5⟩ := Box6.kept ⟨q0, q1, q2, q3, q4, q5⟩ KT
  have a0 := KT.some a0
  have a1 := KT.some a1
  have a2 := KT.some a2
  have a3 := KT.some a3
  have a4 := KT.some a4
  have rf : ∀ i, w5.frozen? ⟨w.heap.size + 1 + 1, i, none⟩ = false := fun i => KT.soft lX (rf i)
  have BY := Lib.hid (BX.out.then KT)
  have MY := Lib.hid (pmem_kept M3.out KT)
  have lY := Nat.lt_of_lt_of_le lX KT.size
  have RE := RE.kept KT
  clear KT SEE FOL
  go_wp2_with fail
  refine (SEK _).out.mono ?_
  rintro e w8 ⟨rfl, k8⟩
  have rf : ∀ i, w8.frozen? ⟨w.heap.size + 1 + 1, i, none⟩ = false := fun i => k8.soft lY (rf i)
  have BY := Lib.hid (BY.out.then k8)
  have MY := Lib.hid (pmem_kept MY.out k8)
  obtain ⟨r0, r1, r2, r3, r4, r5⟩ := RE.kept k8
  clear k8
  go_wp2
  refine put6_go ⟨r0, r1, r2, r3, r4, r5⟩ ?_
  rintro W9 ⟨e0, e1, e2, e3, e4, e5⟩ b9
  refine bodyPost_ret (v := stV made NX W U Q er) (by simp [results, Try.results81, go_sem, e0, e1, e2, e3, e4, e5]) rfl ⟨rfl, pmem_frame MY.out b9 (by omega) (by omega), (BY.out.trans b9 (fun i hi e => by have e : i = w.heap.size + 1 + 1 := e; omega))⟩
end Go.Proofs.Ytmfbjlaajcdbnaa.Ep

namespace Go.Proofs.Ytmfbjlaajcdbnaa.Ep
set_option maxRecDepth 20000
open Go.RowKit
open Wo (St acc wordAt PMem RefIs)
open Sk (Stk Wd p_load p_store p_cas pmem_kept pmem_lt pmem_frame)

set_option maxHeartbeats 2000000 in
theorem move_yes (S : Stk) (c : Int) (p : Int) (made : Bool) (nx W u q er : Int) (M B n : Nat) (s : St) (w : World) (hm : PMem w M B n s) (h0 : 0 ≤ s.cnt) (h1 : s.cnt ≤ 1000000) (W00 : 0 ≤ W) (W01 : W < 18446744073709551616) (T0' : 0 ≤ S.T) (T1' : S.T < n) (he : wordAt n s S.T = W) :
    Calls Try.prog 82 #[advV S c p, stV made nx W u q er, .pointer (some ⟨M, 0, none⟩)] w (Row M B n (acc n s 3 S.T true (ep W + 1)) (stV made 0 W u q 0) w) := by
  have hl := (pmem_lt hm).2
  have hlM := (pmem_lt hm).1
  have HM := Lib.hid hm
  clear hm
  go_enter Try.func82, Try.ntmps82
  go_upto_region 1 with fail
  obtain ⟨W0, hW0⟩ : ∃ W0, W0 = (((w.alloc (.cells #[.int .i64 S.T, .int .i64 S.K, .int .i64 S.N, .int .i64 c, .int .i64 p] 137)).alloc (.cells #[.bool made, .int .i64 nx, .int .u64 W, .int .i64 u, .int .i64 q, .int .i64 er] 68)).alloc (.cells #[.bool false, .int .i64 0, .int .u64 0, .int .i64 0, .int .i64 0, .int .i64 0] 68)) := ⟨_, rfl⟩
  have T0 : Three w W0 made nx W u q er := by rw [hW0]; exact three_new ..
  have a0 : W0.cell? ⟨w.heap.size, 0, none⟩ = some (.int .i64 S.T) := by rw [hW0]; exact (((Kept.refl _).alloc _ _).alloc _ _).some (cell_new _ _ _ _ 0 rfl)
  have a1 : W0.cell? ⟨w.heap.size, 1, none⟩ = some (.int .i64 S.K) := by rw [hW0]; exact (((Kept.refl _).alloc _ _).alloc _ _).some (cell_new _ _ _ _ 1 rfl)
  have a2 : W0.cell? ⟨w.heap.size, 2, none⟩ = some (.int .i64 S.N) := by rw [hW0]; exact (((Kept.refl _).alloc _ _).alloc _ _).some (cell_new _ _ _ _ 2 rfl)
  have a3 : W0.cell? ⟨w.heap.size, 3, none⟩ = some (.int .i64 c) := by rw [hW0]; exact (((Kept.refl _).alloc _ _).alloc _ _).some (cell_new _ _ _ _ 3 rfl)
  have a4 : W0.cell? ⟨w.heap.size, 4, none⟩ = some (.int .i64 p) := by rw [hW0]; exact (((Kept.refl _).alloc _ _).alloc _ _).some (cell_new _ _ _ _ 4 rfl)
  rw [← hW0]
  clear hW0
  have TT := Lib.hid T0
  obtain ⟨q0, q1, q2, q3, q4, q5⟩ := T0.st
  have SEE : ∀ X, Hid (Calls Try.prog 73 #[stV made nx W u q er] X fun e w' => e = .returned (.int .u32 (ep W)) ∧ Kept X w') := fun X => Lib.hid (seen_any made nx W u q er X W00 W01)
  have ep0 := ep_lo W
  have ep1 := ep_hi W
  have FOL : ∀ X, Hid (Calls Try.prog 103 #[.int .u32 (ep W)] X fun e w' => e = .returned (.int .u64 (ep W + 1)) ∧ Kept X w') := fun X => Lib.hid (following_any (ep W) X ep0 ep1)
  have hb : (wordAt n s S.T == W) = true := by simp[he]
  have CAS : ∀ X, Hid (PMem X M B n s → Calls Try.prog 105 #[.pointer (some ⟨M, 0, none⟩), .int .i64 S.T, .int .u64 W, .int .u64 (ep W + 1)] X fun e w' => e = .returned (.bool true) ∧ PMem w' M B n (acc n s 3 S.T true (ep W + 1)) ∧ But (fun k => k = B) X w') := fun X => Lib.hid (fun h => by have k := p_cas M B n s S.T W (ep W + 1) X h h0 h1 T0' T1'; rw [hb] at k; exact k)
  clear hb he
  have KT : Kept W0 W0 := Kept.refl _
  have hw1 : w.heap.size ≠ B := by omega
  have hw2 : w.heap.size + 1 ≠ B := by omega
  go_region_held3 (fun w' => w'.cell? ⟨w.heap.size, 0, none⟩ = some (.int .i64 S.T) ∧ w'.cell? ⟨w.heap.size, 1, none⟩ = some (.int .i64 S.K) ∧ w'.cell? ⟨w.heap.size, 2, none⟩ = some (.int .i64 S.N) ∧ w'.cell? ⟨w.heap.size, 3, none⟩ = some (.int .i64 c) ∧ w'.cell? ⟨w.heap.size, 4, none⟩ = some (.int .i64 p) ∧ w'.cell? ⟨w.heap.size + 1, 0, none⟩ = some (.bool made) ∧ w'.cell? ⟨w.heap.size + 1, 1, none⟩ = some (.int .i64 nx) ∧ w'.cell? ⟨w.heap.size + 1, 2, none⟩ = some (.int .u64 W) ∧ w'.cell? ⟨w.heap.size + 1, 3, none⟩ = some (.int .i64 u) ∧ w'.cell? ⟨w.heap.size + 1, 4, none⟩ = some (.int .i64 q) ∧ w'.cell? ⟨w.heap.size + 1, 5, none⟩ = some (.int .i64 er)) (first | go_keep | (exact ⟨KT.some a0, KT.some a1, KT.some a2, KT.some a3, KT.some a4, KT.some q0, KT.some q1, KT.some q2, KT.some q3, KT.some q4, KT.some q5⟩) | (exact d)) (first
    | (go_at_call 73; refine (SEE _).out.mono ?_; rintro e w3 ⟨rfl, k3⟩; have KT : Kept W0 w3 := Kept.trans (b := _) (by first | exact KT | exact KT.drew | exact KT.drewN _) k3)
    | (go_at_call 103; refine (FOL _).out.mono ?_; rintro e w4 ⟨rfl, k4⟩; have KT : Kept W0 w4 := Kept.trans (b := _) (by first | exact KT | exact KT.drew | exact KT.drewN _) k4)
    | (go_at_call 105; refine ((CAS _).out (pmem_kept HM.out (TT.out.k.trans (by first | exact KT | exact KT.drew | exact KT.drewN _)))).mono ?_; rintro e w5 ⟨rfl, m5, b5⟩; have BT : But (fun k => k = B) W0 w5 := (Kept.but (w' := _) (by first | exact KT | exact KT.drew | exact KT.drewN _) _).trans b5 (fun _ _ h => h); have d := And.intro (BT.some a0 hw1) (And.intro (BT.some a1 hw1) (And.intro (BT.some a2 hw1) (And.intro (BT.some a3 hw1) (And.intro (BT.some a4 hw1) (And.intro (BT.some q0 hw2) (And.intro (BT.some q1 hw2) (And.intro (BT.some q2 hw2) (And.intro (BT.some q3 hw2) (And.intro (BT.some q4 hw2) (BT.some q5 hw2))))))))))))
  rename_i hcells
  clear hcells
  obtain ⟨_, _, _, _, _, s0, s1, s2, s3, s4, s5⟩ := d
  have rf : ∀ i, w5.frozen? ⟨w.heap.size + 1 + 1, i, none⟩ = false := fun i => BT.soft TT.out.lt (TT.out.f2 i)
  have RE := TT.out.re.but BT (by omega)
  have lX := Nat.lt_of_lt_of_le TT.out.lt BT.size
  have MX := Lib.hid m5
  have BX : Hid (But (fun k => k = B) w w5) := Lib.hid ((TT.out.k.but (fun k => k = B)).trans BT (fun _ _ h => h))
  clear m5
  go_wp2_with fail
  refine (end_any _ _ _ _ _ _ _ _).mono ?_
  rintro e w8 ⟨rfl, k8⟩
  have rf : ∀ i, w8.frozen? ⟨w.heap.size + 1 + 1, i, none⟩ = false := fun i => k8.soft lX (rf i)
  have BY := Lib.hid (BX.out.then k8)
  have MY := Lib.hid (pmem_kept MX.out k8)
  have lY := Nat.lt_of_lt_of_le lX k8.size
  obtain ⟨r0, r1, r2, r3, r4, r5⟩ := RE.kept k8
  clear k8
  go_wp2
  refine put6_go ⟨r0, r1, r2, r3, r4, r5⟩ ?_
  rintro W9 ⟨e0, e1, e2, e3, e4, e5⟩ b9
  refine bodyPost_ret (v := stV made 0 W u q 0) (by simp [results, Try.results82, go_sem, e0, e1, e2, e3, e4, e5]) rfl ⟨rfl, pmem_frame MY.out b9 (by omega) (by omega), (BY.out.trans b9 (fun i hi e => by have e : i = w.heap.size + 1 + 1 := e; omega))⟩
set_option maxHeartbeats 2000000 in
theorem move_no (S : Stk) (c : Int) (p : Int) (made : Bool) (nx W u q er : Int) (M B n : Nat) (s : St) (w : World) (hm : PMem w M B n s) (h0 : 0 ≤ s.cnt) (h1 : s.cnt ≤ 1000000) (W00 : 0 ≤ W) (W01 : W < 18446744073709551616) (T0' : 0 ≤ S.T) (T1' : S.T < n) (he : ¬ wordAt n s S.T = W) :
    Calls Try.prog 82 #[advV S c p, stV made nx W u q er, .pointer (some ⟨M, 0, none⟩)] w (Row M B n (acc n s 3 S.T false (ep W + 1)) (stV made 0 W u q 14) w) := by
  have hl := (pmem_lt hm).2
  have hlM := (pmem_lt hm).1
  have HM := Lib.hid hm
  clear hm
  go_enter Try.func82, Try.ntmps82
  go_upto_region 1 with fail
  obtain ⟨W0, hW0⟩ : ∃ W0, W0 = (((w.alloc (.cells #[.int .i64 S.T, .int .i64 S.K, .int .i64 S.N, .int .i64 c, .int .i64 p] 137)).alloc (.cells #[.bool made, .int .i64 nx, .int .u64 W, .int .i64 u, .int .i64 q, .int .i64 er] 68)).alloc (.cells #[.bool false, .int .i64 0, .int .u64 0, .int .i64 0, .int .i64 0, .int .i64 0] 68)) := ⟨_, rfl⟩
  have T0 : Three w W0 made nx W u q er := by rw [hW0]; exact three_new ..
  have a0 : W0.cell? ⟨w.heap.size, 0, none⟩ = some (.int .i64 S.T) := by rw [hW0]; exact (((Kept.refl _).alloc _ _).alloc _ _).some (cell_new _ _ _ _ 0 rfl)
  have a1 : W0.cell? ⟨w.heap.size, 1, none⟩ = some (.int .i64 S.K) := by rw [hW0]; exact (((Kept.refl _).alloc _ _).alloc _ _).some (cell_new _ _ _ _ 1 rfl)
  have a2 : W0.cell? ⟨w.heap.size, 2, none⟩ = some (.int .i64 S.N) := by rw [hW0]; exact (((Kept.refl _).alloc _ _).alloc _ _).some (cell_new _ _ _ _ 2 rfl)
  have a3 : W0.cell? ⟨w.heap.size, 3, none⟩ = some (.int .i64 c) := by rw [hW0]; exact (((Kept.refl _).alloc _ _).alloc _ _).some (cell_new _ _ _ _ 3 rfl)
  have a4 : W0.cell? ⟨w.heap.size, 4, none⟩ = some (.int .i64 p) := by rw [hW0]; exact (((Kept.refl _).alloc _ _).alloc _ _).some (cell_new _ _ _ _ 4 rfl)
  rw [← hW0]
  clear hW0
  have TT := Lib.hid T0
  obtain ⟨q0, q1, q2, q3, q4, q5⟩ := T0.st
  have SEE : ∀ X, Hid (Calls Try.prog 73 #[stV made nx W u q er] X fun e w' => e = .returned (.int .u32 (ep W)) ∧ Kept X w') := fun X => Lib.hid (seen_any made nx W u q er X W00 W01)
  have ep0 := ep_lo W
  have ep1 := ep_hi W
  have FOL : ∀ X, Hid (Calls Try.prog 103 #[.int .u32 (ep W)] X fun e w' => e = .returned (.int .u64 (ep W + 1)) ∧ Kept X w') := fun X => Lib.hid (following_any (ep W) X ep0 ep1)
  have hb : (wordAt n s S.T == W) = false := by simpa using he
  have CAS : ∀ X, Hid (PMem X M B n s → Calls Try.prog 105 #[.pointer (some ⟨M, 0, none⟩), .int .i64 S.T, .int .u64 W, .int .u64 (ep W + 1)] X fun e w' => e = .returned (.bool false) ∧ PMem w' M B n (acc n s 3 S.T false (ep W + 1)) ∧ But (fun k => k = B) X w') := fun X => Lib.hid (fun h => by have k := p_cas M B n s S.T W (ep W + 1) X h h0 h1 T0' T1'; rw [hb] at k; exact k)
  clear hb he
  have KT : Kept W0 W0 := Kept.refl _
  have hw1 : w.heap.size ≠ B := by omega
  have hw2 : w.heap.size + 1 ≠ B := by omega
  go_region_held3 (fun w' => w'.cell? ⟨w.heap.size, 0, none⟩ = some (.int .i64 S.T) ∧ w'.cell? ⟨w.heap.size, 1, none⟩ = some (.int .i64 S.K) ∧ w'.cell? ⟨w.heap.size, 2, none⟩ = some (.int .i64 S.N) ∧ w'.cell? ⟨w.heap.size, 3, none⟩ = some (.int .i64 c) ∧ w'.cell? ⟨w.heap.size, 4, none⟩ = some (.int .i64 p) ∧ w'.cell? ⟨w.heap.size + 1, 0, none⟩ = some (.bool made) ∧ w'.cell? ⟨w.heap.size + 1, 1, none⟩ = some (.int .i64 nx) ∧ w'.cell? ⟨w.heap.size + 1, 2, none⟩ = some (.int .u64 W) ∧ w'.cell? ⟨w.heap.size + 1, 3, none⟩ = some (.int .i64 u) ∧ w'.cell? ⟨w.heap.size + 1, 4, none⟩ = some (.int .i64 q) ∧ w'.cell? ⟨w.heap.size + 1, 5, none⟩ = some (.int .i64 er)) (first | go_keep | (exact ⟨KT.some a0, KT.some a1, KT.some a2, KT.some a3, KT.some a4, KT.some q0, KT.some q1, KT.some q2, KT.some q3, KT.some q4, KT.some q5⟩) | (exact d)) (first
    | (go_at_call 73; refine (SEE _).out.mono ?_; rintro e w3 ⟨rfl, k3⟩; have KT : Kept W0 w3 := Kept.trans (b := _) (by first | exact KT | exact KT.drew | exact KT.drewN _) k3)
    | (go_at_call 103; refine (FOL _).out.mono ?_; rintro e w4 ⟨rfl, k4⟩; have KT : Kept W0 w4 := Kept.trans (b := _) (by first | exact KT | exact KT.drew | exact KT.drewN _) k4)
    | (go_at_call 105; refine ((CAS _).out (pmem_kept HM.out (TT.out.k.trans (by first | exact KT | exact KT.drew | exact KT.drewN _)))).mono ?_; rintro e w5 ⟨rfl, m5, b5⟩; have BT : But (fun k => k = B) W0 w5 := (Kept.but (w' := _) (by first | exact KT | exact KT.drew | exact KT.drewN _) _).trans b5 (fun _ _ h => h); have d := And.intro (BT.some a0 hw1) (And.intro (BT.some a1 hw1) (And.intro (BT.some a2 hw1) (And.intro (BT.some a3 hw1) (And.intro (BT.some a4 hw1) (And.intro (BT.some q0 hw2) (And.intro (BT.some q1 hw2) (And.intro (BT.some q2 hw2) (And.intro (BT.some q3 hw2) (And.intro (BT.some q4 hw2) (BT.some q5 hw2))))))))))))
  rename_i hcells
  clear hcells
  obtain ⟨_, _, _, _, _, s0, s1, s2, s3, s4, s5⟩ := d
  have rf : ∀ i, w5.frozen? ⟨w.heap.size + 1 + 1, i, none⟩ = false := fun i => BT.soft TT.out.lt (TT.out.f2 i)
  have RE := TT.out.re.but BT (by omega)
  have lX := Nat.lt_of_lt_of_le TT.out.lt BT.size
  have MX := Lib.hid m5
  have BX : Hid (But (fun k => k = B) w w5) := Lib.hid ((TT.out.k.but (fun k => k = B)).trans BT (fun _ _ h => h))
  clear m5
  go_wp2_with fail
  refine (end_any _ _ _ _ _ _ _ _).mono ?_
  rintro e w8 ⟨rfl, k8⟩
  have rf : ∀ i, w8.frozen? ⟨w.heap.size + 1 + 1, i, none⟩ = false := fun i => k8.soft lX (rf i)
  have BY := Lib.hid (BX.out.then k8)
  have MY := Lib.hid (pmem_kept MX.out k8)
  have lY := Nat.lt_of_lt_of_le lX k8.size
  obtain ⟨r0, r1, r2, r3, r4, r5⟩ := RE.kept k8
  clear k8
  go_wp2
  refine put6_go ⟨r0, r1, r2, r3, r4, r5⟩ ?_
  rintro W9 ⟨e0, e1, e2, e3, e4, e5⟩ b9
  refine bodyPost_ret (v := stV made 0 W u q 14) (by simp [results, Try.results82, go_sem, e0, e1, e2, e3, e4, e5]) rfl ⟨rfl, pmem_frame MY.out b9 (by omega) (by omega), (BY.out.trans b9 (fun i hi e => by have e : i = w.heap.size + 1 + 1 := e; omega))⟩
end Go.Proofs.Ytmfbjlaajcdbnaa.Ep
