/- EpochSteps: where the statement's guard lets go, and all of it. Written by gen12y.py. -/
import Derived.Test.YtmfbjlaajcdbnaaG25
set_option linter.unusedVariables false
set_option linter.unusedSimpArgs false

namespace Go.Proofs.Ytmfbjlaajcdbnaa.Ep
set_option maxRecDepth 100000
open Go.RowKit
open Wo (St acc wordAt PMem RefIs)
open Sk (Stk Wd)

set_option maxHeartbeats 4000000 in
theorem early_fits (S : Stk) (sz : Int) (a2 a3 : Option Addr) (m2 m3 c2 c3 : Nat) (w : World) (f : Int) (hF : fitsE S sz = f) (hf : (f != 0) = true) :
    Calls Try.prog 3 #[.agg #[.int .i64 S.T, .int .i64 S.K, .int .i64 S.N], .int .i64 sz, .slice a2 m2 c2, .slice a3 m3 c3] w fun e w' => e = .returned (.bool true) ∧ Kept w w' := by
  have FP : ∀ W, Hid (Calls Try.prog 8 #[.agg #[.int .i64 S.T, .int .i64 S.K, .int .i64 S.N], .int .i64 sz] W fun e w' => e = .returned (.int .i64 f) ∧ Kept W w') := fun W => Lib.hid (by have h := pfits_any S sz W; rw [hF] at h; exact h)
  have FR : ∀ W, Hid (Calls Try.prog 9 #[.agg #[.int .i64 S.T, .int .i64 S.K, .int .i64 S.N], .int .i64 sz] W fun e w' => e = .returned (.int .i64 f) ∧ Kept W w') := fun W => Lib.hid (by have h := rfits_any S sz W; rw [hF] at h; exact h)
  clear hF
  go_enter Try.func3, Try.ntmps3
  go_upto_region 1 with fail
  obtain ⟨W1, hW1⟩ : ∃ W1, W1 = w.alloc (.cells #[.int .i64 S.T, .int .i64 S.K, .int .i64 S.N] 23) := ⟨_, rfl⟩
  have t0 : W1.cell? ⟨w.heap.size, 0, none⟩ = some (.int .i64 S.T) := by rw [hW1]; exact cell_new w _ _ _ 0 rfl
  have t1 : W1.cell? ⟨w.heap.size, 1, none⟩ = some (.int .i64 S.K) := by rw [hW1]; exact cell_new w _ _ _ 1 rfl
  have t2 : W1.cell? ⟨w.heap.size, 2, none⟩ = some (.int .i64 S.N) := by rw [hW1]; exact cell_new w _ _ _ 2 rfl
  have k1 : Kept w W1 := by rw [hW1]; exact (Kept.refl w).alloc _ _
  rw [← hW1]
  have K1 := Lib.hid k1
  clear hW1 k1
  go_region_held3 (fun w' => w'.cell? ⟨w.heap.size, 0, none⟩ = some (.int .i64 S.T) ∧ w'.cell? ⟨w.heap.size, 1, none⟩ = some (.int .i64 S.K) ∧ w'.cell? ⟨w.heap.size, 2, none⟩ = some (.int .i64 S.N)) (first | go_keep | (exact ⟨k2.some t0, k2.some t1, k2.some t2⟩) | (exact ⟨d0, d1, d2⟩)) (first
    | (go_at_call 8; refine (FP _).out.mono ?_; rintro e w2 ⟨rfl, k2⟩; have KT : Kept W1 w2 := Kept.trans (b := _) (by first | exact Kept.refl _ | exact (Kept.refl _).drew | exact (Kept.refl _).drewN _) k2)
    | (go_at_call 9; refine (FR _).out.mono ?_; rintro e w3 ⟨rfl, k3⟩; have KU : Kept W1 w3 := Kept.trans (b := _) (by first | exact KT | exact KT.drew | exact KT.drewN _) k3; have d0 := KU.some t0; have d1 := KU.some t1; have d2 := KU.some t2))
  have K3 := Lib.hid (K1.out.trans KU)
  clear t0 t1 t2 k2 k3 KT KU K1
  rename_i hcells
  clear hcells
  go_wp2_with fail
  refine (FR _).out.mono ?_
  rintro e w4 ⟨rfl, k4⟩
  have t2 := k4.some d2
  have K4 := Lib.hid (K3.out.trans k4)
  clear d0 d1 d2 k4
  go_wp2_with fail
  refine (awake_any _).mono ?_
  rintro e w5 ⟨rfl, k5⟩
  go_wp2
  go_ret
  exact ⟨rfl, K4.out.trans k5⟩

set_option maxHeartbeats 4000000 in
theorem early_wide (S : Stk) (sz : Int) (a2 a3 : Option Addr) (m2 m3 c2 c3 : Nat) (w : World) (hF : fitsE S sz = 0) (g1 : 90 < sz) :
    Calls Try.prog 3 #[.agg #[.int .i64 S.T, .int .i64 S.K, .int .i64 S.N], .int .i64 sz, .slice a2 m2 c2, .slice a3 m3 c3] w fun e w' => e = .returned (.bool true) ∧ Kept w w' := by
  have FP : ∀ W, Hid (Calls Try.prog 8 #[.agg #[.int .i64 S.T, .int .i64 S.K, .int .i64 S.N], .int .i64 sz] W fun e w' => e = .returned (.int .i64 0) ∧ Kept W w') := fun W => Lib.hid (by have h := pfits_any S sz W; rw [hF] at h; exact h)
  have FR : ∀ W, Hid (Calls Try.prog 9 #[.agg #[.int .i64 S.T, .int .i64 S.K, .int .i64 S.N], .int .i64 sz] W fun e w' => e = .returned (.int .i64 0) ∧ Kept W w') := fun W => Lib.hid (by have h := rfits_any S sz W; rw [hF] at h; exact h)
  clear hF
  go_enter Try.func3, Try.ntmps3
  go_upto_region 1 with fail
  obtain ⟨W1, hW1⟩ : ∃ W1, W1 = w.alloc (.cells #[.int .i64 S.T, .int .i64 S.K, .int .i64 S.N] 23) := ⟨_, rfl⟩
  have t0 : W1.cell? ⟨w.heap.size, 0, none⟩ = some (.int .i64 S.T) := by rw [hW1]; exact cell_new w _ _ _ 0 rfl
  have t1 : W1.cell? ⟨w.heap.size, 1, none⟩ = some (.int .i64 S.K) := by rw [hW1]; exact cell_new w _ _ _ 1 rfl
  have t2 : W1.cell? ⟨w.heap.size, 2, none⟩ = some (.int .i64 S.N) := by rw [hW1]; exact cell_new w _ _ _ 2 rfl
  have k1 : Kept w W1 := by rw [hW1]; exact (Kept.refl w).alloc _ _
  rw [← hW1]
  have K1 := Lib.hid k1
  clear hW1 k1
  go_region_held3 (fun w' => w'.cell? ⟨w.heap.size, 0, none⟩ = some (.int .i64 S.T) ∧ w'.cell? ⟨w.heap.size, 1, none⟩ = some (.int .i64 S.K) ∧ w'.cell? ⟨w.heap.size, 2, none⟩ = some (.int .i64 S.N)) (first | go_keep | (exact ⟨k2.some t0, k2.some t1, k2.some t2⟩) | (exact ⟨d0, d1, d2⟩)) (first
    | (go_at_call 8; refine (FP _).out.mono ?_; rintro e w2 ⟨rfl, k2⟩; have KT : Kept W1 w2 := Kept.trans (b := _) (by first | exact Kept.refl _ | exact (Kept.refl _).drew | exact (Kept.refl _).drewN _) k2)
    | (go_at_call 9; refine (FR _).out.mono ?_; rintro e w3 ⟨rfl, k3⟩; have KU : Kept W1 w3 := Kept.trans (b := _) (by first | exact KT | exact KT.drew | exact KT.drewN _) k3; have d0 := KU.some t0; have d1 := KU.some t1; have d2 := KU.some t2))
  have K3 := Lib.hid (K1.out.trans KU)
  clear t0 t1 t2 k2 k3 KT KU K1
  rename_i hcells
  clear hcells
  go_wp2_with fail
  refine (FR _).out.mono ?_
  rintro e w4 ⟨rfl, k4⟩
  have t2 := k4.some d2
  have K4 := Lib.hid (K3.out.trans k4)
  clear d0 d1 d2 k4
  go_wp2_with fail
  refine (awake_any _).mono ?_
  rintro e w5 ⟨rfl, k5⟩
  go_wp2
  go_ret
  exact ⟨rfl, K4.out.trans k5⟩

set_option maxHeartbeats 4000000 in
theorem early_words (S : Stk) (sz : Int) (a2 a3 : Option Addr) (m2 m3 c2 c3 : Nat) (w : World) (hF : fitsE S sz = 0) (g1 : sz ≤ 90) (g2 : (90 : Int) < m2) :
    Calls Try.prog 3 #[.agg #[.int .i64 S.T, .int .i64 S.K, .int .i64 S.N], .int .i64 sz, .slice a2 m2 c2, .slice a3 m3 c3] w fun e w' => e = .returned (.bool true) ∧ Kept w w' := by
  have FP : ∀ W, Hid (Calls Try.prog 8 #[.agg #[.int .i64 S.T, .int .i64 S.K, .int .i64 S.N], .int .i64 sz] W fun e w' => e = .returned (.int .i64 0) ∧ Kept W w') := fun W => Lib.hid (by have h := pfits_any S sz W; rw [hF] at h; exact h)
  have FR : ∀ W, Hid (Calls Try.prog 9 #[.agg #[.int .i64 S.T, .int .i64 S.K, .int .i64 S.N], .int .i64 sz] W fun e w' => e = .returned (.int .i64 0) ∧ Kept W w') := fun W => Lib.hid (by have h := rfits_any S sz W; rw [hF] at h; exact h)
  clear hF
  go_enter Try.func3, Try.ntmps3
  go_upto_region 1 with fail
  obtain ⟨W1, hW1⟩ : ∃ W1, W1 = w.alloc (.cells #[.int .i64 S.T, .int .i64 S.K, .int .i64 S.N] 23) := ⟨_, rfl⟩
  have t0 : W1.cell? ⟨w.heap.size, 0, none⟩ = some (.int .i64 S.T) := by rw [hW1]; exact cell_new w _ _ _ 0 rfl
  have t1 : W1.cell? ⟨w.heap.size, 1, none⟩ = some (.int .i64 S.K) := by rw [hW1]; exact cell_new w _ _ _ 1 rfl
  have t2 : W1.cell? ⟨w.heap.size, 2, none⟩ = some (.int .i64 S.N) := by rw [hW1]; exact cell_new w _ _ _ 2 rfl
  have k1 : Kept w W1 := by rw [hW1]; exact (Kept.refl w).alloc _ _
  rw [← hW1]
  have K1 := Lib.hid k1
  clear hW1 k1
  go_region_held3 (fun w' => w'.cell? ⟨w.heap.size, 0, none⟩ = some (.int .i64 S.T) ∧ w'.cell? ⟨w.heap.size, 1, none⟩ = some (.int .i64 S.K) ∧ w'.cell? ⟨w.heap.size, 2, none⟩ = some (.int .i64 S.N)) (first | go_keep | (exact ⟨k2.some t0, k2.some t1, k2.some t2⟩) | (exact ⟨d0, d1, d2⟩)) (first
    | (go_at_call 8; refine (FP _).out.mono ?_; rintro e w2 ⟨rfl, k2⟩; have KT : Kept W1 w2 := Kept.trans (b := _) (by first | exact Kept.refl _ | exact (Kept.refl _).drew | exact (Kept.refl _).drewN _) k2)
    | (go_at_call 9; refine (FR _).out.mono ?_; rintro e w3 ⟨rfl, k3⟩; have KU : Kept W1 w3 := Kept.trans (b := _) (by first | exact KT | exact KT.drew | exact KT.drewN _) k3; have d0 := KU.some t0; have d1 := KU.some t1; have d2 := KU.some t2))
  have K3 := Lib.hid (K1.out.trans KU)
  clear t0 t1 t2 k2 k3 KT KU K1
  rename_i hcells
  clear hcells
  go_wp2_with fail
  refine (FR _).out.mono ?_
  rintro e w4 ⟨rfl, k4⟩
  have t2 := k4.some d2
  have K4 := Lib.hid (K3.out.trans k4)
  clear d0 d1 d2 k4
  go_wp2_with fail
  refine (awake_any _).mono ?_
  rintro e w5 ⟨rfl, k5⟩
  go_wp2
  go_ret
  exact ⟨rfl, K4.out.trans k5⟩

set_option maxHeartbeats 4000000 in
theorem early_acts (S : Stk) (sz : Int) (a2 a3 : Option Addr) (m2 m3 c2 c3 : Nat) (w : World) (hF : fitsE S sz = 0) (g1 : sz ≤ 90) (g2 : (m2 : Int) ≤ 90) (g3 : (120 : Int) < m3) :
    Calls Try.prog 3 #[.agg #[.int .i64 S.T, .int .i64 S.K, .int .i64 S.N], .int .i64 sz, .slice a2 m2 c2, .slice a3 m3 c3] w fun e w' => e = .returned (.bool true) ∧ Kept w w' := by
  have FP : ∀ W, Hid (Calls Try.prog 8 #[.agg #[.int .i64 S.T, .int .i64 S.K, .int .i64 S.N], .int .i64 sz] W fun e w' => e = .returned (.int .i64 0) ∧ Kept W w') := fun W => Lib.hid (by have h := pfits_any S sz W; rw [hF] at h; exact h)
  have FR : ∀ W, Hid (Calls Try.prog 9 #[.agg #[.int .i64 S.T, .int .i64 S.K, .int .i64 S.N], .int .i64 sz] W fun e w' => e = .returned (.int .i64 0) ∧ Kept W w') := fun W => Lib.hid (by have h := rfits_any S sz W; rw [hF] at h; exact h)
  clear hF
  go_enter Try.func3, Try.ntmps3
  go_upto_region 1 with fail
  obtain ⟨W1, hW1⟩ : ∃ W1, W1 = w.alloc (.cells #[.int .i64 S.T, .int .i64 S.K, .int .i64 S.N] 23) := ⟨_, rfl⟩
  have t0 : W1.cell? ⟨w.heap.size, 0, none⟩ = some (.int .i64 S.T) := by rw [hW1]; exact cell_new w _ _ _ 0 rfl
  have t1 : W1.cell? ⟨w.heap.size, 1, none⟩ = some (.int .i64 S.K) := by rw [hW1]; exact cell_new w _ _ _ 1 rfl
  have t2 : W1.cell? ⟨w.heap.size, 2, none⟩ = some (.int .i64 S.N) := by rw [hW1]; exact cell_new w _ _ _ 2 rfl
  have k1 : Kept w W1 := by rw [hW1]; exact (Kept.refl w).alloc _ _
  rw [← hW1]
  have K1 := Lib.hid k1
  clear hW1 k1
  go_region_held3 (fun w' => w'.cell? ⟨w.heap.size, 0, none⟩ = some (.int .i64 S.T) ∧ w'.cell? ⟨w.heap.size, 1, none⟩ = some (.int .i64 S.K) ∧ w'.cell? ⟨w.heap.size, 2, none⟩ = some (.int .i64 S.N)) (first | go_keep | (exact ⟨k2.some t0, k2.some t1, k2.some t2⟩) | (exact ⟨d0, d1, d2⟩)) (first
    | (go_at_call 8; refine (FP _).out.mono ?_; rintro e w2 ⟨rfl, k2⟩; have KT : Kept W1 w2 := Kept.trans (b := _) (by first | exact Kept.refl _ | exact (Kept.refl _).drew | exact (Kept.refl _).drewN _) k2)
    | (go_at_call 9; refine (FR _).out.mono ?_; rintro e w3 ⟨rfl, k3⟩; have KU : Kept W1 w3 := Kept.trans (b := _) (by first | exact KT | exact KT.drew | exact KT.drewN _) k3; have d0 := KU.some t0; have d1 := KU.some t1; have d2 := KU.some t2))
  have K3 := Lib.hid (K1.out.trans KU)
  clear t0 t1 t2 k2 k3 KT KU K1
  rename_i hcells
  clear hcells
  go_wp2_with fail
  refine (FR _).out.mono ?_
  rintro e w4 ⟨rfl, k4⟩
  have t2 := k4.some d2
  have K4 := Lib.hid (K3.out.trans k4)
  clear d0 d1 d2 k4
  go_wp2_with fail
  refine (awake_any _).mono ?_
  rintro e w5 ⟨rfl, k5⟩
  go_wp2
  go_ret
  exact ⟨rfl, K4.out.trans k5⟩

theorem steps_any (T K N sz : Int) (a2 a3 : Option Addr) (m2 m3 c2 c3 : Nat) (w : World)
    (h2 : ∃ l : List Int, l.length = m2 ∧ Lay w (.slice a2 m2 c2) m2 (words l) ∧ ∀ x ∈ l, 0 ≤ x ∧ x < 18446744073709551616) (h3 : ∃ l : List (Int × Int × Int × Int), l.length = m3 ∧ Lay w (.slice a3 m3 c3) m3 (l.flatMap actc)) :
    Calls Try.prog 3 #[.agg #[.int .i64 T, .int .i64 K, .int .i64 N], .int .i64 sz, .slice a2 m2 c2, .slice a3 m3 c3] w fun e w' => e = .returned (.bool true) ∧ Kept w w' := by
  obtain ⟨li, rfl, h2, hr⟩ := h2
  obtain ⟨la, rfl, h3⟩ := h3
  by_cases hF : fitsE ⟨T, K, N⟩ sz = 0
  · by_cases g1 : sz ≤ 90
    · by_cases g2 : li.length ≤ 90
      · by_cases g3 : la.length ≤ 120
        · obtain ⟨_, _, hn, _⟩ := fitsE_ok hF
          obtain ⟨n, rfl⟩ := Int.eq_ofNat_of_zero_le (show 0 ≤ sz by omega)
          exact steps_main ⟨T, K, N⟩ n li la a2 a3 c2 c3 w h2 hr h3 hF (by omega) g2 g3
        · exact early_acts ⟨T, K, N⟩ sz a2 a3 _ _ c2 c3 w hF g1 (by omega) (by omega)
      · exact early_words ⟨T, K, N⟩ sz a2 a3 _ _ c2 c3 w hF g1 (by omega)
    · exact early_wide ⟨T, K, N⟩ sz a2 a3 _ _ c2 c3 w hF (by omega)
  · exact early_fits ⟨T, K, N⟩ sz a2 a3 _ _ c2 c3 w _ rfl (by simpa using hF)
end Go.Proofs.Ytmfbjlaajcdbnaa.Ep
