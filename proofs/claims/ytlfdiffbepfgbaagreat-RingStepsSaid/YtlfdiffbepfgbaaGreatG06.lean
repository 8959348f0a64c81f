/- What a word is of each kind, read by its table; and whether numbers are within their ranges. -/
import Derived.Test.YtlfdiffbepfgbaaGreatG05
import Derived.Deep.RegionHeld3
set_option linter.unusedVariables false
set_option linter.unusedSimpArgs false

namespace Go.Proofs.YtlfdiffbepfgbaaGreat.Wo
set_option maxRecDepth 20000
open Go.RowKit

set_option maxHeartbeats 400000 in
theorem value_ref (n : Int) (w : World) (h0 : 0 ≤ n) (h1 : n < 18446744073709551616) : Calls Tryz.prog 245 #[.int .u64 n] w fun e w' => e = .returned (.agg #[.int .i64 (rIdx n), .int .i64 (rGen n), .bool (markOf n)]) ∧ Kept w w' := by
  have H0 := Lib.hid h0; have H1 := Lib.hid h1; clear h0 h1
  go_enter Tryz.func245, Tryz.ntmps245
  go_wp2_with fail
  refine (table_refWord _ _).mono ?_
  rintro e w1 ⟨rfl, hk1⟩
  have hc1 := hk1.cell
  have hz1 := hk1.size
  have hf1 := hk1.froze
  go_wp2_with fail
  refine (split_ref _ _ H0.out H1.out).mono ?_
  rintro e w2 ⟨rfl, hk2⟩
  have hc2 := hk2.cell
  have hz2 := hk2.size
  have hf2 := hk2.froze
  have hz1' : w.heap.size + 1 ≤ w1.heap.size := by simpa using hz1
  have hlt : w.heap.size < w2.heap.size := by omega
  have r0 : w2.cell? ⟨w.heap.size, 0, none⟩ = some (.int .i64 0) := by rw [hc2 _ _ (by omega), hc1 _ _ (by simp)]; simp
  have r1 : w2.cell? ⟨w.heap.size, 1, none⟩ = some (.int .i64 0) := by rw [hc2 _ _ (by omega), hc1 _ _ (by simp)]; simp
  have r2 : w2.cell? ⟨w.heap.size, 2, none⟩ = some (.bool false) := by rw [hc2 _ _ (by omega), hc1 _ _ (by simp)]; simp
  have f2 : ∀ o, w2.frozen? ⟨w.heap.size, o, none⟩ = false := fun o => by rw [hf2, hf1]; simp
  have K0 : Kept w w2 := ((Kept.refl w).alloc _ _).trans (hk1.trans hk2)
  clear hc1 hc2 hf1 hf2 hz1 hz2 hk1 hk2
  go_wp2_with fail
  go_region_held3 (fun w' => w'.cell? ⟨w2.heap.size, 0, none⟩ = some (.int .i64 (n % 65536)) ∧ w'.cell? ⟨w2.heap.size, 1, none⟩ = some (.int .i64 (n / 65536 % 4294967296)) ∧ w'.cell? ⟨w2.heap.size, 2, none⟩ = some (.int .i64 (n / 9223372036854775808 % 2))) (first | (simp [World.cell?_alloc_at]; done) | go_keep) (first | ((go_at_call 252; refine (index_any _ (by omega) (by omega) _).mono ?_; rintro e w' ⟨rfl, rfl⟩)))
  go_wp2
  refine bodyPost_ret (v := .agg #[(.int .i64 (n % 65536 - 1)), (.int .i64 (n / 65536 % 4294967296)), (.bool (n / 9223372036854775808 % 2 == 1))]) ?_ rfl ⟨by rw [show n / 9223372036854775808 % 2 = n / 9223372036854775808 by have := H0.out; have := H1.out; omega]; rfl, ?_⟩
  · simp [results, Tryz.results245, go_sem, r0, r1, r2, hlt]
  · refine Kept.drew (Kept.alloc (Kept.setCell (Kept.setCell (Kept.setCell K0 ?_ _) ?_ _) ?_ _) _ _) <;> simp

set_option maxHeartbeats 400000 in
theorem value_top (n : Int) (w : World) (h0 : 0 ≤ n) (h1 : n < 18446744073709551616) : Calls Tryz.prog 161 #[.int .u64 n] w fun e w' => e = .returned (.agg #[.int .i64 (rIdx n), .int .i64 (tTag n)]) ∧ Kept w w' := by
  have H0 := Lib.hid h0; have H1 := Lib.hid h1; clear h0 h1
  go_enter Tryz.func161, Tryz.ntmps161
  go_wp2_with fail
  refine (table_topWord _ _).mono ?_
  rintro e w1 ⟨rfl, hk1⟩
  have hc1 := hk1.cell
  have hz1 := hk1.size
  have hf1 := hk1.froze
  go_wp2_with fail
  refine (split_top _ _ H0.out H1.out).mono ?_
  rintro e w2 ⟨rfl, hk2⟩
  have hc2 := hk2.cell
  have hz2 := hk2.size
  have hf2 := hk2.froze
  have hz1' : w.heap.size + 1 ≤ w1.heap.size := by simpa using hz1
  have hlt : w.heap.size < w2.heap.size := by omega
  have r0 : w2.cell? ⟨w.heap.size, 0, none⟩ = some (.int .i64 0) := by rw [hc2 _ _ (by omega), hc1 _ _ (by simp)]; simp
  have r1 : w2.cell? ⟨w.heap.size, 1, none⟩ = some (.int .i64 0) := by rw [hc2 _ _ (by omega), hc1 _ _ (by simp)]; simp
  have f2 : ∀ o, w2.frozen? ⟨w.heap.size, o, none⟩ = false := fun o => by rw [hf2, hf1]; simp
  have K0 : Kept w w2 := ((Kept.refl w).alloc _ _).trans (hk1.trans hk2)
  clear hc1 hc2 hf1 hf2 hz1 hz2 hk1 hk2
  go_wp2_with fail
  go_region_held3 (fun w' => w'.cell? ⟨w2.heap.size, 0, none⟩ = some (.int .i64 (n % 65536)) ∧ w'.cell? ⟨w2.heap.size, 1, none⟩ = some (.int .i64 (n / 65536 % 281474976710656))) (first | (simp [World.cell?_alloc_at]; done) | go_keep) (first | ((go_at_call 252; refine (index_any _ (by omega) (by omega) _).mono ?_; rintro e w' ⟨rfl, rfl⟩)))
  go_wp2
  refine bodyPost_ret (v := .agg #[(.int .i64 (n % 65536 - 1)), (.int .i64 (n / 65536 % 281474976710656))]) ?_ rfl ⟨rfl, ?_⟩
  · simp [results, Tryz.results161, go_sem, r0, r1, hlt]
  · refine Kept.drew (Kept.alloc (Kept.setCell (Kept.setCell K0 ?_ _) ?_ _) _ _) <;> simp

set_option maxHeartbeats 400000 in
theorem value_slot (n : Int) (w : World) (h0 : 0 ≤ n) (h1 : n < 18446744073709551616) : Calls Tryz.prog 327 #[.int .u64 n] w fun e w' => e = .returned (.agg #[.int .i64 (sLap n), .bool (sFull n), .int .i64 (sVal n)]) ∧ Kept w w' := by
  have H0 := Lib.hid h0; have H1 := Lib.hid h1; clear h0 h1
  go_enter Tryz.func327, Tryz.ntmps327
  go_wp2_with fail
  refine (table_slotWord _ _).mono ?_
  rintro e w1 ⟨rfl, hk1⟩
  have hc1 := hk1.cell
  have hz1 := hk1.size
  have hf1 := hk1.froze
  go_wp2_with fail
  refine (split_slot _ _ H0.out H1.out).mono ?_
  rintro e w2 ⟨rfl, hk2⟩
  have hc2 := hk2.cell
  have hz2 := hk2.size
  have hf2 := hk2.froze
  have hz1' : w.heap.size + 1 ≤ w1.heap.size := by simpa using hz1
  have hlt : w.heap.size < w2.heap.size := by omega
  have r0 : w2.cell? ⟨w.heap.size, 0, none⟩ = some (.int .i64 0) := by rw [hc2 _ _ (by omega), hc1 _ _ (by simp)]; simp
  have r1 : w2.cell? ⟨w.heap.size, 1, none⟩ = some (.bool false) := by rw [hc2 _ _ (by omega), hc1 _ _ (by simp)]; simp
  have r2 : w2.cell? ⟨w.heap.size, 2, none⟩ = some (.int .i64 0) := by rw [hc2 _ _ (by omega), hc1 _ _ (by simp)]; simp
  have f2 : ∀ o, w2.frozen? ⟨w.heap.size, o, none⟩ = false := fun o => by rw [hf2, hf1]; simp
  have K0 : Kept w w2 := ((Kept.refl w).alloc _ _).trans (hk1.trans hk2)
  clear hc1 hc2 hf1 hf2 hz1 hz2 hk1 hk2
  go_wp2_with fail
  go_wp2
  refine bodyPost_ret (v := .agg #[(.int .i64 (n / 4294967296 % 4294967296)), (.bool (n / 65536 % 2 == 1)), (.int .i64 (n % 65536))]) ?_ rfl ⟨rfl, ?_⟩
  · simp [results, Tryz.results327, go_sem, r0, r1, r2, hlt]
  · refine Kept.alloc (Kept.setCell (Kept.setCell (Kept.setCell K0 ?_ _) ?_ _) ?_ _) _ _ <;> simp

set_option maxHeartbeats 400000 in
theorem within2_yes (B : Nat) (a b m k : Int) (w : World) (c0 : w.cell? ⟨B, 0, none⟩ = some (.int .i64 a)) (d0 : w.cell? ⟨B, 1, none⟩ = some (.int .i64 m)) (c1 : w.cell? ⟨B, 2, none⟩ = some (.int .i64 b)) (d1 : w.cell? ⟨B, 3, none⟩ = some (.int .i64 k)) (h : 0 ≤ a ∧ a ≤ m ∧ 0 ≤ b ∧ b ≤ k) : Calls Tryz.prog 253 #[.slice (some ⟨B, 0, none⟩) 2 2] w fun e w' => e = .returned (.bool true) ∧ Kept w w' := by
  have hB := lt_of_cell c0
  obtain ⟨p0, q0, p1, q1⟩ := h
  go_enter Tryz.func253, Tryz.ntmps253
  go_wp2
  refine wp_loop_rounds 3 ?_
  rw [rounds_succ]
  go_wp2
  rw [rounds_succ]
  go_wp2
  rw [rounds_succ]
  go_wp2
  go_ret
  exact ⟨rfl, by repeat (first | exact Kept.refl _ | refine Kept.alloc ?_ _ _)⟩

set_option maxHeartbeats 800000 in
theorem within2_no (B : Nat) (a b m k : Int) (w : World) (c0 : w.cell? ⟨B, 0, none⟩ = some (.int .i64 a)) (d0 : w.cell? ⟨B, 1, none⟩ = some (.int .i64 m)) (c1 : w.cell? ⟨B, 2, none⟩ = some (.int .i64 b)) (d1 : w.cell? ⟨B, 3, none⟩ = some (.int .i64 k)) (h : ¬ (0 ≤ a ∧ a ≤ m ∧ 0 ≤ b ∧ b ≤ k)) : Calls Tryz.prog 253 #[.slice (some ⟨B, 0, none⟩) 2 2] w fun e w' => e = .returned (.bool false) ∧ Kept w w' := by
  have hB := lt_of_cell c0
  by_cases n0 : a < 0
  · clear h
    go_enter Tryz.func253, Tryz.ntmps253
    go_wp2
    refine wp_loop_rounds 3 ?_
    rw [rounds_succ]
    go_wp2
    go_ret
    exact ⟨rfl, by repeat (first | exact Kept.refl _ | refine Kept.alloc ?_ _ _)⟩
  by_cases u0 : m < a
  · clear h
    go_enter Tryz.func253, Tryz.ntmps253
    go_wp2
    refine wp_loop_rounds 3 ?_
    rw [rounds_succ]
    go_wp2
    go_ret
    exact ⟨rfl, by repeat (first | exact Kept.refl _ | refine Kept.alloc ?_ _ _)⟩
  by_cases n1 : b < 0
  · clear h
    go_enter Tryz.func253, Tryz.ntmps253
    go_wp2
    refine wp_loop_rounds 3 ?_
    rw [rounds_succ]
    go_wp2
    rw [rounds_succ]
    go_wp2
    go_ret
    exact ⟨rfl, by repeat (first | exact Kept.refl _ | refine Kept.alloc ?_ _ _)⟩
  by_cases u1 : k < b
  · clear h
    go_enter Tryz.func253, Tryz.ntmps253
    go_wp2
    refine wp_loop_rounds 3 ?_
    rw [rounds_succ]
    go_wp2
    rw [rounds_succ]
    go_wp2
    go_ret
    exact ⟨rfl, by repeat (first | exact Kept.refl _ | refine Kept.alloc ?_ _ _)⟩
  exact absurd (by omega) h

set_option maxHeartbeats 400000 in
theorem within3_yes (B : Nat) (a b c m k l : Int) (w : World) (c0 : w.cell? ⟨B, 0, none⟩ = some (.int .i64 a)) (d0 : w.cell? ⟨B, 1, none⟩ = some (.int .i64 m)) (c1 : w.cell? ⟨B, 2, none⟩ = some (.int .i64 b)) (d1 : w.cell? ⟨B, 3, none⟩ = some (.int .i64 k)) (c2 : w.cell? ⟨B, 4, none⟩ = some (.int .i64 c)) (d2 : w.cell? ⟨B, 5, none⟩ = some (.int .i64 l)) (h : 0 ≤ a ∧ a ≤ m ∧ 0 ≤ b ∧ b ≤ k ∧ 0 ≤ c ∧ c ≤ l) : Calls Tryz.prog 253 #[.slice (some ⟨B, 0, none⟩) 3 3] w fun e w' => e = .returned (.bool true) ∧ Kept w w' := by
  have hB := lt_of_cell c0
  obtain ⟨p0, q0, p1, q1, p2, q2⟩ := h
  go_enter Tryz.func253, Tryz.ntmps253
  go_wp2
  refine wp_loop_rounds 4 ?_
  rw [rounds_succ]
  go_wp2
  rw [rounds_succ]
  go_wp2
  rw [rounds_succ]
  go_wp2
  rw [rounds_succ]
  go_wp2
  go_ret
  exact ⟨rfl, by repeat (first | exact Kept.refl _ | refine Kept.alloc ?_ _ _)⟩

set_option maxHeartbeats 800000 in
theorem within3_no (B : Nat) (a b c m k l : Int) (w : World) (c0 : w.cell? ⟨B, 0, none⟩ = some (.int .i64 a)) (d0 : w.cell? ⟨B, 1, none⟩ = some (.int .i64 m)) (c1 : w.cell? ⟨B, 2, none⟩ = some (.int .i64 b)) (d1 : w.cell? ⟨B, 3, none⟩ = some (.int .i64 k)) (c2 : w.cell? ⟨B, 4, none⟩ = some (.int .i64 c)) (d2 : w.cell? ⟨B, 5, none⟩ = some (.int .i64 l)) (h : ¬ (0 ≤ a ∧ a ≤ m ∧ 0 ≤ b ∧ b ≤ k ∧ 0 ≤ c ∧ c ≤ l)) : Calls Tryz.prog 253 #[.slice (some ⟨B, 0, none⟩) 3 3] w fun e w' => e = .returned (.bool false) ∧ Kept w w' := by
  have hB := lt_of_cell c0
  by_cases n0 : a < 0
  · clear h
    go_enter Tryz.func253, Tryz.ntmps253
    go_wp2
    refine wp_loop_rounds 4 ?_
    rw [rounds_succ]
    go_wp2
    go_ret
    exact ⟨rfl, by repeat (first | exact Kept.refl _ | refine Kept.alloc ?_ _ _)⟩
  by_cases u0 : m < a
  · clear h
    go_enter Tryz.func253, Tryz.ntmps253
    go_wp2
    refine wp_loop_rounds 4 ?_
    rw [rounds_succ]
    go_wp2
    go_ret
    exact ⟨rfl, by repeat (first | exact Kept.refl _ | refine Kept.alloc ?_ _ _)⟩
  by_cases n1 : b < 0
  · clear h
    go_enter Tryz.func253, Tryz.ntmps253
    go_wp2
    refine wp_loop_rounds 4 ?_
    rw [rounds_succ]
    go_wp2
    rw [rounds_succ]
    go_wp2
    go_ret
    exact ⟨rfl, by repeat (first | exact Kept.refl _ | refine Kept.alloc ?_ _ _)⟩
  by_cases u1 : k < b
  · clear h
    go_enter Tryz.func253, Tryz.ntmps253
    go_wp2
    refine wp_loop_rounds 4 ?_
    rw [rounds_succ]
    go_wp2
    rw [rounds_succ]
    go_wp2
    go_ret
    exact ⟨rfl, by repeat (first | exact Kept.refl _ | refine Kept.alloc ?_ _ _)⟩
  by_cases n2 : c < 0
  · clear h
    go_enter Tryz.func253, Tryz.ntmps253
    go_wp2
    refine wp_loop_rounds 4 ?_
    rw [rounds_succ]
    go_wp2
    rw [rounds_succ]
    go_wp2
    rw [rounds_succ]
    go_wp2
    go_ret
    exact ⟨rfl, by repeat (first | exact Kept.refl _ | refine Kept.alloc ?_ _ _)⟩
  by_cases u2 : l < c
  · clear h
    go_enter Tryz.func253, Tryz.ntmps253
    go_wp2
    refine wp_loop_rounds 4 ?_
    rw [rounds_succ]
    go_wp2
    rw [rounds_succ]
    go_wp2
    rw [rounds_succ]
    go_wp2
    go_ret
    exact ⟨rfl, by repeat (first | exact Kept.refl _ | refine Kept.alloc ?_ _ _)⟩
  exact absurd (by omega) h

end Go.Proofs.YtlfdiffbepfgbaaGreat.Wo

namespace Go.Proofs.YtlfdiffbepfgbaaGreat.Wo
set_option maxRecDepth 20000
open Go.RowKit

set_option maxHeartbeats 800000 in
theorem put_ref_bad (i g : Int) (m : Bool) (w : World) (i0 : -9223372036854775808 ≤ i) (i1 : i ≤ 9223372036854775807) (hr : ¬ (-1 ≤ i ∧ i ≤ 65534 ∧ 0 ≤ g ∧ g ≤ 4294967295)) : Calls Tryz.prog 246 #[.agg #[.int .i64 i, .int .i64 g, .bool m]] w fun e w' => e = .returned (.tuple #[.int .u64 (0), .int .i64 3]) ∧ Kept w w' := by
  have HW : Hid (¬ (0 ≤ wrap64 (i + 1) ∧ wrap64 (i + 1) ≤ 65535 ∧ 0 ≤ g ∧ g ≤ 4294967295)) := Lib.hid (by intro h; unfold wrap64 at h; exact hr (by omega))
  clear hr
  clear i0 i1
  go_enter Tryz.func246, Tryz.ntmps246
  go_wp2_with fail
  go_region_held3 (fun w' => w'.cell? ⟨w.heap.size, 0, none⟩ = some (.int .i64 i) ∧ w'.cell? ⟨w.heap.size, 1, none⟩ = some (.int .i64 g) ∧ w'.cell? ⟨w.heap.size, 2, none⟩ = some (.bool m)) (first | (simp [World.cell?_alloc_at]; done) | go_keep | (exact ⟨hk.some (by simp [*]), hk.some (by simp [*]), hk.some (by simp [*])⟩)) (first | (go_at_call 254; refine (place_any _ _).mono ?_; rintro e w' ⟨rfl, rfl⟩) | (go_at_call 253; refine (within2_no _ _ _ _ _ _ ?_ ?_ ?_ ?_ HW.out).mono ?_; (all_goals (try (simp [*]; done))); rintro e w1 ⟨rfl, hk⟩))
  go_wp2
  go_ret2
  exact ⟨rfl, by repeat (first | exact Kept.refl _ | refine Kept.alloc ?_ _ _ | refine Kept.drew ?_ | refine Kept.drewN ?_ _ | refine Kept.trans ?_ (by assumption))⟩

set_option maxHeartbeats 800000 in
theorem put_ref_form (i g : Int) (m : Bool) (w : World)  (hr : -1 ≤ i ∧ i ≤ 65534 ∧ 0 ≤ g ∧ g ≤ 4294967295) (hf : i = -1 ∧ g ≠ 0) : Calls Tryz.prog 246 #[.agg #[.int .i64 i, .int .i64 g, .bool m]] w fun e w' => e = .returned (.tuple #[.int .u64 (0), .int .i64 5]) ∧ Kept w w' := by
  have HW : Hid (0 ≤ i + 1 ∧ i + 1 ≤ 65535 ∧ 0 ≤ g ∧ g ≤ 4294967295) := Lib.hid (by omega)
  have I0 := Lib.hid (show -1 ≤ i by omega); have I1 := Lib.hid (show i ≤ 65534 by omega)
  have b0 : (i == -1) = true := by simp [hf.1]
  have b1 : (g != 0) = true := by simp [hf.2]
  clear hf hr
  go_enter Tryz.func246, Tryz.ntmps246
  go_wp2_with fail
  go_region_held3 (fun w' => w'.cell? ⟨w.heap.size, 0, none⟩ = some (.int .i64 i) ∧ w'.cell? ⟨w.heap.size, 1, none⟩ = some (.int .i64 g) ∧ w'.cell? ⟨w.heap.size, 2, none⟩ = some (.bool m)) (first | (simp [World.cell?_alloc_at]; done) | go_keep | (exact ⟨hk.some (by simp [*]), hk.some (by simp [*]), hk.some (by simp [*])⟩)) (first | (go_at_call 254; refine (place_in _ I0.out I1.out _).mono ?_; rintro e w' ⟨rfl, rfl⟩) | (go_at_call 253; refine (within2_yes _ _ _ _ _ _ ?_ ?_ ?_ ?_ HW.out).mono ?_; (all_goals (try (simp [*]; done))); rintro e w1 ⟨rfl, hk⟩))
  go_wp2
  go_ret2
  exact ⟨rfl, by repeat (first | exact Kept.refl _ | refine Kept.alloc ?_ _ _ | refine Kept.drew ?_ | refine Kept.drewN ?_ _ | refine Kept.trans ?_ (by assumption))⟩

set_option maxHeartbeats 800000 in
theorem put_ref_good (i g : Int) (m : Bool) (w : World)  (hr : -1 ≤ i ∧ i ≤ 65534 ∧ 0 ≤ g ∧ g ≤ 4294967295) (hf : ¬ (i = -1 ∧ g ≠ 0)) : Calls Tryz.prog 246 #[.agg #[.int .i64 i, .int .i64 g, .bool m]] w fun e w' => e = .returned (.tuple #[.int .u64 (i + 1 + g * 65536 + bitOf m * 9223372036854775808), .int .i64 0]) ∧ Kept w w' := by
  have HW : Hid (0 ≤ i + 1 ∧ i + 1 ≤ 65535 ∧ 0 ≤ g ∧ g ≤ 4294967295) := Lib.hid (by omega)
  have I0 := Lib.hid (show -1 ≤ i by omega); have I1 := Lib.hid (show i ≤ 65534 by omega)
  have HJ : ∀ w, Hid (Calls Tryz.prog 255 _ w _) := fun w => Lib.hid (joined_ref (i + 1) g (bitOf m) w (by omega) (by omega) (by omega) (by omega) (bitOf_lo _) (bitOf_hi _))
  by_cases hi : i = -1
  · have b0 : (i == -1) = true := by simp [hi]
    have b1 : (g != 0) = false := by simp only [bne_eq_false_iff_eq]; exact Classical.byContradiction fun h => hf ⟨hi, h⟩
    clear hr hf hi
    go_enter Tryz.func246, Tryz.ntmps246
    go_wp2_with fail
    go_region_held3 (fun w' => w'.cell? ⟨w.heap.size, 0, none⟩ = some (.int .i64 i) ∧ w'.cell? ⟨w.heap.size, 1, none⟩ = some (.int .i64 g) ∧ w'.cell? ⟨w.heap.size, 2, none⟩ = some (.bool m)) (first | (simp [World.cell?_alloc_at]; done) | go_keep | (exact ⟨hk.some (by simp [*]), hk.some (by simp [*]), hk.some (by simp [*])⟩)) (first | (go_at_call 254; refine (place_in _ I0.out I1.out _).mono ?_; rintro e w' ⟨rfl, rfl⟩) | (go_at_call 253; refine (within2_yes _ _ _ _ _ _ ?_ ?_ ?_ ?_ HW.out).mono ?_; (all_goals (try (simp [*]; done))); rintro e w1 ⟨rfl, hk⟩))
    go_wp2_with fail
    have hz := hk.size
    simp at hz
    have hk' := hk
    have s0 : w1.cell? ⟨w.heap.size, 0, none⟩ = some (.int .i64 i) := hk'.some (by simp [*])
    have s1 : w1.cell? ⟨w.heap.size, 1, none⟩ = some (.int .i64 g) := hk'.some (by simp [*])
    have s2 : w1.cell? ⟨w.heap.size, 2, none⟩ = some (.bool m) := hk'.some (by simp [*])
    have K1 : Kept w w1 := by repeat (first | exact Kept.refl _ | refine Kept.alloc ?_ _ _ | refine Kept.drew ?_ | refine Kept.drewN ?_ _ | refine Kept.trans ?_ (by assumption))
    clear hz hk hk'
    go_region_held3 (fun w' => w'.cell? ⟨w.heap.size, 0, none⟩ = some (.int .i64 i) ∧ w'.cell? ⟨w.heap.size, 1, none⟩ = some (.int .i64 g) ∧ w'.cell? ⟨w.heap.size, 2, none⟩ = some (.bool m)) (first | go_keep | (exact ⟨hk.some (by simp [*]), hk.some (by simp [*]), hk.some (by simp [*])⟩)) (first | (go_at_call 305; refine (table_refWord _ _).mono ?_; rintro e w1 ⟨rfl, hk⟩) | (go_at_call 254; refine (place_in _ I0.out I1.out _).mono ?_; rintro e w' ⟨rfl, rfl⟩) | (go_at_call 306; refine (bit_any _ _).mono ?_; rintro e w' ⟨rfl, rfl⟩) | (go_at_call 255; refine (HJ _).out.mono ?_; rintro e w1 ⟨rfl, hk⟩))
    go_wp2
    go_ret2
    exact ⟨rfl, by repeat (first | exact Kept.refl _ | refine Kept.alloc ?_ _ _ | refine Kept.drew ?_ | refine Kept.drewN ?_ _ | refine Kept.trans ?_ (by assumption))⟩
  · have b0 : (i == -1) = false := by simp [hi]
    clear hr hf hi
    go_enter Tryz.func246, Tryz.ntmps246
    go_wp2_with fail
    go_region_held3 (fun w' => w'.cell? ⟨w.heap.size, 0, none⟩ = some (.int .i64 i) ∧ w'.cell? ⟨w.heap.size, 1, none⟩ = some (.int .i64 g) ∧ w'.cell? ⟨w.heap.size, 2, none⟩ = some (.bool m)) (first | (simp [World.cell?_alloc_at]; done) | go_keep | (exact ⟨hk.some (by simp [*]), hk.some (by simp [*]), hk.some (by simp [*])⟩)) (first | (go_at_call 254; refine (place_in _ I0.out I1.out _).mono ?_; rintro e w' ⟨rfl, rfl⟩) | (go_at_call 253; refine (within2_yes _ _ _ _ _ _ ?_ ?_ ?_ ?_ HW.out).mono ?_; (all_goals (try (simp [*]; done))); rintro e w1 ⟨rfl, hk⟩))
    go_wp2_with fail
    have hz := hk.size
    simp at hz
    have hk' := hk
    have s0 : w1.cell? ⟨w.heap.size, 0, none⟩ = some (.int .i64 i) := hk'.some (by simp [*])
    have s1 : w1.cell? ⟨w.heap.size, 1, none⟩ = some (.int .i64 g) := hk'.some (by simp [*])
    have s2 : w1.cell? ⟨w.heap.size, 2, none⟩ = some (.bool m) := hk'.some (by simp [*])
    have K1 : Kept w w1 := by repeat (first | exact Kept.refl _ | refine Kept.alloc ?_ _ _ | refine Kept.drew ?_ | refine Kept.drewN ?_ _ | refine Kept.trans ?_ (by assumption))
    clear hz hk hk'
    go_region_held3 (fun w' => w'.cell? ⟨w.heap.size, 0, none⟩ = some (.int .i64 i) ∧ w'.cell? ⟨w.heap.size, 1, none⟩ = some (.int .i64 g) ∧ w'.cell? ⟨w.heap.size, 2, none⟩ = some (.bool m)) (first | go_keep | (exact ⟨hk.some (by simp [*]), hk.some (by simp [*]), hk.some (by simp [*])⟩)) (first | (go_at_call 305; refine (table_refWord _ _).mono ?_; rintro e w1 ⟨rfl, hk⟩) | (go_at_call 254; refine (place_in _ I0.out I1.out _).mono ?_; rintro e w' ⟨rfl, rfl⟩) | (go_at_call 306; refine (bit_any _ _).mono ?_; rintro e w' ⟨rfl, rfl⟩) | (go_at_call 255; refine (HJ _).out.mono ?_; rintro e w1 ⟨rfl, hk⟩))
    go_wp2
    go_ret2
    exact ⟨rfl, by repeat (first | exact Kept.refl _ | refine Kept.alloc ?_ _ _ | refine Kept.drew ?_ | refine Kept.drewN ?_ _ | refine Kept.trans ?_ (by assumption))⟩

set_option maxHeartbeats 800000 in
theorem put_top_bad (i t : Int) (w : World) (i0 : -9223372036854775808 ≤ i) (i1 : i ≤ 9223372036854775807) (hr : ¬ (-1 ≤ i ∧ i ≤ 65534 ∧ 0 ≤ t ∧ t ≤ 281474976710655)) : Calls Tryz.prog 162 #[.agg #[.int .i64 i, .int .i64 t]] w fun e w' => e = .returned (.tuple #[.int .u64 (0), .int .i64 3]) ∧ Kept w w' := by
  have HW : Hid (¬ (0 ≤ wrap64 (i + 1) ∧ wrap64 (i + 1) ≤ 65535 ∧ 0 ≤ t ∧ t ≤ 281474976710655)) := Lib.hid (by intro h; unfold wrap64 at h; exact hr (by omega))
  clear hr
  clear i0 i1
  go_enter Tryz.func162, Tryz.ntmps162
  go_wp2_with fail
  go_region_held3 (fun w' => w'.cell? ⟨w.heap.size, 0, none⟩ = some (.int .i64 i) ∧ w'.cell? ⟨w.heap.size, 1, none⟩ = some (.int .i64 t)) (first | (simp [World.cell?_alloc_at]; done) | go_keep | (exact ⟨hk.some (by simp [*]), hk.some (by simp [*])⟩)) (first | (go_at_call 254; refine (place_any _ _).mono ?_; rintro e w' ⟨rfl, rfl⟩) | (go_at_call 253; refine (within2_no _ _ _ _ _ _ ?_ ?_ ?_ ?_ HW.out).mono ?_; (all_goals (try (simp [*]; done))); rintro e w1 ⟨rfl, hk⟩))
  go_wp2
  go_ret2
  exact ⟨rfl, by repeat (first | exact Kept.refl _ | refine Kept.alloc ?_ _ _ | refine Kept.drew ?_ | refine Kept.drewN ?_ _ | refine Kept.trans ?_ (by assumption))⟩

set_option maxHeartbeats 800000 in
theorem put_top_good (i t : Int) (w : World)  (hr : -1 ≤ i ∧ i ≤ 65534 ∧ 0 ≤ t ∧ t ≤ 281474976710655) : Calls Tryz.prog 162 #[.agg #[.int .i64 i, .int .i64 t]] w fun e w' => e = .returned (.tuple #[.int .u64 (i + 1 + t * 65536), .int .i64 0]) ∧ Kept w w' := by
  have HW : Hid (0 ≤ i + 1 ∧ i + 1 ≤ 65535 ∧ 0 ≤ t ∧ t ≤ 281474976710655) := Lib.hid (by omega)
  have I0 := Lib.hid (show -1 ≤ i by omega); have I1 := Lib.hid (show i ≤ 65534 by omega)
  have HJ : ∀ w, Hid (Calls Tryz.prog 255 _ w _) := fun w => Lib.hid (joined_top (i + 1) t w (by omega) (by omega) (by omega) (by omega))
  clear hr
  go_enter Tryz.func162, Tryz.ntmps162
  go_wp2_with fail
  go_region_held3 (fun w' => w'.cell? ⟨w.heap.size, 0, none⟩ = some (.int .i64 i) ∧ w'.cell? ⟨w.heap.size, 1, none⟩ = some (.int .i64 t)) (first | (simp [World.cell?_alloc_at]; done) | go_keep | (exact ⟨hk.some (by simp [*]), hk.some (by simp [*])⟩)) (first | (go_at_call 254; refine (place_in _ I0.out I1.out _).mono ?_; rintro e w' ⟨rfl, rfl⟩) | (go_at_call 253; refine (within2_yes _ _ _ _ _ _ ?_ ?_ ?_ ?_ HW.out).mono ?_; (all_goals (try (simp [*]; done))); rintro e w1 ⟨rfl, hk⟩))
  go_wp2_with fail
  have hz := hk.size
  simp at hz
  have hk' := hk
  have s0 : w1.cell? ⟨w.heap.size, 0, none⟩ = some (.int .i64 i) := hk'.some (by simp [*])
  have s1 : w1.cell? ⟨w.heap.size, 1, none⟩ = some (.int .i64 t) := hk'.some (by simp [*])
  have K1 : Kept w w1 := by repeat (first | exact Kept.refl _ | refine Kept.alloc ?_ _ _ | refine Kept.drew ?_ | refine Kept.drewN ?_ _ | refine Kept.trans ?_ (by assumption))
  clear hz hk hk'
  go_region_held3 (fun w' => w'.cell? ⟨w.heap.size, 0, none⟩ = some (.int .i64 i) ∧ w'.cell? ⟨w.heap.size, 1, none⟩ = some (.int .i64 t)) (first | go_keep | (exact ⟨hk.some (by simp [*]), hk.some (by simp [*])⟩)) (first | (go_at_call 250; refine (table_topWord _ _).mono ?_; rintro e w1 ⟨rfl, hk⟩) | (go_at_call 254; refine (place_in _ I0.out I1.out _).mono ?_; rintro e w' ⟨rfl, rfl⟩) | (go_at_call 255; refine (HJ _).out.mono ?_; rintro e w1 ⟨rfl, hk⟩))
  go_wp2
  go_ret2
  exact ⟨rfl, by repeat (first | exact Kept.refl _ | refine Kept.alloc ?_ _ _ | refine Kept.drew ?_ | refine Kept.drewN ?_ _ | refine Kept.trans ?_ (by assumption))⟩

set_option maxHeartbeats 800000 in
theorem put_slot_bad (l : Int) (f : Bool) (v : Int) (w : World)  (hr : ¬ (0 ≤ l ∧ l ≤ 4294967295 ∧ 0 ≤ v ∧ v ≤ 65535)) : Calls Tryz.prog 325 #[.agg #[.int .i64 l, .bool f, .int .i64 v]] w fun e w' => e = .returned (.tuple #[.int .u64 (0), .int .i64 3]) ∧ Kept w w' := by
  have HW : Hid (¬ (0 ≤ l ∧ l ≤ 4294967295 ∧ 0 ≤ v ∧ v ≤ 65535)) := Lib.hid (by intro h; exact hr (by omega))
  clear hr
  go_enter Tryz.func325, Tryz.ntmps325
  go_wp2_with fail
  refine (within2_no _ _ _ _ _ _ ?_ ?_ ?_ ?_ HW.out).mono ?_
  all_goals (try (simp; done))
  rintro e w1 ⟨rfl, hk⟩
  go_wp2
  go_ret2
  exact ⟨rfl, by repeat (first | exact Kept.refl _ | refine Kept.alloc ?_ _ _ | refine Kept.drew ?_ | refine Kept.drewN ?_ _ | refine Kept.trans ?_ (by assumption))⟩

set_option maxHeartbeats 800000 in
theorem put_slot_form (l : Int) (f : Bool) (v : Int) (w : World)  (hr : 0 ≤ l ∧ l ≤ 4294967295 ∧ 0 ≤ v ∧ v ≤ 65535) (hf : f = false ∧ v ≠ 0) : Calls Tryz.prog 325 #[.agg #[.int .i64 l, .bool f, .int .i64 v]] w fun e w' => e = .returned (.tuple #[.int .u64 (0), .int .i64 5]) ∧ Kept w w' := by
  have HW : Hid (0 ≤ l ∧ l ≤ 4294967295 ∧ 0 ≤ v ∧ v ≤ 65535) := Lib.hid (by omega)
  have b0 : (v != 0) = true := by simp [hf.2]
  obtain ⟨rfl, _⟩ := hf
  clear hr
  go_enter Tryz.func325, Tryz.ntmps325
  go_wp2_with fail
  refine (within2_yes _ _ _ _ _ _ ?_ ?_ ?_ ?_ HW.out).mono ?_
  all_goals (try (simp; done))
  rintro e w1 ⟨rfl, hk⟩
  have hz := hk.size
  simp at hz
  have s0 : w1.cell? ⟨w.heap.size, 0, none⟩ = some (.int .i64 l) := hk.some (by simp [*])
  have s1 : w1.cell? ⟨w.heap.size, 1, none⟩ = some (.bool false) := hk.some (by simp [*])
  have s2 : w1.cell? ⟨w.heap.size, 2, none⟩ = some (.int .i64 v) := hk.some (by simp [*])
  go_wp2
  go_ret2
  exact ⟨rfl, by repeat (first | exact Kept.refl _ | refine Kept.alloc ?_ _ _ | refine Kept.drew ?_ | refine Kept.drewN ?_ _ | refine Kept.trans ?_ (by assumption))⟩

set_option maxHeartbeats 800000 in
theorem put_slot_good (l : Int) (f : Bool) (v : Int) (w : World)  (hr : 0 ≤ l ∧ l ≤ 4294967295 ∧ 0 ≤ v ∧ v ≤ 65535) (hf : ¬ (f = false ∧ v ≠ 0)) : Calls Tryz.prog 325 #[.agg #[.int .i64 l, .bool f, .int .i64 v]] w fun e w' => e = .returned (.tuple #[.int .u64 (v + bitOf f * 65536 + l * 4294967296), .int .i64 0]) ∧ Kept w w' := by
  have HW : Hid (0 ≤ l ∧ l ≤ 4294967295 ∧ 0 ≤ v ∧ v ≤ 65535) := Lib.hid (by omega)
  have HJ : ∀ w, Hid (Calls Tryz.prog 255 _ w _) := fun w => Lib.hid (joined_slot v (bitOf f) l w (by omega) (by omega) (bitOf_lo _) (bitOf_hi _) (by omega) (by omega))
  cases f
  · have b0 : (v != 0) = false := by simp only [bne_eq_false_iff_eq]; exact Classical.byContradiction fun h => hf ⟨rfl, h⟩
    clear hr hf
    go_enter Tryz.func325, Tryz.ntmps325
    go_wp2_with fail
    refine (within2_yes _ _ _ _ _ _ ?_ ?_ ?_ ?_ HW.out).mono ?_
    all_goals (try (simp; done))
    rintro e w1 ⟨rfl, hk⟩
    have hz := hk.size
    simp at hz
    have s0 : w1.cell? ⟨w.heap.size, 0, none⟩ = some (.int .i64 l) := hk.some (by simp [*])
    have s1 : w1.cell? ⟨w.heap.size, 1, none⟩ = some (.bool false) := hk.some (by simp [*])
    have s2 : w1.cell? ⟨w.heap.size, 2, none⟩ = some (.int .i64 v) := hk.some (by simp [*])
    go_wp2_with fail
    have hk' := hk
    have K1 : Kept w w1 := by repeat (first | exact Kept.refl _ | refine Kept.alloc ?_ _ _ | refine Kept.drew ?_ | refine Kept.drewN ?_ _ | refine Kept.trans ?_ (by assumption))
    clear hz hk hk'
    go_region_held3 (fun w' => w'.cell? ⟨w.heap.size, 0, none⟩ = some (.int .i64 l) ∧ w'.cell? ⟨w.heap.size, 1, none⟩ = some (.bool false) ∧ w'.cell? ⟨w.heap.size, 2, none⟩ = some (.int .i64 v)) (first | go_keep | (exact ⟨hk.some (by simp [*]), hk.some (by simp [*]), hk.some (by simp [*])⟩)) (first | (go_at_call 343; refine (table_slotWord _ _).mono ?_; rintro e w1 ⟨rfl, hk⟩) | (go_at_call 306; refine (bit_any _ _).mono ?_; rintro e w' ⟨rfl, rfl⟩) | (go_at_call 255; refine (HJ _).out.mono ?_; rintro e w1 ⟨rfl, hk⟩))
    go_wp2
    go_ret2
    exact ⟨rfl, by repeat (first | exact Kept.refl _ | refine Kept.alloc ?_ _ _ | refine Kept.drew ?_ | refine Kept.drewN ?_ _ | refine Kept.trans ?_ (by assumption))⟩
  · clear hr hf
    go_enter Tryz.func325, Tryz.ntmps325
    go_wp2_with fail
    refine (within2_yes _ _ _ _ _ _ ?_ ?_ ?_ ?_ HW.out).mono ?_
    all_goals (try (simp; done))
    rintro e w1 ⟨rfl, hk⟩
    have hz := hk.size
    simp at hz
    have s0 : w1.cell? ⟨w.heap.size, 0, none⟩ = some (.int .i64 l) := hk.some (by simp [*])
    have s1 : w1.cell? ⟨w.heap.size, 1, none⟩ = some (.bool true) := hk.some (by simp [*])
    have s2 : w1.cell? ⟨w.heap.size, 2, none⟩ = some (.int .i64 v) := hk.some (by simp [*])
    go_wp2_with fail
    have hk' := hk
    have K1 : Kept w w1 := by repeat (first | exact Kept.refl _ | refine Kept.alloc ?_ _ _ | refine Kept.drew ?_ | refine Kept.drewN ?_ _ | refine Kept.trans ?_ (by assumption))
    clear hz hk hk'
    go_region_held3 (fun w' => w'.cell? ⟨w.heap.size, 0, none⟩ = some (.int .i64 l) ∧ w'.cell? ⟨w.heap.size, 1, none⟩ = some (.bool true) ∧ w'.cell? ⟨w.heap.size, 2, none⟩ = some (.int .i64 v)) (first | go_keep | (exact ⟨hk.some (by simp [*]), hk.some (by simp [*]), hk.some (by simp [*])⟩)) (first | (go_at_call 343; refine (table_slotWord _ _).mono ?_; rintro e w1 ⟨rfl, hk⟩) | (go_at_call 306; refine (bit_any _ _).mono ?_; rintro e w' ⟨rfl, rfl⟩) | (go_at_call 255; refine (HJ _).out.mono ?_; rintro e w1 ⟨rfl, hk⟩))
    go_wp2
    go_ret2
    exact ⟨rfl, by repeat (first | exact Kept.refl _ | refine Kept.alloc ?_ _ _ | refine Kept.drew ?_ | refine Kept.drewN ?_ _ | refine Kept.trans ?_ (by assumption))⟩

end Go.Proofs.YtlfdiffbepfgbaaGreat.Wo

namespace Go.Proofs.YtlfdiffbepfgbaaGreat.Wo
set_option maxRecDepth 20000
open Go.RowKit

theorem put_ref (i g : Int) (m : Bool) (w : World) (i0 : -9223372036854775808 ≤ i) (i1 : i ≤ 9223372036854775807) : Calls Tryz.prog 246 #[.agg #[.int .i64 i, .int .i64 g, .bool m]] w fun e w' => e = .returned (.tuple #[.int .u64 (putRef i g m).1, .int .i64 (putRef i g m).2]) ∧ Kept w w' := by
  by_cases hr : -1 ≤ i ∧ i ≤ 65534 ∧ 0 ≤ g ∧ g ≤ 4294967295
  · by_cases hf : i = -1 ∧ g ≠ 0
    · rw [putRef_form m hr hf]; exact put_ref_form i g m w hr hf
    · rw [putRef_good m hr hf]; exact put_ref_good i g m w hr hf
  · rw [putRef_bad m hr]; exact put_ref_bad i g m w i0 i1 hr

theorem put_top (i t : Int) (w : World) (i0 : -9223372036854775808 ≤ i) (i1 : i ≤ 9223372036854775807) : Calls Tryz.prog 162 #[.agg #[.int .i64 i, .int .i64 t]] w fun e w' => e = .returned (.tuple #[.int .u64 (putTop i t).1, .int .i64 (putTop i t).2]) ∧ Kept w w' := by
  by_cases hr : -1 ≤ i ∧ i ≤ 65534 ∧ 0 ≤ t ∧ t ≤ 281474976710655
  · rw [putTop_good hr]; exact put_top_good i t w hr
  · rw [putTop_bad hr]; exact put_top_bad i t w i0 i1 hr

theorem put_slot (l : Int) (f : Bool) (v : Int) (w : World)  : Calls Tryz.prog 325 #[.agg #[.int .i64 l, .bool f, .int .i64 v]] w fun e w' => e = .returned (.tuple #[.int .u64 (putSlot l f v).1, .int .i64 (putSlot l f v).2]) ∧ Kept w w' := by
  by_cases hr : 0 ≤ l ∧ l ≤ 4294967295 ∧ 0 ≤ v ∧ v ≤ 65535
  · by_cases hf : f = false ∧ v ≠ 0
    · rw [putSlot_form hr hf]; exact put_slot_form l f v w hr hf
    · rw [putSlot_good hr hf]; exact put_slot_good l f v w hr hf
  · rw [putSlot_bad f hr]; exact put_slot_bad l f v w  hr

end Go.Proofs.YtlfdiffbepfgbaaGreat.Wo
