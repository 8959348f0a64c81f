/- What a word is of each kind, read by its table; and whether numbers are within their ranges. -/
import Derived.Test.YtbonnfofoepjcaaG04
import Derived.Deep.RegionHeld3
import Derived.Test.YtbonnfofoepjcaaG03
set_option linter.unusedVariables false
set_option linter.unusedSimpArgs false

namespace Go.Proofs.Ytbonnfofoepjcaa.Wo
set_option maxRecDepth 20000
open Go.RowKit

set_option maxHeartbeats 400000 in
theorem value_top (n : Int) (w : World) (h0 : 0 ≤ n) (h1 : n < 18446744073709551616) : Calls Try.prog 96 #[.int .u64 n] w fun e w' => e = .returned (.agg #[.int .i64 (rIdx n), .int .i64 (tTag n)]) ∧ Kept w w' := by
  have H0 := Lib.hid h0; have H1 := Lib.hid h1; clear h0 h1
  go_enter Try.func96, Try.ntmps96
  go_wp2_with fail
  refine (table_topWord _ _).mono ?_
  rintro e w1 ⟨rfl, hk1⟩
  have hc1 := hk1.cell
  have hz1 := hk1.size
  have hf1 := hk1.froze
  go_wp2_with fail
  refine (split_top _ _ H0.out H1.out).mono ?_
  rintro e w2 ⟨rfl, hk2⟩
  have hc2 := hk2.cell
  have hz2 := hk2.size
  have hf2 := hk2.froze
  have hz1' : w.heap.size + 1 ≤ w1.heap.size := by simpa using hz1
  have hlt : w.heap.size < w2.heap.size := by omega
  have r0 : w2.cell? ⟨w.heap.size, 0, none⟩ = some (.int .i64 0) := by rw [hc2 _ _ (by omega), hc1 _ _ (by simp)]; simp
  have r1 : w2.cell? ⟨w.heap.size, 1, none⟩ = some (.int .i64 0) := by rw [hc2 _ _ (by omega), hc1 _ _ (by simp)]; simp
  have f2 : ∀ o, w2.frozen? ⟨w.heap.size, o, none⟩ = false := fun o => by rw [hf2, hf1]; simp
  have K0 : Kept w w2 := ((Kept.refl w).alloc _ _).trans (hk1.trans hk2)
  clear hc1 hc2 hf1 hf2 hz1 hz2 hk1 hk2
  go_wp2_with fail
  go_region_held3 (fun w' => w'.cell? ⟨w2.heap.size, 0, none⟩ = some (.int .i64 (n % 65536)) ∧ w'.cell? ⟨w2.heap.size, 1, none⟩ = some (.int .i64 (n / 65536 % 281474976710656))) (first | (simp [World.cell?_alloc_at]; done) | go_keep) (first | ((go_at_call 99; refine (index_any _ (by omega) (by omega) _).mono ?_; rintro e w' ⟨rfl, rfl⟩)))
  go_wp2
  refine bodyPost_ret (v := .agg #[(.int .i64 (n % 65536 - 1)), (.int .i64 (n / 65536 % 281474976710656))]) ?_ rfl ⟨rfl, ?_⟩
  · simp [results, Try.results96, go_sem, r0, r1, hlt]
  · refine Kept.drew (Kept.alloc (Kept.setCell (Kept.setCell K0 ?_ _) ?_ _) _ _) <;> simp

set_option maxHeartbeats 400000 in
theorem within2_yes (B : Nat) (a b m k : Int) (w : World) (c0 : w.cell? ⟨B, 0, none⟩ = some (.int .i64 a)) (d0 : w.cell? ⟨B, 1, none⟩ = some (.int .i64 m)) (c1 : w.cell? ⟨B, 2, none⟩ = some (.int .i64 b)) (d1 : w.cell? ⟨B, 3, none⟩ = some (.int .i64 k)) (h : 0 ≤ a ∧ a ≤ m ∧ 0 ≤ b ∧ b ≤ k) : Calls Try.prog 71 #[.slice (some ⟨B, 0, none⟩) 2 2] w fun e w' => e = .returned (.bool true) ∧ Kept w w' := by
  have hB := lt_of_cell c0
  obtain ⟨p0, q0, p1, q1⟩ := h
  go_enter Try.func71, Try.ntmps71
  go_wp2
  refine wp_loop_rounds 3 ?_
  rw [rounds_succ]
  go_wp2
  rw [rounds_succ]
  go_wp2
  rw [rounds_succ]
  go_wp2
  go_ret
  exact ⟨rfl, by repeat (first | exact Kept.refl _ | refine Kept.alloc ?_ _ _)⟩

set_option maxHeartbeats 800000 in
theorem within2_no (B : Nat) (a b m k : Int) (w : World) (c0 : w.cell? ⟨B, 0, none⟩ = some (.int .i64 a)) (d0 : w.cell? ⟨B, 1, none⟩ = some (.int .i64 m)) (c1 : w.cell? ⟨B, 2, none⟩ = some (.int .i64 b)) (d1 : w.cell? ⟨B, 3, none⟩ = some (.int .i64 k)) (h : ¬ (0 ≤ a ∧ a ≤ m ∧ 0 ≤ b ∧ b ≤ k)) : Calls Try.prog 71 #[.slice (some ⟨B, 0, none⟩) 2 2] w fun e w' => e = .returned (.bool false) ∧ Kept w w' := by
  have hB := lt_of_cell c0
  by_cases n0 : a < 0
  · clear h
    go_enter Try.func71, Try.ntmps71
    go_wp2
    refine wp_loop_rounds 3 ?_
    rw [rounds_succ]
    go_wp2
    go_ret
    exact ⟨rfl, by repeat (first | exact Kept.refl _ | refine Kept.alloc ?_ _ _)⟩
  by_cases u0 : m < a
  · clear h
    go_enter Try.func71, Try.ntmps71
    go_wp2
    refine wp_loop_rounds 3 ?_
    rw [rounds_succ]
    go_wp2
    go_ret
    exact ⟨rfl, by repeat (first | exact Kept.refl _ | refine Kept.alloc ?_ _ _)⟩
  by_cases n1 : b < 0
  · clear h
    go_enter Try.func71, Try.ntmps71
    go_wp2
    refine wp_loop_rounds 3 ?_
    rw [rounds_succ]
    go_wp2
    rw [rounds_succ]
    go_wp2
    go_ret
    exact ⟨rfl, by repeat (first | exact Kept.refl _ | refine Kept.alloc ?_ _ _)⟩
  by_cases u1 : k < b
  · clear h
    go_enter Try.func71, Try.ntmps71
    go_wp2
    refine wp_loop_rounds 3 ?_
    rw [rounds_succ]
    go_wp2
    rw [rounds_succ]
    go_wp2
    go_ret
    exact ⟨rfl, by repeat (first | exact Kept.refl _ | refine Kept.alloc ?_ _ _)⟩
  exact absurd (by omega) h

set_option maxHeartbeats 400000 in
theorem within3_yes (B : Nat) (a b c m k l : Int) (w : World) (c0 : w.cell? ⟨B, 0, none⟩ = some (.int .i64 a)) (d0 : w.cell? ⟨B, 1, none⟩ = some (.int .i64 m)) (c1 : w.cell? ⟨B, 2, none⟩ = some (.int .i64 b)) (d1 : w.cell? ⟨B, 3, none⟩ = some (.int .i64 k)) (c2 : w.cell? ⟨B, 4, none⟩ = some (.int .i64 c)) (d2 : w.cell? ⟨B, 5, none⟩ = some (.int .i64 l)) (h : 0 ≤ a ∧ a ≤ m ∧ 0 ≤ b ∧ b ≤ k ∧ 0 ≤ c ∧ c ≤ l) : Calls Try.prog 71 #[.slice (some ⟨B, 0, none⟩) 3 3] w fun e w' => e = .returned (.bool true) ∧ Kept w w' := by
  have hB := lt_of_cell c0
  obtain ⟨p0, q0, p1, q1, p2, q2⟩ := h
  go_enter Try.func71, Try.ntmps71
  go_wp2
  refine wp_loop_rounds 4 ?_
  rw [rounds_succ]
  go_wp2
  rw [rounds_succ]
  go_wp2
  rw [rounds_succ]
  go_wp2
  rw [rounds_succ]
  go_wp2
  go_ret
  exact ⟨rfl, by repeat (first | exact Kept.refl _ | refine Kept.alloc ?_ _ _)⟩

set_option maxHeartbeats 800000 in
theorem within3_no (B : Nat) (a b c m k l : Int) (w : World) (c0 : w.cell? ⟨B, 0, none⟩ = some (.int .i64 a)) (d0 : w.cell? ⟨B, 1, none⟩ = some (.int .i64 m)) (c1 : w.cell? ⟨B, 2, none⟩ = some (.int .i64 b)) (d1 : w.cell? ⟨B, 3, none⟩ = some (.int .i64 k)) (c2 : w.cell? ⟨B, 4, none⟩ = some (.int .i64 c)) (d2 : w.cell? ⟨B, 5, none⟩ = some (.int .i64 l)) (h : ¬ (0 ≤ a ∧ a ≤ m ∧ 0 ≤ b ∧ b ≤ k ∧ 0 ≤ c ∧ c ≤ l)) : Calls Try.prog 71 #[.slice (some ⟨B, 0, none⟩) 3 3] w fun e w' => e = .returned (.bool false) ∧ Kept w w' := by
  have hB := lt_of_cell c0
  by_cases n0 : a < 0
  · clear h
    go_enter Try.func71, Try.ntmps71
    go_wp2
    refine wp_loop_rounds 4 ?_
    rw [rounds_succ]
    go_wp2
    go_ret
    exact ⟨rfl, by repeat (first | exact Kept.refl _ | refine Kept.alloc ?_ _ _)⟩
  by_cases u0 : m < a
  · clear h
    go_enter Try.func71, Try.ntmps71
    go_wp2
    refine wp_loop_rounds 4 ?_
    rw [rounds_succ]
    go_wp2
    go_ret
    exact ⟨rfl, by repeat (first | exact Kept.refl _ | refine Kept.alloc ?_ _ _)⟩
  by_cases n1 : b < 0
  · clear h
    go_enter Try.func71, Try.ntmps71
    go_wp2
    refine wp_loop_rounds 4 ?_
    rw [rounds_succ]
    go_wp2
    rw [rounds_succ]
    go_wp2
    go_ret
    exact ⟨rfl, by repeat (first | exact Kept.refl _ | refine Kept.alloc ?_ _ _)⟩
  by_cases u1 : k < b
  · clear h
    go_enter Try.func71, Try.ntmps71
    go_wp2
    refine wp_loop_rounds 4 ?_
    rw [rounds_succ]
    go_wp2
    rw [rounds_succ]
    go_wp2
    go_ret
    exact ⟨rfl, by repeat (first | exact Kept.refl _ | refine Kept.alloc ?_ _ _)⟩
  by_cases n2 : c < 0
  · clear h
    go_enter Try.func71, Try.ntmps71
    go_wp2
    refine wp_loop_rounds 4 ?_
    rw [rounds_succ]
    go_wp2
    rw [rounds_succ]
    go_wp2
    rw [rounds_succ]
    go_wp2
    go_ret
    exact ⟨rfl, by repeat (first | exact Kept.refl _ | refine Kept.alloc ?_ _ _)⟩
  by_cases u2 : l < c
  · clear h
    go_enter Try.func71, Try.ntmps71
    go_wp2
    refine wp_loop_rounds 4 ?_
    rw [rounds_succ]
    go_wp2
    rw [rounds_succ]
    go_wp2
    rw [rounds_succ]
    go_wp2
    go_ret
    exact ⟨rfl, by repeat (first | exact Kept.refl _ | refine Kept.alloc ?_ _ _)⟩
  exact absurd (by omega) h

end Go.Proofs.Ytbonnfofoepjcaa.Wo

namespace Go.Proofs.Ytbonnfofoepjcaa.Wo
set_option maxRecDepth 20000
open Go.RowKit

set_option maxHeartbeats 800000 in
theorem put_ref_bad (i g : Int) (m : Bool) (w : World) (i0 : -9223372036854775808 ≤ i) (i1 : i ≤ 9223372036854775807) (hr : ¬ (-1 ≤ i ∧ i ≤ 65534 ∧ 0 ≤ g ∧ g ≤ 4294967295)) : Calls Try.prog 55 #[.agg #[.int .i64 i, .int .i64 g, .bool m]] w fun e w' => e = .returned (.tuple #[.int .u64 (0), .int .i64 3]) ∧ Kept w w' := by
  have HW : Hid (¬ (0 ≤ wrap64 (i + 1) ∧ wrap64 (i + 1) ≤ 65535 ∧ 0 ≤ g ∧ g ≤ 4294967295)) := Lib.hid (by intro h; unfold wrap64 at h; exact hr (by omega))
  clear hr
  clear i0 i1
  go_enter Try.func55, Try.ntmps55
  go_wp2_with fail
  go_region_held3 (fun w' => w'.cell? ⟨w.heap.size, 0, none⟩ = some (.int .i64 i) ∧ w'.cell? ⟨w.heap.size, 1, none⟩ = some (.int .i64 g) ∧ w'.cell? ⟨w.heap.size, 2, none⟩ = some (.bool m)) (first | (simp [World.cell?_alloc_at]; done) | go_keep | (exact ⟨hk.some (by simp [*]), hk.some (by simp [*]), hk.some (by simp [*])⟩)) (first | (go_at_call 72; refine (place_any _ _).mono ?_; rintro e w' ⟨rfl, rfl⟩) | (go_at_call 71; refine (within2_no _ _ _ _ _ _ ?_ ?_ ?_ ?_ HW.out).mono ?_; (all_goals (try (simp [*]; done))); rintro e w1 ⟨rfl, hk⟩))
  go_wp2
  go_ret2
  exact ⟨rfl, by repeat (first | exact Kept.refl _ | refine Kept.alloc ?_ _ _ | refine Kept.drew ?_ | refine Kept.drewN ?_ _ | refine Kept.trans ?_ (by assumption))⟩

set_option maxHeartbeats 800000 in
theorem put_ref_form (i g : Int) (m : Bool) (w : World)  (hr : -1 ≤ i ∧ i ≤ 65534 ∧ 0 ≤ g ∧ g ≤ 4294967295) (hf : i = -1 ∧ g ≠ 0) : Calls Try.prog 55 #[.agg #[.int .i64 i, .int .i64 g, .bool m]] w fun e w' => e = .returned (.tuple #[.int .u64 (0), .int .i64 5]) ∧ Kept w w' := by
  have HW : Hid (0 ≤ i + 1 ∧ i + 1 ≤ 65535 ∧ 0 ≤ g ∧ g ≤ 4294967295) := Lib.hid (by omega)
  have I0 := Lib.hid (show -1 ≤ i by omega); have I1 := Lib.hid (show i ≤ 65534 by omega)
  have b0 : (i == -1) = true := by simp [hf.1]
  have b1 : (g != 0) = true := by simp [hf.2]
  clear hf hr
  go_enter Try.func55, Try.ntmps55
  go_wp2_with fail
  go_region_held3 (fun w' => w'.cell? ⟨w.heap.size, 0, none⟩ = some (.int .i64 i) ∧ w'.cell? ⟨w.heap.size, 1, none⟩ = some (.int .i64 g) ∧ w'.cell? ⟨w.heap.size, 2, none⟩ = some (.bool m)) (first | (simp [World.cell?_alloc_at]; done) | go_keep | (exact ⟨hk.some (by simp [*]), hk.some (by simp [*]), hk.some (by simp [*])⟩)) (first | (go_at_call 72; refine (place_in _ I0.out I1.out _).mono ?_; rintro e w' ⟨rfl, rfl⟩) | (go_at_call 71; refine (within2_yes _ _ _ _ _ _ ?_ ?_ ?_ ?_ HW.out).mono ?_; (all_goals (try (simp [*]; done))); rintro e w1 ⟨rfl, hk⟩))
  go_wp2
  go_ret2
  exact ⟨rfl, by repeat (first | exact Kept.refl _ | refine Kept.alloc ?_ _ _ | refine Kept.drew ?_ | refine Kept.drewN ?_ _ | refine Kept.trans ?_ (by assumption))⟩

set_option maxHeartbeats 800000 in
theorem put_ref_good (i g : Int) (m : Bool) (w : World)  (hr : -1 ≤ i ∧ i ≤ 65534 ∧ 0 ≤ g ∧ g ≤ 4294967295) (hf : ¬ (i = -1 ∧ g ≠ 0)) : Calls Try.prog 55 #[.agg #[.int .i64 i, .int .i64 g, .bool m]] w fun e w' => e = .returned (.tuple #[.int .u64 (i + 1 + g * 65536 + bitOf m * 9223372036854775808), .int .i64 0]) ∧ Kept w w' := by
  have HW : Hid (0 ≤ i + 1 ∧ i + 1 ≤ 65535 ∧ 0 ≤ g ∧ g ≤ 4294967295) := Lib.hid (by omega)
  have I0 := Lib.hid (show -1 ≤ i by omega); have I1 := Lib.hid (show i ≤ 65534 by omega)
  have HJ : ∀ w, Hid (Calls Try.prog 74 _ w _) := fun w => Lib.hid (joined_ref (i + 1) g (bitOf m) w (by omega) (by omega) (by omega) (by omega) (bitOf_lo _) (bitOf_hi _))
  by_cases hi : i = -1
  · have b0 : (i == -1) = true := by simp [hi]
    have b1 : (g != 0) = false := by simp only [bne_eq_false_iff_eq]; exact Classical.byContradiction fun h => hf ⟨hi, h⟩
    clear hr hf hi
    go_enter Try.func55, Try.ntmps55
    go_wp2_with fail
    go_region_held3 (fun w' => w'.cell? ⟨w.heap.size, 0, none⟩ = some (.int .i64 i) ∧ w'.cell? ⟨w.heap.size, 1, none⟩ = some (.int .i64 g) ∧ w'.cell? ⟨w.heap.size, 2, none⟩ = some (.bool m)) (first | (simp [World.cell?_alloc_at]; done) | go_keep | (exact ⟨hk.some (by simp [*]), hk.some (by simp [*]), hk.some (by simp [*])⟩)) (first | (go_at_call 72; refine (place_in _ I0.out I1.out _).mono ?_; rintro e w' ⟨rfl, rfl⟩) | (go_at_call 71; refine (within2_yes _ _ _ _ _ _ ?_ ?_ ?_ ?_ HW.out).mono ?_; (all_goals (try (simp [*]; done))); rintro e w1 ⟨rfl, hk⟩))
    go_wp2_with fail
    have hz := hk.size
    simp at hz
    have hk' := hk
    have s0 : w1.cell? ⟨w.heap.size, 0, none⟩ = some (.int .i64 i) := hk'.some (by simp [*])
    have s1 : w1.cell? ⟨w.heap.size, 1, none⟩ = some (.int .i64 g) := hk'.some (by simp [*])
    have s2 : w1.cell? ⟨w.heap.size, 2, none⟩ = some (.bool m) := hk'.some (by simp [*])
    have K1 : Kept w w1 := by repeat (first | exact Kept.refl _ | refine Kept.alloc ?_ _ _ | refine Kept.drew ?_ | refine Kept.drewN ?_ _ | refine Kept.trans ?_ (by assumption))
    clear hz hk hk'
    go_region_held3 (fun w' => w'.cell? ⟨w.heap.size, 0, none⟩ = some (.int .i64 i) ∧ w'.cell? ⟨w.heap.size, 1, none⟩ = some (.int .i64 g) ∧ w'.cell? ⟨w.heap.size, 2, none⟩ = some (.bool m)) (first | go_keep | (exact ⟨hk.some (by simp [*]), hk.some (by simp [*]), hk.some (by simp [*])⟩)) (first | (go_at_call 73; refine (table_refWord _ _).mono ?_; rintro e w1 ⟨rfl, hk⟩) | (go_at_call 72; refine (place_in _ I0.out I1.out _).mono ?_; rintro e w' ⟨rfl, rfl⟩) | (go_at_call 75; refine (bit_any _ _).mono ?_; rintro e w' ⟨rfl, rfl⟩) | (go_at_call 74; refine (HJ _).out.mono ?_; rintro e w1 ⟨rfl, hk⟩))
    go_wp2
    go_ret2
    exact ⟨rfl, by repeat (first | exact Kept.refl _ | refine Kept.alloc ?_ _ _ | refine Kept.drew ?_ | refine Kept.drewN ?_ _ | refine Kept.trans ?_ (by assumption))⟩
  · have b0 : (i == -1) = false := by simp [hi]
    clear hr hf hi
    go_enter Try.func55, Try.ntmps55
    go_wp2_with fail
    go_region_held3 (fun w' => w'.cell? ⟨w.heap.size, 0, none⟩ = some (.int .i64 i) ∧ w'.cell? ⟨w.heap.size, 1, none⟩ = some (.int .i64 g) ∧ w'.cell? ⟨w.heap.size, 2, none⟩ = some (.bool m)) (first | (simp [World.cell?_alloc_at]; done) | go_keep | (exact ⟨hk.some (by simp [*]), hk.some (by simp [*]), hk.some (by simp [*])⟩)) (first | (go_at_call 72; refine (place_in _ I0.out I1.out _).mono ?_; rintro e w' ⟨rfl, rfl⟩) | (go_at_call 71; refine (within2_yes _ _ _ _ _ _ ?_ ?_ ?_ ?_ HW.out).mono ?_; (all_goals (try (simp [*]; done))); rintro e w1 ⟨rfl, hk⟩))
    go_wp2_with fail
    have hz := hk.size
    simp at hz
    have hk' := hk
    have s0 : w1.cell? ⟨w.heap.size, 0, none⟩ = some (.int .i64 i) := hk'.some (by simp [*])
    have s1 : w1.cell? ⟨w.heap.size, 1, none⟩ = some (.int .i64 g) := hk'.some (by simp [*])
    have s2 : w1.cell? ⟨w.heap.size, 2, none⟩ = some (.bool m) := hk'.some (by simp [*])
    have K1 : Kept w w1 := by repeat (first | exact Kept.refl _ | refine Kept.alloc ?_ _ _ | refine Kept.drew ?_ | refine Kept.drewN ?_ _ | refine Kept.trans ?_ (by assumption))
    clear hz hk hk'
    go_region_held3 (fun w' => w'.cell? ⟨w.heap.size, 0, none⟩ = some (.int .i64 i) ∧ w'.cell? ⟨w.heap.size, 1, none⟩ = some (.int .i64 g) ∧ w'.cell? ⟨w.heap.size, 2, none⟩ = some (.bool m)) (first | go_keep | (exact ⟨hk.some (by simp [*]), hk.some (by simp [*]), hk.some (by simp [*])⟩)) (first | (go_at_call 73; refine (table_refWord _ _).mono ?_; rintro e w1 ⟨rfl, hk⟩) | (go_at_call 72; refine (place_in _ I0.out I1.out _).mono ?_; rintro e w' ⟨rfl, rfl⟩) | (go_at_call 75; refine (bit_any _ _).mono ?_; rintro e w' ⟨rfl, rfl⟩) | (go_at_call 74; refine (HJ _).out.mono ?_; rintro e w1 ⟨rfl, hk⟩))
    go_wp2
    go_ret2
    exact ⟨rfl, by repeat (first | exact Kept.refl _ | refine Kept.alloc ?_ _ _ | refine Kept.drew ?_ | refine Kept.drewN ?_ _ | refine Kept.trans ?_ (by assumption))⟩

set_option maxHeartbeats 800000 in
theorem put_top_bad (i t : Int) (w : World) (i0 : -9223372036854775808 ≤ i) (i1 : i ≤ 9223372036854775807) (hr : ¬ (-1 ≤ i ∧ i ≤ 65534 ∧ 0 ≤ t ∧ t ≤ 281474976710655)) : Calls Try.prog 79 #[.agg #[.int .i64 i, .int .i64 t]] w fun e w' => e = .returned (.tuple #[.int .u64 (0), .int .i64 3]) ∧ Kept w w' := by
  have HW : Hid (¬ (0 ≤ wrap64 (i + 1) ∧ wrap64 (i + 1) ≤ 65535 ∧ 0 ≤ t ∧ t ≤ 281474976710655)) := Lib.hid (by intro h; unfold wrap64 at h; exact hr (by omega))
  clear hr
  clear i0 i1
  go_enter Try.func79, Try.ntmps79
  go_wp2_with fail
  go_region_held3 (fun w' => w'.cell? ⟨w.heap.size, 0, none⟩ = some (.int .i64 i) ∧ w'.cell? ⟨w.heap.size, 1, none⟩ = some (.int .i64 t)) (first | (simp [World.cell?_alloc_at]; done) | go_keep | (exact ⟨hk.some (by simp [*]), hk.some (by simp [*])⟩)) (first | (go_at_call 72; refine (place_any _ _).mono ?_; rintro e w' ⟨rfl, rfl⟩) | (go_at_call 71; refine (within2_no _ _ _ _ _ _ ?_ ?_ ?_ ?_ HW.out).mono ?_; (all_goals (try (simp [*]; done))); rintro e w1 ⟨rfl, hk⟩))
  go_wp2
  go_ret2
  exact ⟨rfl, by repeat (first | exact Kept.refl _ | refine Kept.alloc ?_ _ _ | refine Kept.drew ?_ | refine Kept.drewN ?_ _ | refine Kept.trans ?_ (by assumption))⟩

set_option maxHeartbeats 800000 in
theorem put_top_good (i t : Int) (w : World)  (hr : -1 ≤ i ∧ i ≤ 65534 ∧ 0 ≤ t ∧ t ≤ 281474976710655) : Calls Try.prog 79 #[.agg #[.int .i64 i, .int .i64 t]] w fun e w' => e = .returned (.tuple #[.int .u64 (i + 1 + t * 65536), .int .i64 0]) ∧ Kept w w' := by
  have HW : Hid (0 ≤ i + 1 ∧ i + 1 ≤ 65535 ∧ 0 ≤ t ∧ t ≤ 281474976710655) := Lib.hid (by omega)
  have I0 := Lib.hid (show -1 ≤ i by omega); have I1 := Lib.hid (show i ≤ 65534 by omega)
  have HJ : ∀ w, Hid (Calls Try.prog 74 _ w _) := fun w => Lib.hid (joined_top (i + 1) t w (by omega) (by omega) (by omega) (by omega))
  clear hr
  go_enter Try.func79, Try.ntmps79
  go_wp2_with fail
  go_region_held3 (fun w' => w'.cell? ⟨w.heap.size, 0, none⟩ = some (.int .i64 i) ∧ w'.cell? ⟨w.heap.size, 1, none⟩ = some (.int .i64 t)) (first | (simp [World.cell?_alloc_at]; done) | go_keep | (exact ⟨hk.some (by simp [*]), hk.some (by simp [*])⟩)) (first | (go_at_call 72; refine (place_in _ I0.out I1.out _).mono ?_; rintro e w' ⟨rfl, rfl⟩) | (go_at_call 71; refine (within2_yes _ _ _ _ _ _ ?_ ?_ ?_ ?_ HW.out).mono ?_; (all_goals (try (simp [*]; done))); rintro e w1 ⟨rfl, hk⟩))
  go_wp2_with fail
  have hz := hk.size
  simp at hz
  have hk' := hk
  have s0 : w1.cell? ⟨w.heap.size, 0, none⟩ = some (.int .i64 i) := hk'.some (by simp [*])
  have s1 : w1.cell? ⟨w.heap.size, 1, none⟩ = some (.int .i64 t) := hk'.some (by simp [*])
  have K1 : Kept w w1 := by repeat (first | exact Kept.refl _ | refine Kept.alloc ?_ _ _ | refine Kept.drew ?_ | refine Kept.drewN ?_ _ | refine Kept.trans ?_ (by assumption))
  clear hz hk hk'
  go_region_held3 (fun w' => w'.cell? ⟨w.heap.size, 0, none⟩ = some (.int .i64 i) ∧ w'.cell? ⟨w.heap.size, 1, none⟩ = some (.int .i64 t)) (first | go_keep | (exact ⟨hk.some (by simp [*]), hk.some (by simp [*])⟩)) (first | (go_at_call 86; refine (table_topWord _ _).mono ?_; rintro e w1 ⟨rfl, hk⟩) | (go_at_call 72; refine (place_in _ I0.out I1.out _).mono ?_; rintro e w' ⟨rfl, rfl⟩) | (go_at_call 74; refine (HJ _).out.mono ?_; rintro e w1 ⟨rfl, hk⟩))
  go_wp2
  go_ret2
  exact ⟨rfl, by repeat (first | exact Kept.refl _ | refine Kept.alloc ?_ _ _ | refine Kept.drew ?_ | refine Kept.drewN ?_ _ | refine Kept.trans ?_ (by assumption))⟩

end Go.Proofs.Ytbonnfofoepjcaa.Wo

namespace Go.Proofs.Ytbonnfofoepjcaa.Wo
set_option maxRecDepth 20000
open Go.RowKit

theorem put_ref (i g : Int) (m : Bool) (w : World) (i0 : -9223372036854775808 ≤ i) (i1 : i ≤ 9223372036854775807) : Calls Try.prog 55 #[.agg #[.int .i64 i, .int .i64 g, .bool m]] w fun e w' => e = .returned (.tuple #[.int .u64 (putRef i g m).1, .int .i64 (putRef i g m).2]) ∧ Kept w w' := by
  by_cases hr : -1 ≤ i ∧ i ≤ 65534 ∧ 0 ≤ g ∧ g ≤ 4294967295
  · by_cases hf : i = -1 ∧ g ≠ 0
    · rw [putRef_form m hr hf]; exact put_ref_form i g m w hr hf
    · rw [putRef_good m hr hf]; exact put_ref_good i g m w hr hf
  · rw [putRef_bad m hr]; exact put_ref_bad i g m w i0 i1 hr

theorem put_top (i t : Int) (w : World) (i0 : -9223372036854775808 ≤ i) (i1 : i ≤ 9223372036854775807) : Calls Try.prog 79 #[.agg #[.int .i64 i, .int .i64 t]] w fun e w' => e = .returned (.tuple #[.int .u64 (putTop i t).1, .int .i64 (putTop i t).2]) ∧ Kept w w' := by
  by_cases hr : -1 ≤ i ∧ i ≤ 65534 ∧ 0 ≤ t ∧ t ≤ 281474976710655
  · rw [putTop_good hr]; exact put_top_good i t w hr
  · rw [putTop_bad hr]; exact put_top_bad i t w i0 i1 hr

end Go.Proofs.Ytbonnfofoepjcaa.Wo

namespace Go.Proofs.Ytbonnfofoepjcaa.Wo
set_option maxRecDepth 20000
open Go.RowKit

set_option maxHeartbeats 800000 in
theorem meaning_top_yes (n : Int) (i t : Int) (w : World) (HP : ∀ w, Hid (Calls Try.prog 79 #[.agg #[.int .i64 i, .int .i64 t]] w fun e w' => e = .returned (.tuple #[.int .u64 n, .int .i64 0]) ∧ Kept w w')) : Calls Try.prog 95 #[.int .u64 n, .agg #[.int .i64 i, .int .i64 t], .func (.func 79) #[] #[]] w fun e w' => e = .returned (.tuple #[.agg #[.int .i64 i, .int .i64 t], .int .i64 0]) ∧ Kept w w' := by
  go_enter Try.func95, Try.ntmps95
  go_wp2_with fail
  refine (HP _).out.mono ?_
  rintro e w1 ⟨rfl, hk1⟩
  have hz := hk1.size
  simp at hz
  have s0 : w1.cell? ⟨w.heap.size, 0, none⟩ = some (.int .i64 i) := hk1.some (by simp [*])
  have s1 : w1.cell? ⟨w.heap.size, 1, none⟩ = some (.int .i64 t) := hk1.some (by simp [*])
  have r0 : w1.cell? ⟨w.heap.size + 1, 0, none⟩ = some (.int .i64 0) := hk1.some (by simp [*])
  have r1 : w1.cell? ⟨w.heap.size + 1, 1, none⟩ = some (.int .i64 0) := hk1.some (by simp [*])
  have f1 : ∀ o, w1.frozen? ⟨w.heap.size + 1, o, none⟩ = false := fun o => by rw [hk1.froze]; simp
  have K1 : Kept w w1 := ((((Kept.refl w).alloc _ _).alloc _ _).trans hk1)
  have hlt : w.heap.size + 1 < w1.heap.size := by omega
  clear hk1 hz
  go_wp2
  refine bodyPost_ret (v := .tuple #[.agg #[.int .i64 i, .int .i64 t], .int .i64 0]) ?_ rfl ⟨rfl, ?_⟩
  · simp [results, Try.results95, go_sem, r0, r1]
  · refine (Kept.setCell (Kept.setCell K1 ?_ _) ?_ _) <;> simp

end Go.Proofs.Ytbonnfofoepjcaa.Wo

namespace Go.Proofs.Ytbonnfofoepjcaa.Wo
set_option maxRecDepth 20000
open Go.RowKit

set_option maxHeartbeats 800000 in
theorem get_top_yes (n : Int) (w : World) (h0 : 0 ≤ n) (h1 : n < 18446744073709551616) : Calls Try.prog 91 #[.int .u64 n] w fun e w' => e = .returned (.tuple #[.agg #[.int .i64 (rIdx n), .int .i64 (tTag n)], .int .i64 0]) ∧ Kept w w' := by
  have HP : ∀ w, Hid (Calls Try.prog 79 #[.agg #[.int .i64 (rIdx n), .int .i64 (tTag n)]] w fun e w' => e = .returned (.tuple #[.int .u64 (n), .int .i64 (0)]) ∧ Kept w w') := fun w => Lib.hid (by
    have h := put_top (rIdx n) (tTag n) w (by have := rIdx_lo n; omega) (by have := rIdx_hi n; omega)
    rw [top_good n h0 h1] at h
    exact h)
  have H0 := Lib.hid h0; have H1 := Lib.hid h1
  clear h0 h1
  go_enter Try.func91, Try.ntmps91
  go_wp2_with fail
  refine (value_top _ _ H0.out H1.out).mono ?_
  rintro e w1 ⟨rfl, hk1⟩
  go_wp2_with fail
  refine (meaning_top_yes _ _ _ _ HP).mono ?_
  rintro e w2 ⟨rfl, hk2⟩
  have hz := (hk1.trans hk2).size
  simp at hz
  have r0 : w2.cell? ⟨w.heap.size, 0, none⟩ = some (.int .i64 0) := (hk1.trans hk2).some (by simp [*])
  have r1 : w2.cell? ⟨w.heap.size, 1, none⟩ = some (.int .i64 0) := (hk1.trans hk2).some (by simp [*])
  have f1 : ∀ o, w2.frozen? ⟨w.heap.size, o, none⟩ = false := fun o => by rw [(hk1.trans hk2).froze]; simp
  have K1 : Kept w w2 := (((Kept.refl w).alloc _ _).trans (hk1.trans hk2))
  have hlt : w.heap.size < w2.heap.size := by omega
  clear hk1 hk2 hz
  go_wp2
  refine bodyPost_ret (v := .tuple #[.agg #[.int .i64 (rIdx n), .int .i64 (tTag n)], .int .i64 0]) ?_ rfl ⟨rfl, ?_⟩
  · simp [results, Try.results91, go_sem, r0, r1]
  · refine (Kept.setCell (Kept.setCell K1 ?_ _) ?_ _) <;> simp

end Go.Proofs.Ytbonnfofoepjcaa.Wo

namespace Go.Proofs.Ytbonnfofoepjcaa.Sk
set_option maxRecDepth 20000
open Go.RowKit
open Wo (St acc wordAt)

theorem g_top (n : Int) (w : World) (h0 : 0 ≤ n) (h1 : n < 18446744073709551616) : Calls Try.prog 91 #[.int .u64 n] w fun e w' => e = .returned (.tuple #[.agg #[.int .i64 (n % 65536 - 1), .int .i64 (n / 65536 % 281474976710656)], .int .i64 0]) ∧ Kept w w' :=
  (Wo.get_top_yes n w h0 h1).mono fun _ _ ⟨x, k⟩ => ⟨x, kept_of k⟩
theorem u_top (i t : Int) (w : World) (h : -1 ≤ i ∧ i ≤ 65534 ∧ 0 ≤ t ∧ t ≤ 281474976710655) : Calls Try.prog 79 #[.agg #[.int .i64 i, .int .i64 t]] w fun e w' => e = .returned (.tuple #[.int .u64 (i + 1 + t * 65536), .int .i64 0]) ∧ Kept w w' :=
  (Wo.put_top_good i t w h).mono fun _ _ ⟨x, k⟩ => ⟨x, kept_of k⟩

set_option maxHeartbeats 400000 in
theorem place_yes (T K N i : Int) (w : World) (h0 : 0 ≤ i) (h1 : i < N) (h2 : i ≤ 65534) : Calls Try.prog 39 #[.agg #[.int .i64 T, .int .i64 K, .int .i64 N], .int .i64 i] w fun e w' => e = .returned (.bool true) ∧ Kept w w' := by
  go_enter Try.func39, Try.ntmps39
  go_wp2
  go_ret
  exact ⟨rfl, by (go_light; repeat (first | (with_reducible exact Kept.refl _) | (with_reducible assumption) | (with_reducible refine Kept.alloc ?_ _ _) | (with_reducible refine Kept.drew ?_) | (with_reducible refine Kept.drewN ?_ _) | ((with_reducible refine Kept.setCell ?_ ?_ _); rotate_left; focus (first | (simp; done) | (simp; omega))) | refine Kept.trans ?_ (by assumption)))⟩
set_option maxHeartbeats 400000 in
theorem place_no (T K N i : Int) (w : World) (h : i < 0 ∨ N ≤ i) : Calls Try.prog 39 #[.agg #[.int .i64 T, .int .i64 K, .int .i64 N], .int .i64 i] w fun e w' => e = .returned (.bool false) ∧ Kept w w' := by
  by_cases h0 : i < 0
  · clear h
    go_enter Try.func39, Try.ntmps39
    go_wp2
    go_ret
    exact ⟨rfl, by (go_light; repeat (first | (with_reducible exact Kept.refl _) | (with_reducible assumption) | (with_reducible refine Kept.alloc ?_ _ _) | (with_reducible refine Kept.drew ?_) | (with_reducible refine Kept.drewN ?_ _) | ((with_reducible refine Kept.setCell ?_ ?_ _); rotate_left; focus (first | (simp; done) | (simp; omega))) | refine Kept.trans ?_ (by assumption)))⟩
  · have h1 : N ≤ i := by omega
    have h2 : 0 ≤ i := by omega
    clear h h0
    go_enter Try.func39, Try.ntmps39
    go_wp2
    go_ret
    exact ⟨rfl, by (go_light; repeat (first | (with_reducible exact Kept.refl _) | (with_reducible assumption) | (with_reducible refine Kept.alloc ?_ _ _) | (with_reducible refine Kept.drew ?_) | (with_reducible refine Kept.drewN ?_ _) | ((with_reducible refine Kept.setCell ?_ ?_ _); rotate_left; focus (first | (simp; done) | (simp; omega))) | refine Kept.trans ?_ (by assumption)))⟩
set_option maxHeartbeats 400000 in
theorem link_any (T K N i : Int) (w : World) : Calls Try.prog 62 #[.agg #[.int .i64 T, .int .i64 K, .int .i64 N], .int .i64 i] w fun e w' => e = .returned (.int .i64 (wrap64 (K + i))) ∧ Kept w w' := by
  go_enter Try.func62, Try.ntmps62
  go_wp2
  go_ret
  exact ⟨rfl, by (go_light; repeat (first | (with_reducible exact Kept.refl _) | (with_reducible assumption) | (with_reducible refine Kept.alloc ?_ _ _) | (with_reducible refine Kept.drew ?_) | (with_reducible refine Kept.drewN ?_ _) | ((with_reducible refine Kept.setCell ?_ ?_ _); rotate_left; focus (first | (simp; done) | (simp; omega))) | refine Kept.trans ?_ (by assumption)))⟩
theorem link_in (T K N i : Int) (w : World) (h0 : 0 ≤ K) (h1 : K ≤ 100000) (h2 : -1 ≤ i) (h3 : i ≤ 100000) : Calls Try.prog 62 #[.agg #[.int .i64 T, .int .i64 K, .int .i64 N], .int .i64 i] w fun e w' => e = .returned (.int .i64 (K + i)) ∧ Kept w w' :=
  (link_any T K N i w).mono fun _ _ ⟨x, k⟩ => ⟨by rw [x, show wrap64 (K + i) = K + i by unfold wrap64; omega], k⟩

set_option maxHeartbeats 800000 in
theorem read_any (T K N x : Int) (w : World) (x0 : 0 ≤ x) (x1 : x < 18446744073709551616) : Calls Try.prog 84 #[.agg #[.int .i64 T, .int .i64 K, .int .i64 N], .int .u64 x] w fun e w' => e = .returned (.int .i64 (idx N x)) ∧ Kept w w' := by
  by_cases h : 0 ≤ x % 65536 - 1 ∧ x % 65536 - 1 < N
  · obtain ⟨h0, h1⟩ := h
    have E : Hid (idx N x = x % 65536 - 1) := Lib.hid (by unfold idx; rw [if_pos h1])
    have h2 : x % 65536 - 1 ≤ 65534 := by omega
    go_enter Try.func84, Try.ntmps84
    go_wp2_with fail
    refine (g_top x _ x0 x1).mono ?_
    rintro e w1 ⟨rfl, k1⟩
    have K1 : Kept w w1 := Kept.trans (b := _) (by (go_light; repeat (first | (with_reducible exact Kept.refl _) | (with_reducible assumption) | (with_reducible refine Kept.alloc ?_ _ _) | (with_reducible refine Kept.drew ?_) | (with_reducible refine Kept.drewN ?_ _) | ((with_reducible refine Kept.setCell ?_ ?_ _); rotate_left; focus (first | (simp; done) | (simp; omega))) | refine Kept.trans ?_ (by assumption)))) k1
    have c0 : w1.cell? ⟨w.heap.size, 0, none⟩ = some (.int .i64 T) := k1.some (by simp)
    have c1 : w1.cell? ⟨w.heap.size, 1, none⟩ = some (.int .i64 K) := k1.some (by simp)
    have c2 : w1.cell? ⟨w.heap.size, 2, none⟩ = some (.int .i64 N) := k1.some (by simp)
    have S1 := k1.size
    simp at S1
    have S2 : w.heap.size < w1.heap.size := by omega
    clear k1 S1
    go_wp2_with fail
    refine (place_yes T K N _ _ h0 h1 h2).mono ?_
    rintro e w2 ⟨rfl, k2⟩
    have c3 : w2.cell? ⟨w1.heap.size, 0, none⟩ = some (.int .i64 (x % 65536 - 1)) := k2.some (by simp)
    go_wp2
    go_ret
    exact ⟨by rw [E.out]; rfl, Kept.trans (b := _) (by (go_light; repeat (first | (with_reducible exact Kept.refl _) | (with_reducible assumption) | (with_reducible refine Kept.alloc ?_ _ _) | (with_reducible refine Kept.drew ?_) | (with_reducible refine Kept.drewN ?_ _) | ((with_reducible refine Kept.setCell ?_ ?_ _); rotate_left; focus (first | (simp; done) | (simp; omega))) | refine Kept.trans ?_ (by assumption)))) k2⟩
  · have E : Hid (idx N x = -1) := Lib.hid (by
      unfold idx
      split
      · omega
      · rfl)
    have h1 : x % 65536 - 1 < 0 ∨ N ≤ x % 65536 - 1 := by omega
    clear h
    go_enter Try.func84, Try.ntmps84
    go_wp2_with fail
    refine (g_top x _ x0 x1).mono ?_
    rintro e w1 ⟨rfl, k1⟩
    have K1 : Kept w w1 := Kept.trans (b := _) (by (go_light; repeat (first | (with_reducible exact Kept.refl _) | (with_reducible assumption) | (with_reducible refine Kept.alloc ?_ _ _) | (with_reducible refine Kept.drew ?_) | (with_reducible refine Kept.drewN ?_ _) | ((with_reducible refine Kept.setCell ?_ ?_ _); rotate_left; focus (first | (simp; done) | (simp; omega))) | refine Kept.trans ?_ (by assumption)))) k1
    have c0 : w1.cell? ⟨w.heap.size, 0, none⟩ = some (.int .i64 T) := k1.some (by simp)
    have c1 : w1.cell? ⟨w.heap.size, 1, none⟩ = some (.int .i64 K) := k1.some (by simp)
    have c2 : w1.cell? ⟨w.heap.size, 2, none⟩ = some (.int .i64 N) := k1.some (by simp)
    have S1 := k1.size
    simp at S1
    have S2 : w.heap.size < w1.heap.size := by omega
    clear k1 S1
    go_wp2_with fail
    refine (place_no T K N _ _ h1).mono ?_
    rintro e w2 ⟨rfl, k2⟩
    have c3 : w2.cell? ⟨w1.heap.size, 0, none⟩ = some (.int .i64 (x % 65536 - 1)) := k2.some (by simp)
    go_wp2
    go_ret
    exact ⟨by rw [E.out]; rfl, Kept.trans (b := _) (by (go_light; repeat (first | (with_reducible exact Kept.refl _) | (with_reducible assumption) | (with_reducible refine Kept.alloc ?_ _ _) | (with_reducible refine Kept.drew ?_) | (with_reducible refine Kept.drewN ?_ _) | ((with_reducible refine Kept.setCell ?_ ?_ _); rotate_left; focus (first | (simp; done) | (simp; omega))) | refine Kept.trans ?_ (by assumption)))) k2⟩

set_option maxHeartbeats 400000 in
theorem untagged_any (i : Int) (w : World) (h0 : -1 ≤ i) (h1 : i ≤ 65534) : Calls Try.prog 61 #[.int .i64 i] w fun e w' => e = .returned (.int .u64 (i + 1)) ∧ Kept w w' := by
  have hp : ∀ w, Hid (Calls Try.prog 79 #[.agg #[.int .i64 i, .int .i64 0]] w fun e w' => e = .returned (.tuple #[.int .u64 (i + 1), .int .i64 0]) ∧ Kept w w') := fun w => Lib.hid (by
    have h := u_top i 0 w ⟨h0, h1, by omega, by omega⟩
    rw [Int.zero_mul, Int.add_zero] at h
    exact h)
  clear h0 h1
  go_enter Try.func61, Try.ntmps61
  go_wp2_with fail
  refine (hp _).out.mono ?_
  rintro e w1 ⟨rfl, k1⟩
  go_wp2
  go_ret
  exact ⟨rfl, by (go_light; repeat (first | (with_reducible exact Kept.refl _) | (with_reducible assumption) | (with_reducible refine Kept.alloc ?_ _ _) | (with_reducible refine Kept.drew ?_) | (with_reducible refine Kept.drewN ?_ _) | ((with_reducible refine Kept.setCell ?_ ?_ _); rotate_left; focus (first | (simp; done) | (simp; omega))) | refine Kept.trans ?_ (by assumption)))⟩

theorem and_tag (x : Int) (h0 : 0 ≤ x) (h1 : x ≤ 281474976710656) : bits .and .i64 x 281474976710655 = x % 281474976710656 :=
  bits_mask .i64 62 (by decide) (fun n a b => by have := Wo.wi n a (by omega); unfold wrap64 at this; rw [IntKind.wrap_i64]; exact this) 48 (by decide) x h0 (by omega)

set_option maxHeartbeats 800000 in
theorem following_any (x i : Int) (w : World) (x0 : 0 ≤ x) (x1 : x < 18446744073709551616) (h0 : -1 ≤ i) (h1 : i ≤ 65534) : Calls Try.prog 93 #[.int .u64 x, .int .i64 i] w fun e w' => e = .returned (.int .u64 (topW i x)) ∧ Kept w w' := by
  have b0 : 0 ≤ x / 65536 % 281474976710656 := by omega
  have b1 : x / 65536 % 281474976710656 ≤ 281474976710655 := by omega
  have ha := and_tag (x / 65536 % 281474976710656 + 1) (by omega) (by omega)
  have hp : ∀ w, Hid (Calls Try.prog 79 #[.agg #[.int .i64 i, .int .i64 ((x / 65536 + 1) % 281474976710656)]] w fun e w' => e = .returned (.tuple #[.int .u64 (topW i x), .int .i64 0]) ∧ Kept w w') := fun w => Lib.hid (by
    exact u_top i ((x / 65536 + 1) % 281474976710656) w ⟨h0, h1, by omega, by omega⟩)
  clear h0 h1
  go_enter Try.func93, Try.ntmps93
  go_wp2_with fail
  refine (g_top x _ x0 x1).mono ?_
  rintro e w1 ⟨rfl, k1⟩
  go_wp2_with fail
  refine (hp _).out.mono ?_
  rintro e w2 ⟨rfl, k2⟩
  go_wp2
  go_ret
  exact ⟨rfl, by (go_light; repeat (first | (with_reducible exact Kept.refl _) | (with_reducible assumption) | (with_reducible refine Kept.alloc ?_ _ _) | (with_reducible refine Kept.drew ?_) | (with_reducible refine Kept.drewN ?_ _) | ((with_reducible refine Kept.setCell ?_ ?_ _); rotate_left; focus (first | (simp; done) | (simp; omega))) | refine Kept.trans ?_ (by assumption)))⟩

end Go.Proofs.Ytbonnfofoepjcaa.Sk

namespace Go.Proofs.Ytbonnfofoepjcaa.Sk
set_option maxRecDepth 20000
open Go.RowKit
open Wo (St acc wordAt PMem RefIs)

structure OpAt (w : World) (P o : Nat) (S : Stk) (W L : Int) (nx : Value) (er : Int) : Prop where
  c0 : w.cell? ⟨P, o, none⟩ = some (.bool true)
  c1 : w.cell? ⟨P, o + 1, none⟩ = some (.int .i64 S.T)
  c2 : w.cell? ⟨P, o + 2, none⟩ = some (.int .i64 S.K)
  c3 : w.cell? ⟨P, o + 3, none⟩ = some (.int .i64 S.N)
  c4 : w.cell? ⟨P, o + 4, none⟩ = some (.int .u64 W)
  c5 : w.cell? ⟨P, o + 5, none⟩ = some (.int .u64 L)
  c6 : w.cell? ⟨P, o + 6, none⟩ = some nx
  c7 : w.cell? ⟨P, o + 7, none⟩ = some (.int .i64 er)
  f : ∀ i, w.frozen? ⟨P, i, none⟩ = false

theorem OpAt.lt {w : World} {P o : Nat} {S : Stk} {W L : Int} {nx : Value} {er : Int} (h : OpAt w P o S W L nx er) : P < w.heap.size := lt_of_cell h.c0
theorem OpAt.frame {w w' : World} {P o : Nat} {S : Stk} {W L : Int} {nx : Value} {er : Int} (h : OpAt w P o S W L nx er) {T : Nat → Prop} (hb : But T w w') (hP : ¬ T P) : OpAt w' P o S W L nx er :=
  ⟨hb.some h.c0 hP, hb.some h.c1 hP, hb.some h.c2 hP, hb.some h.c3 hP, hb.some h.c4 hP, hb.some h.c5 hP, hb.some h.c6 hP, hb.some h.c7 hP, fun i => hb.soft h.lt (h.f i)⟩
theorem OpAt.kept {w w' : World} {P o : Nat} {S : Stk} {W L : Int} {nx : Value} {er : Int} (h : OpAt w P o S W L nx er) (k : Kept w w') : OpAt w' P o S W L nx er := h.frame (k.but (fun _ => False)) id

structure Chg (P o m B : Nat) (w w' : World) : Prop where
  but : But (fun k => k = P ∨ k = B) w w'
  out : ∀ j, (j < o ∨ o + m ≤ j) → w'.cell? ⟨P, j, none⟩ = w.cell? ⟨P, j, none⟩

theorem Chg.refl (P o m B : Nat) (w : World) : Chg P o m B w w := ⟨But.refl _ _, fun _ _ => rfl⟩
theorem Chg.trans {P o m B : Nat} {a b c : World} (h : Chg P o m B a b) (k : Chg P o m B b c) : Chg P o m B a c :=
  ⟨h.but.trans k.but (fun _ _ h => h), fun j hj => (k.out j hj).trans (h.out j hj)⟩
theorem Chg.keep {P o m B : Nat} {a b c : World} (h : Chg P o m B a b) (k : Kept b c) (hP : P < a.heap.size) : Chg P o m B a c :=
  ⟨h.but.then k, fun j hj => (k.cell P j (Nat.lt_of_lt_of_le hP h.but.size)).trans (h.out j hj)⟩
theorem Chg.mem {P o m B : Nat} {a b c : World} (h : Chg P o m B a b) (k : But (fun k => k = B) b c) (hP : P < a.heap.size) (hPB : P ≠ B) : Chg P o m B a c :=
  ⟨h.but.trans k (fun _ _ h => Or.inr h), fun j hj => (k.cell P j (Nat.lt_of_lt_of_le hP h.but.size) hPB).trans (h.out j hj)⟩
theorem Chg.set {P o m B : Nat} {a b : World} (h : Chg P o m B a b) (j : Nat) (hj : o ≤ j ∧ j < o + m) (v : Value) : Chg P o m B a (b.setCell ⟨P, j, none⟩ v) :=
  ⟨h.but.setCell (p := ⟨P, j, none⟩) (Or.inl (Or.inl rfl)) v, fun i hi => by rw [cell_set, if_neg (by omega)]; exact h.out i hi⟩
theorem Chg.alloc {P o m B : Nat} {a b : World} (h : Chg P o m B a b) (hP : P < a.heap.size) (c : Array Value) (t : TypeId) : Chg P o m B a (b.alloc (.cells c t)) := h.keep ((Kept.refl b).alloc c t) hP
theorem Chg.drew {P o m B : Nat} {a b : World} (h : Chg P o m B a b) (hP : P < a.heap.size) : Chg P o m B a b.drew := h.keep (Kept.refl b).drew hP
theorem Chg.drewN {P o m B : Nat} {a b : World} (h : Chg P o m B a b) (hP : P < a.heap.size) (n : Nat) : Chg P o m B a (b.drewN n) := h.keep ((Kept.refl b).drewN n) hP
theorem Chg.some {P o m B : Nat} {w w' : World} (h : Chg P o m B w w') {j : Nat} {v : Value} (hc : w.cell? ⟨P, j, none⟩ = some v) (hj : j < o ∨ o + m ≤ j) : w'.cell? ⟨P, j, none⟩ = some v := (h.out j hj).trans hc
theorem Chg.wide {P o m o' m' B : Nat} {w w' : World} (h : Chg P o m B w w') (h0 : o' ≤ o) (h1 : o + m ≤ o' + m') : Chg P o' m' B w w' := ⟨h.but, fun j hj => h.out j (by omega)⟩
theorem Chg.any {P o m : Nat} {w w' : World} (h : Chg P o m P w w') (B : Nat) : Chg P o m B w w' := ⟨h.but.mono (fun _ _ h => h.elim Or.inl Or.inl), h.out⟩
theorem Chg.own {P o m : Nat} {w w' : World} (h : Chg P o m P w w') : But (fun k => k = P) w w' := h.but.mono (fun _ _ h => h.elim id id)
end Go.Proofs.Ytbonnfofoepjcaa.Sk
