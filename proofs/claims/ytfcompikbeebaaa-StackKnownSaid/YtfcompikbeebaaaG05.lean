/- What a word is of each kind, read by its table; and whether numbers are within their ranges. -/
import Derived.Test.YtfcompikbeebaaaG04
import Derived.Deep.RegionHeld3
import Derived.Test.YtfcompikbeebaaaG03
set_option linter.unusedVariables false
set_option linter.unusedSimpArgs false

namespace Go.Proofs.Ytfcompikbeebaaa.Wo
set_option maxRecDepth 20000
open Go.RowKit

set_option maxHeartbeats 400000 in
theorem value_top (n : Int) (w : World) (h0 : 0 ≤ n) (h1 : n < 18446744073709551616) : Calls Try.prog 94 #[.int .u64 n] w fun e w' => e = .returned (.agg #[.int .i64 (rIdx n), .int .i64 (tTag n)]) ∧ Kept w w' := by
  have H0 := Lib.hid h0; have H1 := Lib.hid h1; clear h0 h1
  go_enter Try.func94, Try.ntmps94
  go_wp2_with fail
  refine (table_topWord _ _).mono ?_
  rintro e w1 ⟨rfl, hk1⟩
  have hc1 := hk1.cell
  have hz1 := hk1.size
  have hf1 := hk1.froze
  go_wp2_with fail
  refine (split_top _ _ H0.out H1.out).mono ?_
  rintro e w2 ⟨rfl, hk2⟩
  have hc2 := hk2.cell
  have hz2 := hk2.size
  have hf2 := hk2.froze
  have hz1' : w.heap.size + 1 ≤ w1.heap.size := by simpa using hz1
  have hlt : w.heap.size < w2.heap.size := by omega
  have r0 : w2.cell? ⟨w.heap.size, 0, none⟩ = some (.int .i64 0) := by rw [hc2 _ _ (by omega), hc1 _ _ (by simp)]; simp
  have r1 : w2.cell? ⟨w.heap.size, 1, none⟩ = some (.int .i64 0) := by rw [hc2 _ _ (by omega), hc1 _ _ (by simp)]; simp
  have f2 : ∀ o, w2.frozen? ⟨w.heap.size, o, none⟩ = false := fun o => by rw [hf2, hf1]; simp
  have K0 : Kept w w2 := ((Kept.refl w).alloc _ _).trans (hk1.trans hk2)
  clear hc1 hc2 hf1 hf2 hz1 hz2 hk1 hk2
  go_wp2_with fail
  go_region_held3 (fun w' => w'.cell? ⟨w2.heap.size, 0, none⟩ = some (.int .i64 (n % 65536)) ∧ w'.cell? ⟨w2.heap.size, 1, none⟩ = some (.int .i64 (n / 65536 % 281474976710656))) (first | (simp [World.cell?_alloc_at]; done) | go_keep) (first | ((go_at_call 98; refine (index_any _ (by omega) (by omega) _).mono ?_; rintro e w' ⟨rfl, rfl⟩)))
  go_wp2
  refine bodyPost_ret (v := .agg #[(.int .i64 (n % 65536 - 1)), (.int .i64 (n / 65536 % 281474976710656))]) ?_ rfl ⟨rfl, ?_⟩
  · simp [results, Try.results94, go_sem, r0, r1, hlt]
  · refine Kept.drew (Kept.alloc (Kept.setCell (Kept.setCell K0 ?_ _) ?_ _) _ _) <;> simp

set_option maxHeartbeats 400000 in
theorem within2_yes (B : Nat) (a b m k : Int) (w : World) (c0 : w.cell? ⟨B, 0, none⟩ = some (.int .i64 a)) (d0 : w.cell? ⟨B, 1, none⟩ = some (.int .i64 m)) (c1 : w.cell? ⟨B, 2, none⟩ = some (.int .i64 b)) (d1 : w.cell? ⟨B, 3, none⟩ = some (.int .i64 k)) (h : 0 ≤ a ∧ a ≤ m ∧ 0 ≤ b ∧ b ≤ k) : Calls Try.prog 78 #[.slice (some ⟨B, 0, none⟩) 2 2] w fun e w' => e = .returned (.bool true) ∧ Kept w w' := by
  have hB := lt_of_cell c0
  obtain ⟨p0, q0, p1, q1⟩ := h
  go_enter Try.func78, Try.ntmps78
  go_wp2
  refine wp_loop_rounds 3 ?_
  rw [rounds_succ]
  go_wp2
  rw [rounds_succ]
  go_wp2
  rw [rounds_succ]
  go_wp2
  go_ret
  exact ⟨rfl, by repeat (first | exact Kept.refl _ | refine Kept.alloc ?_ _ _)⟩

set_option maxHeartbeats 800000 in
theorem within2_no (B : Nat) (a b m k : Int) (w : World) (c0 : w.cell? ⟨B, 0, none⟩ = some (.int .i64 a)) (d0 : w.cell? ⟨B, 1, none⟩ = some (.int .i64 m)) (c1 : w.cell? ⟨B, 2, none⟩ = some (.int .i64 b)) (d1 : w.cell? ⟨B, 3, none⟩ = some (.int .i64 k)) (h : ¬ (0 ≤ a ∧ a ≤ m ∧ 0 ≤ b ∧ b ≤ k)) : Calls Try.prog 78 #[.slice (some ⟨B, 0, none⟩) 2 2] w fun e w' => e = .returned (.bool false) ∧ Kept w w' := by
  have hB := lt_of_cell c0
  by_cases n0 : a < 0
  · clear h
    go_enter Try.func78, Try.ntmps78
    go_wp2
    refine wp_loop_rounds 3 ?_
    rw [rounds_succ]
    go_wp2
    go_ret
    exact ⟨rfl, by repeat (first | exact Kept.refl _ | refine Kept.alloc ?_ _ _)⟩
  by_cases u0 : m < a
  · clear h
    go_enter Try.func78, Try.ntmps78
    go_wp2
    refine wp_loop_rounds 3 ?_
    rw [rounds_succ]
    go_wp2
    go_ret
    exact ⟨rfl, by repeat (first | exact Kept.refl _ | refine Kept.alloc ?_ _ _)⟩
  by_cases n1 : b < 0
  · clear h
    go_enter Try.func78, Try.ntmps78
    go_wp2
    refine wp_loop_rounds 3 ?_
    rw [rounds_succ]
    go_wp2
    rw [rounds_succ]
    go_wp2
    go_ret
    exact ⟨rfl, by repeat (first | exact Kept.refl _ | refine Kept.alloc ?_ _ _)⟩
  by_cases u1 : k < b
  · clear h
    go_enter Try.func78, Try.ntmps78
    go_wp2
    refine wp_loop_rounds 3 ?_
    rw [rounds_succ]
    go_wp2
    rw [rounds_succ]
    go_wp2
    go_ret
    exact ⟨rfl, by repeat (first | exact Kept.refl _ | refine Kept.alloc ?_ _ _)⟩
  exact absurd (by omega) h

set_option maxHeartbeats 400000 in
theorem within3_yes (B : Nat) (a b c m k l : Int) (w : World) (c0 : w.cell? ⟨B, 0, none⟩ = some (.int .i64 a)) (d0 : w.cell? ⟨B, 1, none⟩ = some (.int .i64 m)) (c1 : w.cell? ⟨B, 2, none⟩ = some (.int .i64 b)) (d1 : w.cell? ⟨B, 3, none⟩ = some (.int .i64 k)) (c2 : w.cell? ⟨B, 4, none⟩ = some (.int .i64 c)) (d2 : w.cell? ⟨B, 5, none⟩ = some (.int .i64 l)) (h : 0 ≤ a ∧ a ≤ m ∧ 0 ≤ b ∧ b ≤ k ∧ 0 ≤ c ∧ c ≤ l) : Calls Try.prog 78 #[.slice (some ⟨B, 0, none⟩) 3 3] w fun e w' => e = .returned (.bool true) ∧ Kept w w' := by
  have hB := lt_of_cell c0
  obtain ⟨p0, q0, p1, q1, p2, q2⟩ := h
  go_enter Try.func78, Try.ntmps78
  go_wp2
  refine wp_loop_rounds 4 ?_
  rw [rounds_succ]
  go_wp2
  rw [rounds_succ]
  go_wp2
  rw [rounds_succ]
  go_wp2
  rw [rounds_succ]
  go_wp2
  go_ret
  exact ⟨rfl, by repeat (first | exact Kept.refl _ | refine Kept.alloc ?_ _ _)⟩

set_option maxHeartbeats 800000 in
theorem within3_no (B : Nat) (a b c m k l : Int) (w : World) (c0 : w.cell? ⟨B, 0, none⟩ = some (.int .i64 a)) (d0 : w.cell? ⟨B, 1, none⟩ = some (.int .i64 m)) (c1 : w.cell? ⟨B, 2, none⟩ = some (.int .i64 b)) (d1 : w.cell? ⟨B, 3, none⟩ = some (.int .i64 k)) (c2 : w.cell? ⟨B, 4, none⟩ = some (.int .i64 c)) (d2 : w.cell? ⟨B, 5, none⟩ = some (.int .i64 l)) (h : ¬ (0 ≤ a ∧ a ≤ m ∧ 0 ≤ b ∧ b ≤ k ∧ 0 ≤ c ∧ c ≤ l)) : Calls Try.prog 78 #[.slice (some ⟨B, 0, none⟩) 3 3] w fun e w' => e = .returned (.bool false) ∧ Kept w w' := by
  have hB := lt_of_cell c0
  by_cases n0 : a < 0
  · clear h
    go_enter Try.func78, Try.ntmps78
    go_wp2
    refine wp_loop_rounds 4 ?_
    rw [rounds_succ]
    go_wp2
    go_ret
    exact ⟨rfl, by repeat (first | exact Kept.refl _ | refine Kept.alloc ?_ _ _)⟩
  by_cases u0 : m < a
  · clear h
    go_enter Try.func78, Try.ntmps78
    go_wp2
    refine wp_loop_rounds 4 ?_
    rw [rounds_succ]
    go_wp2
    go_ret
    exact ⟨rfl, by repeat (first | exact Kept.refl _ | refine Kept.alloc ?_ _ _)⟩
  by_cases n1 : b < 0
  · clear h
    go_enter Try.func78, Try.ntmps78
    go_wp2
    refine wp_loop_rounds 4 ?_
    rw [rounds_succ]
    go_wp2
    rw [rounds_succ]
    go_wp2
    go_ret
    exact ⟨rfl, by repeat (first | exact Kept.refl _ | refine Kept.alloc ?_ _ _)⟩
  by_cases u1 : k < b
  · clear h
    go_enter Try.func78, Try.ntmps78
    go_wp2
    refine wp_loop_rounds 4 ?_
    rw [rounds_succ]
    go_wp2
    rw [rounds_succ]
    go_wp2
    go_ret
    exact ⟨rfl, by repeat (first | exact Kept.refl _ | refine Kept.alloc ?_ _ _)⟩
  by_cases n2 : c < 0
  · clear h
    go_enter Try.func78, Try.ntmps78
    go_wp2
    refine wp_loop_rounds 4 ?_
    rw [rounds_succ]
    go_wp2
    rw [rounds_succ]
    go_wp2
    rw [rounds_succ]
    go_wp2
    go_ret
    exact ⟨rfl, by repeat (first | exact Kept.refl _ | refine Kept.alloc ?_ _ _)⟩
  by_cases u2 : l < c
  · clear h
    go_enter Try.func78, Try.ntmps78
    go_wp2
    refine wp_loop_rounds 4 ?_
    rw [rounds_succ]
    go_wp2
    rw [rounds_succ]
    go_wp2
    rw [rounds_succ]
    go_wp2
    go_ret
    exact ⟨rfl, by repeat (first | exact Kept.refl _ | refine Kept.alloc ?_ _ _)⟩
  exact absurd (by omega) h

end Go.Proofs.Ytfcompikbeebaaa.Wo

namespace Go.Proofs.Ytfcompikbeebaaa.Wo
set_option maxRecDepth 20000
open Go.RowKit

set_option maxHeartbeats 800000 in
theorem put_top_bad (i t : Int) (w : World) (i0 : -9223372036854775808 ≤ i) (i1 : i ≤ 9223372036854775807) (hr : ¬ (-1 ≤ i ∧ i ≤ 65534 ∧ 0 ≤ t ∧ t ≤ 281474976710655)) : Calls Try.prog 64 #[.agg #[.int .i64 i, .int .i64 t]] w fun e w' => e = .returned (.tuple #[.int .u64 (0), .int .i64 3]) ∧ Kept w w' := by
  have HW : Hid (¬ (0 ≤ wrap64 (i + 1) ∧ wrap64 (i + 1) ≤ 65535 ∧ 0 ≤ t ∧ t ≤ 281474976710655)) := Lib.hid (by intro h; unfold wrap64 at h; exact hr (by omega))
  clear hr
  clear i0 i1
  go_enter Try.func64, Try.ntmps64
  go_wp2_with fail
  go_region_held3 (fun w' => w'.cell? ⟨w.heap.size, 0, none⟩ = some (.int .i64 i) ∧ w'.cell? ⟨w.heap.size, 1, none⟩ = some (.int .i64 t)) (first | (simp [World.cell?_alloc_at]; done) | go_keep | (exact ⟨hk.some (by simp [*]), hk.some (by simp [*])⟩)) (first | (go_at_call 79; refine (place_any _ _).mono ?_; rintro e w' ⟨rfl, rfl⟩) | (go_at_call 78; refine (within2_no _ _ _ _ _ _ ?_ ?_ ?_ ?_ HW.out).mono ?_; (all_goals (try (simp [*]; done))); rintro e w1 ⟨rfl, hk⟩))
  go_wp2
  go_ret2
  exact ⟨rfl, by repeat (first | exact Kept.refl _ | refine Kept.alloc ?_ _ _ | refine Kept.drew ?_ | refine Kept.drewN ?_ _ | refine Kept.trans ?_ (by assumption))⟩

set_option maxHeartbeats 800000 in
theorem put_top_good (i t : Int) (w : World)  (hr : -1 ≤ i ∧ i ≤ 65534 ∧ 0 ≤ t ∧ t ≤ 281474976710655) : Calls Try.prog 64 #[.agg #[.int .i64 i, .int .i64 t]] w fun e w' => e = .returned (.tuple #[.int .u64 (i + 1 + t * 65536), .int .i64 0]) ∧ Kept w w' := by
  have HW : Hid (0 ≤ i + 1 ∧ i + 1 ≤ 65535 ∧ 0 ≤ t ∧ t ≤ 281474976710655) := Lib.hid (by omega)
  have I0 := Lib.hid (show -1 ≤ i by omega); have I1 := Lib.hid (show i ≤ 65534 by omega)
  have HJ : ∀ w, Hid (Calls Try.prog 81 _ w _) := fun w => Lib.hid (joined_top (i + 1) t w (by omega) (by omega) (by omega) (by omega))
  clear hr
  go_enter Try.func64, Try.ntmps64
  go_wp2_with fail
  go_region_held3 (fun w' => w'.cell? ⟨w.heap.size, 0, none⟩ = some (.int .i64 i) ∧ w'.cell? ⟨w.heap.size, 1, none⟩ = some (.int .i64 t)) (first | (simp [World.cell?_alloc_at]; done) | go_keep | (exact ⟨hk.some (by simp [*]), hk.some (by simp [*])⟩)) (first | (go_at_call 79; refine (place_in _ I0.out I1.out _).mono ?_; rintro e w' ⟨rfl, rfl⟩) | (go_at_call 78; refine (within2_yes _ _ _ _ _ _ ?_ ?_ ?_ ?_ HW.out).mono ?_; (all_goals (try (simp [*]; done))); rintro e w1 ⟨rfl, hk⟩))
  go_wp2_with fail
  have hz := hk.size
  simp at hz
  have hk' := hk
  have s0 : w1.cell? ⟨w.heap.size, 0, none⟩ = some (.int .i64 i) := hk'.some (by simp [*])
  have s1 : w1.cell? ⟨w.heap.size, 1, none⟩ = some (.int .i64 t) := hk'.some (by simp [*])
  have K1 : Kept w w1 := by repeat (first | exact Kept.refl _ | refine Kept.alloc ?_ _ _ | refine Kept.drew ?_ | refine Kept.drewN ?_ _ | refine Kept.trans ?_ (by assumption))
  clear hz hk hk'
  go_region_held3 (fun w' => w'.cell? ⟨w.heap.size, 0, none⟩ = some (.int .i64 i) ∧ w'.cell? ⟨w.heap.size, 1, none⟩ = some (.int .i64 t)) (first | go_keep | (exact ⟨hk.some (by simp [*]), hk.some (by simp [*])⟩)) (first | (go_at_call 80; refine (table_topWord _ _).mono ?_; rintro e w1 ⟨rfl, hk⟩) | (go_at_call 79; refine (place_in _ I0.out I1.out _).mono ?_; rintro e w' ⟨rfl, rfl⟩) | (go_at_call 81; refine (HJ _).out.mono ?_; rintro e w1 ⟨rfl, hk⟩))
  go_wp2
  go_ret2
  exact ⟨rfl, by repeat (first | exact Kept.refl _ | refine Kept.alloc ?_ _ _ | refine Kept.drew ?_ | refine Kept.drewN ?_ _ | refine Kept.trans ?_ (by assumption))⟩

end Go.Proofs.Ytfcompikbeebaaa.Wo

namespace Go.Proofs.Ytfcompikbeebaaa.Wo
set_option maxRecDepth 20000
open Go.RowKit

theorem put_top (i t : Int) (w : World) (i0 : -9223372036854775808 ≤ i) (i1 : i ≤ 9223372036854775807) : Calls Try.prog 64 #[.agg #[.int .i64 i, .int .i64 t]] w fun e w' => e = .returned (.tuple #[.int .u64 (putTop i t).1, .int .i64 (putTop i t).2]) ∧ Kept w w' := by
  by_cases hr : -1 ≤ i ∧ i ≤ 65534 ∧ 0 ≤ t ∧ t ≤ 281474976710655
  · rw [putTop_good hr]; exact put_top_good i t w hr
  · rw [putTop_bad hr]; exact put_top_bad i t w i0 i1 hr

end Go.Proofs.Ytfcompikbeebaaa.Wo

namespace Go.Proofs.Ytfcompikbeebaaa.Wo
set_option maxRecDepth 20000
open Go.RowKit

set_option maxHeartbeats 800000 in
theorem meaning_top_yes (n : Int) (i t : Int) (w : World) (HP : ∀ w, Hid (Calls Try.prog 64 #[.agg #[.int .i64 i, .int .i64 t]] w fun e w' => e = .returned (.tuple #[.int .u64 n, .int .i64 0]) ∧ Kept w w')) : Calls Try.prog 93 #[.int .u64 n, .agg #[.int .i64 i, .int .i64 t], .func (.func 64) #[] #[]] w fun e w' => e = .returned (.tuple #[.agg #[.int .i64 i, .int .i64 t], .int .i64 0]) ∧ Kept w w' := by
  go_enter Try.func93, Try.ntmps93
  go_wp2_with fail
  refine (HP _).out.mono ?_
  rintro e w1 ⟨rfl, hk1⟩
  have hz := hk1.size
  simp at hz
  have s0 : w1.cell? ⟨w.heap.size, 0, none⟩ = some (.int .i64 i) := hk1.some (by simp [*])
  have s1 : w1.cell? ⟨w.heap.size, 1, none⟩ = some (.int .i64 t) := hk1.some (by simp [*])
  have r0 : w1.cell? ⟨w.heap.size + 1, 0, none⟩ = some (.int .i64 0) := hk1.some (by simp [*])
  have r1 : w1.cell? ⟨w.heap.size + 1, 1, none⟩ = some (.int .i64 0) := hk1.some (by simp [*])
  have f1 : ∀ o, w1.frozen? ⟨w.heap.size + 1, o, none⟩ = false := fun o => by rw [hk1.froze]; simp
  have K1 : Kept w w1 := ((((Kept.refl w).alloc _ _).alloc _ _).trans hk1)
  have hlt : w.heap.size + 1 < w1.heap.size := by omega
  clear hk1 hz
  go_wp2
  refine bodyPost_ret (v := .tuple #[.agg #[.int .i64 i, .int .i64 t], .int .i64 0]) ?_ rfl ⟨rfl, ?_⟩
  · simp [results, Try.results93, go_sem, r0, r1]
  · refine (Kept.setCell (Kept.setCell K1 ?_ _) ?_ _) <;> simp

end Go.Proofs.Ytfcompikbeebaaa.Wo

namespace Go.Proofs.Ytfcompikbeebaaa.Wo
set_option maxRecDepth 20000
open Go.RowKit

set_option maxHeartbeats 800000 in
theorem get_top_yes (n : Int) (w : World) (h0 : 0 ≤ n) (h1 : n < 18446744073709551616) : Calls Try.prog 85 #[.int .u64 n] w fun e w' => e = .returned (.tuple #[.agg #[.int .i64 (rIdx n), .int .i64 (tTag n)], .int .i64 0]) ∧ Kept w w' := by
  have HP : ∀ w, Hid (Calls Try.prog 64 #[.agg #[.int .i64 (rIdx n), .int .i64 (tTag n)]] w fun e w' => e = .returned (.tuple #[.int .u64 (n), .int .i64 (0)]) ∧ Kept w w') := fun w => Lib.hid (by
    have h := put_top (rIdx n) (tTag n) w (by have := rIdx_lo n; omega) (by have := rIdx_hi n; omega)
    rw [top_good n h0 h1] at h
    exact h)
  have H0 := Lib.hid h0; have H1 := Lib.hid h1
  clear h0 h1
  go_enter Try.func85, Try.ntmps85
  go_wp2_with fail
  refine (value_top _ _ H0.out H1.out).mono ?_
  rintro e w1 ⟨rfl, hk1⟩
  go_wp2_with fail
  refine (meaning_top_yes _ _ _ _ HP).mono ?_
  rintro e w2 ⟨rfl, hk2⟩
  have hz := (hk1.trans hk2).size
  simp at hz
  have r0 : w2.cell? ⟨w.heap.size, 0, none⟩ = some (.int .i64 0) := (hk1.trans hk2).some (by simp [*])
  have r1 : w2.cell? ⟨w.heap.size, 1, none⟩ = some (.int .i64 0) := (hk1.trans hk2).some (by simp [*])
  have f1 : ∀ o, w2.frozen? ⟨w.heap.size, o, none⟩ = false := fun o => by rw [(hk1.trans hk2).froze]; simp
  have K1 : Kept w w2 := (((Kept.refl w).alloc _ _).trans (hk1.trans hk2))
  have hlt : w.heap.size < w2.heap.size := by omega
  clear hk1 hk2 hz
  go_wp2
  refine bodyPost_ret (v := .tuple #[.agg #[.int .i64 (rIdx n), .int .i64 (tTag n)], .int .i64 0]) ?_ rfl ⟨rfl, ?_⟩
  · simp [results, Try.results85, go_sem, r0, r1]
  · refine (Kept.setCell (Kept.setCell K1 ?_ _) ?_ _) <;> simp

end Go.Proofs.Ytfcompikbeebaaa.Wo

namespace Go.Proofs.Ytfcompikbeebaaa.Sk
set_option maxRecDepth 20000
open Go.RowKit
open Wo (St acc wordAt)

theorem g_top (n : Int) (w : World) (h0 : 0 ≤ n) (h1 : n < 18446744073709551616) : Calls Try.prog 85 #[.int .u64 n] w fun e w' => e = .returned (.tuple #[.agg #[.int .i64 (n % 65536 - 1), .int .i64 (n / 65536 % 281474976710656)], .int .i64 0]) ∧ Kept w w' :=
  (Wo.get_top_yes n w h0 h1).mono fun _ _ ⟨x, k⟩ => ⟨x, kept_of k⟩
theorem u_top (i t : Int) (w : World) (h : -1 ≤ i ∧ i ≤ 65534 ∧ 0 ≤ t ∧ t ≤ 281474976710655) : Calls Try.prog 64 #[.agg #[.int .i64 i, .int .i64 t]] w fun e w' => e = .returned (.tuple #[.int .u64 (i + 1 + t * 65536), .int .i64 0]) ∧ Kept w w' :=
  (Wo.put_top_good i t w h).mono fun _ _ ⟨x, k⟩ => ⟨x, kept_of k⟩

set_option maxHeartbeats 400000 in
theorem place_yes (T K N i : Int) (w : World) (h0 : 0 ≤ i) (h1 : i < N) (h2 : i ≤ 65534) : Calls Try.prog 41 #[.agg #[.int .i64 T, .int .i64 K, .int .i64 N], .int .i64 i] w fun e w' => e = .returned (.bool true) ∧ Kept w w' := by
  go_enter Try.func41, Try.ntmps41
  go_wp2
  go_ret
  exact ⟨rfl, by (go_light; repeat (first | (with_reducible exact Kept.refl _) | (with_reducible assumption) | (with_reducible refine Kept.alloc ?_ _ _) | (with_reducible refine Kept.drew ?_) | (with_reducible refine Kept.drewN ?_ _) | ((with_reducible refine Kept.setCell ?_ ?_ _); rotate_left; focus (first | (simp; done) | (simp; omega))) | refine Kept.trans ?_ (by assumption)))⟩
set_option maxHeartbeats 400000 in
theorem place_no (T K N i : Int) (w : World) (h : i < 0 ∨ N ≤ i) : Calls Try.prog 41 #[.agg #[.int .i64 T, .int .i64 K, .int .i64 N], .int .i64 i] w fun e w' => e = .returned (.bool false) ∧ Kept w w' := by
  by_cases h0 : i < 0
  · clear h
    go_enter Try.func41, Try.ntmps41
    go_wp2
    go_ret
    exact ⟨rfl, by (go_light; repeat (first | (with_reducible exact Kept.refl _) | (with_reducible assumption) | (with_reducible refine Kept.alloc ?_ _ _) | (with_reducible refine Kept.drew ?_) | (with_reducible refine Kept.drewN ?_ _) | ((with_reducible refine Kept.setCell ?_ ?_ _); rotate_left; focus (first | (simp; done) | (simp; omega))) | refine Kept.trans ?_ (by assumption)))⟩
  · have h1 : N ≤ i := by omega
    have h2 : 0 ≤ i := by omega
    clear h h0
    go_enter Try.func41, Try.ntmps41
    go_wp2
    go_ret
    exact ⟨rfl, by (go_light; repeat (first | (with_reducible exact Kept.refl _) | (with_reducible assumption) | (with_reducible refine Kept.alloc ?_ _ _) | (with_reducible refine Kept.drew ?_) | (with_reducible refine Kept.drewN ?_ _) | ((with_reducible refine Kept.setCell ?_ ?_ _); rotate_left; focus (first | (simp; done) | (simp; omega))) | refine Kept.trans ?_ (by assumption)))⟩
set_option maxHeartbeats 400000 in
theorem link_any (T K N i : Int) (w : World) : Calls Try.prog 47 #[.agg #[.int .i64 T, .int .i64 K, .int .i64 N], .int .i64 i] w fun e w' => e = .returned (.int .i64 (wrap64 (K + i))) ∧ Kept w w' := by
  go_enter Try.func47, Try.ntmps47
  go_wp2
  go_ret
  exact ⟨rfl, by (go_light; repeat (first | (with_reducible exact Kept.refl _) | (with_reducible assumption) | (with_reducible refine Kept.alloc ?_ _ _) | (with_reducible refine Kept.drew ?_) | (with_reducible refine Kept.drewN ?_ _) | ((with_reducible refine Kept.setCell ?_ ?_ _); rotate_left; focus (first | (simp; done) | (simp; omega))) | refine Kept.trans ?_ (by assumption)))⟩
theorem link_in (T K N i : Int) (w : World) (h0 : 0 ≤ K) (h1 : K ≤ 100000) (h2 : -1 ≤ i) (h3 : i ≤ 100000) : Calls Try.prog 47 #[.agg #[.int .i64 T, .int .i64 K, .int .i64 N], .int .i64 i] w fun e w' => e = .returned (.int .i64 (K + i)) ∧ Kept w w' :=
  (link_any T K N i w).mono fun _ _ ⟨x, k⟩ => ⟨by rw [x, show wrap64 (K + i) = K + i by unfold wrap64; omega], k⟩

set_option maxHeartbeats 800000 in
theorem read_any (T K N x : Int) (w : World) (x0 : 0 ≤ x) (x1 : x < 18446744073709551616) : Calls Try.prog 68 #[.agg #[.int .i64 T, .int .i64 K, .int .i64 N], .int .u64 x] w fun e w' => e = .returned (.int .i64 (idx N x)) ∧ Kept w w' := by
  by_cases h : 0 ≤ x % 65536 - 1 ∧ x % 65536 - 1 < N
  · obtain ⟨h0, h1⟩ := h
    have E : Hid (idx N x = x % 65536 - 1) := Lib.hid (by unfold idx; rw [if_pos h1])
    have h2 : x % 65536 - 1 ≤ 65534 := by omega
    go_enter Try.func68, Try.ntmps68
    go_wp2_with fail
    refine (g_top x _ x0 x1).mono ?_
    rintro e w1 ⟨rfl, k1⟩
    have K1 : Kept w w1 := Kept.trans (b := _) (by (go_light; repeat (first | (with_reducible exact Kept.refl _) | (with_reducible assumption) | (with_reducible refine Kept.alloc ?_ _ _) | (with_reducible refine Kept.drew ?_) | (with_reducible refine Kept.drewN ?_ _) | ((with_reducible refine Kept.setCell ?_ ?_ _); rotate_left; focus (first | (simp; done) | (simp; omega))) | refine Kept.trans ?_ (by assumption)))) k1
    have c0 : w1.cell? ⟨w.heap.size, 0, none⟩ = some (.int .i64 T) := k1.some (by simp)
    have c1 : w1.cell? ⟨w.heap.size, 1, none⟩ = some (.int .i64 K) := k1.some (by simp)
    have c2 : w1.cell? ⟨w.heap.size, 2, none⟩ = some (.int .i64 N) := k1.some (by simp)
    have S1 := k1.size
    simp at S1
    have S2 : w.heap.size < w1.heap.size := by omega
    clear k1 S1
    go_wp2_with fail
    refine (place_yes T K N _ _ h0 h1 h2).mono ?_
    rintro e w2 ⟨rfl, k2⟩
    have c3 : w2.cell? ⟨w1.heap.size, 0, none⟩ = some (.int .i64 (x % 65536 - 1)) := k2.some (by simp)
    go_wp2
    go_ret
    exact ⟨by rw [E.out]; rfl, Kept.trans (b := _) (by (go_light; repeat (first | (with_reducible exact Kept.refl _) | (with_reducible assumption) | (with_reducible refine Kept.alloc ?_ _ _) | (with_reducible refine Kept.drew ?_) | (with_reducible refine Kept.drewN ?_ _) | ((with_reducible refine Kept.setCell ?_ ?_ _); rotate_left; focus (first | (simp; done) | (simp; omega))) | refine Kept.trans ?_ (by assumption)))) k2⟩
  · have E : Hid (idx N x = -1) := Lib.hid (by
      unfold idx
      split
      · omega
      · rfl)
    have h1 : x % 65536 - 1 < 0 ∨ N ≤ x % 65536 - 1 := by omega
    clear h
    go_enter Try.func68, Try.ntmps68
    go_wp2_with fail
    refine (g_top x _ x0 x1).mono ?_
    rintro e w1 ⟨rfl, k1⟩
    have K1 : Kept w w1 := Kept.trans (b := _) (by (go_light; repeat (first | (with_reducible exact Kept.refl _) | (with_reducible assumption) | (with_reducible refine Kept.alloc ?_ _ _) | (with_reducible refine Kept.drew ?_) | (with_reducible refine Kept.drewN ?_ _) | ((with_reducible refine Kept.setCell ?_ ?_ _); rotate_left; focus (first | (simp; done) | (simp; omega))) | refine Kept.trans ?_ (by assumption)))) k1
    have c0 : w1.cell? ⟨w.heap.size, 0, none⟩ = some (.int .i64 T) := k1.some (by simp)
    have c1 : w1.cell? ⟨w.heap.size, 1, none⟩ = some (.int .i64 K) := k1.some (by simp)
    have c2 : w1.cell? ⟨w.heap.size, 2, none⟩ = some (.int .i64 N) := k1.some (by simp)
    have S1 := k1.size
    simp at S1
    have S2 : w.heap.size < w1.heap.size := by omega
    clear k1 S1
    go_wp2_with fail
    refine (place_no T K N _ _ h1).mono ?_
    rintro e w2 ⟨rfl, k2⟩
    have c3 : w2.cell? ⟨w1.heap.size, 0, none⟩ = some (.int .i64 (x % 65536 - 1)) := k2.some (by simp)
    go_wp2
    go_ret
    exact ⟨by rw [E.out]; rfl, Kept.trans (b := _) (by (go_light; repeat (first | (with_reducible exact Kept.refl _) | (with_reducible assumption) | (with_reducible refine Kept.alloc ?_ _ _) | (with_reducible refine Kept.drew ?_) | (with_reducible refine Kept.drewN ?_ _) | ((with_reducible refine Kept.setCell ?_ ?_ _); rotate_left; focus (first | (simp; done) | (simp; omega))) | refine Kept.trans ?_ (by assumption)))) k2⟩

set_option maxHeartbeats 400000 in
theorem untagged_any (i : Int) (w : World) (h0 : -1 ≤ i) (h1 : i ≤ 65534) : Calls Try.prog 46 #[.int .i64 i] w fun e w' => e = .returned (.int .u64 (i + 1)) ∧ Kept w w' := by
  have hp : ∀ w, Hid (Calls Try.prog 64 #[.agg #[.int .i64 i, .int .i64 0]] w fun e w' => e = .returned (.tuple #[.int .u64 (i + 1), .int .i64 0]) ∧ Kept w w') := fun w => Lib.hid (by
    have h := u_top i 0 w ⟨h0, h1, by omega, by omega⟩
    rw [Int.zero_mul, Int.add_zero] at h
    exact h)
  clear h0 h1
  go_enter Try.func46, Try.ntmps46
  go_wp2_with fail
  refine (hp _).out.mono ?_
  rintro e w1 ⟨rfl, k1⟩
  go_wp2
  go_ret
  exact ⟨rfl, by (go_light; repeat (first | (with_reducible exact Kept.refl _) | (with_reducible assumption) | (with_reducible refine Kept.alloc ?_ _ _) | (with_reducible refine Kept.drew ?_) | (with_reducible refine Kept.drewN ?_ _) | ((with_reducible refine Kept.setCell ?_ ?_ _); rotate_left; focus (first | (simp; done) | (simp; omega))) | refine Kept.trans ?_ (by assumption)))⟩

theorem and_tag (x : Int) (h0 : 0 ≤ x) (h1 : x ≤ 281474976710656) : bits .and .i64 x 281474976710655 = x % 281474976710656 :=
  bits_mask .i64 62 (by decide) (fun n a b => by have := Wo.wi n a (by omega); unfold wrap64 at this; rw [IntKind.wrap_i64]; exact this) 48 (by decide) x h0 (by omega)

set_option maxHeartbeats 800000 in
theorem following_any (x i : Int) (w : World) (x0 : 0 ≤ x) (x1 : x < 18446744073709551616) (h0 : -1 ≤ i) (h1 : i ≤ 65534) : Calls Try.prog 96 #[.int .u64 x, .int .i64 i] w fun e w' => e = .returned (.int .u64 (topW i x)) ∧ Kept w w' := by
  have b0 : 0 ≤ x / 65536 % 281474976710656 := by omega
  have b1 : x / 65536 % 281474976710656 ≤ 281474976710655 := by omega
  have ha := and_tag (x / 65536 % 281474976710656 + 1) (by omega) (by omega)
  have hp : ∀ w, Hid (Calls Try.prog 64 #[.agg #[.int .i64 i, .int .i64 ((x / 65536 + 1) % 281474976710656)]] w fun e w' => e = .returned (.tuple #[.int .u64 (topW i x), .int .i64 0]) ∧ Kept w w') := fun w => Lib.hid (by
    exact u_top i ((x / 65536 + 1) % 281474976710656) w ⟨h0, h1, by omega, by omega⟩)
  clear h0 h1
  go_enter Try.func96, Try.ntmps96
  go_wp2_with fail
  refine (g_top x _ x0 x1).mono ?_
  rintro e w1 ⟨rfl, k1⟩
  go_wp2_with fail
  refine (hp _).out.mono ?_
  rintro e w2 ⟨rfl, k2⟩
  go_wp2
  go_ret
  exact ⟨rfl, by (go_light; repeat (first | (with_reducible exact Kept.refl _) | (with_reducible assumption) | (with_reducible refine Kept.alloc ?_ _ _) | (with_reducible refine Kept.drew ?_) | (with_reducible refine Kept.drewN ?_ _) | ((with_reducible refine Kept.setCell ?_ ?_ _); rotate_left; focus (first | (simp; done) | (simp; omega))) | refine Kept.trans ?_ (by assumption)))⟩

end Go.Proofs.Ytfcompikbeebaaa.Sk
