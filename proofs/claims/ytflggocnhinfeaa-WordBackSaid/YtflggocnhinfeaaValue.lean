/- What a word is of each kind, read by its table; and whether numbers are within their ranges. -/
import Derived.Test.YtflggocnhinfeaaJoin
import Derived.Deep.RegionHeld3
namespace Go.Proofs.Ytflggocnhinfeaa
open Go.RowKit

set_option maxHeartbeats 400000 in
theorem value_ref (n : Int) (w : World) (h0 : 0 ≤ n) (h1 : n < 18446744073709551616) : Calls Try.prog 44 #[.int .u64 n] w fun e w' => e = .returned (.agg #[.int .i64 (rIdx n), .int .i64 (rGen n), .bool (markOf n)]) ∧ Kept w w' := by
  have H0 := Lib.hid h0; have H1 := Lib.hid h1; clear h0 h1
  go_enter Try.func44, Try.ntmps44
  go_wp2_with fail
  refine (table_refWord _ _).mono ?_
  rintro e w1 ⟨rfl, hk1⟩
  have hc1 := hk1.cell
  have hz1 := hk1.size
  have hf1 := hk1.froze
  go_wp2_with fail
  refine (split_ref _ _ H0.out H1.out).mono ?_
  rintro e w2 ⟨rfl, hk2⟩
  have hc2 := hk2.cell
  have hz2 := hk2.size
  have hf2 := hk2.froze
  have hz1' : w.heap.size + 1 ≤ w1.heap.size := by simpa using hz1
  have hlt : w.heap.size < w2.heap.size := by omega
  have r0 : w2.cell? ⟨w.heap.size, 0, none⟩ = some (.int .i64 0) := by rw [hc2 _ _ (by omega), hc1 _ _ (by simp)]; simp
  have r1 : w2.cell? ⟨w.heap.size, 1, none⟩ = some (.int .i64 0) := by rw [hc2 _ _ (by omega), hc1 _ _ (by simp)]; simp
  have r2 : w2.cell? ⟨w.heap.size, 2, none⟩ = some (.bool false) := by rw [hc2 _ _ (by omega), hc1 _ _ (by simp)]; simp
  have f2 : ∀ o, w2.frozen? ⟨w.heap.size, o, none⟩ = false := fun o => by rw [hf2, hf1]; simp
  have K0 : Kept w w2 := ((Kept.refl w).alloc _ _).trans (hk1.trans hk2)
  clear hc1 hc2 hf1 hf2 hz1 hz2 hk1 hk2
  go_wp2_with fail
  go_region_held3 (fun w' => w'.cell? ⟨w2.heap.size, 0, none⟩ = some (.int .i64 (n % 65536)) ∧ w'.cell? ⟨w2.heap.size, 1, none⟩ = some (.int .i64 (n / 65536 % 4294967296)) ∧ w'.cell? ⟨w2.heap.size, 2, none⟩ = some (.int .i64 (n / 9223372036854775808 % 2))) (first | (simp [World.cell?_alloc_at]; done) | go_keep) (first | ((go_at_call 55; refine (index_any _ (by omega) (by omega) _).mono ?_; rintro e w' ⟨rfl, rfl⟩)))
  go_wp2
  refine bodyPost_ret (v := .agg #[(.int .i64 (n % 65536 - 1)), (.int .i64 (n / 65536 % 4294967296)), (.bool (n / 9223372036854775808 % 2 == 1))]) ?_ rfl ⟨by rw [show n / 9223372036854775808 % 2 = n / 9223372036854775808 by have := H0.out; have := H1.out; omega]; rfl, ?_⟩
  · simp [results, Try.results44, go_sem, r0, r1, r2, hlt]
  · refine Kept.drew (Kept.alloc (Kept.setCell (Kept.setCell (Kept.setCell K0 ?_ _) ?_ _) ?_ _) _ _) <;> simp

set_option maxHeartbeats 400000 in
theorem value_top (n : Int) (w : World) (h0 : 0 ≤ n) (h1 : n < 18446744073709551616) : Calls Try.prog 47 #[.int .u64 n] w fun e w' => e = .returned (.agg #[.int .i64 (rIdx n), .int .i64 (tTag n)]) ∧ Kept w w' := by
  have H0 := Lib.hid h0; have H1 := Lib.hid h1; clear h0 h1
  go_enter Try.func47, Try.ntmps47
  go_wp2_with fail
  refine (table_topWord _ _).mono ?_
  rintro e w1 ⟨rfl, hk1⟩
  have hc1 := hk1.cell
  have hz1 := hk1.size
  have hf1 := hk1.froze
  go_wp2_with fail
  refine (split_top _ _ H0.out H1.out).mono ?_
  rintro e w2 ⟨rfl, hk2⟩
  have hc2 := hk2.cell
  have hz2 := hk2.size
  have hf2 := hk2.froze
  have hz1' : w.heap.size + 1 ≤ w1.heap.size := by simpa using hz1
  have hlt : w.heap.size < w2.heap.size := by omega
  have r0 : w2.cell? ⟨w.heap.size, 0, none⟩ = some (.int .i64 0) := by rw [hc2 _ _ (by omega), hc1 _ _ (by simp)]; simp
  have r1 : w2.cell? ⟨w.heap.size, 1, none⟩ = some (.int .i64 0) := by rw [hc2 _ _ (by omega), hc1 _ _ (by simp)]; simp
  have f2 : ∀ o, w2.frozen? ⟨w.heap.size, o, none⟩ = false := fun o => by rw [hf2, hf1]; simp
  have K0 : Kept w w2 := ((Kept.refl w).alloc _ _).trans (hk1.trans hk2)
  clear hc1 hc2 hf1 hf2 hz1 hz2 hk1 hk2
  go_wp2_with fail
  go_region_held3 (fun w' => w'.cell? ⟨w2.heap.size, 0, none⟩ = some (.int .i64 (n % 65536)) ∧ w'.cell? ⟨w2.heap.size, 1, none⟩ = some (.int .i64 (n / 65536 % 281474976710656))) (first | (simp [World.cell?_alloc_at]; done) | go_keep) (first | ((go_at_call 55; refine (index_any _ (by omega) (by omega) _).mono ?_; rintro e w' ⟨rfl, rfl⟩)))
  go_wp2
  refine bodyPost_ret (v := .agg #[(.int .i64 (n % 65536 - 1)), (.int .i64 (n / 65536 % 281474976710656))]) ?_ rfl ⟨rfl, ?_⟩
  · simp [results, Try.results47, go_sem, r0, r1, hlt]
  · refine Kept.drew (Kept.alloc (Kept.setCell (Kept.setCell K0 ?_ _) ?_ _) _ _) <;> simp

set_option maxHeartbeats 400000 in
theorem value_slot (n : Int) (w : World) (h0 : 0 ≤ n) (h1 : n < 18446744073709551616) : Calls Try.prog 49 #[.int .u64 n] w fun e w' => e = .returned (.agg #[.int .i64 (sLap n), .bool (sFull n), .int .i64 (sVal n)]) ∧ Kept w w' := by
  have H0 := Lib.hid h0; have H1 := Lib.hid h1; clear h0 h1
  go_enter Try.func49, Try.ntmps49
  go_wp2_with fail
  refine (table_slotWord _ _).mono ?_
  rintro e w1 ⟨rfl, hk1⟩
  have hc1 := hk1.cell
  have hz1 := hk1.size
  have hf1 := hk1.froze
  go_wp2_with fail
  refine (split_slot _ _ H0.out H1.out).mono ?_
  rintro e w2 ⟨rfl, hk2⟩
  have hc2 := hk2.cell
  have hz2 := hk2.size
  have hf2 := hk2.froze
  have hz1' : w.heap.size + 1 ≤ w1.heap.size := by simpa using hz1
  have hlt : w.heap.size < w2.heap.size := by omega
  have r0 : w2.cell? ⟨w.heap.size, 0, none⟩ = some (.int .i64 0) := by rw [hc2 _ _ (by omega), hc1 _ _ (by simp)]; simp
  have r1 : w2.cell? ⟨w.heap.size, 1, none⟩ = some (.bool false) := by rw [hc2 _ _ (by omega), hc1 _ _ (by simp)]; simp
  have r2 : w2.cell? ⟨w.heap.size, 2, none⟩ = some (.int .i64 0) := by rw [hc2 _ _ (by omega), hc1 _ _ (by simp)]; simp
  have f2 : ∀ o, w2.frozen? ⟨w.heap.size, o, none⟩ = false := fun o => by rw [hf2, hf1]; simp
  have K0 : Kept w w2 := ((Kept.refl w).alloc _ _).trans (hk1.trans hk2)
  clear hc1 hc2 hf1 hf2 hz1 hz2 hk1 hk2
  go_wp2_with fail
  go_wp2
  refine bodyPost_ret (v := .agg #[(.int .i64 (n / 4294967296 % 4294967296)), (.bool (n / 65536 % 2 == 1)), (.int .i64 (n % 65536))]) ?_ rfl ⟨rfl, ?_⟩
  · simp [results, Try.results49, go_sem, r0, r1, r2, hlt]
  · refine Kept.alloc (Kept.setCell (Kept.setCell (Kept.setCell K0 ?_ _) ?_ _) ?_ _) _ _ <;> simp

set_option maxHeartbeats 400000 in
theorem value_key (n : Int) (w : World) (h0 : 0 ≤ n) (h1 : n < 18446744073709551616) : Calls Try.prog 51 #[.int .u64 n] w fun e w' => e = .returned (.agg #[.int .i64 (kPrio n), .int .i64 (kSeq n), .int .i64 (sVal n)]) ∧ Kept w w' := by
  have H0 := Lib.hid h0; have H1 := Lib.hid h1; clear h0 h1
  go_enter Try.func51, Try.ntmps51
  go_wp2_with fail
  refine (table_keyWord _ _).mono ?_
  rintro e w1 ⟨rfl, hk1⟩
  have hc1 := hk1.cell
  have hz1 := hk1.size
  have hf1 := hk1.froze
  go_wp2_with fail
  refine (split_key _ _ H0.out H1.out).mono ?_
  rintro e w2 ⟨rfl, hk2⟩
  have hc2 := hk2.cell
  have hz2 := hk2.size
  have hf2 := hk2.froze
  have hz1' : w.heap.size + 1 ≤ w1.heap.size := by simpa using hz1
  have hlt : w.heap.size < w2.heap.size := by omega
  have r0 : w2.cell? ⟨w.heap.size, 0, none⟩ = some (.int .i64 0) := by rw [hc2 _ _ (by omega), hc1 _ _ (by simp)]; simp
  have r1 : w2.cell? ⟨w.heap.size, 1, none⟩ = some (.int .i64 0) := by rw [hc2 _ _ (by omega), hc1 _ _ (by simp)]; simp
  have r2 : w2.cell? ⟨w.heap.size, 2, none⟩ = some (.int .i64 0) := by rw [hc2 _ _ (by omega), hc1 _ _ (by simp)]; simp
  have f2 : ∀ o, w2.frozen? ⟨w.heap.size, o, none⟩ = false := fun o => by rw [hf2, hf1]; simp
  have K0 : Kept w w2 := ((Kept.refl w).alloc _ _).trans (hk1.trans hk2)
  clear hc1 hc2 hf1 hf2 hz1 hz2 hk1 hk2
  go_wp2_with fail
  go_wp2
  refine bodyPost_ret (v := .agg #[(.int .i64 (n / 72057594037927936 % 256)), (.int .i64 (n / 65536 % 1099511627776)), (.int .i64 (n % 65536))]) ?_ rfl ⟨rfl, ?_⟩
  · simp [results, Try.results51, go_sem, r0, r1, r2, hlt]
  · refine Kept.alloc (Kept.setCell (Kept.setCell (Kept.setCell K0 ?_ _) ?_ _) ?_ _) _ _ <;> simp

set_option maxHeartbeats 400000 in
theorem within2_yes (B : Nat) (a b m k : Int) (w : World) (c0 : w.cell? ⟨B, 0, none⟩ = some (.int .i64 a)) (d0 : w.cell? ⟨B, 1, none⟩ = some (.int .i64 m)) (c1 : w.cell? ⟨B, 2, none⟩ = some (.int .i64 b)) (d1 : w.cell? ⟨B, 3, none⟩ = some (.int .i64 k)) (h : 0 ≤ a ∧ a ≤ m ∧ 0 ≤ b ∧ b ≤ k) : Calls Try.prog 34 #[.slice (some ⟨B, 0, none⟩) 2 2] w fun e w' => e = .returned (.bool true) ∧ Kept w w' := by
  have hB := lt_of_cell c0
  obtain ⟨p0, q0, p1, q1⟩ := h
  go_enter Try.func34, Try.ntmps34
  go_wp2
  refine wp_loop_rounds 3 ?_
  rw [rounds_succ]
  go_wp2
  rw [rounds_succ]
  go_wp2
  rw [rounds_succ]
  go_wp2
  go_ret
  exact ⟨rfl, by repeat (first | exact Kept.refl _ | refine Kept.alloc ?_ _ _)⟩

set_option maxHeartbeats 800000 in
theorem within2_no (B : Nat) (a b m k : Int) (w : World) (c0 : w.cell? ⟨B, 0, none⟩ = some (.int .i64 a)) (d0 : w.cell? ⟨B, 1, none⟩ = some (.int .i64 m)) (c1 : w.cell? ⟨B, 2, none⟩ = some (.int .i64 b)) (d1 : w.cell? ⟨B, 3, none⟩ = some (.int .i64 k)) (h : ¬ (0 ≤ a ∧ a ≤ m ∧ 0 ≤ b ∧ b ≤ k)) : Calls Try.prog 34 #[.slice (some ⟨B, 0, none⟩) 2 2] w fun e w' => e = .returned (.bool false) ∧ Kept w w' := by
  have hB := lt_of_cell c0
  by_cases n0 : a < 0
  · clear h
    go_enter Try.func34, Try.ntmps34
    go_wp2
    refine wp_loop_rounds 3 ?_
    rw [rounds_succ]
    go_wp2
    go_ret
    exact ⟨rfl, by repeat (first | exact Kept.refl _ | refine Kept.alloc ?_ _ _)⟩
  by_cases u0 : m < a
  · clear h
    go_enter Try.func34, Try.ntmps34
    go_wp2
    refine wp_loop_rounds 3 ?_
    rw [rounds_succ]
    go_wp2
    go_ret
    exact ⟨rfl, by repeat (first | exact Kept.refl _ | refine Kept.alloc ?_ _ _)⟩
  by_cases n1 : b < 0
  · clear h
    go_enter Try.func34, Try.ntmps34
    go_wp2
    refine wp_loop_rounds 3 ?_
    rw [rounds_succ]
    go_wp2
    rw [rounds_succ]
    go_wp2
    go_ret
    exact ⟨rfl, by repeat (first | exact Kept.refl _ | refine Kept.alloc ?_ _ _)⟩
  by_cases u1 : k < b
  · clear h
    go_enter Try.func34, Try.ntmps34
    go_wp2
    refine wp_loop_rounds 3 ?_
    rw [rounds_succ]
    go_wp2
    rw [rounds_succ]
    go_wp2
    go_ret
    exact ⟨rfl, by repeat (first | exact Kept.refl _ | refine Kept.alloc ?_ _ _)⟩
  exact absurd (by omega) h

set_option maxHeartbeats 400000 in
theorem within3_yes (B : Nat) (a b c m k l : Int) (w : World) (c0 : w.cell? ⟨B, 0, none⟩ = some (.int .i64 a)) (d0 : w.cell? ⟨B, 1, none⟩ = some (.int .i64 m)) (c1 : w.cell? ⟨B, 2, none⟩ = some (.int .i64 b)) (d1 : w.cell? ⟨B, 3, none⟩ = some (.int .i64 k)) (c2 : w.cell? ⟨B, 4, none⟩ = some (.int .i64 c)) (d2 : w.cell? ⟨B, 5, none⟩ = some (.int .i64 l)) (h : 0 ≤ a ∧ a ≤ m ∧ 0 ≤ b ∧ b ≤ k ∧ 0 ≤ c ∧ c ≤ l) : Calls Try.prog 34 #[.slice (some ⟨B, 0, none⟩) 3 3] w fun e w' => e = .returned (.bool true) ∧ Kept w w' := by
  have hB := lt_of_cell c0
  obtain ⟨p0, q0, p1, q1, p2, q2⟩ := h
  go_enter Try.func34, Try.ntmps34
  go_wp2
  refine wp_loop_rounds 4 ?_
  rw [rounds_succ]
  go_wp2
  rw [rounds_succ]
  go_wp2
  rw [rounds_succ]
  go_wp2
  rw [rounds_succ]
  go_wp2
  go_ret
  exact ⟨rfl, by repeat (first | exact Kept.refl _ | refine Kept.alloc ?_ _ _)⟩

set_option maxHeartbeats 800000 in
theorem within3_no (B : Nat) (a b c m k l : Int) (w : World) (c0 : w.cell? ⟨B, 0, none⟩ = some (.int .i64 a)) (d0 : w.cell? ⟨B, 1, none⟩ = some (.int .i64 m)) (c1 : w.cell? ⟨B, 2, none⟩ = some (.int .i64 b)) (d1 : w.cell? ⟨B, 3, none⟩ = some (.int .i64 k)) (c2 : w.cell? ⟨B, 4, none⟩ = some (.int .i64 c)) (d2 : w.cell? ⟨B, 5, none⟩ = some (.int .i64 l)) (h : ¬ (0 ≤ a ∧ a ≤ m ∧ 0 ≤ b ∧ b ≤ k ∧ 0 ≤ c ∧ c ≤ l)) : Calls Try.prog 34 #[.slice (some ⟨B, 0, none⟩) 3 3] w fun e w' => e = .returned (.bool false) ∧ Kept w w' := by
  have hB := lt_of_cell c0
  by_cases n0 : a < 0
  · clear h
    go_enter Try.func34, Try.ntmps34
    go_wp2
    refine wp_loop_rounds 4 ?_
    rw [rounds_succ]
    go_wp2
    go_ret
    exact ⟨rfl, by repeat (first | exact Kept.refl _ | refine Kept.alloc ?_ _ _)⟩
  by_cases u0 : m < a
  · clear h
    go_enter Try.func34, Try.ntmps34
    go_wp2
    refine wp_loop_rounds 4 ?_
    rw [rounds_succ]
    go_wp2
    go_ret
    exact ⟨rfl, by repeat (first | exact Kept.refl _ | refine Kept.alloc ?_ _ _)⟩
  by_cases n1 : b < 0
  · clear h
    go_enter Try.func34, Try.ntmps34
    go_wp2
    refine wp_loop_rounds 4 ?_
    rw [rounds_succ]
    go_wp2
    rw [rounds_succ]
    go_wp2
    go_ret
    exact ⟨rfl, by repeat (first | exact Kept.refl _ | refine Kept.alloc ?_ _ _)⟩
  by_cases u1 : k < b
  · clear h
    go_enter Try.func34, Try.ntmps34
    go_wp2
    refine wp_loop_rounds 4 ?_
    rw [rounds_succ]
    go_wp2
    rw [rounds_succ]
    go_wp2
    go_ret
    exact ⟨rfl, by repeat (first | exact Kept.refl _ | refine Kept.alloc ?_ _ _)⟩
  by_cases n2 : c < 0
  · clear h
    go_enter Try.func34, Try.ntmps34
    go_wp2
    refine wp_loop_rounds 4 ?_
    rw [rounds_succ]
    go_wp2
    rw [rounds_succ]
    go_wp2
    rw [rounds_succ]
    go_wp2
    go_ret
    exact ⟨rfl, by repeat (first | exact Kept.refl _ | refine Kept.alloc ?_ _ _)⟩
  by_cases u2 : l < c
  · clear h
    go_enter Try.func34, Try.ntmps34
    go_wp2
    refine wp_loop_rounds 4 ?_
    rw [rounds_succ]
    go_wp2
    rw [rounds_succ]
    go_wp2
    rw [rounds_succ]
    go_wp2
    go_ret
    exact ⟨rfl, by repeat (first | exact Kept.refl _ | refine Kept.alloc ?_ _ _)⟩
  exact absurd (by omega) h

end Go.Proofs.Ytflggocnhinfeaa
