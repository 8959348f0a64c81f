/- A memory that is nil, or that nobody made: what its methods answer; and the walk of CellsNone. -/
import Derived.Test.YtfndjklpjjcelaaKnown
import Derived.Test.YtfndjklpjjcelaaPWords
namespace Go.Proofs.Ytfndjklpjjcelaa
open Go.RowKit

set_option maxHeartbeats 1000000 in
theorem valid_nil (w : World) : Calls Try.prog 39 #[.pointer none] w fun e w' => e = .returned (.bool false) ∧ w = w' := by
  go_enter Try.func39, Try.ntmps39
  go_wp2
  go_ret
  exact ⟨rfl, rfl⟩
set_option maxHeartbeats 1000000 in
theorem no_size_nil (w : World) : Calls Try.prog 22 #[.pointer none] w fun e w' => e = .returned (.int .i64 0) ∧ w = w' := by
  go_enter Try.func22, Try.ntmps22
  go_wp2_with fail
  refine (valid_nil _).mono ?_
  rintro e w' ⟨rfl, rfl⟩
  go_wp2
  go_ret
  exact ⟨rfl, rfl⟩
set_option maxHeartbeats 1000000 in
theorem no_count_nil (w : World) : Calls Try.prog 21 #[.pointer none] w fun e w' => e = .returned (.int .i64 0) ∧ w = w' := by
  go_enter Try.func21, Try.ntmps21
  go_wp2_with fail
  refine (valid_nil _).mono ?_
  rintro e w' ⟨rfl, rfl⟩
  go_wp2
  go_ret
  exact ⟨rfl, rfl⟩
set_option maxHeartbeats 1000000 in
theorem no_words_nil (w : World) : Calls Try.prog 19 #[.pointer none] w fun e w' => e = .returned (.slice none 0 0) ∧ w = w' := by
  go_enter Try.func19, Try.ntmps19
  go_wp2_with fail
  refine (valid_nil _).mono ?_
  rintro e w' ⟨rfl, rfl⟩
  go_wp2
  go_ret
  exact ⟨rfl, rfl⟩
set_option maxHeartbeats 1000000 in
theorem no_copy_nil (w : World) : Calls Try.prog 25 #[.pointer none] w fun e w' => e = .returned (.pointer none) ∧ w = w' := by
  go_enter Try.func25, Try.ntmps25
  go_wp2_with fail
  refine (valid_nil _).mono ?_
  rintro e w' ⟨rfl, rfl⟩
  go_wp2
  go_ret
  exact ⟨rfl, rfl⟩
set_option maxHeartbeats 1000000 in
theorem cell_nil (i : Int) (w : World) : Calls Try.prog 32 #[.pointer none, .int .i64 i] w fun e w' => e = .returned (.pointer none) ∧ w = w' := by
  by_cases h : i < 0
  · go_enter Try.func32, Try.ntmps32
    go_wp2
    go_ret
    exact ⟨rfl, rfl⟩
  · have h' : 0 ≤ i := by omega
    go_enter Try.func32, Try.ntmps32
    go_wp2_with fail
    refine (no_size_nil _).mono ?_
    rintro e w' ⟨rfl, rfl⟩
    go_wp2
    go_ret
    exact ⟨rfl, rfl⟩
set_option maxHeartbeats 1000000 in
theorem access_nil (k i : Int) (F : Value) (w : World) : Calls Try.prog 31 #[.pointer none, .int .i64 k, .int .i64 i, F] w fun e w' => e = .returned (.agg #[.int .i64 0, .int .i64 0, .int .u64 0, .int .u64 0, .bool false]) ∧ Kept w w' := by
  go_enter Try.func31, Try.ntmps31
  go_wp2_with fail
  refine (valid_nil _).mono ?_
  rintro e w' ⟨rfl, rfl⟩
  go_wp2
  refine bodyPost_ret (v := (.agg #[.int .i64 0, .int .i64 0, .int .u64 0, .int .u64 0, .bool false])) (by simp [results, Try.results31, go_sem]) rfl ⟨rfl, ?_⟩
  (go_light; repeat (first | (with_reducible exact Kept.refl _) | (with_reducible assumption) | (with_reducible refine Kept.alloc ?_ _ _) | (with_reducible refine Kept.drew ?_) | (with_reducible refine Kept.drewN ?_ _) | ((with_reducible refine Kept.setCell ?_ ?_ _); rotate_left; focus (first | (simp; done) | (simp; omega))) | refine Kept.trans ?_ (by assumption)))
set_option maxHeartbeats 1000000 in
theorem no_last_nil (w : World) : Calls Try.prog 20 #[.pointer none] w fun e w' => e = .returned (.agg #[.int .i64 0, .int .i64 0, .int .u64 0, .int .u64 0, .bool false]) ∧ Kept w w' := by
  go_enter Try.func20, Try.ntmps20
  go_wp2_with fail
  refine (valid_nil _).mono ?_
  rintro e w' ⟨rfl, rfl⟩
  go_wp2
  refine bodyPost_ret (v := (.agg #[.int .i64 0, .int .i64 0, .int .u64 0, .int .u64 0, .bool false])) (by simp [results, Try.results20, go_sem]) rfl ⟨rfl, ?_⟩
  (go_light; repeat (first | (with_reducible exact Kept.refl _) | (with_reducible assumption) | (with_reducible refine Kept.alloc ?_ _ _) | (with_reducible refine Kept.drew ?_) | (with_reducible refine Kept.drewN ?_ _) | ((with_reducible refine Kept.setCell ?_ ?_ _); rotate_left; focus (first | (simp; done) | (simp; omega))) | refine Kept.trans ?_ (by assumption)))
set_option maxHeartbeats 1000000 in
theorem no_load_nil (i : Int) (w : World) : Calls Try.prog 11 #[.pointer none, .int .i64 i] w fun e w' => e = .returned (.int .u64 0) ∧ Kept w w' := by
  have hfn := field_new
  have hfh := field_held
  go_enter Try.func11, Try.ntmps11
  go_wp2_with fail
  refine (cell_nil _ _).mono ?_
  rintro e w' ⟨rfl, rfl⟩
  go_wp2_with fail
  refine (access_nil _ _ _ _).mono ?_
  rintro e w' ⟨rfl, k⟩
  go_wp2
  go_ret
  exact ⟨rfl, k⟩
set_option maxHeartbeats 1000000 in
theorem no_store_nil (i x : Int) (w : World) : Calls Try.prog 13 #[.pointer none, .int .i64 i, .int .u64 x] w fun e w' => e = .returned (.tuple #[]) ∧ Kept w w' := by
  have hfn := field_new
  have hfh := field_held
  go_enter Try.func13, Try.ntmps13
  go_wp2_with fail
  refine (cell_nil _ _).mono ?_
  rintro e w' ⟨rfl, rfl⟩
  go_wp2_with fail
  refine (access_nil _ _ _ _).mono ?_
  rintro e w' ⟨rfl, k⟩
  go_wp2
  go_end0
  exact ⟨rfl, k⟩
set_option maxHeartbeats 1000000 in
theorem no_cas_nil (i x y : Int) (w : World) : Calls Try.prog 15 #[.pointer none, .int .i64 i, .int .u64 x, .int .u64 y] w fun e w' => e = .returned (.bool false) ∧ Kept w w' := by
  have hfn := field_new
  have hfh := field_held
  go_enter Try.func15, Try.ntmps15
  go_wp2_with fail
  refine (cell_nil _ _).mono ?_
  rintro e w' ⟨rfl, rfl⟩
  go_wp2_with fail
  refine (access_nil _ _ _ _).mono ?_
  rintro e w' ⟨rfl, k⟩
  go_wp2
  go_ret
  exact ⟨rfl, k⟩
set_option maxHeartbeats 1000000 in
theorem no_add_nil (i x : Int) (w : World) : Calls Try.prog 17 #[.pointer none, .int .i64 i, .int .u64 x] w fun e w' => e = .returned (.int .u64 0) ∧ Kept w w' := by
  have hfn := field_new
  have hfh := field_held
  go_enter Try.func17, Try.ntmps17
  go_wp2_with fail
  refine (cell_nil _ _).mono ?_
  rintro e w' ⟨rfl, rfl⟩
  go_wp2_with fail
  refine (access_nil _ _ _ _).mono ?_
  rintro e w' ⟨rfl, k⟩
  go_wp2
  go_ret
  exact ⟨rfl, k⟩
set_option maxHeartbeats 1000000 in
theorem valid_none (M : Nat) (w : World) (hp : w.cell? ⟨M, 0, none⟩ = some (.pointer none)) : Calls Try.prog 39 #[.pointer (some ⟨M, 0, none⟩)] w fun e w' => e = .returned (.bool false) ∧ w = w' := by
  go_enter Try.func39, Try.ntmps39
  go_wp2
  go_ret
  exact ⟨rfl, rfl⟩
set_option maxHeartbeats 1000000 in
theorem no_size_none (M : Nat) (w : World) (hp : w.cell? ⟨M, 0, none⟩ = some (.pointer none)) : Calls Try.prog 22 #[.pointer (some ⟨M, 0, none⟩)] w fun e w' => e = .returned (.int .i64 0) ∧ w = w' := by
  go_enter Try.func22, Try.ntmps22
  go_wp2_with fail
  refine (valid_none M _ hp).mono ?_
  rintro e w' ⟨rfl, rfl⟩
  go_wp2
  go_ret
  exact ⟨rfl, rfl⟩
set_option maxHeartbeats 1000000 in
theorem no_count_none (M : Nat) (w : World) (hp : w.cell? ⟨M, 0, none⟩ = some (.pointer none)) : Calls Try.prog 21 #[.pointer (some ⟨M, 0, none⟩)] w fun e w' => e = .returned (.int .i64 0) ∧ w = w' := by
  go_enter Try.func21, Try.ntmps21
  go_wp2_with fail
  refine (valid_none M _ hp).mono ?_
  rintro e w' ⟨rfl, rfl⟩
  go_wp2
  go_ret
  exact ⟨rfl, rfl⟩
set_option maxHeartbeats 1000000 in
theorem no_words_none (M : Nat) (w : World) (hp : w.cell? ⟨M, 0, none⟩ = some (.pointer none)) : Calls Try.prog 19 #[.pointer (some ⟨M, 0, none⟩)] w fun e w' => e = .returned (.slice none 0 0) ∧ w = w' := by
  go_enter Try.func19, Try.ntmps19
  go_wp2_with fail
  refine (valid_none M _ hp).mono ?_
  rintro e w' ⟨rfl, rfl⟩
  go_wp2
  go_ret
  exact ⟨rfl, rfl⟩
set_option maxHeartbeats 1000000 in
theorem no_copy_none (M : Nat) (w : World) (hp : w.cell? ⟨M, 0, none⟩ = some (.pointer none)) : Calls Try.prog 25 #[.pointer (some ⟨M, 0, none⟩)] w fun e w' => e = .returned (.pointer none) ∧ w = w' := by
  go_enter Try.func25, Try.ntmps25
  go_wp2_with fail
  refine (valid_none M _ hp).mono ?_
  rintro e w' ⟨rfl, rfl⟩
  go_wp2
  go_ret
  exact ⟨rfl, rfl⟩
set_option maxHeartbeats 1000000 in
theorem cell_none (M : Nat) (i : Int) (w : World) (hp : w.cell? ⟨M, 0, none⟩ = some (.pointer none)) : Calls Try.prog 32 #[.pointer (some ⟨M, 0, none⟩), .int .i64 i] w fun e w' => e = .returned (.pointer none) ∧ w = w' := by
  by_cases h : i < 0
  · go_enter Try.func32, Try.ntmps32
    go_wp2
    go_ret
    exact ⟨rfl, rfl⟩
  · have h' : 0 ≤ i := by omega
    go_enter Try.func32, Try.ntmps32
    go_wp2_with fail
    refine (no_size_none M _ hp).mono ?_
    rintro e w' ⟨rfl, rfl⟩
    go_wp2
    go_ret
    exact ⟨rfl, rfl⟩
set_option maxHeartbeats 1000000 in
theorem access_none (M : Nat) (k i : Int) (F : Value) (w : World) (hp : w.cell? ⟨M, 0, none⟩ = some (.pointer none)) : Calls Try.prog 31 #[.pointer (some ⟨M, 0, none⟩), .int .i64 k, .int .i64 i, F] w fun e w' => e = .returned (.agg #[.int .i64 0, .int .i64 0, .int .u64 0, .int .u64 0, .bool false]) ∧ Kept w w' := by
  have hM := lt_of_cell hp
  go_enter Try.func31, Try.ntmps31
  go_wp2_with fail
  refine (valid_none M _ (Kept.some (w := w) (by (go_light; repeat (first | (with_reducible exact Kept.refl _) | (with_reducible assumption) | (with_reducible refine Kept.alloc ?_ _ _) | (with_reducible refine Kept.drew ?_) | (with_reducible refine Kept.drewN ?_ _) | ((with_reducible refine Kept.setCell ?_ ?_ _); rotate_left; focus (first | (simp; done) | (simp; omega))) | refine Kept.trans ?_ (by assumption)))) hp)).mono ?_
  rintro e w' ⟨rfl, rfl⟩
  go_wp2
  refine bodyPost_ret (v := (.agg #[.int .i64 0, .int .i64 0, .int .u64 0, .int .u64 0, .bool false])) (by simp [results, Try.results31, go_sem]) rfl ⟨rfl, ?_⟩
  (go_light; repeat (first | (with_reducible exact Kept.refl _) | (with_reducible assumption) | (with_reducible refine Kept.alloc ?_ _ _) | (with_reducible refine Kept.drew ?_) | (with_reducible refine Kept.drewN ?_ _) | ((with_reducible refine Kept.setCell ?_ ?_ _); rotate_left; focus (first | (simp; done) | (simp; omega))) | refine Kept.trans ?_ (by assumption)))
set_option maxHeartbeats 1000000 in
theorem no_last_none (M : Nat) (w : World) (hp : w.cell? ⟨M, 0, none⟩ = some (.pointer none)) : Calls Try.prog 20 #[.pointer (some ⟨M, 0, none⟩)] w fun e w' => e = .returned (.agg #[.int .i64 0, .int .i64 0, .int .u64 0, .int .u64 0, .bool false]) ∧ Kept w w' := by
  have hM := lt_of_cell hp
  go_enter Try.func20, Try.ntmps20
  go_wp2_with fail
  refine (valid_none M _ (Kept.some (w := w) (by (go_light; repeat (first | (with_reducible exact Kept.refl _) | (with_reducible assumption) | (with_reducible refine Kept.alloc ?_ _ _) | (with_reducible refine Kept.drew ?_) | (with_reducible refine Kept.drewN ?_ _) | ((with_reducible refine Kept.setCell ?_ ?_ _); rotate_left; focus (first | (simp; done) | (simp; omega))) | refine Kept.trans ?_ (by assumption)))) hp)).mono ?_
  rintro e w' ⟨rfl, rfl⟩
  go_wp2
  refine bodyPost_ret (v := (.agg #[.int .i64 0, .int .i64 0, .int .u64 0, .int .u64 0, .bool false])) (by simp [results, Try.results20, go_sem]) rfl ⟨rfl, ?_⟩
  (go_light; repeat (first | (with_reducible exact Kept.refl _) | (with_reducible assumption) | (with_reducible refine Kept.alloc ?_ _ _) | (with_reducible refine Kept.drew ?_) | (with_reducible refine Kept.drewN ?_ _) | ((with_reducible refine Kept.setCell ?_ ?_ _); rotate_left; focus (first | (simp; done) | (simp; omega))) | refine Kept.trans ?_ (by assumption)))
set_option maxHeartbeats 1000000 in
theorem no_load_none (M : Nat) (i : Int) (w : World) (hp : w.cell? ⟨M, 0, none⟩ = some (.pointer none)) : Calls Try.prog 11 #[.pointer (some ⟨M, 0, none⟩), .int .i64 i] w fun e w' => e = .returned (.int .u64 0) ∧ Kept w w' := by
  have hfn := field_new
  have hfh := field_held
  go_enter Try.func11, Try.ntmps11
  go_wp2_with fail
  refine (cell_none M _ _ hp).mono ?_
  rintro e w' ⟨rfl, rfl⟩
  go_wp2_with fail
  refine (access_none M _ _ _ _ hp).mono ?_
  rintro e w' ⟨rfl, k⟩
  go_wp2
  go_ret
  exact ⟨rfl, k⟩
set_option maxHeartbeats 1000000 in
theorem no_store_none (M : Nat) (i x : Int) (w : World) (hp : w.cell? ⟨M, 0, none⟩ = some (.pointer none)) : Calls Try.prog 13 #[.pointer (some ⟨M, 0, none⟩), .int .i64 i, .int .u64 x] w fun e w' => e = .returned (.tuple #[]) ∧ Kept w w' := by
  have hfn := field_new
  have hfh := field_held
  go_enter Try.func13, Try.ntmps13
  go_wp2_with fail
  refine (cell_none M _ _ hp).mono ?_
  rintro e w' ⟨rfl, rfl⟩
  go_wp2_with fail
  refine (access_none M _ _ _ _ hp).mono ?_
  rintro e w' ⟨rfl, k⟩
  go_wp2
  go_end0
  exact ⟨rfl, k⟩
set_option maxHeartbeats 1000000 in
theorem no_cas_none (M : Nat) (i x y : Int) (w : World) (hp : w.cell? ⟨M, 0, none⟩ = some (.pointer none)) : Calls Try.prog 15 #[.pointer (some ⟨M, 0, none⟩), .int .i64 i, .int .u64 x, .int .u64 y] w fun e w' => e = .returned (.bool false) ∧ Kept w w' := by
  have hfn := field_new
  have hfh := field_held
  go_enter Try.func15, Try.ntmps15
  go_wp2_with fail
  refine (cell_none M _ _ hp).mono ?_
  rintro e w' ⟨rfl, rfl⟩
  go_wp2_with fail
  refine (access_none M _ _ _ _ hp).mono ?_
  rintro e w' ⟨rfl, k⟩
  go_wp2
  go_ret
  exact ⟨rfl, k⟩
set_option maxHeartbeats 1000000 in
theorem no_add_none (M : Nat) (i x : Int) (w : World) (hp : w.cell? ⟨M, 0, none⟩ = some (.pointer none)) : Calls Try.prog 17 #[.pointer (some ⟨M, 0, none⟩), .int .i64 i, .int .u64 x] w fun e w' => e = .returned (.int .u64 0) ∧ Kept w w' := by
  have hfn := field_new
  have hfh := field_held
  go_enter Try.func17, Try.ntmps17
  go_wp2_with fail
  refine (cell_none M _ _ hp).mono ?_
  rintro e w' ⟨rfl, rfl⟩
  go_wp2_with fail
  refine (access_none M _ _ _ _ hp).mono ?_
  rintro e w' ⟨rfl, k⟩
  go_wp2
  go_ret
  exact ⟨rfl, k⟩

set_option maxHeartbeats 4000000 in
set_option maxRecDepth 100000 in
theorem cellsNone_any (a0 a1 a2 : Int) (_w0 : (Lit.int .i64 a0).wf = true) (_w1 : (Lit.int .u64 a1).wf = true) (_w2 : (Lit.int .u64 a2).wf = true) (w : World) :
    Calls Try.prog 4 #[.int .i64 a0, .int .u64 a1, .int .u64 a2] w fun e w' => e = .returned (.bool true) ∧ Kept w w' := by
  go_enter Try.func4, Try.ntmps4
  go_wp2_with fail
  refine wp_loop_rounds 3 ?_
  rw [rounds_succ]
  go_wp2_with fail
  refine (no_store_nil _ _ _).mono ?_
  rintro e w1 ⟨rfl, k1⟩
  have c0 : w1.cell? ⟨w.heap.size, 0, none⟩ = some (.pointer none) := k1.some (by simp)
  have c1 : w1.cell? ⟨w.heap.size + 1, 0, none⟩ = some (.pointer none) := k1.some (by simp)
  have c2 : w1.cell? ⟨w.heap.size + 1, 1, none⟩ = some (.pointer (some ⟨w.heap.size, 0, none⟩)) := k1.some (by simp)
  have K1 : Kept w w1 := (((Kept.refl w).alloc _ _).alloc _ _).trans k1
  clear k1
  go_wp2_with fail
  refine (no_load_nil _ _).mono ?_
  have d0 := c0
  have d1 := c1
  have d2 := c2
  clear c0 c1 c2
  rintro e w2 ⟨rfl, k1⟩
  have c0 : w2.cell? ⟨w.heap.size, 0, none⟩ = some (.pointer none) := k1.some d0
  have c1 : w2.cell? ⟨w.heap.size + 1, 0, none⟩ = some (.pointer none) := k1.some d1
  have c2 : w2.cell? ⟨w.heap.size + 1, 1, none⟩ = some (.pointer (some ⟨w.heap.size, 0, none⟩)) := k1.some d2
  have K2 := K1.trans k1
  clear k1 d0 d1 d2
  go_wp2_with fail
  refine (no_cas_nil _ _ _ _).mono ?_
  have d0 := c0
  have d1 := c1
  have d2 := c2
  clear c0 c1 c2
  rintro e w3 ⟨rfl, k1⟩
  have c0 : w3.cell? ⟨w.heap.size, 0, none⟩ = some (.pointer none) := k1.some d0
  have c1 : w3.cell? ⟨w.heap.size + 1, 0, none⟩ = some (.pointer none) := k1.some d1
  have c2 : w3.cell? ⟨w.heap.size + 1, 1, none⟩ = some (.pointer (some ⟨w.heap.size, 0, none⟩)) := k1.some d2
  have K3 := K2.trans k1
  clear k1 d0 d1 d2
  go_wp2_with fail
  refine (no_add_nil _ _ _).mono ?_
  have d0 := c0
  have d1 := c1
  have d2 := c2
  clear c0 c1 c2
  rintro e w4 ⟨rfl, k1⟩
  have c0 : w4.cell? ⟨w.heap.size, 0, none⟩ = some (.pointer none) := k1.some d0
  have c1 : w4.cell? ⟨w.heap.size + 1, 0, none⟩ = some (.pointer none) := k1.some d1
  have c2 : w4.cell? ⟨w.heap.size + 1, 1, none⟩ = some (.pointer (some ⟨w.heap.size, 0, none⟩)) := k1.some d2
  have K4 := K3.trans k1
  clear k1 d0 d1 d2
  go_wp2_with fail
  refine (no_last_nil _).mono ?_
  have d0 := c0
  have d1 := c1
  have d2 := c2
  clear c0 c1 c2
  rintro e w5 ⟨rfl, k1⟩
  have c0 : w5.cell? ⟨w.heap.size, 0, none⟩ = some (.pointer none) := k1.some d0
  have c1 : w5.cell? ⟨w.heap.size + 1, 0, none⟩ = some (.pointer none) := k1.some d1
  have c2 : w5.cell? ⟨w.heap.size + 1, 1, none⟩ = some (.pointer (some ⟨w.heap.size, 0, none⟩)) := k1.some d2
  have K5 := K4.trans k1
  clear k1 d0 d1 d2
  go_wp2_with fail
  refine (no_count_nil _).mono ?_
  rintro e w' ⟨rfl, rfl⟩
  go_wp2_with fail
  refine (no_size_nil _).mono ?_
  rintro e w' ⟨rfl, rfl⟩
  go_wp2_with fail
  refine (no_words_nil _).mono ?_
  rintro e w' ⟨rfl, rfl⟩
  go_wp2_with fail
  refine (no_copy_nil _).mono ?_
  rintro e w' ⟨rfl, rfl⟩
  go_wp2_with fail
  refine (no_size_nil _).mono ?_
  rintro e w' ⟨rfl, rfl⟩
  go_wp2_with fail
  rw [rounds_succ]
  go_wp2_with fail
  refine (no_store_none _ _ _ _ c0).mono ?_
  have d0 := c0
  have d1 := c1
  have d2 := c2
  clear c0 c1 c2
  rintro e w6 ⟨rfl, k1⟩
  have c0 : w6.cell? ⟨w.heap.size, 0, none⟩ = some (.pointer none) := k1.some d0
  have c1 : w6.cell? ⟨w.heap.size + 1, 0, none⟩ = some (.pointer none) := k1.some d1
  have c2 : w6.cell? ⟨w.heap.size + 1, 1, none⟩ = some (.pointer (some ⟨w.heap.size, 0, none⟩)) := k1.some d2
  have K6 := K5.trans k1
  clear k1 d0 d1 d2
  go_wp2_with fail
  refine (no_load_none _ _ _ c0).mono ?_
  have d0 := c0
  have d1 := c1
  have d2 := c2
  clear c0 c1 c2
  rintro e w7 ⟨rfl, k1⟩
  have c0 : w7.cell? ⟨w.heap.size, 0, none⟩ = some (.pointer none) := k1.some d0
  have c1 : w7.cell? ⟨w.heap.size + 1, 0, none⟩ = some (.pointer none) := k1.some d1
  have c2 : w7.cell? ⟨w.heap.size + 1, 1, none⟩ = some (.pointer (some ⟨w.heap.size, 0, none⟩)) := k1.some d2
  have K7 := K6.trans k1
  clear k1 d0 d1 d2
  go_wp2_with fail
  refine (no_cas_none _ _ _ _ _ c0).mono ?_
  have d0 := c0
  have d1 := c1
  have d2 := c2
  clear c0 c1 c2
  rintro e w8 ⟨rfl, k1⟩
  have c0 : w8.cell? ⟨w.heap.size, 0, none⟩ = some (.pointer none) := k1.some d0
  have c1 : w8.cell? ⟨w.heap.size + 1, 0, none⟩ = some (.pointer none) := k1.some d1
  have c2 : w8.cell? ⟨w.heap.size + 1, 1, none⟩ = some (.pointer (some ⟨w.heap.size, 0, none⟩)) := k1.some d2
  have K8 := K7.trans k1
  clear k1 d0 d1 d2
  go_wp2_with fail
  refine (no_add_none _ _ _ _ c0).mono ?_
  have d0 := c0
  have d1 := c1
  have d2 := c2
  clear c0 c1 c2
  rintro e w9 ⟨rfl, k1⟩
  have c0 : w9.cell? ⟨w.heap.size, 0, none⟩ = some (.pointer none) := k1.some d0
  have c1 : w9.cell? ⟨w.heap.size + 1, 0, none⟩ = some (.pointer none) := k1.some d1
  have c2 : w9.cell? ⟨w.heap.size + 1, 1, none⟩ = some (.pointer (some ⟨w.heap.size, 0, none⟩)) := k1.some d2
  have K9 := K8.trans k1
  clear k1 d0 d1 d2
  go_wp2_with fail
  refine (no_last_none _ _ c0).mono ?_
  have d0 := c0
  have d1 := c1
  have d2 := c2
  clear c0 c1 c2
  rintro e w10 ⟨rfl, k1⟩
  have c0 : w10.cell? ⟨w.heap.size, 0, none⟩ = some (.pointer none) := k1.some d0
  have c1 : w10.cell? ⟨w.heap.size + 1, 0, none⟩ = some (.pointer none) := k1.some d1
  have c2 : w10.cell? ⟨w.heap.size + 1, 1, none⟩ = some (.pointer (some ⟨w.heap.size, 0, none⟩)) := k1.some d2
  have K10 := K9.trans k1
  clear k1 d0 d1 d2
  go_wp2_with fail
  refine (no_count_none _ _ c0).mono ?_
  rintro e w' ⟨rfl, rfl⟩
  go_wp2_with fail
  refine (no_size_none _ _ c0).mono ?_
  rintro e w' ⟨rfl, rfl⟩
  go_wp2_with fail
  refine (no_words_none _ _ c0).mono ?_
  rintro e w' ⟨rfl, rfl⟩
  go_wp2_with fail
  refine (no_copy_none _ _ c0).mono ?_
  rintro e w' ⟨rfl, rfl⟩
  go_wp2_with fail
  refine (no_size_nil _).mono ?_
  rintro e w' ⟨rfl, rfl⟩
  go_wp2_with fail
  rw [rounds_succ]
  go_wp2_with fail
  refine (awake_any here _).mono ?_
  rintro e w' ⟨rfl, k1⟩
  go_wp2
  go_ret
  exact ⟨rfl, K10.trans k1⟩
end Go.Proofs.Ytfndjklpjjcelaa
