/- New. -/
import Derived.Test.YtdgajkimepgljaaFAcc
namespace Go.Proofs.Ytdgajkimepgljaa
open Go.RowKit

theorem infoSlot : (Try.prog.info? 68).map (fun i => (i.zero, i.size, i.bytes)) = some (some (.agg #[.int .i64 0, .int .i64 0, .int .i64 0, .bool false]), 4, 32) := by kernel_rfl

theorem madeCells_get4 (a b c d : Value) (n : Nat) (i : Nat) (hi : i < n) : (madeCells #[a, b, c, d] (n * 4))[i * 4]? = some a ∧ (madeCells #[a, b, c, d] (n * 4))[i * 4 + 1]? = some b ∧ (madeCells #[a, b, c, d] (n * 4))[i * 4 + 2]? = some c ∧ (madeCells #[a, b, c, d] (n * 4))[i * 4 + 3]? = some d := by
  have h0 : i * 4 < n * 4 := by omega
  have h1 : i * 4 + 1 < n * 4 := by omega
  have h2 : i * 4 + 2 < n * 4 := by omega
  have h3 : i * 4 + 3 < n * 4 := by omega
  have e0 : i * 4 % 4 = 0 := by omega
  have e1 : (i * 4 + 1) % 4 = 1 := by omega
  have e2 : (i * 4 + 2) % 4 = 2 := by omega
  have e3 : (i * 4 + 3) % 4 = 3 := by omega
  refine ⟨?_, ?_, ?_, ?_⟩ <;> simp [madeCells, *]

/-- The cells of a new table of n slots. -/
theorem make_slots (n : Nat) (hn : n ≤ 64) : ∃ Z : Array Value, (∀ i, i < n → Z[i * 4]? = some (.int .i64 0) ∧ Z[i * 4 + 1]? = some (.int .i64 0) ∧ Z[i * 4 + 2]? = some (.int .i64 0) ∧ Z[i * 4 + 3]? = some (.bool false)) ∧
    ∀ w : World, (Instr.makeSlice 63 (.int .i64 (n : Int)) (.int .i64 (n : Int))).run Try.prog w = .ok (.slice (some ⟨w.heap.size, 0, none⟩) n n) (w.alloc (.cells Z 68)) := by
  obtain ⟨i0, hi, hz0, hz1, hz2⟩ := info_parts infoSlot
  refine ⟨madeCells #[.int .i64 0, .int .i64 0, .int .i64 0, .bool false] (n * 4), fun i h => ?_, fun w => ?_⟩
  · exact madeCells_get4 _ _ _ _ n i h
  · have h := run_makeSlice (P := Try.prog) w 63 68 i0 (.agg #[.int .i64 0, .int .i64 0, .int .i64 0, .bool false]) Try.underlying63 hi hz0 .i64 .i64 (n : Int) (n : Int) (by omega) (Int.le_refl _) (by rw [hz1]; omega) (by rw [hz2]; omega) (by omega)
    rw [h, hz1]
    simp [Value.cells]

set_option maxHeartbeats 1000000 in
theorem new_out {w : World} (c : Int) (hc : ¬ (1 ≤ c ∧ c ≤ 64)) :
    Calls Try.prog 8 #[.int .i64 c] w fun e w' => e = .returned (.tuple #[.pointer none, .int .i64 3]) ∧ w' = w := by
  by_cases h0 : c < 1
  · go_enter Try.func8, Try.ntmps8
    go_wp2
    refine bodyPost_ret (v := .tuple #[.pointer none, .int .i64 3]) (by simp [results, Try.results8, go_sem]) rfl ⟨rfl, rfl⟩
  · have h1 : 64 < c := by omega
    go_enter Try.func8, Try.ntmps8
    go_wp2
    refine bodyPost_ret (v := .tuple #[.pointer none, .int .i64 3]) (by simp [results, Try.results8, go_sem]) rfl ⟨rfl, rfl⟩

set_option maxHeartbeats 1000000 in
theorem newTable_in {w : World} (n : Nat) (h1 : 1 ≤ n) (h2 : n ≤ 64) :
    Calls Try.prog 32 #[.int .i64 n] w fun e w' => ∃ T, e = .returned (.agg #[.slice (some ⟨T, 0, none⟩) n n]) ∧ w.heap.size ≤ T ∧ T < w'.heap.size ∧ Kept w w' ∧
      (∀ i, w'.frozen? ⟨T, i, none⟩ = false) ∧ ∀ i, i < n → w'.cell? ⟨T, i * 4, none⟩ = some (.int .i64 0) ∧ w'.cell? ⟨T, i * 4 + 1, none⟩ = some (.int .i64 0) ∧ w'.cell? ⟨T, i * 4 + 2, none⟩ = some (.int .i64 0) ∧ w'.cell? ⟨T, i * 4 + 3, none⟩ = some (.bool false) := by
  obtain ⟨Z, hZ, hrun⟩ := make_slots n h2
  have HZ := Lib.hid hZ
  clear hZ
  go_enter Try.func32, Try.ntmps32
  go_wp2
  have e0 := (cell_new w #[.slice (some ⟨w.heap.size + 1, 0, none⟩) n n] 65 w.heap.size 0 rfl)
  have k1 : Kept w ((w.alloc (.cells #[.slice (some ⟨w.heap.size + 1, 0, none⟩) n n] 65)).alloc (.cells Z 68)) := ((Kept.refl w).alloc _ _).alloc _ _
  refine bodyPost_ret (v := .agg #[.slice (some ⟨w.heap.size + 1, 0, none⟩) n n]) (by simp [results, Try.results32, go_sem]) rfl ⟨_, rfl, Nat.le_succ _, by simp, k1, fun i => ?_, fun i hi => ?_⟩
  · simp only [frozen?_alloc_cells]
    simp [World.frozen?]
  · obtain ⟨z0, z1, z2, z3⟩ := HZ.out i hi
    exact ⟨(cell_new _ _ _ _ _ (by simp)).trans z0, (cell_new _ _ _ _ _ (by simp)).trans z1, (cell_new _ _ _ _ _ (by simp)).trans z2, (cell_new _ _ _ _ _ (by simp)).trans z3⟩

set_option maxHeartbeats 1000000 in
theorem new_in {w : World} (n : Nat) (h1 : 1 ≤ n) (h2 : n ≤ 64) :
    Calls Try.prog 8 #[.int .i64 n] w fun e w' => ∃ F G T, e = .returned (.tuple #[.pointer (some ⟨F, 0, none⟩), .int .i64 0]) ∧ Kept w w' ∧ PF w' F G T (.slice none 0 0) w.heap.size n 0 St.zero := by
  go_enter Try.func8, Try.ntmps8
  go_wp2_with fail; refine (newTable_in n h1 h2).mono ?_; rintro e w1 ⟨T, rfl, hT, hT2, k1, hf, hc⟩
  go_wp2
  refine bodyPost_ret (v := .tuple #[.pointer (some ⟨w1.heap.size + 1, 0, none⟩), .int .i64 0]) (by simp [results, Try.results8, go_sem]) rfl ⟨w1.heap.size + 1, w1.heap.size, T, rfl, (k1.alloc _ _).alloc _ _, ?_⟩
  have kk : Kept w1 ((w1.alloc (.cells #[.slice (some ⟨T, 0, none⟩) n n, .slice none 0 0, .int .i64 0] 70)).alloc (.cells #[.pointer (some ⟨w1.heap.size, 0, none⟩)] 54)) := ((Kept.refl _).alloc _ _).alloc _ _
  have k2 : Kept (w1.alloc (.cells #[.slice (some ⟨T, 0, none⟩) n n, .slice none 0 0, .int .i64 0] 70)) ((w1.alloc (.cells #[.slice (some ⟨T, 0, none⟩) n n, .slice none 0 0, .int .i64 0] 70)).alloc (.cells #[.pointer (some ⟨w1.heap.size, 0, none⟩)] 54)) := (Kept.refl _).alloc _ _
  have hs := k1.size
  exact ⟨Fine.zero n h1 h2, cell_new _ _ _ _ 0 (by simp), k2.some (cell_new _ _ _ _ 0 rfl), k2.some (cell_new _ _ _ _ 1 rfl), k2.some (cell_new _ _ _ _ 2 rfl),
    fun i => by simp only [frozen?_alloc_cells]; simp [World.frozen?], fun i => kk.soft hT2 (hf i),
    fun i hi => kk.some (hc i hi).1, fun i hi => kk.some (hc i hi).2.1, fun i hi => kk.some (hc i hi).2.2.1, fun i hi => kk.some (hc i hi).2.2.2,
    World.ownsRow_nil _ _ _ _, by omega, by omega, by omega, by omega, by omega, by omega, by simp [Value.ownBlock], by simp [Value.ownBlock], by simp [Value.ownBlock]⟩
end Go.Proofs.Ytdgajkimepgljaa
