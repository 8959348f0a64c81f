/- make of a list of words. -/
import Derived.Test.YtfndjklpjjcelaaProg
import Derived.Test.YtfndjklpjjcelaaFrame
import Derived.WalkLawsBesides
import Derived.Lib.Hide
namespace Go.Proofs.Ytfndjklpjjcelaa
open Go.RowKit

theorem infoWord : (Try.prog.info? 31).map (fun i => (i.zero, i.size, i.bytes)) = some (some (.int .u64 0), 1, 8) := by kernel_rfl

/-- The cells of a new list of n words: all 0. -/
theorem make_words (n : Nat) (hn : n ≤ 1000000) : ∃ Z : Array Value, (∀ i, i < n → Z[i]? = some (.int .u64 0)) ∧
    ∀ w : World, (Instr.makeSlice 38 (.int .i64 (n : Int)) (.int .i64 (n : Int))).run Try.prog w = .ok (.slice (some ⟨w.heap.size, 0, none⟩) n n) (w.alloc (.cells Z 31)) := by
  obtain ⟨i0, hi, hz0, hz1, hz2⟩ := info_parts infoWord
  refine ⟨madeCells #[.int .u64 0] n, fun i h => ?_, fun w => ?_⟩
  · have e : (madeCells #[.int .u64 0] n)[i]? = (madeCells #[.int .u64 0] n).toList[i]? := by simp
    rw [e, toList_madeCells_one]
    simp [h]
  · have h := run_makeSlice (P := Try.prog) w 38 31 i0 (.int .u64 0) Try.underlying38 hi hz0 .i64 .i64 (n : Int) (n : Int) (by omega) (Int.le_refl _) (by rw [hz1]; omega) (by rw [hz2]; omega) (by omega)
    rw [h, hz1]
    simp [Value.cells]
end Go.Proofs.Ytfndjklpjjcelaa
