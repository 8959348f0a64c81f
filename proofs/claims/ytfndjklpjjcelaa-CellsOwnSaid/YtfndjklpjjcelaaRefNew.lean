/- The document's New. -/
import Derived.Test.YtfndjklpjjcelaaRefOps
import Derived.Test.YtfndjklpjjcelaaMake
namespace Go.Proofs.Ytfndjklpjjcelaa
open Go.RowKit

def St.zero : St := { ws := fun _ => 0, kind := 0, at_ := 0, old := 0, new := 0, held := false, cnt := 0 }

set_option maxHeartbeats 1000000 in
theorem refNew_no (n : Int) (h : n < 1 ∨ 4096 < n) (w : World) :
    Calls Try.prog 10 #[.int .i64 n] w fun e w' => e = .returned (.tuple #[.pointer none, .int .i64 3]) ∧ w = w' := by
  rcases h with h | h
  · go_enter Try.func10, Try.ntmps10
    go_wp2
    go_ret2
    exact ⟨rfl, rfl⟩
  · have h' : ¬ n < 1 := by omega
    go_enter Try.func10, Try.ntmps10
    go_wp2
    go_ret2
    exact ⟨rfl, rfl⟩

def NewPost (n : Nat) (w : World) (e : Ending) (w' : World) : Prop :=
  ∃ M B, e = .returned (.tuple #[.pointer (some ⟨M, 0, none⟩), .int .i64 0]) ∧ RefIs w' M B n St.zero ∧ w.heap.size ≤ M ∧ w.heap.size ≤ B ∧ M < w'.heap.size ∧ B < w'.heap.size ∧ Kept w w'

set_option maxHeartbeats 1000000 in
theorem refNew_yes (n : Nat) (h : 1 ≤ n) (h' : n ≤ 4096) (w : World) :
    Calls Try.prog 10 #[.int .i64 n] w (NewPost n w) := by
  obtain ⟨Z, hZ, hmk⟩ := make_words n (by omega)
  have HZ := Lib.hid hZ
  clear hZ
  go_enter Try.func10, Try.ntmps10
  go_wp2
  go_ret2
  go_light
  refine ⟨w.heap.size + 1, w.heap.size, rfl, ?_, by omega, by omega, by simp, by simp; omega, ((Kept.refl w).alloc _ _).alloc _ _⟩
  refine ⟨?_, ?_, ?_, ?_, ?_, ?_, ?_, fun i hi => ?_, fun i => ?_, fun i => ?_, by omega⟩
  all_goals first | (simp; done) | (simp [St.zero]; done) | (have hz := HZ.out i hi; simp [hz, St.zero]; done)
end Go.Proofs.Ytfndjklpjjcelaa
