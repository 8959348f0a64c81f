/- Answers in variables: stored, read, told; compared. -/
import Derived.Test.YteomggjkdaddhaaHeBase
namespace Go.Proofs.Yteomggjkdaddhaa
open Go.RowKit

theorem infoA : (Try.prog.info? 28).map (fun i => (i.zero, i.size, i.bytes)) = some (some (.agg #[.int .i64 0, .int .i64 0, .int .u64 0]), 3, 24) := by kernel_rfl
theorem AnBox.put {W : World} {g : Nat} {a : Ann} (h : AnBox W g a) (x : Ann) : AnBox (((W.setCell ⟨g, 0, none⟩ (.int .i64 x.e)).setCell ⟨g, 1, none⟩ (.int .i64 x.n)).setCell ⟨g, 2, none⟩ (.int .u64 x.v)) g x :=
  ⟨by simp [cell_set, h.c0], by simp [cell_set, h.c1], by simp [cell_set, h.c2], fun i => by simp only [World.frozen?_setCell]; exact h.s i⟩
theorem an_var {W : World} {b : Nat} {x : Ann} (h : AnBox W b x) : (loadVar 28 ⟨b, 0, none⟩).run Try.prog W = .ok (.agg #[.int .i64 x.e, .int .i64 x.n, .int .u64 x.v]) W := by
  have := run_loadVar_mid (P := Try.prog) W b 0 _ (anc x) _ (fun j v hv => by
    rw [Nat.zero_add]
    match j, hv with
    | 0, hv => cases hv; exact h.c0
    | 1, hv => cases hv; exact h.c1
    | 2, hv => cases hv; exact h.c2) Try.underlying28 rfl (by
      obtain ⟨i0, hi, _, hz1, _⟩ := info_parts infoA
      rw [hi]; simp [hz1, anc])
  simpa [anc] using this
/-- A function whose results are an answer in a variable, and one more. -/
theorem ans_result {fn : Func} {tmps : Array Value} {n m b : Nat} {w : World} {x : Ann} {v : Value} (hr : fn.results = #[.cell n 28, .tmp m]) (ht : tmps.getD n undef = .pointer (some ⟨b, 0, none⟩)) (hm : tmps.getD m undef = v) (h : AnBox w b x) :
    (results fn tmps).run Try.prog w = .ok (.tuple #[.agg #[.int .i64 x.e, .int .i64 x.n, .int .u64 x.v], v]) w := by
  have hv := an_var h
  have ht' : tmps[n]?.getD undef = .pointer (some ⟨b, 0, none⟩) := by simpa using ht
  have hm' : tmps[m]?.getD undef = v := by simpa using hm
  unfold results
  rw [hr]
  simp [ht', hm', asAddr, hv]

/-- A function whose result is an answer in a variable. -/
theorem ans_result1 {fn : Func} {tmps : Array Value} {n b : Nat} {w : World} {x : Ann} (hr : fn.results = #[.cell n 28]) (ht : tmps.getD n undef = .pointer (some ⟨b, 0, none⟩)) (h : AnBox w b x) :
    (results fn tmps).run Try.prog w = .ok (.agg #[.int .i64 x.e, .int .i64 x.n, .int .u64 x.v]) w := by
  have hv := an_var h
  have ht' : tmps[n]?.getD undef = .pointer (some ⟨b, 0, none⟩) := by simpa using ht
  unfold results
  rw [hr]
  simp [ht', asAddr, hv]
theorem ann_eql (x y : Ann) : ∀ W, (binOp .eql 28 (.agg #[.int .i64 x.e, .int .i64 x.n, .int .u64 x.v]) (.agg #[.int .i64 y.e, .int .i64 y.n, .int .u64 y.v])).run Try.prog W = .ok (.bool (decide (x = y))) W := by
  intro W
  obtain ⟨a, b, c⟩ := x
  obtain ⟨a', b', c'⟩ := y
  by_cases h1 : a = a'
  · subst h1
    by_cases h2 : b = b'
    · subst h2
      by_cases h3 : c = c'
      · subst h3
        go_simp
      · have e1 : (c == c') = false := by simpa using h3
        go_simp
    · have e1 : (b == b') = false := by simpa using h2
      go_simp
  · have e1 : (a == a') = false := by simpa using h1
    go_simp
theorem ann_neq (x y : Ann) : ∀ W, (binOp .neq 28 (.agg #[.int .i64 x.e, .int .i64 x.n, .int .u64 x.v]) (.agg #[.int .i64 y.e, .int .i64 y.n, .int .u64 y.v])).run Try.prog W = .ok (.bool (!decide (x = y))) W := by
  intro W
  have h := ann_eql x y W
  obtain ⟨a, b, c⟩ := x
  obtain ⟨a', b', c'⟩ := y
  by_cases h1 : a = a'
  · subst h1
    by_cases h2 : b = b'
    · subst h2
      by_cases h3 : c = c'
      · subst h3
        go_simp
      · have e1 : (c == c') = false := by simpa using h3
        go_simp
    · have e1 : (b == b') = false := by simpa using h2
      go_simp
  · have e1 : (a == a') = false := by simpa using h1
    go_simp
end Go.Proofs.Yteomggjkdaddhaa
