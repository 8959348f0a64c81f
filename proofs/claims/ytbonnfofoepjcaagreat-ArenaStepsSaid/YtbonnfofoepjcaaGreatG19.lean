/- What the laws are handed: words, and acts. -/
import Derived.Test.YtbonnfofoepjcaaGreatG18
import Derived.Test.YtbonnfofoepjcaaGreatG11
import Derived.WalkKit
import Derived.ProofKit
import Derived.Deep.Slices
import Derived.Deep.Fields
import Derived.Lib.SmallJoins
set_option linter.unusedVariables false
set_option linter.unusedSimpArgs false

namespace Go.Proofs.YtbonnfofoepjcaaGreat.Sk
set_option maxRecDepth 20000
open Go.ChangeShapes Go.WideShapes Go.Deep Go.RowKit

def words (l : List Int) : List Value := l.map (Value.int .u64)
theorem words_flat (l : List Int) : words l = l.flatMap fun x => [Value.int .u64 x] := by simp [words, List.flatMap]; induction l <;> simp_all
theorem words_at (l : List Int) (j : Nat) (h : j < l.length) : (words l)[j]? = some (.int .u64 (l.getD j 0)) := by simp [words, h]
def actc (a : Int × Int × Int) : List Value := [.int .i64 a.1, .int .i64 a.2.1, .int .i64 a.2.2]
theorem actc_length (a : Int × Int × Int) : (actc a).length = 3 := rfl
theorem cellsAct : Tryz.prog.cellsOf 38 = 3 := by kernel_rfl
theorem cellsInt : Tryz.prog.cellsOf 3 = 1 := by kernel_rfl
theorem cellsU : Tryz.prog.cellsOf 49 = 1 := by kernel_rfl
section
variable {H : Type} {enc : TypeId × Value → H} {w : World} {base : Nat} {spare : Nat → Bool} {held : Bool}
theorem open_wideP {α : Type} {f : α → List Value} {R : α → Prop} {m : Nat} {e t : TypeId} (ht : Tryz.prog.underlying t = some (.slice e)) (hC : Tryz.prog.cellsOf e = m) (hm : 0 < m) (hf : ∀ a, (f a).length = m)
    (ho : ∀ (fuel : Nat) (cs : List Value) (x : DataW H × List MemPlace), DataW.trod enc Tryz.prog w base spare held fuel e cs = some x → ∃ a, cs = f a ∧ R a)
    {fuel : Nat} {a : Option Addr} {len cap : Nat} {x : DataW H × List MemPlace} (h : DataW.trod enc Tryz.prog w base spare held fuel t [.slice a len cap] = some x) :
    ∃ l : List α, l.length = len ∧ Lay w (.slice a len cap) len (l.flatMap f) ∧ ∀ a ∈ l, R a := by
  rcases open_slice ht h with h0 | ⟨y, len', cap', m', n, D, Pl, hcs, _, hl, hm', hmm, _, hi⟩
  · obtain ⟨rfl, rfl, rfl⟩ : a = none ∧ len = 0 ∧ cap = 0 := by simpa using h0.1
    exact ⟨[], rfl, .inl (.inl ⟨rfl, rfl, rfl⟩), by simp⟩
  · obtain ⟨rfl, rfl, rfl⟩ : a = some y ∧ len = len' ∧ cap = cap' := by simpa using hcs
    have hle : len ≤ m' := by rw [hmm]; split <;> omega
    rw [hC] at hi
    have each : ∀ i, i < len → ∃ e : α, (∀ j u, j < m → (f e)[j]? = some u → w.cell? (y.add (i * m + j)) = some u) ∧ R e := by
      intro i hil
      obtain ⟨cs', hc, ht⟩ := hi i (by omega)
      obtain ⟨e, rfl, we⟩ := ho _ _ _ ht
      obtain ⟨_, _, hat⟩ := World.cells?_some hc
      refine ⟨e, fun j u hj hu => ?_, we⟩
      have := hat j hj
      rw [add_add] at this
      exact this.trans hu
    by_cases h0 : len = 0
    · subst h0
      exact ⟨[], rfl, .inr ⟨y, cap, rfl, rfl, rfl, hm'⟩, by simp⟩
    · obtain ⟨b, off, spot⟩ := y
      have hs : spot = none := by
        obtain ⟨e, he, _⟩ := each 0 (by omega)
        have := he 0 _ hm (List.getElem?_eq_getElem (by rw [hf]; exact hm))
        simpa [Addr.add] using World.cell?_spot this
      subst hs
      have pick : ∀ n, n ≤ len → ∃ l : List α, l.length = n ∧ (∀ e ∈ l, R e) ∧ ∀ i e, l[i]? = some e → ∀ j u, j < m → (f e)[j]? = some u → w.cell? ⟨b, off + (i * m + j), none⟩ = some u := by
        intro n
        induction n with
        | zero => intro _; exact ⟨[], rfl, by simp, by simp⟩
        | succ n ih =>
          intro hn
          obtain ⟨l, hl1, hl2, hl3⟩ := ih (by omega)
          obtain ⟨e, he, we⟩ := each n (by omega)
          refine ⟨l ++ [e], by simp [hl1], fun f hf => ?_, fun i g hg j u hj hu => ?_⟩
          · rcases List.mem_append.1 hf with hf | hf
            · exact hl2 f hf
            · simp at hf; subst hf; exact we
          · by_cases hi' : i < l.length
            · rw [List.getElem?_append_left hi'] at hg
              exact hl3 i g hg j u hj hu
            · have h2 := (List.getElem?_eq_some_iff.1 hg).1
              have e1 : i = l.length := by simp at h2; omega
              subst e1
              have e2 : e = g := by simpa using hg
              subst e2
              have := he j u hj hu
              rw [add_none] at this
              rw [hl1]
              exact this
      obtain ⟨l, hl1, hl2, hl3⟩ := pick len (Nat.le_refl _)
      refine ⟨l, hl1, .inl (.inr ⟨b, off, cap, rfl, hl, hm', fun j u hu => ?_⟩), hl2⟩
      have hj : j < l.length * m := by rw [← wide_length hf]; exact (List.getElem?_eq_some_iff.1 hu).1
      have hr : j % m < m := Nat.mod_lt _ hm
      have hi2 : j / m < l.length := Nat.div_lt_of_lt_mul (by rw [Nat.mul_comm]; exact hj)
      have ej : j / m * m + j % m = j := by rw [Nat.mul_comm]; exact Nat.div_add_mod j m
      obtain ⟨e, he⟩ : ∃ e, l[j / m]? = some e := ⟨_, List.getElem?_eq_getElem hi2⟩
      have h3 := hl3 (j / m) e he (j % m) u hr (by rw [← wide_get hf l (j / m) (j % m) e he hr, ej]; exact hu)
      rw [ej] at h3
      exact h3

theorem wf_u64 (x : Int) (h : (Lit.int .u64 x).wf = true) : 0 ≤ x ∧ x < 18446744073709551616 := by
  have e : IntKind.u64.min = 0 := by decide
  have e' : IntKind.u64.max = 18446744073709551615 := by decide
  have := h
  simp [Lit.wf, e, e'] at this
  omega
theorem open_words {fuel : Nat} {a : Option Addr} {len cap : Nat} {x : DataW H × List MemPlace} (h : DataW.trod enc Tryz.prog w base spare held fuel 26 [.slice a len cap] = some x) :
    ∃ l : List Int, l.length = len ∧ Lay w (.slice a len cap) len (words l) ∧ ∀ x ∈ l, 0 ≤ x ∧ x < 18446744073709551616 := by
  obtain ⟨l, h1, h2, h3⟩ := open_wideP (f := fun x => [Value.int .u64 x]) (R := fun x => 0 ≤ x ∧ x < 18446744073709551616) Tryz.underlying26 cellsU (by decide) (fun _ => rfl) (fun fuel cs x h => by
    obtain ⟨q, h1, h2, hw⟩ := DataW.trod_int (cs := cs) Tryz.underlying49 h
    exact ⟨q, by simpa using h1, wf_u64 q hw⟩) h
  exact ⟨l, h1, by rw [words_flat]; exact h2, h3⟩
theorem open_act {fuel : Nat} {cs : List Value} {x : DataW H × List MemPlace} (h : DataW.trod enc Tryz.prog w base spare held fuel 38 cs = some x) : ∃ e : Int × Int × Int, cs = actc e ∧ True := by
  obtain ⟨ys, n2, _, _, hl, hyl, hg⟩ := DataW.trod_struct Tryz.underlying38 h
  rw [cellsAct] at hl
  match cs, hl with
  | [v2, v3, v4], _ =>
    match ys, hyl with
    | [y0, y1, y2], _ =>
      have g0 : DataW.trod enc Tryz.prog w base spare held n2 3 (([v2, v3, v4].drop 0).take (Tryz.prog.cellsOf 3)) = some y0 := hg 0 _ rfl
      have g1 : DataW.trod enc Tryz.prog w base spare held n2 3 (([v2, v3, v4].drop 1).take (Tryz.prog.cellsOf 3)) = some y1 := hg 1 _ rfl
      have g2 : DataW.trod enc Tryz.prog w base spare held n2 3 (([v2, v3, v4].drop 2).take (Tryz.prog.cellsOf 3)) = some y2 := hg 2 _ rfl
      simp only [cellsInt, List.drop_zero, List.drop_succ_cons, List.take_succ_cons, List.take_zero] at g0 g1 g2
      obtain ⟨q2, e2, _, _⟩ := DataW.trod_int Tryz.underlying3 g0
      obtain ⟨q3, e3, _, _⟩ := DataW.trod_int Tryz.underlying3 g1
      obtain ⟨q4, e4, _, _⟩ := DataW.trod_int Tryz.underlying3 g2
      simp at e2 e3 e4
      subst e2; subst e3; subst e4
      exact ⟨⟨q2, q3, q4⟩, rfl, trivial⟩
theorem open_acts {fuel : Nat} {a : Option Addr} {len cap : Nat} {x : DataW H × List MemPlace} (h : DataW.trod enc Tryz.prog w base spare held fuel 27 [.slice a len cap] = some x) :
    ∃ l : List (Int × Int × Int), l.length = len ∧ Lay w (.slice a len cap) len (l.flatMap actc) := by
  obtain ⟨l, h1, h2, _⟩ := open_wideP (f := actc) (R := fun _ => True) Tryz.underlying27 cellsAct (by decide) actc_length (fun fuel cs x h => open_act h) h
  exact ⟨l, h1, h2⟩
end
end Go.Proofs.YtbonnfofoepjcaaGreat.Sk

namespace Go.Proofs.YtbonnfofoepjcaaGreat.Sk
set_option maxRecDepth 20000
open Go.ChangeShapes Go.WideShapes Go.Deep Go.RowKit
theorem cellsArena : Tryz.prog.cellsOf 25 = 6 := by kernel_rfl
theorem cellsStack : Tryz.prog.cellsOf 23 = 3 := by kernel_rfl
theorem wf_i64a (x : Int) (h : (Lit.int .i64 x).wf = true) : -9223372036854775808 ≤ x ∧ x ≤ 9223372036854775807 := by
  have e : IntKind.i64.min = -9223372036854775808 := by decide
  have e' : IntKind.i64.max = 9223372036854775807 := by decide
  have := h
  simp [Lit.wf, e, e'] at this
  omega
def arcell (A : Arn) : List Value := [.int .i64 A.F.T, .int .i64 A.F.K, .int .i64 A.F.N, .int .i64 A.G, .int .i64 A.V, .int .i64 A.L]
def ArWf (A : Arn) : Prop := (-9223372036854775808 ≤ A.G ∧ A.G ≤ 9223372036854775807) ∧ (-9223372036854775808 ≤ A.V ∧ A.V ≤ 9223372036854775807)
section
variable {H : Type} {enc : TypeId × Value → H} {w : World} {base : Nat} {spare : Nat → Bool} {held : Bool}
theorem open_arena {fuel : Nat} {cs : List Value} {x : DataW H × List MemPlace} (h : DataW.trod enc Tryz.prog w base spare held fuel 25 cs = some x) : ∃ A : Arn, cs = arcell A ∧ ArWf A := by
  obtain ⟨xs, n, _, _, hl, hxl, hf⟩ := DataW.trod_struct Tryz.underlying25 h
  rw [cellsArena] at hl
  match cs, hl with
  | [v0, v1, v2, v3, v4, v5], _ =>
    match xs, hxl with
    | [x0, x1, x2, x3], _ =>
      have f0 : DataW.trod enc Tryz.prog w base spare held n 23 (([v0, v1, v2, v3, v4, v5].drop 0).take (Tryz.prog.cellsOf 23)) = some x0 := hf 0 _ rfl
      have f1 : DataW.trod enc Tryz.prog w base spare held n 3 (([v0, v1, v2, v3, v4, v5].drop 3).take (Tryz.prog.cellsOf 3)) = some x1 := hf 1 _ rfl
      have f2 : DataW.trod enc Tryz.prog w base spare held n 3 (([v0, v1, v2, v3, v4, v5].drop 4).take (Tryz.prog.cellsOf 3)) = some x2 := hf 2 _ rfl
      have f3 : DataW.trod enc Tryz.prog w base spare held n 3 (([v0, v1, v2, v3, v4, v5].drop 5).take (Tryz.prog.cellsOf 3)) = some x3 := hf 3 _ rfl
      simp only [cellsInt, cellsStack, List.drop_zero, List.drop_succ_cons, List.take_succ_cons, List.take_zero] at f0 f1 f2 f3
      obtain ⟨q3, e3, _, w3⟩ := DataW.trod_int Tryz.underlying3 f1
      obtain ⟨q4, e4, _, w4⟩ := DataW.trod_int Tryz.underlying3 f2
      obtain ⟨q5, e5, _, _⟩ := DataW.trod_int Tryz.underlying3 f3
      obtain ⟨ys, n2, _, _, _, hyl, hg⟩ := DataW.trod_struct Tryz.underlying23 f0
      match ys, hyl with
      | [y0, y1, y2], _ =>
        have g0 : DataW.trod enc Tryz.prog w base spare held n2 3 (([v0, v1, v2].drop 0).take (Tryz.prog.cellsOf 3)) = some y0 := hg 0 _ rfl
        have g1 : DataW.trod enc Tryz.prog w base spare held n2 3 (([v0, v1, v2].drop 1).take (Tryz.prog.cellsOf 3)) = some y1 := hg 1 _ rfl
        have g2 : DataW.trod enc Tryz.prog w base spare held n2 3 (([v0, v1, v2].drop 2).take (Tryz.prog.cellsOf 3)) = some y2 := hg 2 _ rfl
        simp only [cellsInt, List.drop_zero, List.drop_succ_cons, List.take_succ_cons, List.take_zero] at g0 g1 g2
        obtain ⟨q0, e0, _, _⟩ := DataW.trod_int Tryz.underlying3 g0
        obtain ⟨q1, e1, _, _⟩ := DataW.trod_int Tryz.underlying3 g1
        obtain ⟨q2, e2, _, _⟩ := DataW.trod_int Tryz.underlying3 g2
        simp at e0 e1 e2 e3 e4 e5
        subst e0; subst e1; subst e2; subst e3; subst e4; subst e5
        exact ⟨⟨⟨q0, q1, q2⟩, q3, q4, q5⟩, rfl, wf_i64a q3 w3, wf_i64a q4 w4⟩
theorem open_arenav {fuel : Nat} {cs : Array Value} {x : DataW H × List MemPlace} (h : DataW.trod enc Tryz.prog w base spare held fuel 25 cs.toList = some x) : ∃ A : Arn, cs = (arcell A).toArray ∧ ArWf A := by
  obtain ⟨A, h1, h2⟩ := open_arena h
  exact ⟨A, by rw [← h1], h2⟩
end
end Go.Proofs.YtbonnfofoepjcaaGreat.Sk
