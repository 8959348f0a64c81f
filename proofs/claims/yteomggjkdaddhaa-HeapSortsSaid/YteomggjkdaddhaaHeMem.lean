/- Items, operations and answers in memory; what an operation may come to. -/
import Derived.Test.YteomggjkdaddhaaProg
import Derived.Test.YteomggjkdaddhaaLay
import Derived.Test.YteomggjkdaddhaaHeMod
import Derived.Deep.Slices
import Derived.WalkKit
import Derived.ProofKit
import Derived.Lib.Hide
namespace Go.Proofs.Yteomggjkdaddhaa
open Go.ChangeShapes Go.WideShapes Go.Deep Go.RowKit

def itc (x : It) : List Value := [.int .u64 x.k, .int .i64 x.a]
def opc (o : Opn) : List Value := [.int .i64 o.k, .int .i64 o.a, .int .i64 o.b, .int .u64 o.u]
def anc (o : Ann) : List Value := [.int .i64 o.e, .int .i64 o.n, .int .u64 o.v]
def flatI (l : List It) : List Value := l.flatMap itc
/-- What an operation may come to: an answer, and where the set behind it lies. -/
structure Oc where
  an : Ann
  at_ : Option Addr
  cap : Nat
  l : List It
def occ (x : Oc) : List Value := [.int .i64 x.an.e, .int .i64 x.an.n, .int .u64 x.an.v, .slice x.at_ x.l.length x.cap]
def flatC (l : List Oc) : List Value := l.flatMap occ
def Oc.two (x : Oc) : Ann × List It := (x.an, x.l)
theorem itc_length (e : It) : (itc e).length = 2 := rfl
theorem occ_length (e : Oc) : (occ e).length = 4 := rfl
theorem flatI_length (l : List It) : (flatI l).length = l.length * 2 := wide_length itc_length l
theorem flatC_length (l : List Oc) : (flatC l).length = l.length * 4 := wide_length occ_length l
theorem flatI_get (l : List It) (i j : Nat) (e : It) (h : l[i]? = some e) (hj : j < 2) : (flatI l)[i * 2 + j]? = (itc e)[j]? := wide_get itc_length l i j e h hj
theorem flatC_get (l : List Oc) (i j : Nat) (e : Oc) (h : l[i]? = some e) (hj : j < 4) : (flatC l)[i * 4 + j]? = (occ e)[j]? := wide_get occ_length l i j e h hj
theorem flatI_append (l m : List It) : flatI (l ++ m) = flatI l ++ flatI m := by simp [flatI]
theorem flatI_one (l : List It) : ∀ u ∈ flatI l, u.oneCell' = true := wide_one (fun a u h => by simp [itc] at h; rcases h with h | h <;> subst h <;> rfl) l
theorem flatC_one (l : List Oc) : ∀ u ∈ flatC l, u.oneCell' = true := wide_one (fun a u h => by simp [occ] at h; rcases h with h | h | h | h <;> subst h <;> rfl) l
theorem flatI_drop (l : List It) : ∀ k, (flatI l).drop (k * 2) = flatI (l.drop k) := by
  induction l with
  | nil => intro k; simp [flatI]
  | cons x l ih =>
    intro k
    cases k with
    | zero => simp
    | succ k =>
      have e : flatI (x :: l) = .int .u64 x.k :: .int .i64 x.a :: flatI l := rfl
      rw [e, show (k + 1) * 2 = k * 2 + 1 + 1 by omega, List.drop_succ_cons, List.drop_succ_cons, List.drop_succ_cons, ih]
theorem flatI_take (l : List It) : ∀ k, (flatI l).take (k * 2) = flatI (l.take k) := by
  induction l with
  | nil => intro k; simp [flatI]
  | cons x l ih =>
    intro k
    cases k with
    | zero => simp [flatI]
    | succ k =>
      have e : flatI (x :: l) = .int .u64 x.k :: .int .i64 x.a :: flatI l := rfl
      have e' : ∀ m, flatI (x :: m) = .int .u64 x.k :: .int .i64 x.a :: flatI m := fun _ => rfl
      rw [e, show (k + 1) * 2 = k * 2 + 1 + 1 by omega, List.take_succ_cons, List.take_succ_cons, List.take_succ_cons, e', ih]

/-- An item's cells. -/
structure ItAt (w : World) (g o : Nat) (e : It) : Prop where
  c0 : w.cell? ⟨g, o, none⟩ = some (.int .u64 e.k)
  c1 : w.cell? ⟨g, o + 1, none⟩ = some (.int .i64 e.a)
theorem ItAt.kept {w w' : World} {g o : Nat} {e : It} (h : ItAt w g o e) (k : Kept w w') : ItAt w' g o e := ⟨k.some h.c0, k.some h.c1⟩
theorem ItAt.but {S : Nat → Prop} {w w' : World} {g o : Nat} {e : It} (h : ItAt w g o e) (k : But S w w') (hS : ¬ S g) : ItAt w' g o e := ⟨k.some h.c0 hS, k.some h.c1 hS⟩
structure OcAt (w : World) (g o : Nat) (e : Oc) : Prop where
  c0 : w.cell? ⟨g, o, none⟩ = some (.int .i64 e.an.e)
  c1 : w.cell? ⟨g, o + 1, none⟩ = some (.int .i64 e.an.n)
  c2 : w.cell? ⟨g, o + 2, none⟩ = some (.int .u64 e.an.v)
  c3 : w.cell? ⟨g, o + 3, none⟩ = some (.slice e.at_ e.l.length e.cap)
theorem OcAt.kept {w w' : World} {g o : Nat} {e : Oc} (h : OcAt w g o e) (k : Kept w w') : OcAt w' g o e := ⟨k.some h.c0, k.some h.c1, k.some h.c2, k.some h.c3⟩
/-- An operation, an answer in a variable. -/
structure OpBox (w : World) (g : Nat) (e : Opn) : Prop where
  c0 : w.cell? ⟨g, 0, none⟩ = some (.int .i64 e.k)
  c1 : w.cell? ⟨g, 1, none⟩ = some (.int .i64 e.a)
  c2 : w.cell? ⟨g, 2, none⟩ = some (.int .i64 e.b)
  c3 : w.cell? ⟨g, 3, none⟩ = some (.int .u64 e.u)
structure AnBox (w : World) (g : Nat) (e : Ann) : Prop where
  c0 : w.cell? ⟨g, 0, none⟩ = some (.int .i64 e.e)
  c1 : w.cell? ⟨g, 1, none⟩ = some (.int .i64 e.n)
  c2 : w.cell? ⟨g, 2, none⟩ = some (.int .u64 e.v)
  s : ∀ i, w.frozen? ⟨g, i, none⟩ = false
theorem OpBox.kept {w w' : World} {g : Nat} {e : Opn} (h : OpBox w g e) (k : Kept w w') : OpBox w' g e := ⟨k.some h.c0, k.some h.c1, k.some h.c2, k.some h.c3⟩
theorem OpBox.but {S : Nat → Prop} {w w' : World} {g : Nat} {e : Opn} (h : OpBox w g e) (k : But S w w') (hS : ¬ S g) : OpBox w' g e := ⟨k.some h.c0 hS, k.some h.c1 hS, k.some h.c2 hS, k.some h.c3 hS⟩
theorem AnBox.but {S : Nat → Prop} {w w' : World} {g : Nat} {e : Ann} (h : AnBox w g e) (k : But S w w') (hS : ¬ S g) : AnBox w' g e := ⟨k.some h.c0 hS, k.some h.c1 hS, k.some h.c2 hS, fun i => k.soft (lt_of_cell h.c0) (h.s i)⟩
theorem AnBox.kept {w w' : World} {g : Nat} {e : Ann} (h : AnBox w g e) (k : Kept w w') : AnBox w' g e := h.but (k.but (fun _ => False)) id
theorem OpBox.new (w : World) (e : Opn) (t : TypeId) (n : Nat) (h : n = w.heap.size) : OpBox (w.alloc (.cells #[.int .i64 e.k, .int .i64 e.a, .int .i64 e.b, .int .u64 e.u] t)) n e :=
  ⟨cell_new _ _ _ _ 0 h, cell_new _ _ _ _ 1 h, cell_new _ _ _ _ 2 h, cell_new _ _ _ _ 3 h⟩
theorem AnBox.new (w : World) (e : Ann) (t : TypeId) (n : Nat) (h : n = w.heap.size) : AnBox (w.alloc (.cells #[.int .i64 e.e, .int .i64 e.n, .int .u64 e.v] t)) n e :=
  ⟨cell_new _ _ _ _ 0 h, cell_new _ _ _ _ 1 h, cell_new _ _ _ _ 2 h, fun i => by subst h; rw [frozen?_alloc_cells]; simp [World.frozen?]⟩
theorem Lay.it {w : World} {v : Value} {l : List It} (h : Lay w v l.length (flatI l)) (hn : 0 < l.length) : ∃ g o c, v = .slice (some ⟨g, o, none⟩) l.length c ∧ l.length ≤ c ∧ c ≤ maxLen ∧ ∀ i e, l[i]? = some e → ItAt w g (o + i * 2) e := by
  obtain ⟨g, o, c, hv, h1, h2, hc⟩ := h.at hn
  refine ⟨g, o, c, hv, h1, h2, fun i e he => ?_⟩
  have H : ∀ j u, j < 2 → (itc e)[j]? = some u → w.cell? ⟨g, o + i * 2 + j, none⟩ = some u := fun j u hj hu => by
    rw [Nat.add_assoc]
    exact hc _ _ ((flatI_get l i j e he hj).trans hu)
  exact ⟨H 0 _ (by decide) rfl, H 1 _ (by decide) rfl⟩
theorem Lay.oc {w : World} {v : Value} {l : List Oc} (h : Lay w v l.length (flatC l)) (hn : 0 < l.length) : ∃ g o c, v = .slice (some ⟨g, o, none⟩) l.length c ∧ l.length ≤ c ∧ c ≤ maxLen ∧ ∀ i e, l[i]? = some e → OcAt w g (o + i * 4) e := by
  obtain ⟨g, o, c, hv, h1, h2, hc⟩ := h.at hn
  refine ⟨g, o, c, hv, h1, h2, fun i e he => ?_⟩
  have H : ∀ j u, j < 4 → (occ e)[j]? = some u → w.cell? ⟨g, o + i * 4 + j, none⟩ = some u := fun j u hj hu => by
    rw [Nat.add_assoc]
    exact hc _ _ ((flatC_get l i j e he hj).trans hu)
  exact ⟨H 0 _ (by decide) rfl, H 1 _ (by decide) rfl, H 2 _ (by decide) rfl, H 3 _ (by decide) rfl⟩

/-! ### pieces -/
/-- The first m, whatever the new capacity is. -/
theorem Lay.first {w : World} {a : Option Addr} {n c m d : Nat} {l : List It} (h : Lay w (.slice a n c) n (flatI l)) (hm : m ≤ n) (hd : m ≤ d) (hd' : d ≤ maxLen) (hnil : a = none → d = 0) : Lay w (.slice a m d) m (flatI (l.take m)) := by
  by_cases h0 : m = 0
  · subst h0
    cases a with
    | none => rw [hnil rfl]; exact .inl (.inl ⟨rfl, rfl, by simp [flatI]⟩)
    | some x => exact .inr ⟨x, d, rfl, rfl, by simp [flatI], hd'⟩
  · obtain ⟨g, o, c', e, h1, h2, h3⟩ := h.at (by omega)
    cases e
    refine .inl (.inr ⟨g, o, d, rfl, hd, hd', fun j u hu => h3 j u ?_⟩)
    rw [← flatI_take] at hu
    have hj : j < m * 2 := by
      have := (List.getElem?_eq_some_iff.1 hu).1
      rw [List.length_take] at this
      omega
    rwa [List.getElem?_take_of_lt hj] at hu
/-- All but the first m, where the capacity is more than m. -/
theorem Lay.rest {w : World} {g o n c m d : Nat} {l : List It} (h : Lay w (.slice (some ⟨g, o, none⟩) n c) n (flatI l)) (hm : m ≤ n) (hd : n - m ≤ d) (hd' : d ≤ maxLen) (hl : n = l.length) : Lay w (.slice (some ⟨g, o + m * 2, none⟩) (n - m) d) (n - m) (flatI (l.drop m)) := by
  by_cases h0 : n = m
  · rw [show n - m = 0 by omega, List.drop_of_length_le (show l.length ≤ m by omega)]
    exact .inr ⟨_, d, rfl, rfl, rfl, hd'⟩
  · obtain ⟨g', o', c', e, h1, h2, h3⟩ := h.at (by omega)
    cases e
    refine .inl (.inr ⟨g, o + m * 2, d, rfl, hd, hd', fun j u hu => ?_⟩)
    rw [← flatI_drop, List.getElem?_drop] at hu
    rw [Nat.add_assoc]
    exact h3 _ _ hu
theorem Lay.some_spot {w : World} {a : Addr} {n c : Nat} {l : List It} (h : Lay w (.slice (some a) n c) n (flatI l)) (hn : 0 < n) : ∃ g o, a = ⟨g, o, none⟩ := by
  obtain ⟨g, o, c', e, _⟩ := h.at hn
  cases e
  exact ⟨g, o, rfl⟩
/-- Nothing of it, wherever it is. -/
theorem Lay.none_of {w : World} {a : Option Addr} {d : Nat} (hd : d ≤ maxLen) (hnil : a = none → d = 0) : Lay w (.slice a 0 d) 0 (flatI []) := by
  cases a with
  | none => rw [hnil rfl]; exact .inl (.inl ⟨rfl, rfl, rfl⟩)
  | some x => exact .inr ⟨x, d, rfl, rfl, rfl, hd⟩
theorem Lay.tail {w : World} {a : Option Addr} {n c m d : Nat} {l : List It} (h : Lay w (.slice a n c) n (flatI l)) (hl : n = l.length) (hm : m ≤ n) (hd : n ≤ d) (hd' : d ≤ maxLen) (hnc : a = none → d = 0) :
    Lay w (.slice (if d = m then a else a.map (·.add (m * 2))) (n - m) (d - m)) (n - m) (flatI (l.drop m)) := by
  by_cases h0 : n = m
  · rw [show n - m = 0 by omega, List.drop_of_length_le (show l.length ≤ m by omega)]
    refine Lay.none_of (by omega) fun e => ?_
    by_cases hc : d = m
    · omega
    · rw [if_neg hc] at e
      cases a with
      | none => have := hnc rfl; omega
      | some x => cases e
  · obtain ⟨g, o, c', e, _, _, _⟩ := h.at (by omega)
    cases e
    rw [if_neg (by omega)]
    simp only [Option.map_some, add_none]
    exact h.rest hm (by omega) (by omega) hl
theorem Lay.nil_cap {w : World} {a : Option Addr} {n c : Nat} {xs : List Value} (h : Lay w (.slice a n c) n xs) : a = none → c = 0 := by
  intro e
  subst e
  rcases h with (⟨e, _, _⟩ | ⟨g, o, c', e, _⟩) | ⟨x, c', e, _⟩
  · cases e; rfl
  · cases e
  · cases e

/-! ### slices of the call's own -/
theorem infoI : (Try.prog.info? 45).map (fun i => (i.zero, i.size, i.bytes)) = some (some (.agg #[.int .u64 0, .int .i64 0]), 2, 16) := by kernel_rfl
theorem infoC : (Try.prog.info? 54).map (fun i => (i.zero, i.size, i.bytes)) = some (some (.agg #[.int .i64 0, .int .i64 0, .int .u64 0, .slice none 0 0]), 4, 48) := by kernel_rfl
abbrev OwnI (w : World) (base : Nat) (v : Value) (l : List It) : Prop := w.ownsRow base 45 2 v l.length (flatI l)
abbrev OwnC (w : World) (base : Nat) (v : Value) (l : List Oc) : Prop := w.ownsRow base 54 4 v l.length (flatC l)
theorem own_kept {w w' : World} {base : Nat} {e : TypeId} {size : Nat} {v : Value} {n : Nat} {xs : List Value} (h : w.ownsRow base e size v n xs) (k : Kept w w') : w'.ownsRow base e size v n xs :=
  own_same h fun g hg => k.below.block g (h.lt g hg).2
theorem own_but {S : Nat → Prop} {w w' : World} {base : Nat} {e : TypeId} {size : Nat} {v : Value} {n : Nat} {xs : List Value} (h : w.ownsRow base e size v n xs) (k : But S w w') (hS : ∀ g, v.ownBlock = some g → ¬ S g) : w'.ownsRow base e size v n xs :=
  own_same h fun g hg => k.block g (h.lt g hg).2 (hS g hg)
theorem lay_new {w : World} {g : Nat} {xs : List Value} {n : Nat} {t : TypeId} {fr : Nat × Nat} (h : w.heap[g]? = some (.cells xs.toArray t fr)) (hn : n ≤ 100000) : Lay w (.slice (some ⟨g, 0, none⟩) n n) n xs :=
  .inl (.inr ⟨g, 0, n, rfl, Nat.le_refl _, by unfold maxLen; omega, fun j u hu => by
    have := World.news_of_block h j u (by simpa using hu)
    rwa [add_none] at this⟩)

/-! ### what came in -/
theorem wf_i64 (x : Int) (h : (Lit.int .i64 x).wf = true) : -9223372036854775808 ≤ x ∧ x ≤ 9223372036854775807 := by
  have e : IntKind.i64.min = -9223372036854775808 := by decide
  simpa [Lit.wf, e] using h
theorem cellsIt : Try.prog.cellsOf 45 = 2 := by kernel_rfl
theorem cellsOp : Try.prog.cellsOf 25 = 4 := by kernel_rfl
theorem cellsAns : Try.prog.cellsOf 28 = 3 := by kernel_rfl
theorem cellsInt : Try.prog.cellsOf 3 = 1 := by kernel_rfl
theorem cellsU : Try.prog.cellsOf 23 = 1 := by kernel_rfl
theorem cellsErr : Try.prog.cellsOf 26 = 1 := by kernel_rfl
section
variable {H : Type} {enc : TypeId × Value → H} {w : World} {base : Nat} {spare : Nat → Bool} {held : Bool}
theorem open_op {fuel : Nat} {cs : List Value} {x : DataW H × List MemPlace} (h : DataW.trod enc Try.prog w base spare held fuel 25 cs = some x) : ∃ e : Opn, cs = opc e := by
  obtain ⟨xs, n, _, _, hl, hxl, hf⟩ := DataW.trod_struct Try.underlying25 h
  rw [cellsOp] at hl
  match cs, hl with
  | [v0, v1, v2, v3], _ =>
    match xs, hxl with
    | [x0, x1, x2, x3], _ =>
      have f0 : DataW.trod enc Try.prog w base spare held n 3 (([v0, v1, v2, v3].drop 0).take (Try.prog.cellsOf 3)) = some x0 := hf 0 _ rfl
      have f1 : DataW.trod enc Try.prog w base spare held n 3 (([v0, v1, v2, v3].drop 1).take (Try.prog.cellsOf 3)) = some x1 := hf 1 _ rfl
      have f2 : DataW.trod enc Try.prog w base spare held n 3 (([v0, v1, v2, v3].drop 2).take (Try.prog.cellsOf 3)) = some x2 := hf 2 _ rfl
      have f3 : DataW.trod enc Try.prog w base spare held n 23 (([v0, v1, v2, v3].drop 3).take (Try.prog.cellsOf 23)) = some x3 := hf 3 _ rfl
      simp only [cellsInt, cellsU, List.drop_zero, List.drop_succ_cons, List.take_succ_cons, List.take_zero] at f0 f1 f2 f3
      obtain ⟨q0, e0, _⟩ := DataW.trod_int Try.underlying3 f0
      obtain ⟨q1, e1, _⟩ := DataW.trod_int Try.underlying3 f1
      obtain ⟨q2, e2, _⟩ := DataW.trod_int Try.underlying3 f2
      obtain ⟨q3, e3, _⟩ := DataW.trod_int Try.underlying23 f3
      simp at e0 e1 e2 e3
      subst e0; subst e1; subst e2; subst e3
      exact ⟨⟨q0, q1, q2, q3⟩, rfl⟩
theorem open_an {fuel : Nat} {cs : List Value} {x : DataW H × List MemPlace} (h : DataW.trod enc Try.prog w base spare held fuel 28 cs = some x) : ∃ e : Ann, cs = anc e := by
  obtain ⟨xs, n, _, _, hl, hxl, hf⟩ := DataW.trod_struct Try.underlying28 h
  rw [cellsAns] at hl
  match cs, hl with
  | [v0, v1, v2], _ =>
    match xs, hxl with
    | [x0, x1, x2], _ =>
      have f0 : DataW.trod enc Try.prog w base spare held n 26 (([v0, v1, v2].drop 0).take (Try.prog.cellsOf 26)) = some x0 := hf 0 _ rfl
      have f1 : DataW.trod enc Try.prog w base spare held n 3 (([v0, v1, v2].drop 1).take (Try.prog.cellsOf 3)) = some x1 := hf 1 _ rfl
      have f2 : DataW.trod enc Try.prog w base spare held n 23 (([v0, v1, v2].drop 2).take (Try.prog.cellsOf 23)) = some x2 := hf 2 _ rfl
      simp only [cellsErr, cellsInt, cellsU, List.drop_zero, List.drop_succ_cons, List.take_succ_cons, List.take_zero] at f0 f1 f2
      obtain ⟨q0, e0, _⟩ := DataW.trod_int Try.underlying26 f0
      obtain ⟨q1, e1, _⟩ := DataW.trod_int Try.underlying3 f1
      obtain ⟨q2, e2, _⟩ := DataW.trod_int Try.underlying23 f2
      simp at e0 e1 e2
      subst e0; subst e1; subst e2
      exact ⟨⟨q0, q1, q2⟩, rfl⟩
theorem open_opv {fuel : Nat} {cs : Array Value} {x : DataW H × List MemPlace} (h : DataW.trod enc Try.prog w base spare held fuel 25 cs.toList = some x) : ∃ e : Opn, cs = (opc e).toArray := by
  obtain ⟨e, he⟩ := open_op h
  exact ⟨e, by rw [← he]⟩
theorem open_anv {fuel : Nat} {cs : Array Value} {x : DataW H × List MemPlace} (h : DataW.trod enc Try.prog w base spare held fuel 28 cs.toList = some x) : ∃ e : Ann, cs = (anc e).toArray := by
  obtain ⟨e, he⟩ := open_an h
  exact ⟨e, by rw [← he]⟩
/-- A list of things of one width that came in. -/
theorem open_wide {α : Type} {f : α → List Value} {m : Nat} {e t : TypeId} (ht : Try.prog.underlying t = some (.slice e)) (hC : Try.prog.cellsOf e = m) (hm : 0 < m) (hf : ∀ a, (f a).length = m)
    (ho : ∀ (fuel : Nat) (cs : List Value) (x : DataW H × List MemPlace), DataW.trod enc Try.prog w base spare held fuel e cs = some x → ∃ a, cs = f a)
    {fuel : Nat} {a : Option Addr} {len cap : Nat} {x : DataW H × List MemPlace} (h : DataW.trod enc Try.prog w base spare held fuel t [.slice a len cap] = some x) :
    ∃ l : List α, l.length = len ∧ Lay w (.slice a len cap) len (l.flatMap f) := by
  rcases open_slice ht h with h0 | ⟨y, len', cap', m', n, D, Pl, hcs, _, hl, hm', hmm, _, hi⟩
  · obtain ⟨rfl, rfl, rfl⟩ : a = none ∧ len = 0 ∧ cap = 0 := by simpa using h0.1
    exact ⟨[], rfl, .inl (.inl ⟨rfl, rfl, rfl⟩)⟩
  · obtain ⟨rfl, rfl, rfl⟩ : a = some y ∧ len = len' ∧ cap = cap' := by simpa using hcs
    have hle : len ≤ m' := by rw [hmm]; split <;> omega
    rw [hC] at hi
    have each : ∀ i, i < len → ∃ e : α, ∀ j u, j < m → (f e)[j]? = some u → w.cell? (y.add (i * m + j)) = some u := by
      intro i hil
      obtain ⟨cs', hc, ht⟩ := hi i (by omega)
      obtain ⟨e, rfl⟩ := ho _ _ _ ht
      obtain ⟨_, _, hat⟩ := World.cells?_some hc
      refine ⟨e, fun j u hj hu => ?_⟩
      have := hat j hj
      rw [add_add] at this
      exact this.trans hu
    by_cases h0 : len = 0
    · subst h0
      exact ⟨[], rfl, .inr ⟨y, cap, rfl, rfl, rfl, hm'⟩⟩
    · obtain ⟨b, off, spot⟩ := y
      have hs : spot = none := by
        obtain ⟨e, he⟩ := each 0 (by omega)
        have := he 0 _ hm (List.getElem?_eq_getElem (by rw [hf]; exact hm))
        simpa [Addr.add] using World.cell?_spot this
      subst hs
      have pick : ∀ n, n ≤ len → ∃ l : List α, l.length = n ∧ ∀ i e, l[i]? = some e → ∀ j u, j < m → (f e)[j]? = some u → w.cell? ⟨b, off + (i * m + j), none⟩ = some u := by
        intro n
        induction n with
        | zero => intro _; exact ⟨[], rfl, by simp⟩
        | succ n ih =>
          intro hn
          obtain ⟨l, hl1, hl3⟩ := ih (by omega)
          obtain ⟨e, he⟩ := each n (by omega)
          refine ⟨l ++ [e], by simp [hl1], fun i f' hf' j u hj hu => ?_⟩
          by_cases hi' : i < l.length
          · rw [List.getElem?_append_left hi'] at hf'
            exact hl3 i f' hf' j u hj hu
          · have h2 := (List.getElem?_eq_some_iff.1 hf').1
            have e1 : i = l.length := by simp at h2; omega
            subst e1
            have e2 : e = f' := by simpa using hf'
            subst e2
            have := he j u hj hu
            rw [add_none] at this
            rw [hl1]
            exact this
      obtain ⟨l, hl1, hl3⟩ := pick len (Nat.le_refl _)
      refine ⟨l, hl1, .inl (.inr ⟨b, off, cap, rfl, hl, hm', fun j u hu => ?_⟩)⟩
      have hj : j < l.length * m := by rw [← wide_length hf l]; exact (List.getElem?_eq_some_iff.1 hu).1
      obtain ⟨i, r, hr, rfl⟩ : ∃ i r, r < m ∧ j = i * m + r := ⟨j / m, j % m, Nat.mod_lt _ hm, by rw [Nat.mul_comm]; exact (Nat.div_add_mod j m).symm⟩
      have hil : i < l.length := by
        rcases Nat.lt_or_ge i l.length with h | h
        · exact h
        · have := Nat.mul_le_mul_right m h
          omega
      obtain ⟨e, he⟩ : ∃ e, l[i]? = some e := ⟨_, List.getElem?_eq_getElem hil⟩
      rw [wide_get hf l i r e he hr] at hu
      exact hl3 i e he r u hr hu
theorem open_it {fuel : Nat} {cs : List Value} {x : DataW H × List MemPlace} (h : DataW.trod enc Try.prog w base spare held fuel 45 cs = some x) : ∃ e : It, cs = itc e := by
  obtain ⟨xs, n, _, _, hl, hxl, hf⟩ := DataW.trod_struct Try.underlying45 h
  rw [cellsIt] at hl
  match cs, hl with
  | [v0, v1], _ =>
    match xs, hxl with
    | [x0, x1], _ =>
      have f0 : DataW.trod enc Try.prog w base spare held n 23 (([v0, v1].drop 0).take (Try.prog.cellsOf 23)) = some x0 := hf 0 _ rfl
      have f1 : DataW.trod enc Try.prog w base spare held n 3 (([v0, v1].drop 1).take (Try.prog.cellsOf 3)) = some x1 := hf 1 _ rfl
      simp only [cellsInt, cellsU, List.drop_zero, List.drop_succ_cons, List.take_succ_cons, List.take_zero] at f0 f1
      obtain ⟨q0, e0, _⟩ := DataW.trod_int Try.underlying23 f0
      obtain ⟨q1, e1, _⟩ := DataW.trod_int Try.underlying3 f1
      simp at e0 e1
      subst e0; subst e1
      exact ⟨⟨q0, q1⟩, rfl⟩
theorem open_items {fuel : Nat} {a : Option Addr} {len cap : Nat} {x : DataW H × List MemPlace} (h : DataW.trod enc Try.prog w base spare held fuel 22 [.slice a len cap] = some x) :
    ∃ l : List It, l.length = len ∧ Lay w (.slice a len cap) len (flatI l) := open_wide Try.underlying22 cellsIt (by decide) itc_length (fun _ _ _ h => open_it h) h
end
end Go.Proofs.Yteomggjkdaddhaa
