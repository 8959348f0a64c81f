/- Ints, operations and answers in memory. -/
import Derived.Test.YtlkadickhhaakaaDoorProg
import Derived.Test.YtlkadickhhaakaaDoorLay
import Derived.Test.YtlkadickhhaakaaDoorPoMod
import Derived.Deep.Slices
import Derived.WalkKit
import Derived.ProofKit
import Derived.Lib.Hide
namespace Go.Proofs.YtlkadickhhaakaaDoor
open Go.ChangeShapes Go.WideShapes Go.Deep Go.RowKit

def opc (o : Opn) : List Value := [.int .i64 o.k, .int .i64 o.a, .int .i64 o.b, .int .u64 o.u]
def anc (o : Ann) : List Value := [.int .i64 o.e, .int .i64 o.n, .int .u64 o.v]
def flatO (l : List Opn) : List Value := l.flatMap opc
def flatA (l : List Ann) : List Value := l.flatMap anc
theorem opc_length (e : Opn) : (opc e).length = 4 := rfl
theorem anc_length (e : Ann) : (anc e).length = 3 := rfl
theorem flatO_length (l : List Opn) : (flatO l).length = l.length * 4 := wide_length opc_length l
theorem flatA_length (l : List Ann) : (flatA l).length = l.length * 3 := wide_length anc_length l
theorem flatO_get (l : List Opn) (i j : Nat) (e : Opn) (h : l[i]? = some e) (hj : j < 4) : (flatO l)[i * 4 + j]? = (opc e)[j]? := wide_get opc_length l i j e h hj
theorem flatA_get (l : List Ann) (i j : Nat) (e : Ann) (h : l[i]? = some e) (hj : j < 3) : (flatA l)[i * 3 + j]? = (anc e)[j]? := wide_get anc_length l i j e h hj
theorem flatA_snoc (l : List Ann) (e : Ann) : flatA (l ++ [e]) = flatA l ++ anc e := wide_snoc l e
theorem flatO_one (l : List Opn) : ∀ u ∈ flatO l, u.oneCell' = true := wide_one (fun a u h => by simp [opc] at h; rcases h with h | h | h | h <;> subst h <;> rfl) l
theorem flatA_one (l : List Ann) : ∀ u ∈ flatA l, u.oneCell' = true := wide_one (fun a u h => by simp [anc] at h; rcases h with h | h | h <;> subst h <;> rfl) l

/-- An operation's cells, one by one. -/
structure OpAt (w : World) (g o : Nat) (e : Opn) : Prop where
  c0 : w.cell? ⟨g, o, none⟩ = some (.int .i64 e.k)
  c1 : w.cell? ⟨g, o + 1, none⟩ = some (.int .i64 e.a)
  c2 : w.cell? ⟨g, o + 2, none⟩ = some (.int .i64 e.b)
  c3 : w.cell? ⟨g, o + 3, none⟩ = some (.int .u64 e.u)
structure AnAt (w : World) (g o : Nat) (e : Ann) : Prop where
  c0 : w.cell? ⟨g, o, none⟩ = some (.int .i64 e.e)
  c1 : w.cell? ⟨g, o + 1, none⟩ = some (.int .i64 e.n)
  c2 : w.cell? ⟨g, o + 2, none⟩ = some (.int .u64 e.v)
theorem OpAt.kept {w w' : World} {g o : Nat} {e : Opn} (h : OpAt w g o e) (k : Kept w w') : OpAt w' g o e := ⟨k.some h.c0, k.some h.c1, k.some h.c2, k.some h.c3⟩
theorem OpAt.but {S : Nat → Prop} {w w' : World} {g o : Nat} {e : Opn} (h : OpAt w g o e) (k : But S w w') (hS : ¬ S g) : OpAt w' g o e := ⟨k.some h.c0 hS, k.some h.c1 hS, k.some h.c2 hS, k.some h.c3 hS⟩
/-- An operation, an answer in a variable. -/
structure OpBox (w : World) (g : Nat) (e : Opn) : Prop where
  c0 : w.cell? ⟨g, 0, none⟩ = some (.int .i64 e.k)
  c1 : w.cell? ⟨g, 1, none⟩ = some (.int .i64 e.a)
  c2 : w.cell? ⟨g, 2, none⟩ = some (.int .i64 e.b)
  c3 : w.cell? ⟨g, 3, none⟩ = some (.int .u64 e.u)
structure AnBox (w : World) (g : Nat) (e : Ann) : Prop where
  c0 : w.cell? ⟨g, 0, none⟩ = some (.int .i64 e.e)
  c1 : w.cell? ⟨g, 1, none⟩ = some (.int .i64 e.n)
  c2 : w.cell? ⟨g, 2, none⟩ = some (.int .u64 e.v)
  s : ∀ i, w.frozen? ⟨g, i, none⟩ = false
theorem OpBox.kept {w w' : World} {g : Nat} {e : Opn} (h : OpBox w g e) (k : Kept w w') : OpBox w' g e := ⟨k.some h.c0, k.some h.c1, k.some h.c2, k.some h.c3⟩
theorem OpBox.but {S : Nat → Prop} {w w' : World} {g : Nat} {e : Opn} (h : OpBox w g e) (k : But S w w') (hS : ¬ S g) : OpBox w' g e := ⟨k.some h.c0 hS, k.some h.c1 hS, k.some h.c2 hS, k.some h.c3 hS⟩
theorem AnBox.but {S : Nat → Prop} {w w' : World} {g : Nat} {e : Ann} (h : AnBox w g e) (k : But S w w') (hS : ¬ S g) : AnBox w' g e := ⟨k.some h.c0 hS, k.some h.c1 hS, k.some h.c2 hS, fun i => k.soft (lt_of_cell h.c0) (h.s i)⟩
theorem AnBox.kept {w w' : World} {g : Nat} {e : Ann} (h : AnBox w g e) (k : Kept w w') : AnBox w' g e := h.but (k.but (fun _ => False)) id
theorem OpBox.new (w : World) (e : Opn) (t : TypeId) (n : Nat) (h : n = w.heap.size) : OpBox (w.alloc (.cells #[.int .i64 e.k, .int .i64 e.a, .int .i64 e.b, .int .u64 e.u] t)) n e :=
  ⟨cell_new _ _ _ _ 0 h, cell_new _ _ _ _ 1 h, cell_new _ _ _ _ 2 h, cell_new _ _ _ _ 3 h⟩
theorem AnBox.new (w : World) (e : Ann) (t : TypeId) (n : Nat) (h : n = w.heap.size) : AnBox (w.alloc (.cells #[.int .i64 e.e, .int .i64 e.n, .int .u64 e.v] t)) n e :=
  ⟨cell_new _ _ _ _ 0 h, cell_new _ _ _ _ 1 h, cell_new _ _ _ _ 2 h, fun i => by subst h; rw [frozen?_alloc_cells]; simp [World.frozen?]⟩
theorem Lay.op {w : World} {v : Value} {l : List Opn} (h : Lay w v l.length (flatO l)) (hn : 0 < l.length) : ∃ g o c, v = .slice (some ⟨g, o, none⟩) l.length c ∧ l.length ≤ c ∧ c ≤ maxLen ∧ ∀ i e, l[i]? = some e → OpAt w g (o + i * 4) e := by
  obtain ⟨g, o, c, hv, h1, h2, hc⟩ := h.at hn
  refine ⟨g, o, c, hv, h1, h2, fun i e he => ?_⟩
  have H : ∀ j u, j < 4 → (opc e)[j]? = some u → w.cell? ⟨g, o + i * 4 + j, none⟩ = some u := fun j u hj hu => by
    rw [Nat.add_assoc]
    exact hc _ _ ((flatO_get l i j e he hj).trans hu)
  exact ⟨H 0 _ (by decide) rfl, H 1 _ (by decide) rfl, H 2 _ (by decide) rfl, H 3 _ (by decide) rfl⟩
theorem Lay.an {w : World} {v : Value} {l : List Ann} (h : Lay w v l.length (flatA l)) (hn : 0 < l.length) : ∃ g o c, v = .slice (some ⟨g, o, none⟩) l.length c ∧ l.length ≤ c ∧ c ≤ maxLen ∧ ∀ i e, l[i]? = some e → AnAt w g (o + i * 3) e := by
  obtain ⟨g, o, c, hv, h1, h2, hc⟩ := h.at hn
  refine ⟨g, o, c, hv, h1, h2, fun i e he => ?_⟩
  have H : ∀ j u, j < 3 → (anc e)[j]? = some u → w.cell? ⟨g, o + i * 3 + j, none⟩ = some u := fun j u hj hu => by
    rw [Nat.add_assoc]
    exact hc _ _ ((flatA_get l i j e he hj).trans hu)
  exact ⟨H 0 _ (by decide) rfl, H 1 _ (by decide) rfl, H 2 _ (by decide) rfl⟩
theorem Lay.ints {w : World} {v : Value} {l : List Int} (h : Lay w v l.length (ints l)) (hn : 0 < l.length) : ∃ g o c, v = .slice (some ⟨g, o, none⟩) l.length c ∧ l.length ≤ c ∧ c ≤ maxLen ∧ ∀ i d, l[i]? = some d → w.cell? ⟨g, o + i, none⟩ = some (.int .i64 d) := by
  obtain ⟨g, o, c, hv, h1, h2, hc⟩ := h.at hn
  exact ⟨g, o, c, hv, h1, h2, fun i d hd => hc _ _ (ints_get l i d hd)⟩

/-! ### slices of the call's own -/
theorem infoO : (Tryd.prog.info? 25).map (fun i => (i.zero, i.size, i.bytes)) = some (some (.agg #[.int .i64 0, .int .i64 0, .int .i64 0, .int .u64 0]), 4, 32) := by kernel_rfl
theorem infoA : (Tryd.prog.info? 28).map (fun i => (i.zero, i.size, i.bytes)) = some (some (.agg #[.int .i64 0, .int .i64 0, .int .u64 0]), 3, 24) := by kernel_rfl
theorem infoInt : (Tryd.prog.info? 3).map (fun i => (i.zero, i.size, i.bytes)) = some (some (.int .i64 0), 1, 8) := by kernel_rfl
abbrev OwnO (w : World) (base : Nat) (v : Value) (l : List Opn) : Prop := w.ownsRow base 25 4 v l.length (flatO l)
abbrev OwnA (w : World) (base : Nat) (v : Value) (l : List Ann) : Prop := w.ownsRow base 28 3 v l.length (flatA l)
abbrev OwnI (w : World) (base : Nat) (v : Value) (l : List Int) : Prop := w.ownsRow base 3 1 v l.length (ints l)
theorem own_kept {w w' : World} {base : Nat} {e : TypeId} {size : Nat} {v : Value} {n : Nat} {xs : List Value} (h : w.ownsRow base e size v n xs) (k : Kept w w') : w'.ownsRow base e size v n xs :=
  own_same h fun g hg => k.below.block g (h.lt g hg).2
theorem own_but {S : Nat → Prop} {w w' : World} {base : Nat} {e : TypeId} {size : Nat} {v : Value} {n : Nat} {xs : List Value} (h : w.ownsRow base e size v n xs) (k : But S w w') (hS : ∀ g, v.ownBlock = some g → ¬ S g) : w'.ownsRow base e size v n xs :=
  own_same h fun g hg => k.block g (h.lt g hg).2 (hS g hg)
theorem lay_new {w : World} {g : Nat} {xs : List Value} {n : Nat} {t : TypeId} {fr : Nat × Nat} (h : w.heap[g]? = some (.cells xs.toArray t fr)) (hn : n ≤ 100000) : Lay w (.slice (some ⟨g, 0, none⟩) n n) n xs :=
  .inl (.inr ⟨g, 0, n, rfl, Nat.le_refl _, by unfold maxLen; omega, fun j u hu => by
    have := World.news_of_block h j u (by simpa using hu)
    rwa [add_none] at this⟩)

/-! ### what came in -/
theorem wf_i64 (x : Int) (h : (Lit.int .i64 x).wf = true) : -9223372036854775808 ≤ x ∧ x ≤ 9223372036854775807 := by
  have e : IntKind.i64.min = -9223372036854775808 := by decide
  simpa [Lit.wf, e] using h
theorem cellsOp : Tryd.prog.cellsOf 25 = 4 := by kernel_rfl
theorem cellsAns : Tryd.prog.cellsOf 28 = 3 := by kernel_rfl
theorem cellsInt : Tryd.prog.cellsOf 3 = 1 := by kernel_rfl
theorem cellsU : Tryd.prog.cellsOf 23 = 1 := by kernel_rfl
theorem cellsErr : Tryd.prog.cellsOf 26 = 1 := by kernel_rfl
section
variable {H : Type} {enc : TypeId × Value → H} {w : World} {base : Nat} {spare : Nat → Bool} {held : Bool}
theorem open_op {fuel : Nat} {cs : List Value} {x : DataW H × List MemPlace} (h : DataW.trod enc Tryd.prog w base spare held fuel 25 cs = some x) : ∃ e : Opn, cs = opc e := by
  obtain ⟨xs, n, _, _, hl, hxl, hf⟩ := DataW.trod_struct Tryd.underlying25 h
  rw [cellsOp] at hl
  match cs, hl with
  | [v0, v1, v2, v3], _ =>
    match xs, hxl with
    | [x0, x1, x2, x3], _ =>
      have f0 : DataW.trod enc Tryd.prog w base spare held n 3 (([v0, v1, v2, v3].drop 0).take (Tryd.prog.cellsOf 3)) = some x0 := hf 0 _ rfl
      have f1 : DataW.trod enc Tryd.prog w base spare held n 3 (([v0, v1, v2, v3].drop 1).take (Tryd.prog.cellsOf 3)) = some x1 := hf 1 _ rfl
      have f2 : DataW.trod enc Tryd.prog w base spare held n 3 (([v0, v1, v2, v3].drop 2).take (Tryd.prog.cellsOf 3)) = some x2 := hf 2 _ rfl
      have f3 : DataW.trod enc Tryd.prog w base spare held n 23 (([v0, v1, v2, v3].drop 3).take (Tryd.prog.cellsOf 23)) = some x3 := hf 3 _ rfl
      simp only [cellsInt, cellsU, List.drop_zero, List.drop_succ_cons, List.take_succ_cons, List.take_zero] at f0 f1 f2 f3
      obtain ⟨q0, e0, _⟩ := DataW.trod_int Tryd.underlying3 f0
      obtain ⟨q1, e1, _⟩ := DataW.trod_int Tryd.underlying3 f1
      obtain ⟨q2, e2, _⟩ := DataW.trod_int Tryd.underlying3 f2
      obtain ⟨q3, e3, _⟩ := DataW.trod_int Tryd.underlying23 f3
      simp at e0 e1 e2 e3
      subst e0; subst e1; subst e2; subst e3
      exact ⟨⟨q0, q1, q2, q3⟩, rfl⟩
theorem open_an {fuel : Nat} {cs : List Value} {x : DataW H × List MemPlace} (h : DataW.trod enc Tryd.prog w base spare held fuel 28 cs = some x) : ∃ e : Ann, cs = anc e := by
  obtain ⟨xs, n, _, _, hl, hxl, hf⟩ := DataW.trod_struct Tryd.underlying28 h
  rw [cellsAns] at hl
  match cs, hl with
  | [v0, v1, v2], _ =>
    match xs, hxl with
    | [x0, x1, x2], _ =>
      have f0 : DataW.trod enc Tryd.prog w base spare held n 26 (([v0, v1, v2].drop 0).take (Tryd.prog.cellsOf 26)) = some x0 := hf 0 _ rfl
      have f1 : DataW.trod enc Tryd.prog w base spare held n 3 (([v0, v1, v2].drop 1).take (Tryd.prog.cellsOf 3)) = some x1 := hf 1 _ rfl
      have f2 : DataW.trod enc Tryd.prog w base spare held n 23 (([v0, v1, v2].drop 2).take (Tryd.prog.cellsOf 23)) = some x2 := hf 2 _ rfl
      simp only [cellsErr, cellsInt, cellsU, List.drop_zero, List.drop_succ_cons, List.take_succ_cons, List.take_zero] at f0 f1 f2
      obtain ⟨q0, e0, _⟩ := DataW.trod_int Tryd.underlying26 f0
      obtain ⟨q1, e1, _⟩ := DataW.trod_int Tryd.underlying3 f1
      obtain ⟨q2, e2, _⟩ := DataW.trod_int Tryd.underlying23 f2
      simp at e0 e1 e2
      subst e0; subst e1; subst e2
      exact ⟨⟨q0, q1, q2⟩, rfl⟩
theorem open_opv {fuel : Nat} {cs : Array Value} {x : DataW H × List MemPlace} (h : DataW.trod enc Tryd.prog w base spare held fuel 25 cs.toList = some x) : ∃ e : Opn, cs = (opc e).toArray := by
  obtain ⟨e, he⟩ := open_op h
  exact ⟨e, by rw [← he]⟩
theorem open_anv {fuel : Nat} {cs : Array Value} {x : DataW H × List MemPlace} (h : DataW.trod enc Tryd.prog w base spare held fuel 28 cs.toList = some x) : ∃ e : Ann, cs = (anc e).toArray := by
  obtain ⟨e, he⟩ := open_an h
  exact ⟨e, by rw [← he]⟩
/-- A list of things of one width that came in. -/
theorem open_wide {α : Type} {f : α → List Value} {m : Nat} {e t : TypeId} (ht : Tryd.prog.underlying t = some (.slice e)) (hC : Tryd.prog.cellsOf e = m) (hm : 0 < m) (hf : ∀ a, (f a).length = m)
    (ho : ∀ (fuel : Nat) (cs : List Value) (x : DataW H × List MemPlace), DataW.trod enc Tryd.prog w base spare held fuel e cs = some x → ∃ a, cs = f a)
    {fuel : Nat} {a : Option Addr} {len cap : Nat} {x : DataW H × List MemPlace} (h : DataW.trod enc Tryd.prog w base spare held fuel t [.slice a len cap] = some x) :
    ∃ l : List α, l.length = len ∧ Lay w (.slice a len cap) len (l.flatMap f) := by
  rcases open_slice ht h with h0 | ⟨y, len', cap', m', n, D, Pl, hcs, _, hl, hm', hmm, _, hi⟩
  · obtain ⟨rfl, rfl, rfl⟩ : a = none ∧ len = 0 ∧ cap = 0 := by simpa using h0.1
    exact ⟨[], rfl, .inl (.inl ⟨rfl, rfl, rfl⟩)⟩
  · obtain ⟨rfl, rfl, rfl⟩ : a = some y ∧ len = len' ∧ cap = cap' := by simpa using hcs
    have hle : len ≤ m' := by rw [hmm]; split <;> omega
    rw [hC] at hi
    have each : ∀ i, i < len → ∃ e : α, ∀ j u, j < m → (f e)[j]? = some u → w.cell? (y.add (i * m + j)) = some u := by
      intro i hil
      obtain ⟨cs', hc, ht⟩ := hi i (by omega)
      obtain ⟨e, rfl⟩ := ho _ _ _ ht
      obtain ⟨_, _, hat⟩ := World.cells?_some hc
      refine ⟨e, fun j u hj hu => ?_⟩
      have := hat j hj
      rw [add_add] at this
      exact this.trans hu
    by_cases h0 : len = 0
    · subst h0
      exact ⟨[], rfl, .inr ⟨y, cap, rfl, rfl, rfl, hm'⟩⟩
    · obtain ⟨b, off, spot⟩ := y
      have hs : spot = none := by
        obtain ⟨e, he⟩ := each 0 (by omega)
        have := he 0 _ hm (List.getElem?_eq_getElem (by rw [hf]; exact hm))
        simpa [Addr.add] using World.cell?_spot this
      subst hs
      have pick : ∀ n, n ≤ len → ∃ l : List α, l.length = n ∧ ∀ i e, l[i]? = some e → ∀ j u, j < m → (f e)[j]? = some u → w.cell? ⟨b, off + (i * m + j), none⟩ = some u := by
        intro n
        induction n with
        | zero => intro _; exact ⟨[], rfl, by simp⟩
        | succ n ih =>
          intro hn
          obtain ⟨l, hl1, hl3⟩ := ih (by omega)
          obtain ⟨e, he⟩ := each n (by omega)
          refine ⟨l ++ [e], by simp [hl1], fun i f' hf' j u hj hu => ?_⟩
          by_cases hi' : i < l.length
          · rw [List.getElem?_append_left hi'] at hf'
            exact hl3 i f' hf' j u hj hu
          · have h2 := (List.getElem?_eq_some_iff.1 hf').1
            have e1 : i = l.length := by simp at h2; omega
            subst e1
            have e2 : e = f' := by simpa using hf'
            subst e2
            have := he j u hj hu
            rw [add_none] at this
            rw [hl1]
            exact this
      obtain ⟨l, hl1, hl3⟩ := pick len (Nat.le_refl _)
      refine ⟨l, hl1, .inl (.inr ⟨b, off, cap, rfl, hl, hm', fun j u hu => ?_⟩)⟩
      have hj : j < l.length * m := by rw [← wide_length hf l]; exact (List.getElem?_eq_some_iff.1 hu).1
      obtain ⟨i, r, hr, rfl⟩ : ∃ i r, r < m ∧ j = i * m + r := ⟨j / m, j % m, Nat.mod_lt _ hm, by rw [Nat.mul_comm]; exact (Nat.div_add_mod j m).symm⟩
      have hil : i < l.length := by
        rcases Nat.lt_or_ge i l.length with h | h
        · exact h
        · have := Nat.mul_le_mul_right m h
          omega
      obtain ⟨e, he⟩ : ∃ e, l[i]? = some e := ⟨_, List.getElem?_eq_getElem hil⟩
      rw [wide_get hf l i r e he hr] at hu
      exact hl3 i e he r u hr hu
theorem open_ops {fuel : Nat} {a : Option Addr} {len cap : Nat} {x : DataW H × List MemPlace} (h : DataW.trod enc Tryd.prog w base spare held fuel 42 [.slice a len cap] = some x) :
    ∃ l : List Opn, l.length = len ∧ Lay w (.slice a len cap) len (flatO l) := open_wide Tryd.underlying42 cellsOp (by decide) opc_length (fun _ _ _ h => open_op h) h
theorem ints_flat (l : List Int) : ints l = l.flatMap fun x => [Value.int .i64 x] := by simp [ints, List.flatMap]; induction l <;> simp_all
theorem open_ints' {fuel : Nat} {a : Option Addr} {len cap : Nat} {x : DataW H × List MemPlace} (h : DataW.trod enc Tryd.prog w base spare held fuel 22 [.slice a len cap] = some x) :
    ∃ l : List Int, l.length = len ∧ Lay w (.slice a len cap) len (ints l) := by
  obtain ⟨l, h1, h2⟩ := open_wide (f := fun x => [Value.int .i64 x]) Tryd.underlying22 cellsInt (by decide) (fun _ => rfl) (fun fuel cs x h => by
    obtain ⟨q, e, _⟩ : ∃ q, cs = [Value.int .i64 q] ∧ True := by
      obtain ⟨q, h1, h2, _⟩ := DataW.trod_int (cs := cs) Tryd.underlying3 h
      exact ⟨q, by simpa using h1, trivial⟩
    exact ⟨q, e⟩) h
  exact ⟨l, h1, by rw [ints_flat]; exact h2⟩
end
end Go.Proofs.YtlkadickhhaakaaDoor
