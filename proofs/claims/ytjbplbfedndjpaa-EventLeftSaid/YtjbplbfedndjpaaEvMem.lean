/- Events and spans in memory: their cells, lists of them that came in or are the call's own. -/
import Derived.Test.YtjbplbfedndjpaaProg
import Derived.Test.YtjbplbfedndjpaaLay
import Derived.Test.YtjbplbfedndjpaaEvMod
import Derived.Deep.Slices
import Derived.WalkKit
import Derived.ProofKit
import Derived.Lib.Hide
namespace Go.Proofs.Ytjbplbfedndjpaa
open Go.ChangeShapes Go.WideShapes Go.Deep Go.RowKit

def evc (e : Ev) : List Value := [.int .i64 e.id, .bool e.ans, .int .i64 e.k, .int .i64 e.x, .int .i64 e.y, .int .u64 e.u, .int .i64 e.er, .int .i64 e.n, .int .u64 e.v]
def spc (s : Sp) : List Value := [.int .i64 s.id, .int .i64 s.from_, .int .i64 s.to, .int .i64 s.k, .int .i64 s.x, .int .i64 s.y, .int .u64 s.u, .int .i64 s.er, .int .i64 s.n, .int .u64 s.v]
def flatE (l : List Ev) : List Value := l.flatMap evc
def flatS (l : List Sp) : List Value := l.flatMap spc
theorem evc_length (e : Ev) : (evc e).length = 9 := rfl
theorem spc_length (s : Sp) : (spc s).length = 10 := rfl
theorem flatE_length (l : List Ev) : (flatE l).length = l.length * 9 := wide_length evc_length l
theorem flatS_length (l : List Sp) : (flatS l).length = l.length * 10 := wide_length spc_length l
theorem flatE_get (l : List Ev) (i j : Nat) (e : Ev) (h : l[i]? = some e) (hj : j < 9) : (flatE l)[i * 9 + j]? = (evc e)[j]? := wide_get evc_length l i j e h hj
theorem flatS_get (l : List Sp) (i j : Nat) (e : Sp) (h : l[i]? = some e) (hj : j < 10) : (flatS l)[i * 10 + j]? = (spc e)[j]? := wide_get spc_length l i j e h hj
theorem flatE_snoc (l : List Ev) (e : Ev) : flatE (l ++ [e]) = flatE l ++ evc e := wide_snoc l e
theorem flatS_snoc (l : List Sp) (e : Sp) : flatS (l ++ [e]) = flatS l ++ spc e := wide_snoc l e
theorem flatE_one (l : List Ev) : ∀ u ∈ flatE l, u.oneCell' = true := wide_one (fun a u h => by simp [evc] at h; rcases h with h | h | h | h | h | h | h | h | h <;> subst h <;> rfl) l
theorem flatS_one (l : List Sp) : ∀ u ∈ flatS l, u.oneCell' = true := wide_one (fun a u h => by simp [spc] at h; rcases h with h | h | h | h | h | h | h | h | h | h <;> subst h <;> rfl) l

/-- An event's cells, one by one. -/
structure EvAt (w : World) (g o : Nat) (e : Ev) : Prop where
  c0 : w.cell? ⟨g, o, none⟩ = some (.int .i64 e.id)
  c1 : w.cell? ⟨g, o + 1, none⟩ = some (.bool e.ans)
  c2 : w.cell? ⟨g, o + 2, none⟩ = some (.int .i64 e.k)
  c3 : w.cell? ⟨g, o + 3, none⟩ = some (.int .i64 e.x)
  c4 : w.cell? ⟨g, o + 4, none⟩ = some (.int .i64 e.y)
  c5 : w.cell? ⟨g, o + 5, none⟩ = some (.int .u64 e.u)
  c6 : w.cell? ⟨g, o + 6, none⟩ = some (.int .i64 e.er)
  c7 : w.cell? ⟨g, o + 7, none⟩ = some (.int .i64 e.n)
  c8 : w.cell? ⟨g, o + 8, none⟩ = some (.int .u64 e.v)
structure SpAt (w : World) (g o : Nat) (e : Sp) : Prop where
  c0 : w.cell? ⟨g, o, none⟩ = some (.int .i64 e.id)
  c1 : w.cell? ⟨g, o + 1, none⟩ = some (.int .i64 e.from_)
  c2 : w.cell? ⟨g, o + 2, none⟩ = some (.int .i64 e.to)
  c3 : w.cell? ⟨g, o + 3, none⟩ = some (.int .i64 e.k)
  c4 : w.cell? ⟨g, o + 4, none⟩ = some (.int .i64 e.x)
  c5 : w.cell? ⟨g, o + 5, none⟩ = some (.int .i64 e.y)
  c6 : w.cell? ⟨g, o + 6, none⟩ = some (.int .u64 e.u)
  c7 : w.cell? ⟨g, o + 7, none⟩ = some (.int .i64 e.er)
  c8 : w.cell? ⟨g, o + 8, none⟩ = some (.int .i64 e.n)
  c9 : w.cell? ⟨g, o + 9, none⟩ = some (.int .u64 e.v)
/-- An event that was boxed. -/
structure EvBox (w : World) (g : Nat) (e : Ev) : Prop where
  c0 : w.cell? ⟨g, 0, none⟩ = some (.int .i64 e.id)
  c1 : w.cell? ⟨g, 1, none⟩ = some (.bool e.ans)
  c2 : w.cell? ⟨g, 2, none⟩ = some (.int .i64 e.k)
  c3 : w.cell? ⟨g, 3, none⟩ = some (.int .i64 e.x)
  c4 : w.cell? ⟨g, 4, none⟩ = some (.int .i64 e.y)
  c5 : w.cell? ⟨g, 5, none⟩ = some (.int .u64 e.u)
  c6 : w.cell? ⟨g, 6, none⟩ = some (.int .i64 e.er)
  c7 : w.cell? ⟨g, 7, none⟩ = some (.int .i64 e.n)
  c8 : w.cell? ⟨g, 8, none⟩ = some (.int .u64 e.v)
theorem EvBox.kept {w w' : World} {g : Nat} {e : Ev} (h : EvBox w g e) (k : Kept w w') : EvBox w' g e :=
  ⟨k.some h.c0, k.some h.c1, k.some h.c2, k.some h.c3, k.some h.c4, k.some h.c5, k.some h.c6, k.some h.c7, k.some h.c8⟩
theorem EvBox.but {S : Nat → Prop} {w w' : World} {g : Nat} {e : Ev} (h : EvBox w g e) (k : But S w w') (hS : ¬ S g) : EvBox w' g e :=
  ⟨k.some h.c0 hS, k.some h.c1 hS, k.some h.c2 hS, k.some h.c3 hS, k.some h.c4 hS, k.some h.c5 hS, k.some h.c6 hS, k.some h.c7 hS, k.some h.c8 hS⟩
theorem EvBox.new (w : World) (e : Ev) (t : TypeId) : EvBox (w.alloc (.cells #[.int .i64 e.id, .bool e.ans, .int .i64 e.k, .int .i64 e.x, .int .i64 e.y, .int .u64 e.u, .int .i64 e.er, .int .i64 e.n, .int .u64 e.v] t)) w.heap.size e :=
  ⟨cell_new _ _ _ _ 0 rfl, cell_new _ _ _ _ 1 rfl, cell_new _ _ _ _ 2 rfl, cell_new _ _ _ _ 3 rfl, cell_new _ _ _ _ 4 rfl, cell_new _ _ _ _ 5 rfl, cell_new _ _ _ _ 6 rfl, cell_new _ _ _ _ 7 rfl, cell_new _ _ _ _ 8 rfl⟩
/-- A span that was boxed. -/
structure SpBox (w : World) (g : Nat) (e : Sp) : Prop where
  c0 : w.cell? ⟨g, 0, none⟩ = some (.int .i64 e.id)
  c1 : w.cell? ⟨g, 1, none⟩ = some (.int .i64 e.from_)
  c2 : w.cell? ⟨g, 2, none⟩ = some (.int .i64 e.to)
  c3 : w.cell? ⟨g, 3, none⟩ = some (.int .i64 e.k)
  c4 : w.cell? ⟨g, 4, none⟩ = some (.int .i64 e.x)
  c5 : w.cell? ⟨g, 5, none⟩ = some (.int .i64 e.y)
  c6 : w.cell? ⟨g, 6, none⟩ = some (.int .u64 e.u)
  c7 : w.cell? ⟨g, 7, none⟩ = some (.int .i64 e.er)
  c8 : w.cell? ⟨g, 8, none⟩ = some (.int .i64 e.n)
  c9 : w.cell? ⟨g, 9, none⟩ = some (.int .u64 e.v)
theorem SpBox.kept {w w' : World} {g : Nat} {e : Sp} (h : SpBox w g e) (k : Kept w w') : SpBox w' g e :=
  ⟨k.some h.c0, k.some h.c1, k.some h.c2, k.some h.c3, k.some h.c4, k.some h.c5, k.some h.c6, k.some h.c7, k.some h.c8, k.some h.c9⟩
theorem SpBox.but {S : Nat → Prop} {w w' : World} {g : Nat} {e : Sp} (h : SpBox w g e) (k : But S w w') (hS : ¬ S g) : SpBox w' g e :=
  ⟨k.some h.c0 hS, k.some h.c1 hS, k.some h.c2 hS, k.some h.c3 hS, k.some h.c4 hS, k.some h.c5 hS, k.some h.c6 hS, k.some h.c7 hS, k.some h.c8 hS, k.some h.c9 hS⟩
theorem SpBox.new (w : World) (e : Sp) (t : TypeId) : SpBox (w.alloc (.cells #[.int .i64 e.id, .int .i64 e.from_, .int .i64 e.to, .int .i64 e.k, .int .i64 e.x, .int .i64 e.y, .int .u64 e.u, .int .i64 e.er, .int .i64 e.n, .int .u64 e.v] t)) w.heap.size e :=
  ⟨cell_new _ _ _ _ 0 rfl, cell_new _ _ _ _ 1 rfl, cell_new _ _ _ _ 2 rfl, cell_new _ _ _ _ 3 rfl, cell_new _ _ _ _ 4 rfl, cell_new _ _ _ _ 5 rfl, cell_new _ _ _ _ 6 rfl, cell_new _ _ _ _ 7 rfl, cell_new _ _ _ _ 8 rfl, cell_new _ _ _ _ 9 rfl⟩
theorem SpBox.at (w : World) (e : Sp) (t : TypeId) (n : Nat) (h : n = w.heap.size) : SpBox (w.alloc (.cells #[.int .i64 e.id, .int .i64 e.from_, .int .i64 e.to, .int .i64 e.k, .int .i64 e.x, .int .i64 e.y, .int .u64 e.u, .int .i64 e.er, .int .i64 e.n, .int .u64 e.v] t)) n e := by
  subst h; exact SpBox.new w e t
def zeroSp : Sp := ⟨0, 0, 0, 0, 0, 0, 0, 0, 0, 0⟩
/-- A span that is stored into a block. -/
def stored (W : World) (b : Nat) (s : Sp) : World := ((((((((((W.setCell ⟨b, 0, none⟩ (.int .i64 s.id)).setCell ⟨b, 1, none⟩ (.int .i64 s.from_)).setCell ⟨b, 2, none⟩ (.int .i64 s.to)).setCell ⟨b, 3, none⟩ (.int .i64 s.k)).setCell ⟨b, 4, none⟩ (.int .i64 s.x)).setCell ⟨b, 5, none⟩ (.int .i64 s.y)).setCell ⟨b, 6, none⟩ (.int .u64 s.u)).setCell ⟨b, 7, none⟩ (.int .i64 s.er)).setCell ⟨b, 8, none⟩ (.int .i64 s.n)).setCell ⟨b, 9, none⟩ (.int .u64 s.v))
theorem stored_box {W : World} {b : Nat} {z : Sp} (h : SpBox W b z) (s : Sp) : SpBox (stored W b s) b s := by
  obtain ⟨z0, z1, z2, z3, z4, z5, z6, z7, z8, z9⟩ := h
  constructor <;> simp [stored, cell_set, z0, z1, z2, z3, z4, z5, z6, z7, z8, z9]
theorem stored_kept {a W : World} (h : Kept a W) {b : Nat} (hb : a.heap.size ≤ b) (s : Sp) : Kept a (stored W b s) := (Kept.setCell (Kept.setCell (Kept.setCell (Kept.setCell (Kept.setCell (Kept.setCell (Kept.setCell (Kept.setCell (Kept.setCell (Kept.setCell h (p := ⟨b, 0, none⟩) hb _) (p := ⟨b, 1, none⟩) hb _) (p := ⟨b, 2, none⟩) hb _) (p := ⟨b, 3, none⟩) hb _) (p := ⟨b, 4, none⟩) hb _) (p := ⟨b, 5, none⟩) hb _) (p := ⟨b, 6, none⟩) hb _) (p := ⟨b, 7, none⟩) hb _) (p := ⟨b, 8, none⟩) hb _) (p := ⟨b, 9, none⟩) hb _)
theorem EvAt.kept {w w' : World} {g o : Nat} {e : Ev} (h : EvAt w g o e) (k : Kept w w') : EvAt w' g o e :=
  ⟨k.some h.c0, k.some h.c1, k.some h.c2, k.some h.c3, k.some h.c4, k.some h.c5, k.some h.c6, k.some h.c7, k.some h.c8⟩
theorem EvAt.but {S : Nat → Prop} {w w' : World} {g o : Nat} {e : Ev} (h : EvAt w g o e) (k : But S w w') (hS : ¬ S g) : EvAt w' g o e :=
  ⟨k.some h.c0 hS, k.some h.c1 hS, k.some h.c2 hS, k.some h.c3 hS, k.some h.c4 hS, k.some h.c5 hS, k.some h.c6 hS, k.some h.c7 hS, k.some h.c8 hS⟩
theorem SpAt.kept {w w' : World} {g o : Nat} {e : Sp} (h : SpAt w g o e) (k : Kept w w') : SpAt w' g o e :=
  ⟨k.some h.c0, k.some h.c1, k.some h.c2, k.some h.c3, k.some h.c4, k.some h.c5, k.some h.c6, k.some h.c7, k.some h.c8, k.some h.c9⟩
theorem Lay.ev {w : World} {v : Value} {l : List Ev} (h : Lay w v l.length (flatE l)) (hn : 0 < l.length) : ∃ g o c, v = .slice (some ⟨g, o, none⟩) l.length c ∧ l.length ≤ c ∧ c ≤ maxLen ∧ ∀ i e, l[i]? = some e → EvAt w g (o + i * 9) e := by
  obtain ⟨g, o, c, hv, h1, h2, hc⟩ := h.at hn
  refine ⟨g, o, c, hv, h1, h2, fun i e he => ?_⟩
  have H : ∀ j u, j < 9 → (evc e)[j]? = some u → w.cell? ⟨g, o + i * 9 + j, none⟩ = some u := fun j u hj hu => by
    rw [Nat.add_assoc]
    exact hc _ _ ((flatE_get l i j e he hj).trans hu)
  exact ⟨H 0 _ (by decide) rfl, H 1 _ (by decide) rfl, H 2 _ (by decide) rfl, H 3 _ (by decide) rfl, H 4 _ (by decide) rfl, H 5 _ (by decide) rfl, H 6 _ (by decide) rfl, H 7 _ (by decide) rfl, H 8 _ (by decide) rfl⟩
theorem Lay.sp {w : World} {v : Value} {l : List Sp} (h : Lay w v l.length (flatS l)) (hn : 0 < l.length) : ∃ g o c, v = .slice (some ⟨g, o, none⟩) l.length c ∧ l.length ≤ c ∧ c ≤ maxLen ∧ ∀ i e, l[i]? = some e → SpAt w g (o + i * 10) e := by
  obtain ⟨g, o, c, hv, h1, h2, hc⟩ := h.at hn
  refine ⟨g, o, c, hv, h1, h2, fun i e he => ?_⟩
  have H : ∀ j u, j < 10 → (spc e)[j]? = some u → w.cell? ⟨g, o + i * 10 + j, none⟩ = some u := fun j u hj hu => by
    rw [Nat.add_assoc]
    exact hc _ _ ((flatS_get l i j e he hj).trans hu)
  exact ⟨H 0 _ (by decide) rfl, H 1 _ (by decide) rfl, H 2 _ (by decide) rfl, H 3 _ (by decide) rfl, H 4 _ (by decide) rfl, H 5 _ (by decide) rfl, H 6 _ (by decide) rfl, H 7 _ (by decide) rfl, H 8 _ (by decide) rfl, H 9 _ (by decide) rfl⟩
theorem Lay.num {w : World} {v : Value} {l : List Int} (h : Lay w v l.length (ints l)) (hn : 0 < l.length) : ∃ g o c, v = .slice (some ⟨g, o, none⟩) l.length c ∧ l.length ≤ c ∧ c ≤ maxLen ∧ ∀ i d, l[i]? = some d → w.cell? ⟨g, o + i, none⟩ = some (.int .i64 d) := by
  obtain ⟨g, o, c, hv, h1, h2, hc⟩ := h.at hn
  exact ⟨g, o, c, hv, h1, h2, fun i d hd => hc _ _ (ints_get l i d hd)⟩

/-! ### slices of the call's own -/
theorem infoEv : (Try.prog.info? 51).map (fun i => (i.zero, i.size, i.bytes)) = some (some (.agg #[.int .i64 0, .bool false, .int .i64 0, .int .i64 0, .int .i64 0, .int .u64 0, .int .i64 0, .int .i64 0, .int .u64 0]), 9, 72) := by kernel_rfl
theorem infoSp : (Try.prog.info? 57).map (fun i => (i.zero, i.size, i.bytes)) = some (some (.agg #[.int .i64 0, .int .i64 0, .int .i64 0, .int .i64 0, .int .i64 0, .int .i64 0, .int .u64 0, .int .i64 0, .int .i64 0, .int .u64 0]), 10, 80) := by kernel_rfl
theorem infoI : (Try.prog.info? 3).map (fun i => (i.zero, i.size, i.bytes)) = some (some (.int .i64 0), 1, 8) := by kernel_rfl
abbrev OwnE (w : World) (base : Nat) (v : Value) (l : List Ev) : Prop := w.ownsRow base 51 9 v l.length (flatE l)
abbrev OwnS (w : World) (base : Nat) (v : Value) (l : List Sp) : Prop := w.ownsRow base 57 10 v l.length (flatS l)
abbrev OwnI (w : World) (base : Nat) (v : Value) (l : List Int) : Prop := w.ownsRow base 3 1 v l.length (ints l)
theorem own_kept {w w' : World} {base : Nat} {e : TypeId} {size : Nat} {v : Value} {n : Nat} {xs : List Value} (h : w.ownsRow base e size v n xs) (k : Kept w w') : w'.ownsRow base e size v n xs :=
  own_same h fun g hg => k.below.block g (h.lt g hg).2
theorem own_but {S : Nat → Prop} {w w' : World} {base : Nat} {e : TypeId} {size : Nat} {v : Value} {n : Nat} {xs : List Value} (h : w.ownsRow base e size v n xs) (k : But S w w') (hS : ∀ g, v.ownBlock = some g → ¬ S g) : w'.ownsRow base e size v n xs :=
  own_same h fun g hg => k.block g (h.lt g hg).2 (hS g hg)
/-- Posts: a new list is told; a new list, and an error. -/
def RetE (w : World) (l : List Ev) (ed : Ending) (w' : World) : Prop := ∃ a c, ed = .returned (.slice a l.length c) ∧ Kept w w' ∧ OwnE w' w.heap.size (.slice a l.length c) l
def RetI (w : World) (l : List Int) (ed : Ending) (w' : World) : Prop := ∃ a c, ed = .returned (.slice a l.length c) ∧ Kept w w' ∧ OwnI w' w.heap.size (.slice a l.length c) l
def RetE2 (w : World) (l : List Ev) (x : Int) (ed : Ending) (w' : World) : Prop := ∃ a c, ed = .returned (.tuple #[.slice a l.length c, .int .i64 x]) ∧ Kept w w' ∧ OwnE w' w.heap.size (.slice a l.length c) l
def RetS2 (w : World) (l : List Sp) (x : Int) (ed : Ending) (w' : World) : Prop := ∃ a c, ed = .returned (.tuple #[.slice a l.length c, .int .i64 x]) ∧ Kept w w' ∧ OwnS w' w.heap.size (.slice a l.length c) l
theorem lay_new {w : World} {g : Nat} {xs : List Value} {n : Nat} {t : TypeId} {fr : Nat × Nat} (h : w.heap[g]? = some (.cells xs.toArray t fr)) (hn : n ≤ 100000) : Lay w (.slice (some ⟨g, 0, none⟩) n n) n xs :=
  .inl (.inr ⟨g, 0, n, rfl, Nat.le_refl _, by unfold maxLen; omega, fun j u hu => by
    have := World.news_of_block h j u (by simpa using hu)
    rwa [add_none] at this⟩)

/-! ### what came in -/
def Wf (e : Ev) : Prop := -9223372036854775808 ≤ e.id ∧ e.id ≤ 9223372036854775807
theorem wf_i64 (x : Int) (h : (Lit.int .i64 x).wf = true) : -9223372036854775808 ≤ x ∧ x ≤ 9223372036854775807 := by
  have e : IntKind.i64.min = -9223372036854775808 := by decide
  simpa [Lit.wf, e] using h
theorem wf_back {x : Int} (h : -9223372036854775808 ≤ x ∧ x ≤ 9223372036854775807) : (Lit.int .i64 x).wf = true := by
  have e : IntKind.i64.min = -9223372036854775808 := by decide
  simpa [Lit.wf, e] using h
theorem cellsEv : Try.prog.cellsOf 51 = 9 := by kernel_rfl
theorem cellsOp : Try.prog.cellsOf 47 = 4 := by kernel_rfl
theorem cellsAns : Try.prog.cellsOf 49 = 3 := by kernel_rfl
theorem cellsInt : Try.prog.cellsOf 3 = 1 := by kernel_rfl
theorem cellsBool : Try.prog.cellsOf 4 = 1 := by kernel_rfl
theorem cellsU : Try.prog.cellsOf 45 = 1 := by kernel_rfl
theorem cellsErr : Try.prog.cellsOf 26 = 1 := by kernel_rfl
section
variable {H : Type} {enc : TypeId × Value → H} {w : World} {base : Nat} {spare : Nat → Bool} {held : Bool}
theorem open_ev {fuel : Nat} {cs : List Value} {x : DataW H × List MemPlace} (h : DataW.trod enc Try.prog w base spare held fuel 51 cs = some x) : ∃ e : Ev, cs = evc e ∧ Wf e := by
  obtain ⟨xs, n, _, _, hl, hxl, hf⟩ := DataW.trod_struct Try.underlying51 h
  rw [cellsEv] at hl
  match cs, hl with
  | [v0, v1, v2, v3, v4, v5, v6, v7, v8], _ =>
    match xs, hxl with
    | [x0, x1, x2, x3], _ =>
      have f0 : DataW.trod enc Try.prog w base spare held n 3 (([v0, v1, v2, v3, v4, v5, v6, v7, v8].drop 0).take (Try.prog.cellsOf 3)) = some x0 := hf 0 _ rfl
      have f1 : DataW.trod enc Try.prog w base spare held n 4 (([v0, v1, v2, v3, v4, v5, v6, v7, v8].drop 1).take (Try.prog.cellsOf 4)) = some x1 := hf 1 _ rfl
      have f2 : DataW.trod enc Try.prog w base spare held n 47 (([v0, v1, v2, v3, v4, v5, v6, v7, v8].drop 2).take (Try.prog.cellsOf 47)) = some x2 := hf 2 _ rfl
      have f3 : DataW.trod enc Try.prog w base spare held n 49 (([v0, v1, v2, v3, v4, v5, v6, v7, v8].drop 6).take (Try.prog.cellsOf 49)) = some x3 := hf 3 _ rfl
      simp only [cellsInt, cellsBool, cellsOp, cellsAns, List.drop_zero, List.drop_succ_cons, List.take_succ_cons, List.take_zero] at f0 f1 f2 f3
      obtain ⟨i, e0, _, wi⟩ := DataW.trod_int Try.underlying3 f0
      obtain ⟨b, e1, _⟩ := DataW.trod_bool Try.underlying4 f1
      obtain ⟨ys, n2, _, _, _, hyl, hg⟩ := DataW.trod_struct Try.underlying47 f2
      obtain ⟨zs, n3, _, _, _, hzl, hk⟩ := DataW.trod_struct Try.underlying49 f3
      match ys, hyl with
      | [y0, y1, y2, y3], _ =>
        match zs, hzl with
        | [z0, z1, z2], _ =>
          have g0 : DataW.trod enc Try.prog w base spare held n2 3 (([v2, v3, v4, v5].drop 0).take (Try.prog.cellsOf 3)) = some y0 := hg 0 _ rfl
          have g1 : DataW.trod enc Try.prog w base spare held n2 3 (([v2, v3, v4, v5].drop 1).take (Try.prog.cellsOf 3)) = some y1 := hg 1 _ rfl
          have g2 : DataW.trod enc Try.prog w base spare held n2 3 (([v2, v3, v4, v5].drop 2).take (Try.prog.cellsOf 3)) = some y2 := hg 2 _ rfl
          have g3 : DataW.trod enc Try.prog w base spare held n2 45 (([v2, v3, v4, v5].drop 3).take (Try.prog.cellsOf 45)) = some y3 := hg 3 _ rfl
          have k0 : DataW.trod enc Try.prog w base spare held n3 26 (([v6, v7, v8].drop 0).take (Try.prog.cellsOf 26)) = some z0 := hk 0 _ rfl
          have k1 : DataW.trod enc Try.prog w base spare held n3 3 (([v6, v7, v8].drop 1).take (Try.prog.cellsOf 3)) = some z1 := hk 1 _ rfl
          have k2 : DataW.trod enc Try.prog w base spare held n3 45 (([v6, v7, v8].drop 2).take (Try.prog.cellsOf 45)) = some z2 := hk 2 _ rfl
          simp only [cellsInt, cellsU, cellsErr, List.drop_zero, List.drop_succ_cons, List.take_succ_cons, List.take_zero] at g0 g1 g2 g3 k0 k1 k2
          obtain ⟨q2, e2, _, _⟩ := DataW.trod_int Try.underlying3 g0
          obtain ⟨q3, e3, _, _⟩ := DataW.trod_int Try.underlying3 g1
          obtain ⟨q4, e4, _, _⟩ := DataW.trod_int Try.underlying3 g2
          obtain ⟨q5, e5, _, _⟩ := DataW.trod_int Try.underlying45 g3
          obtain ⟨q6, e6, _, _⟩ := DataW.trod_int Try.underlying26 k0
          obtain ⟨q7, e7, _, _⟩ := DataW.trod_int Try.underlying3 k1
          obtain ⟨q8, e8, _, _⟩ := DataW.trod_int Try.underlying45 k2
          simp at e0 e1 e2 e3 e4 e5 e6 e7 e8
          subst e0; subst e1; subst e2; subst e3; subst e4; subst e5; subst e6; subst e7; subst e8
          exact ⟨⟨i, b, q2, q3, q4, q5, q6, q7, q8⟩, rfl, wf_i64 _ wi⟩
theorem open_evs {fuel : Nat} {a : Option Addr} {len cap : Nat} {x : DataW H × List MemPlace} (h : DataW.trod enc Try.prog w base spare held fuel 22 [.slice a len cap] = some x) :
    ∃ l : List Ev, l.length = len ∧ Lay w (.slice a len cap) len (flatE l) ∧ ∀ e ∈ l, Wf e := by
  rcases open_slice Try.underlying22 h with h0 | ⟨y, len', cap', m, n, D, Pl, hcs, _, hl, hm, hmm, _, hi⟩
  · obtain ⟨rfl, rfl, rfl⟩ : a = none ∧ len = 0 ∧ cap = 0 := by simpa using h0.1
    exact ⟨[], rfl, .inl (.inl ⟨rfl, rfl, rfl⟩), by simp⟩
  · obtain ⟨rfl, rfl, rfl⟩ : a = some y ∧ len = len' ∧ cap = cap' := by simpa using hcs
    have hle : len ≤ m := by rw [hmm]; split <;> omega
    rw [cellsEv] at hi
    have each : ∀ i, i < len → ∃ e : Ev, (∀ j u, j < 9 → (evc e)[j]? = some u → w.cell? (y.add (i * 9 + j)) = some u) ∧ Wf e := by
      intro i hil
      obtain ⟨cs', hc, ht⟩ := hi i (by omega)
      obtain ⟨e, rfl, we⟩ := open_ev ht
      obtain ⟨_, _, hat⟩ := World.cells?_some hc
      refine ⟨e, fun j u hj hu => ?_, we⟩
      have := hat j hj
      rw [add_add] at this
      exact this.trans hu
    by_cases h0 : len = 0
    · subst h0
      exact ⟨[], rfl, .inr ⟨y, cap, rfl, rfl, rfl, hm⟩, by simp⟩
    · obtain ⟨b, off, spot⟩ := y
      have hs : spot = none := by
        obtain ⟨e, he, _⟩ := each 0 (by omega)
        have := he 0 _ (by decide) rfl
        simpa [Addr.add] using World.cell?_spot this
      subst hs
      have pick : ∀ n, n ≤ len → ∃ l : List Ev, l.length = n ∧ (∀ e ∈ l, Wf e) ∧ ∀ i e, l[i]? = some e → ∀ j u, j < 9 → (evc e)[j]? = some u → w.cell? ⟨b, off + (i * 9 + j), none⟩ = some u := by
        intro n
        induction n with
        | zero => intro _; exact ⟨[], rfl, by simp, by simp⟩
        | succ n ih =>
          intro hn
          obtain ⟨l, hl1, hl2, hl3⟩ := ih (by omega)
          obtain ⟨e, he, we⟩ := each n (by omega)
          refine ⟨l ++ [e], by simp [hl1], fun f hf => ?_, fun i f hf j u hj hu => ?_⟩
          · rcases List.mem_append.1 hf with hf | hf
            · exact hl2 f hf
            · simp at hf; subst hf; exact we
          · by_cases hi' : i < l.length
            · rw [List.getElem?_append_left hi'] at hf
              exact hl3 i f hf j u hj hu
            · have h2 := (List.getElem?_eq_some_iff.1 hf).1
              have e1 : i = l.length := by simp at h2; omega
              subst e1
              have e2 : e = f := by simpa using hf
              subst e2
              have := he j u hj hu
              rw [add_none] at this
              rw [hl1]
              exact this
      obtain ⟨l, hl1, hl2, hl3⟩ := pick len (Nat.le_refl _)
      refine ⟨l, hl1, .inl (.inr ⟨b, off, cap, rfl, hl, hm, fun j u hu => ?_⟩), hl2⟩
      have hj : j < l.length * 9 := by rw [← flatE_length]; exact (List.getElem?_eq_some_iff.1 hu).1
      obtain ⟨i, r, hr, rfl⟩ : ∃ i r, r < 9 ∧ j = i * 9 + r := ⟨j / 9, j % 9, by omega, by omega⟩
      obtain ⟨e, he⟩ : ∃ e, l[i]? = some e := ⟨_, List.getElem?_eq_getElem (by omega)⟩
      rw [flatE_get l i r e he hr] at hu
      exact hl3 i e he r u hr hu
theorem open_nums {fuel : Nat} {a : Option Addr} {len cap : Nat} {x : DataW H × List MemPlace} (h : DataW.trod enc Try.prog w base spare held fuel 29 [.slice a len cap] = some x) :
    ∃ l : List Int, l.length = len ∧ Lay w (.slice a len cap) len (ints l) ∧ ∀ e ∈ l, -9223372036854775808 ≤ e ∧ e ≤ 9223372036854775807 := by
  rcases open_ints Try.underlying29 Try.underlying3 (by kernel_rfl) h with h0 | ⟨x, len', cap', zs, hcs, _, hl, hm, hz, _, hc, hw⟩
  · obtain ⟨rfl, rfl, rfl⟩ : a = none ∧ len = 0 ∧ cap = 0 := by simpa using h0.1
    exact ⟨[], rfl, .inl (.inl ⟨rfl, rfl, rfl⟩), by simp⟩
  · obtain ⟨rfl, rfl, rfl⟩ : a = some x ∧ len = len' ∧ cap = cap' := by simpa using hcs
    have hle : len ≤ zs.length := by rw [hz]; split <;> omega
    by_cases h0 : len = 0
    · subst h0
      exact ⟨[], rfl, .inr ⟨x, cap, rfl, rfl, rfl, hm⟩, by simp⟩
    · obtain ⟨b, off, spot⟩ := x
      have hc0 := hc 0 (by omega)
      have hs : spot = none := by simpa [Addr.add] using World.cell?_spot hc0
      subst hs
      refine ⟨zs.take len, by simp; omega, .inl (.inr ⟨b, off, cap, rfl, hl, hm, fun j u hu => ?_⟩), fun e he => wf_i64 _ (hw e (List.mem_of_mem_take he))⟩
      have hj : j < len := by have := (List.getElem?_eq_some_iff.1 hu).1; simp [ints] at this; omega
      have h := hc j (by omega)
      rw [add_none] at h
      rw [h]
      simp [ints, List.getElem?_take_of_lt hj] at hu
      obtain ⟨q, hq, rfl⟩ := hu
      simp [hq]
end
end Go.Proofs.Ytjbplbfedndjpaa
