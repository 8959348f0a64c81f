/- The program's frame and the document's frame in memory. -/
import Derived.Test.YtdgajkimepgljaaProg
import Derived.Test.YtdgajkimepgljaaOwns
import Derived.Test.YtdgajkimepgljaaFMod
import Derived.Lib.Hide
namespace Go.Proofs.Ytdgajkimepgljaa
open Go.RowKit

theorem infoDeed : (Try.prog.info? 59).map (fun i => (i.zero, i.size, i.bytes)) = some (some (.agg #[.int .i64 0, .int .i64 0, .int .i64 0]), 3, 24) := by kernel_rfl
theorem infoIntF : (Try.prog.info? 3).map (fun i => (i.zero, i.size, i.bytes)) = some (some (.int .i64 0), 1, 8) := by kernel_rfl

/-- Deeds of the call's own. -/
abbrev OwnD (w : World) (base : Nat) (v : Value) (l : List Dd) : Prop := w.ownsRow base 59 3 v l.length (flat l)
abbrev OwnI (w : World) (base : Nat) (v : Value) (l : List Int) : Prop := w.ownsRow base 3 1 v l.length (ints l)

/-! ### the program's -/
structure PF (w : World) (F G T : Nat) (dv : Value) (base n m : Nat) (s : St) : Prop where
  fine : Fine n m s
  ptr : w.cell? ⟨F, 0, none⟩ = some (.pointer (some ⟨G, 0, none⟩))
  tab : w.cell? ⟨G, 0, none⟩ = some (.slice (some ⟨T, 0, none⟩) n n)
  dee : w.cell? ⟨G, 1, none⟩ = some dv
  all : w.cell? ⟨G, 2, none⟩ = some (.int .i64 s.all)
  softG : ∀ i, w.frozen? ⟨G, i, none⟩ = false
  softT : ∀ i, w.frozen? ⟨T, i, none⟩ = false
  c0 : ∀ i : Nat, i < n → w.cell? ⟨T, i * 4, none⟩ = some (.int .i64 (if s.on i then (i : Int) else 0))
  c1 : ∀ i : Nat, i < n → w.cell? ⟨T, i * 4 + 1, none⟩ = some (.int .i64 (s.what i))
  c2 : ∀ i : Nat, i < n → w.cell? ⟨T, i * 4 + 2, none⟩ = some (.int .i64 (s.steps i))
  c3 : ∀ i : Nat, i < n → w.cell? ⟨T, i * 4 + 3, none⟩ = some (.bool (s.on i))
  own : OwnD w base dv s.D
  bF : base ≤ F
  bG : base ≤ G
  bT : base ≤ T
  fg : F ≠ G
  ft : F ≠ T
  gt : G ≠ T
  df : dv.ownBlock ≠ some F
  dg : dv.ownBlock ≠ some G
  dt : dv.ownBlock ≠ some T

/-- Its blocks. -/
def MineP (F G T : Nat) (dv : Value) (k : Nat) : Prop := k = F ∨ k = G ∨ k = T ∨ dv.ownBlock = some k

theorem PF.lt {w : World} {F G T : Nat} {dv : Value} {base n m : Nat} {s : St} (h : PF w F G T dv base n m s) : ∀ k, MineP F G T dv k → k < w.heap.size := by
  rintro k (rfl | rfl | rfl | hd)
  · exact lt_of_cell h.ptr
  · exact lt_of_cell h.tab
  · exact lt_of_cell (h.c0 0 (by have := h.fine.n1; omega))
  · exact (h.own.lt k hd).2
theorem PF.ge {w : World} {F G T : Nat} {dv : Value} {base n m : Nat} {s : St} (h : PF w F G T dv base n m s) : ∀ k, MineP F G T dv k → base ≤ k := by
  rintro k (rfl | rfl | rfl | hd)
  · exact h.bF
  · exact h.bG
  · exact h.bT
  · exact (h.own.lt k hd).1
theorem cell_same {w w' : World} {b : Nat} (h : w'.heap[b]? = w.heap[b]?) (o : Nat) : w'.cell? ⟨b, o, none⟩ = w.cell? ⟨b, o, none⟩ := World.cell?_of_block (a := ⟨b, o, none⟩) h
theorem froz_same {w w' : World} {b : Nat} (h : w'.heap[b]? = w.heap[b]?) (o : Nat) : w'.frozen? ⟨b, o, none⟩ = w.frozen? ⟨b, o, none⟩ := World.frozen?_of_block (a := ⟨b, o, none⟩) h

theorem PF.same {w w' : World} {F G T : Nat} {dv : Value} {base n m : Nat} {s : St} (h : PF w F G T dv base n m s) (hs : ∀ k, MineP F G T dv k → w'.heap[k]? = w.heap[k]?) : PF w' F G T dv base n m s := by
  have hF := hs F (.inl rfl)
  have hG := hs G (.inr (.inl rfl))
  have hT := hs T (.inr (.inr (.inl rfl)))
  exact ⟨h.fine, (cell_same hF 0).trans h.ptr, (cell_same hG 0).trans h.tab, (cell_same hG 1).trans h.dee, (cell_same hG 2).trans h.all, fun i => (froz_same hG i).trans (h.softG i), fun i => (froz_same hT i).trans (h.softT i),
    fun i hi => (cell_same hT _).trans (h.c0 i hi), fun i hi => (cell_same hT _).trans (h.c1 i hi), fun i hi => (cell_same hT _).trans (h.c2 i hi), fun i hi => (cell_same hT _).trans (h.c3 i hi),
    own_same h.own (fun g hg => hs g (.inr (.inr (.inr hg)))), h.bF, h.bG, h.bT, h.fg, h.ft, h.gt, h.df, h.dg, h.dt⟩
theorem PF.kept {w w' : World} {F G T : Nat} {dv : Value} {base n m : Nat} {s : St} (h : PF w F G T dv base n m s) (k : Kept w w') : PF w' F G T dv base n m s :=
  h.same fun b hb => k.below.block b (h.lt b hb)
theorem PF.but {S : Nat → Prop} {w w' : World} {F G T : Nat} {dv : Value} {base n m : Nat} {s : St} (h : PF w F G T dv base n m s) (k : But S w w') (hS : ∀ b, MineP F G T dv b → ¬ S b) : PF w' F G T dv base n m s :=
  h.same fun b hb => k.block b (h.lt b hb) (hS b hb)
theorem PF.mono {w : World} {F G T : Nat} {dv : Value} {base n m m' : Nat} {s : St} (h : PF w F G T dv base n m s) (hm : m ≤ m') : PF w F G T dv base n m' s :=
  ⟨h.fine.mono hm, h.ptr, h.tab, h.dee, h.all, h.softG, h.softT, h.c0, h.c1, h.c2, h.c3, h.own, h.bF, h.bG, h.bT, h.fg, h.ft, h.gt, h.df, h.dg, h.dt⟩

/-- A frame that nobody made. -/
def NobF (w : World) (p : Option Addr) : Prop := p = none ∨ ∃ F, p = some ⟨F, 0, none⟩ ∧ w.cell? ⟨F, 0, none⟩ = some (.pointer none)
theorem NobF.kept {w w' : World} {p : Option Addr} (h : NobF w p) (k : Kept w w') : NobF w' p :=
  h.imp id fun ⟨F, e, hc⟩ => ⟨F, e, k.some hc⟩

/-! ### the document's -/
structure RF (w : World) (R : Nat) (lv dv : Value) (base n m : Nat) (s : St) : Prop where
  fine : Fine n m s
  num : w.cell? ⟨R, 0, none⟩ = some (.int .i64 n)
  lst : w.cell? ⟨R, 1, none⟩ = some lv
  dee : w.cell? ⟨R, 2, none⟩ = some dv
  all : w.cell? ⟨R, 3, none⟩ = some (.int .i64 s.all)
  soft : ∀ i, w.frozen? ⟨R, i, none⟩ = false
  ownL : OwnD w base lv (Lf s n)
  ownD : OwnD w base dv s.D
  bR : base ≤ R
  lr : lv.ownBlock ≠ some R
  dr : dv.ownBlock ≠ some R
  ld : ∀ g, lv.ownBlock = some g → dv.ownBlock ≠ some g
def MineR (R : Nat) (lv dv : Value) (k : Nat) : Prop := k = R ∨ lv.ownBlock = some k ∨ dv.ownBlock = some k

theorem RF.lt {w : World} {R : Nat} {lv dv : Value} {base n m : Nat} {s : St} (h : RF w R lv dv base n m s) : ∀ k, MineR R lv dv k → k < w.heap.size := by
  rintro k (rfl | hd | hd)
  · exact lt_of_cell h.num
  · exact (h.ownL.lt k hd).2
  · exact (h.ownD.lt k hd).2
theorem RF.ge {w : World} {R : Nat} {lv dv : Value} {base n m : Nat} {s : St} (h : RF w R lv dv base n m s) : ∀ k, MineR R lv dv k → base ≤ k := by
  rintro k (rfl | hd | hd)
  · exact h.bR
  · exact (h.ownL.lt k hd).1
  · exact (h.ownD.lt k hd).1
theorem RF.same {w w' : World} {R : Nat} {lv dv : Value} {base n m : Nat} {s : St} (h : RF w R lv dv base n m s) (hs : ∀ k, MineR R lv dv k → w'.heap[k]? = w.heap[k]?) : RF w' R lv dv base n m s := by
  have hR := hs R (.inl rfl)
  exact ⟨h.fine, (cell_same hR 0).trans h.num, (cell_same hR 1).trans h.lst, (cell_same hR 2).trans h.dee, (cell_same hR 3).trans h.all, fun i => (froz_same hR i).trans (h.soft i),
    own_same h.ownL (fun g hg => hs g (.inr (.inl hg))), own_same h.ownD (fun g hg => hs g (.inr (.inr hg))), h.bR, h.lr, h.dr, h.ld⟩
theorem RF.kept {w w' : World} {R : Nat} {lv dv : Value} {base n m : Nat} {s : St} (h : RF w R lv dv base n m s) (k : Kept w w') : RF w' R lv dv base n m s :=
  h.same fun b hb => k.below.block b (h.lt b hb)
theorem RF.but {S : Nat → Prop} {w w' : World} {R : Nat} {lv dv : Value} {base n m : Nat} {s : St} (h : RF w R lv dv base n m s) (k : But S w w') (hS : ∀ b, MineR R lv dv b → ¬ S b) : RF w' R lv dv base n m s :=
  h.same fun b hb => k.block b (h.lt b hb) (hS b hb)
theorem RF.mono {w : World} {R : Nat} {lv dv : Value} {base n m m' : Nat} {s : St} (h : RF w R lv dv base n m s) (hm : m ≤ m') : RF w R lv dv base n m' s :=
  ⟨h.fine.mono hm, h.num, h.lst, h.dee, h.all, h.soft, h.ownL, h.ownD, h.bR, h.lr, h.dr, h.ld⟩
end Go.Proofs.Ytdgajkimepgljaa
