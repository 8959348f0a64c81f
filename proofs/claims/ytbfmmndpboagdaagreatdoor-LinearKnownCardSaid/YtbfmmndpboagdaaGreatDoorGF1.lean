/- The model of a queue with a room: what is answered, and what the queue is behind it. Nothing of the program. -/
import Derived.Test.YtbfmmndpboagdaaGreatDoorProg
import Derived.Test.YtbfmmndpboagdaaGreatDoorGA
import Derived.Deep.Slices
import Derived.WalkKit
import Derived.ProofKit
import Derived.Lib.Hide
import Derived.Deep.MidRow
import Derived.Laws.Tables
import Derived.Laws.IdiomCopy
import Derived.WalkLawsBesides
import Derived.Deep.QuietTactic
import Derived.BigQuiet
import Derived.Deep.RegionHeld3
import Derived.Deep.Light
import Derived.LoopN
import Derived.Laws.MakeOwn
import Derived.Laws.OwnMore
namespace Go.Proofs.YtbfmmndpboagdaaGreatDoor.Fi

structure Opn where
  k : Int
  a : Int
  b : Int
  u : Int
structure Ann where
  e : Int
  n : Int
  v : Int
deriving DecidableEq
def noAnn : Ann := ⟨0, 0, 0⟩

def act (room : Nat) (q : List Int) (o : Opn) : Option (Ann × List Int) :=
  if o.k = 1 then (if q.length = room then some (⟨7, 0, 0⟩, q) else some (⟨0, 0, 0⟩, q ++ [o.u]))
  else if o.k = 2 then (match q with | [] => some (⟨15, 0, 0⟩, []) | x :: r => some (⟨0, 0, x⟩, x :: r))
  else if o.k = 3 then (match q with | [] => some (⟨15, 0, 0⟩, []) | _ :: r => some (⟨0, 0, 0⟩, r))
  else none
def tell (room : Nat) (q : List Int) (o : Opn) : Ann := (act room q o).elim noAnn (·.1)
def after (room : Nat) (q : List Int) (o : Opn) : List Int := (act room q o).elim q (·.2)
def playQ (room : Nat) (l : List Opn) : List Int := l.foldl (after room) []
def chkF (room : Int) (n : Nat) : Int := if room < 1 ∨ 1024 < room then 3 else if room < n then 7 else 0
def actI (room : Int) (q : List Int) (o : Opn) : Option (Ann × List Int) := if chkF room q.length = 0 then act room.toNat q o else none
def nextI (room : Int) (q : List Int) (o : Opn) (a : Ann) : Option (List Int) := (actI room q o).elim none (fun p => if a = p.1 then some p.2 else none)

theorem act_room {room : Nat} {q : List Int} {o : Opn} {a : Ann} {q' : List Int} (hq : q.length ≤ room) (h : act room q o = some (a, q')) : q'.length ≤ room := by
  unfold act at h
  split at h
  · split at h
    · cases h; exact hq
    · cases h; rw [List.length_append]; simp; omega
  · split at h
    · split at h <;> cases h <;> simp_all
    · split at h
      · split at h <;> cases h <;> simp_all <;> omega
      · cases h
theorem after_room {room : Nat} {q : List Int} {o : Opn} (hq : q.length ≤ room) : (after room q o).length ≤ room := by
  unfold after
  cases h : act room q o with
  | none => exact hq
  | some p => exact act_room hq h
theorem playQ_snoc (room : Nat) (l : List Opn) (o : Opn) : playQ room (l ++ [o]) = after room (playQ room l) o := by simp [playQ, List.foldl_append]
theorem snoc_ind {α : Type} {P : List α → Prop} (h0 : P []) (h1 : ∀ l a, P l → P (l ++ [a])) : ∀ l, P l := by
  intro l
  rw [← List.reverse_reverse l]
  induction l.reverse with
  | nil => exact h0
  | cons a l ih => rw [List.reverse_cons]; exact h1 _ _ ih
theorem playQ_room (room : Nat) (l : List Opn) : (playQ room l).length ≤ room := by
  induction l using snoc_ind with
  | h0 => exact Nat.zero_le _
  | h1 l o ih => rw [playQ_snoc]; exact after_room ih
theorem take_snoc {α : Type} (l : List α) (k : Nat) (d : α) (h : l[k]? = some d) : l.take (k + 1) = l.take k ++ [d] := by rw [List.take_add_one, h]; rfl
end Go.Proofs.YtbfmmndpboagdaaGreatDoor.Fi

namespace Go.Proofs.YtbfmmndpboagdaaGreatDoor.Fi
set_option maxRecDepth 20000
open Go.ChangeShapes Go.WideShapes Go.Deep Go.RowKit

def words (l : List Int) : List Value := l.map (Value.int .u64)
def opc (o : Opn) : List Value := [.int .i64 o.k, .int .i64 o.a, .int .i64 o.b, .int .u64 o.u]
def anc (o : Ann) : List Value := [.int .i64 o.e, .int .i64 o.n, .int .u64 o.v]
def flatO (l : List Opn) : List Value := l.flatMap opc
def flatA (l : List Ann) : List Value := l.flatMap anc
theorem words_get (l : List Int) (i : Nat) (x : Int) (h : l[i]? = some x) : (words l)[i]? = some (.int .u64 x) := by simp [words, h]
theorem words_append (l m : List Int) : words (l ++ m) = words l ++ words m := by simp [words]
theorem words_one (l : List Int) : ∀ u ∈ words l, u.oneCell' = true := by
  intro u h
  obtain ⟨x, _, rfl⟩ := List.mem_map.1 h
  rfl
theorem opc_length (e : Opn) : (opc e).length = 4 := rfl
theorem anc_length (e : Ann) : (anc e).length = 3 := rfl
theorem flatA_length (l : List Ann) : (flatA l).length = l.length * 3 := wide_length anc_length l
theorem flatO_get (l : List Opn) (i j : Nat) (e : Opn) (h : l[i]? = some e) (hj : j < 4) : (flatO l)[i * 4 + j]? = (opc e)[j]? := wide_get opc_length l i j e h hj
theorem flatA_get (l : List Ann) (i j : Nat) (e : Ann) (h : l[i]? = some e) (hj : j < 3) : (flatA l)[i * 3 + j]? = (anc e)[j]? := wide_get anc_length l i j e h hj
theorem flatA_one (l : List Ann) : ∀ u ∈ flatA l, u.oneCell' = true := wide_one (fun a u h => by simp [anc] at h; rcases h with h | h | h <;> subst h <;> rfl) l

structure OpAt (w : World) (g o : Nat) (e : Opn) : Prop where
  c0 : w.cell? ⟨g, o, none⟩ = some (.int .i64 e.k)
  c1 : w.cell? ⟨g, o + 1, none⟩ = some (.int .i64 e.a)
  c2 : w.cell? ⟨g, o + 2, none⟩ = some (.int .i64 e.b)
  c3 : w.cell? ⟨g, o + 3, none⟩ = some (.int .u64 e.u)
structure AnAt (w : World) (g o : Nat) (e : Ann) : Prop where
  c0 : w.cell? ⟨g, o, none⟩ = some (.int .i64 e.e)
  c1 : w.cell? ⟨g, o + 1, none⟩ = some (.int .i64 e.n)
  c2 : w.cell? ⟨g, o + 2, none⟩ = some (.int .u64 e.v)
theorem OpAt.kept {w w' : World} {g o : Nat} {e : Opn} (h : OpAt w g o e) (k : Kept w w') : OpAt w' g o e := ⟨k.some h.c0, k.some h.c1, k.some h.c2, k.some h.c3⟩
theorem OpAt.but {S : Nat → Prop} {w w' : World} {g o : Nat} {e : Opn} (h : OpAt w g o e) (k : But S w w') (hS : ¬ S g) : OpAt w' g o e := ⟨k.some h.c0 hS, k.some h.c1 hS, k.some h.c2 hS, k.some h.c3 hS⟩
structure OpBox (w : World) (g : Nat) (e : Opn) : Prop where
  c0 : w.cell? ⟨g, 0, none⟩ = some (.int .i64 e.k)
  c1 : w.cell? ⟨g, 1, none⟩ = some (.int .i64 e.a)
  c2 : w.cell? ⟨g, 2, none⟩ = some (.int .i64 e.b)
  c3 : w.cell? ⟨g, 3, none⟩ = some (.int .u64 e.u)
structure AnBox (w : World) (g : Nat) (e : Ann) : Prop where
  c0 : w.cell? ⟨g, 0, none⟩ = some (.int .i64 e.e)
  c1 : w.cell? ⟨g, 1, none⟩ = some (.int .i64 e.n)
  c2 : w.cell? ⟨g, 2, none⟩ = some (.int .u64 e.v)
  s : ∀ i, w.frozen? ⟨g, i, none⟩ = false
theorem OpBox.kept {w w' : World} {g : Nat} {e : Opn} (h : OpBox w g e) (k : Kept w w') : OpBox w' g e := ⟨k.some h.c0, k.some h.c1, k.some h.c2, k.some h.c3⟩
theorem OpBox.but {S : Nat → Prop} {w w' : World} {g : Nat} {e : Opn} (h : OpBox w g e) (k : But S w w') (hS : ¬ S g) : OpBox w' g e := ⟨k.some h.c0 hS, k.some h.c1 hS, k.some h.c2 hS, k.some h.c3 hS⟩
theorem AnBox.but {S : Nat → Prop} {w w' : World} {g : Nat} {e : Ann} (h : AnBox w g e) (k : But S w w') (hS : ¬ S g) : AnBox w' g e := ⟨k.some h.c0 hS, k.some h.c1 hS, k.some h.c2 hS, fun i => k.soft (lt_of_cell h.c0) (h.s i)⟩
theorem AnBox.kept {w w' : World} {g : Nat} {e : Ann} (h : AnBox w g e) (k : Kept w w') : AnBox w' g e := h.but (k.but (fun _ => False)) id
theorem OpBox.new (w : World) (e : Opn) (t : TypeId) (n : Nat) (h : n = w.heap.size) : OpBox (w.alloc (.cells #[.int .i64 e.k, .int .i64 e.a, .int .i64 e.b, .int .u64 e.u] t)) n e :=
  ⟨cell_new _ _ _ _ 0 h, cell_new _ _ _ _ 1 h, cell_new _ _ _ _ 2 h, cell_new _ _ _ _ 3 h⟩
theorem AnBox.new (w : World) (e : Ann) (t : TypeId) (n : Nat) (h : n = w.heap.size) : AnBox (w.alloc (.cells #[.int .i64 e.e, .int .i64 e.n, .int .u64 e.v] t)) n e :=
  ⟨cell_new _ _ _ _ 0 h, cell_new _ _ _ _ 1 h, cell_new _ _ _ _ 2 h, fun i => by subst h; rw [frozen?_alloc_cells]; simp [World.frozen?]⟩
theorem _root_.Go.Proofs.YtbfmmndpboagdaaGreatDoor.Lay.op_Fi {w : World} {v : Value} {l : List Opn} (h : Lay w v l.length (flatO l)) (hn : 0 < l.length) : ∃ g o c, v = .slice (some ⟨g, o, none⟩) l.length c ∧ l.length ≤ c ∧ c ≤ maxLen ∧ ∀ i e, l[i]? = some e → OpAt w g (o + i * 4) e := by
  obtain ⟨g, o, c, hv, h1, h2, hc⟩ := h.at hn
  refine ⟨g, o, c, hv, h1, h2, fun i e he => ?_⟩
  have H : ∀ j u, j < 4 → (opc e)[j]? = some u → w.cell? ⟨g, o + i * 4 + j, none⟩ = some u := fun j u hj hu => by
    rw [Nat.add_assoc]
    exact hc _ _ ((flatO_get l i j e he hj).trans hu)
  exact ⟨H 0 _ (by decide) rfl, H 1 _ (by decide) rfl, H 2 _ (by decide) rfl, H 3 _ (by decide) rfl⟩
theorem infoA : (Tryz.prog.info? 27).map (fun i => (i.zero, i.size, i.bytes)) = some (some (.agg #[.int .i64 0, .int .i64 0, .int .u64 0]), 3, 24) := by kernel_rfl
theorem infoW : (Tryz.prog.info? 22).map (fun i => (i.zero, i.size, i.bytes)) = some (some (.int .u64 0), 1, 8) := by kernel_rfl
abbrev OwnA (w : World) (base : Nat) (v : Value) (l : List Ann) : Prop := w.ownsRow base 27 3 v l.length (flatA l)
abbrev OwnW (w : World) (base : Nat) (v : Value) (l : List Int) : Prop := w.ownsRow base 22 1 v l.length (words l)
theorem own_kept {w w' : World} {base : Nat} {e : TypeId} {size : Nat} {v : Value} {n : Nat} {xs : List Value} (h : w.ownsRow base e size v n xs) (k : Kept w w') : w'.ownsRow base e size v n xs :=
  own_same h fun g hg => k.below.block g (h.lt g hg).2
theorem own_but {S : Nat → Prop} {w w' : World} {base : Nat} {e : TypeId} {size : Nat} {v : Value} {n : Nat} {xs : List Value} (h : w.ownsRow base e size v n xs) (k : But S w w') (hS : ∀ g, v.ownBlock = some g → ¬ S g) : w'.ownsRow base e size v n xs :=
  own_same h fun g hg => k.block g (h.lt g hg).2 (hS g hg)
theorem lay_new {w : World} {g : Nat} {xs : List Value} {n : Nat} {t : TypeId} {fr : Nat × Nat} (h : w.heap[g]? = some (.cells xs.toArray t fr)) (hn : n ≤ 100000) : Lay w (.slice (some ⟨g, 0, none⟩) n n) n xs :=
  .inl (.inr ⟨g, 0, n, rfl, Nat.le_refl _, by unfold maxLen; omega, fun j u hu => by
    have := World.news_of_block h j u (by simpa using hu)
    rwa [add_none] at this⟩)

theorem cellsOp : Tryz.prog.cellsOf 24 = 4 := by kernel_rfl
theorem cellsAns : Tryz.prog.cellsOf 27 = 3 := by kernel_rfl
theorem cellsInt : Tryz.prog.cellsOf 3 = 1 := by kernel_rfl
theorem cellsU : Tryz.prog.cellsOf 22 = 1 := by kernel_rfl
theorem cellsErr : Tryz.prog.cellsOf 25 = 1 := by kernel_rfl
section
variable {H : Type} {enc : TypeId × Value → H} {w : World} {base : Nat} {spare : Nat → Bool} {held : Bool}
theorem open_op {fuel : Nat} {cs : List Value} {x : DataW H × List MemPlace} (h : DataW.trod enc Tryz.prog w base spare held fuel 24 cs = some x) : ∃ e : Opn, cs = opc e := by
  obtain ⟨xs, n, _, _, hl, hxl, hf⟩ := DataW.trod_struct Tryz.underlying24 h
  rw [cellsOp] at hl
  match cs, hl with
  | [v0, v1, v2, v3], _ =>
    match xs, hxl with
    | [x0, x1, x2, x3], _ =>
      have f0 : DataW.trod enc Tryz.prog w base spare held n 3 (([v0, v1, v2, v3].drop 0).take (Tryz.prog.cellsOf 3)) = some x0 := hf 0 _ rfl
      have f1 : DataW.trod enc Tryz.prog w base spare held n 3 (([v0, v1, v2, v3].drop 1).take (Tryz.prog.cellsOf 3)) = some x1 := hf 1 _ rfl
      have f2 : DataW.trod enc Tryz.prog w base spare held n 3 (([v0, v1, v2, v3].drop 2).take (Tryz.prog.cellsOf 3)) = some x2 := hf 2 _ rfl
      have f3 : DataW.trod enc Tryz.prog w base spare held n 22 (([v0, v1, v2, v3].drop 3).take (Tryz.prog.cellsOf 22)) = some x3 := hf 3 _ rfl
      simp only [cellsInt, cellsU, List.drop_zero, List.drop_succ_cons, List.take_succ_cons, List.take_zero] at f0 f1 f2 f3
      obtain ⟨q0, e0, _⟩ := DataW.trod_int Tryz.underlying3 f0
      obtain ⟨q1, e1, _⟩ := DataW.trod_int Tryz.underlying3 f1
      obtain ⟨q2, e2, _⟩ := DataW.trod_int Tryz.underlying3 f2
      obtain ⟨q3, e3, _⟩ := DataW.trod_int Tryz.underlying22 f3
      simp at e0 e1 e2 e3
      subst e0; subst e1; subst e2; subst e3
      exact ⟨⟨q0, q1, q2, q3⟩, rfl⟩
theorem open_wide {α : Type} {f : α → List Value} {m : Nat} {e t : TypeId} (ht : Tryz.prog.underlying t = some (.slice e)) (hC : Tryz.prog.cellsOf e = m) (hm : 0 < m) (hf : ∀ a, (f a).length = m)
    (ho : ∀ (fuel : Nat) (cs : List Value) (x : DataW H × List MemPlace), DataW.trod enc Tryz.prog w base spare held fuel e cs = some x → ∃ a, cs = f a)
    {fuel : Nat} {a : Option Addr} {len cap : Nat} {x : DataW H × List MemPlace} (h : DataW.trod enc Tryz.prog w base spare held fuel t [.slice a len cap] = some x) :
    ∃ l : List α, l.length = len ∧ Lay w (.slice a len cap) len (l.flatMap f) := by
  rcases open_slice ht h with h0 | ⟨y, len', cap', m', n, D, Pl, hcs, _, hl, hm', hmm, _, hi⟩
  · obtain ⟨rfl, rfl, rfl⟩ : a = none ∧ len = 0 ∧ cap = 0 := by simpa using h0.1
    exact ⟨[], rfl, .inl (.inl ⟨rfl, rfl, rfl⟩)⟩
  · obtain ⟨rfl, rfl, rfl⟩ : a = some y ∧ len = len' ∧ cap = cap' := by simpa using hcs
    have hle : len ≤ m' := by rw [hmm]; split <;> omega
    rw [hC] at hi
    have each : ∀ i, i < len → ∃ e : α, ∀ j u, j < m → (f e)[j]? = some u → w.cell? (y.add (i * m + j)) = some u := by
      intro i hil
      obtain ⟨cs', hc, ht⟩ := hi i (by omega)
      obtain ⟨e, rfl⟩ := ho _ _ _ ht
      obtain ⟨_, _, hat⟩ := World.cells?_some hc
      refine ⟨e, fun j u hj hu => ?_⟩
      have := hat j hj
      rw [add_add] at this
      exact this.trans hu
    by_cases h0 : len = 0
    · subst h0
      exact ⟨[], rfl, .inr ⟨y, cap, rfl, rfl, rfl, hm'⟩⟩
    · obtain ⟨b, off, spot⟩ := y
      have hs : spot = none := by
        obtain ⟨e, he⟩ := each 0 (by omega)
        have := he 0 _ hm (List.getElem?_eq_getElem (by rw [hf]; exact hm))
        simpa [Addr.add] using World.cell?_spot this
      subst hs
      have pick : ∀ n, n ≤ len → ∃ l : List α, l.length = n ∧ ∀ i e, l[i]? = some e → ∀ j u, j < m → (f e)[j]? = some u → w.cell? ⟨b, off + (i * m + j), none⟩ = some u := by
        intro n
        induction n with
        | zero => intro _; exact ⟨[], rfl, by simp⟩
        | succ n ih =>
          intro hn
          obtain ⟨l, hl1, hl3⟩ := ih (by omega)
          obtain ⟨e, he⟩ := each n (by omega)
          refine ⟨l ++ [e], by simp [hl1], fun i f' hf' j u hj hu => ?_⟩
          by_cases hi' : i < l.length
          · rw [List.getElem?_append_left hi'] at hf'
            exact hl3 i f' hf' j u hj hu
          · have h2 := (List.getElem?_eq_some_iff.1 hf').1
            have e1 : i = l.length := by simp at h2; omega
            subst e1
            have e2 : e = f' := by simpa using hf'
            subst e2
            have := he j u hj hu
            rw [add_none] at this
            rw [hl1]
            exact this
      obtain ⟨l, hl1, hl3⟩ := pick len (Nat.le_refl _)
      refine ⟨l, hl1, .inl (.inr ⟨b, off, cap, rfl, hl, hm', fun j u hu => ?_⟩)⟩
      have hj : j < l.length * m := by rw [← wide_length hf l]; exact (List.getElem?_eq_some_iff.1 hu).1
      obtain ⟨i, r, hr, rfl⟩ : ∃ i r, r < m ∧ j = i * m + r := ⟨j / m, j % m, Nat.mod_lt _ hm, by rw [Nat.mul_comm]; exact (Nat.div_add_mod j m).symm⟩
      have hil : i < l.length := by
        rcases Nat.lt_or_ge i l.length with h | h
        · exact h
        · have := Nat.mul_le_mul_right m h
          omega
      obtain ⟨e, he⟩ : ∃ e, l[i]? = some e := ⟨_, List.getElem?_eq_getElem hil⟩
      rw [wide_get hf l i r e he hr] at hu
      exact hl3 i e he r u hr hu
end
end Go.Proofs.YtbfmmndpboagdaaGreatDoor.Fi

namespace Go.Proofs.YtbfmmndpboagdaaGreatDoor.Fi
set_option maxRecDepth 20000
open Go.RowKit

structure Rg (R : Array Value) (room : Nat) (q : List Int) : Prop where
  size : R.size = 1027
  one : ∀ v ∈ R.toList, v.oneCell' = true
  room_ : R[1024]? = some (.int .i64 room)
  first : ∃ f : Nat, f < 1024 ∧ R[1025]? = some (.int .i64 f) ∧ ∀ i x, q[i]? = some x → R[(f + i) % 1024]? = some (.int .u64 x)
  many : R[1026]? = some (.int .i64 q.length)
  fits : q.length ≤ room
  most : room ≤ 1024

structure BigAt (w : World) (b : Nat) (R : Array Value) : Prop where
  size : R.size = 1027
  one : ∀ v ∈ R.toList, v.oneCell' = true
  at_ : w.rangeAt b 0 R.toList
  soft : ∀ i, w.frozen? ⟨b, i, none⟩ = false
theorem BigAt.cell {w : World} {b : Nat} {R : Array Value} (h : BigAt w b R) (i : Nat) (v : Value) (hv : R[i]? = some v) : w.cell? ⟨b, i, none⟩ = some v := by
  have := h.at_ i v (by simpa using hv)
  rwa [Nat.zero_add] at this
theorem BigAt.lt {w : World} {b : Nat} {R : Array Value} (h : BigAt w b R) : b < w.heap.size :=
  lt_of_cell (h.cell 0 _ (Array.getElem?_eq_getElem (by rw [h.size]; decide)))
theorem BigAt.but {S : Nat → Prop} {w w' : World} {b : Nat} {R : Array Value} (h : BigAt w b R) (k : But S w w') (hS : ¬ S b) : BigAt w' b R :=
  ⟨h.size, h.one, fun j v hv => k.some (h.at_ j v hv) hS, fun i => k.soft h.lt (h.soft i)⟩
theorem BigAt.kept {w w' : World} {b : Nat} {R : Array Value} (h : BigAt w b R) (k : Kept w w') : BigAt w' b R :=
  h.but (k.but (fun _ => False)) id
theorem BigAt.there {w : World} {b : Nat} {R : Array Value} (h : BigAt w b R) : w.there b 0 1027 := fun j hj => by
  rw [Nat.zero_add]
  exact ⟨by rw [h.cell j _ (Array.getElem?_eq_getElem (by rw [h.size]; exact hj))]; rfl, h.soft j⟩
theorem BigAt.new (w : World) (R : Array Value) (t : TypeId) (hs : R.size = 1027) (h1 : ∀ v ∈ R.toList, v.oneCell' = true) (n : Nat) (hn : n = w.heap.size) : BigAt (w.alloc (.cells R t)) n R := by
  subst hn
  refine ⟨hs, h1, fun j v hv => ?_, fun i => by simp⟩
  rw [Nat.zero_add, cell_new _ _ _ _ _ rfl]
  simpa using hv

theorem BigAt.set {w : World} {b : Nat} {R : Array Value} (h : BigAt w b R) (i : Nat) (v : Value) (h1 : v.oneCell' = true) : BigAt (w.setCell ⟨b, i, none⟩ v) b (R.setIfInBounds i v) := by
  refine ⟨by simp [h.size], fun u hu => ?_, fun j u hu => ?_, fun j => by rw [World.frozen?_setCell]; exact h.soft j⟩
  · rw [Array.toList_setIfInBounds] at hu
    rcases List.mem_or_eq_of_mem_set hu with hu | hu
    · exact h.one u hu
    · subst hu; exact h1
  · rw [Nat.zero_add, cell_set]
    have hu' : (R.setIfInBounds i v)[j]? = some u := by rw [Array.getElem?_toList] at hu; exact hu
    rw [Array.getElem?_setIfInBounds] at hu'
    by_cases e : i = j
    · subst e
      rw [if_pos rfl] at hu' ⊢
      split at hu'
      · rename_i hi
        cases hu'
        rw [h.cell i _ (Array.getElem?_eq_getElem hi)]
        rfl
      · cases hu'
    · rw [if_neg e] at hu' ⊢
      exact h.cell j u hu'

def ldR (p : Value) : Sem Value := Instr.loadAt 114 p
def stR (p v : Value) : Sem Unit := Instr.storeAt 114 p v
def cpR (ts : Array TypeId) (ty : TypeId) (args : Array Value) : Sem Value := Builtin.copy_ ts ty args
def bdR (parts : Array (Nat × Value)) : Sem Value := Instr.build 114 parts
theorem bd_named (parts : Array (Nat × Value)) : Instr.build 114 parts = bdR parts := rfl
def lvR (a : Addr) : Sem Value := loadVar 114 a
theorem lv_named (a : Addr) : loadVar 114 a = lvR a := rfl
theorem ld_named (p : Value) : Instr.loadAt 114 p = ldR p := rfl
theorem st_named (p v : Value) : Instr.storeAt 114 p v = stR p v := rfl
theorem cp_named (ts : Array TypeId) (ty : TypeId) (args : Array Value) : Builtin.copy_ ts ty args = cpR ts ty args := rfl

def zeroCells : List Value := List.replicate 1024 (.int .u64 0) ++ [.int .i64 0, .int .i64 0, .int .i64 0]
theorem infoRing : (Tryz.prog.info? 114).map (fun i => (i.zero, i.size)) = some (some (.agg zeroCells.toArray), 1027) := by kernel_rfl
theorem zero_lo (i : Nat) (h : i < 1024) : zeroCells[i]? = some (.int .u64 0) := by
  unfold zeroCells
  rw [List.getElem?_append_left (by rw [List.length_replicate]; exact h)]
  rw [List.getElem?_replicate, if_pos h]
theorem zero_hi (j : Nat) : zeroCells[1024 + j]? = ([.int .i64 0, .int .i64 0, .int .i64 0] : List Value)[j]? := by
  unfold zeroCells
  rw [List.getElem?_append_right (by rw [List.length_replicate]; omega), List.length_replicate, Nat.add_sub_cancel_left]
theorem zero_len : zeroCells.length = 1027 := by
  unfold zeroCells
  rw [List.length_append, List.length_replicate]
  rfl
theorem zero_one : ∀ v ∈ zeroCells, v.oneCell' = true := by
  intro v hv
  unfold zeroCells at hv
  rcases List.mem_append.1 hv with h | h
  · rw [(List.mem_replicate.1 h).2]; rfl
  · simp at h; subst h; rfl
theorem infoSize : (Tryz.prog.info? 114).map (·.size) = some 1027 := by
  obtain ⟨x, hx, hxx⟩ := Option.map_eq_some_iff.1 infoRing
  simp only [Prod.mk.injEq] at hxx
  rw [hx]; simp [hxx.2]

theorem zeroed : ∃ Z : Array Value, Z.size = 1027 ∧ (∀ v ∈ Z.toList, v.oneCell' = true) ∧ (∀ i, i < 1024 → Z[i]? = some (.int .u64 0)) ∧ (∀ j, Z[1024 + j]? = ([.int .i64 0, .int .i64 0, .int .i64 0] : List Value)[j]?) ∧
    ∀ w, (zeroValue 114).run Tryz.prog w = .ok (.agg Z) w := by
  obtain ⟨x, hx, hxx⟩ := Option.map_eq_some_iff.1 infoRing
  simp only [Prod.mk.injEq] at hxx
  exact ⟨zeroCells.toArray, by rw [List.size_toArray]; exact zero_len, fun v hv => zero_one v (by simpa using hv), fun i h => by rw [List.getElem?_toArray]; exact zero_lo i h, fun j => by rw [List.getElem?_toArray]; exact zero_hi j,
    fun w => by simp [zeroValue, typeInfo, hx, hxx.1]⟩

theorem big_var {w : World} {b : Nat} {R : Array Value} (h : BigAt w b R) : (lvR ⟨b, 0, none⟩).run Tryz.prog w = .ok (.agg R) w := by
  unfold lvR
  have := run_loadVar_mid (P := Tryz.prog) w b 0 _ R.toList _ h.at_ Tryz.underlying114 rfl (by rw [Array.length_toList, h.size]; exact infoSize)
  simpa using this
theorem big_ld {w : World} {b : Nat} {R : Array Value} (h : BigAt w b R) : (ldR (.pointer (some ⟨b, 0, none⟩))).run Tryz.prog w = .ok (.agg R) w := by
  unfold ldR
  have := run_loadAt_mid (P := Tryz.prog) w b 0 _ R.toList _ h.at_ Tryz.underlying114 rfl (by rw [Array.length_toList, h.size]; exact infoSize)
  simpa using this
theorem ring_result {fn : Func} {tmps : Array Value} {n b : Nat} {w : World} {R : Array Value} (hr : fn.results = #[.cell n 114]) (ht : tmps.getD n undef = .pointer (some ⟨b, 0, none⟩)) (h : BigAt w b R) :
    (results fn tmps).run Tryz.prog w = .ok (.agg R) w := by
  have hv := big_var h
  unfold lvR at hv
  have ht' : tmps[n]?.getD undef = .pointer (some ⟨b, 0, none⟩) := by simpa using ht
  unfold results
  rw [hr]
  simp [ht', asAddr, hv]
theorem _root_.Go.Proofs.YtbfmmndpboagdaaGreatDoor.But.hereN_Fi {b : Nat} {a : World} : ∀ (vs : List Value) (o : Nat) (w : World), But (fun k => k = b) a w → But (fun k => k = b) a (w.setCells b o vs)
  | [], _, _, h => h
  | v :: r, o, _, h => But.hereN_Fi r (o + 1) _ (h.here o v)
theorem size_setCells {b : Nat} : ∀ (vs : List Value) (o : Nat) (w : World), (w.setCells b o vs).heap.size = w.heap.size
  | [], _, _ => rfl
  | v :: r, o, w => (size_setCells r (o + 1) _).trans (by simp)
theorem big_st {w : World} {b : Nat} {R0 R : Array Value} (h : BigAt w b R0) (hs : R.size = 1027) (h1 : ∀ v ∈ R.toList, v.oneCell' = true) :
    ∃ w', (stR (.pointer (some ⟨b, 0, none⟩)) (.agg R)).run Tryz.prog w = .ok () w' ∧ But (fun k => k = b) w w' ∧ BigAt w' b R ∧ w'.heap.size = w.heap.size := by
  refine ⟨w.setCells b 0 R.toList, ?_, But.hereN_Fi _ _ _ (But.refl _ _), ⟨hs, h1, World.rangeAt_setCells_same _ _ _ _ (by rw [Array.length_toList, hs]; exact h.there), fun i => by rw [World.frozen?_setCells]; exact h.soft i⟩, size_setCells _ _ _⟩
  unfold stR
  exact run_storeAt_mid (P := Tryz.prog) w b 0 _ R (by rw [hs]; exact h.there) (by rw [hs]; exact infoSize) (Array.all_eq_true_iff_forall_mem.2 (fun v hv => h1 v (by simpa using hv)))

theorem big_cp {w : World} {b : Nat} {R : Array Value} (h : BigAt w b R) (ty : TypeId) {v : Value} {q : List Int} (hl : Lay w v q.length (words q)) (hq : q.length ≤ 1024) :
    ∃ (w' : World) (R' : Array Value), (cpR #[64, 64] ty #[.slice (some ⟨b, 0, none⟩) 1024 1024, v]).run Tryz.prog w = .ok (goInt q.length) w' ∧ But (fun k => k = b) w w' ∧ BigAt w' b R' ∧
      (∀ (i : Nat) (x : Int), q[i]? = some x → R'[i]? = some (Value.int .u64 x)) ∧ (∀ i : Nat, 1024 ≤ i → R'[i]? = R[i]?) := by
  have hsz : (Tryz.prog.info? 22).map (·.size) = some 1 := by
    obtain ⟨i0, hi, _, hz1, _⟩ := info_parts infoW
    rw [hi]; simp [hz1]
  unfold cpR
  by_cases h0 : q.length = 0
  · obtain rfl : q = [] := List.eq_nil_of_length_eq_zero h0
    obtain ⟨a, c, rfl, _⟩ := hl.form
    exact ⟨w, R, run_copy_none (P := Tryz.prog) w _ _ ty 22 (some ⟨b, 0, none⟩) a 1024 1024 0 c Tryz.underlying64 hsz (by simp), But.refl _ _, h, by simp, fun _ _ => rfl⟩
  · obtain ⟨g, o, c, rfl, _, _, hc⟩ := hl.at (by omega)
    have hlen : (words q).length = q.length := by simp [words]
    have hth := h.there
    refine ⟨w.setCells b 0 (words q), ((words q) ++ R.toList.drop q.length).toArray, ?_, But.hereN_Fi _ _ _ (But.refl _ _), ⟨by simp [hlen, h.size]; omega, fun v hv => ?_, fun j v hv => ?_, fun i => by rw [World.frozen?_setCells]; exact h.soft i⟩, fun i x hx => ?_, fun i hi => ?_⟩
    · have := run_copy_cells (P := Tryz.prog) w 64 64 ty 22 b 0 1024 1024 ⟨g, o, none⟩ q.length c (words q) Tryz.underlying64 hsz (by rw [hlen]; exact (Nat.min_eq_left hq).symm) (fun j v hv => by rw [add_none]; exact hc j v hv)
        (fun j hj => (hth j (by omega)).1) (fun j hj => (hth j (by omega)).2) (words_one q)
      rw [this, hlen]
    · simp only [] at hv
      rcases List.mem_append.1 hv with h' | h'
      · exact words_one q v h'
      · exact h.one v (List.mem_of_mem_drop h')
    · simp only [] at hv
      rw [Nat.zero_add]
      by_cases hj : j < q.length
      · rw [List.getElem?_append_left (by omega)] at hv
        have := World.cell?_setCells_in b (words q) 0 w (fun j hj => (hth j (by omega)).1) j (by omega)
        rw [Nat.zero_add] at this
        rw [this, ← hv, List.getElem?_eq_getElem (by omega)]
      · rw [List.getElem?_append_right (by omega), hlen, List.getElem?_drop, show q.length + (j - q.length) = j by omega] at hv
        rw [World.cell?_setCells_out b (words q) 0 w ⟨b, j, none⟩ (fun _ _ => Or.inr (by show 0 + (words q).length ≤ j; omega))]
        exact h.cell j v (by simpa using hv)
    · rw [List.getElem?_toArray, List.getElem?_append_left (by rw [hlen]; exact (List.getElem?_eq_some_iff.1 hx).1)]
      exact words_get q i x hx
    · rw [List.getElem?_toArray, List.getElem?_append_right (by omega), hlen, List.getElem?_drop, show q.length + (i - q.length) = i by omega]
      simp

theorem ringFields : ∃ fs : Array Field, Tryz.prog.underlying 114 = some (.struct fs) ∧ fs.toList.mapM (fun f => (Tryz.prog.info? f.type).map fun i => (f.offset, i.size)) = some [(0, 1024), (1024, 1), (1025, 1), (1026, 1)] :=
  ⟨_, Tryz.underlying114, by kernel_rfl⟩
theorem build_ring (room : Int) (n : Int) : ∃ R : Array Value, R.size = 1027 ∧ (∀ v ∈ R.toList, v.oneCell' = true) ∧ R[1024]? = some (.int .i64 room) ∧ R[1025]? = some (.int .i64 0) ∧ R[1026]? = some (.int .i64 n) ∧
    ∀ w, (bdR #[(1, .int .i64 room), (3, .int .i64 n)]).run Tryz.prog w = .ok (.agg R) w := by
  obtain ⟨fs, hu, hp⟩ := ringFields
  obtain ⟨x, hx, hxx⟩ := Option.map_eq_some_iff.1 infoRing
  simp only [Prod.mk.injEq] at hxx
  have hlen : zeroCells.toArray.size = 1027 := by rw [List.size_toArray]; exact zero_len
  obtain ⟨Z, hZ⟩ : ∃ Z, Z = zeroCells.toArray := ⟨_, rfl⟩
  have hhi : ∀ j, Z[1024 + j]? = ([.int .i64 0, .int .i64 0, .int .i64 0] : List Value)[j]? := fun j => by rw [hZ, List.getElem?_toArray]; exact zero_hi j
  have h1 : ∀ v ∈ Z.toList, v.oneCell' = true := fun v hv => zero_one v (by rw [hZ] at hv; simpa using hv)
  rw [← hZ] at hlen hxx
  refine ⟨(Z.setIfInBounds 1024 (.int .i64 room)).setIfInBounds 1026 (.int .i64 n), by simp [hlen], fun v hv => ?_, ?_, ?_, ?_, fun w => ?_⟩
  · rw [Array.toList_setIfInBounds, Array.toList_setIfInBounds] at hv
    rcases List.mem_or_eq_of_mem_set hv with h | h
    · rcases List.mem_or_eq_of_mem_set h with h | h
      · exact h1 v h
      · subst h; rfl
    · subst h; rfl
  · simp [hlen]
  · have := hhi 1
    simpa [Array.getElem?_setIfInBounds, hlen] using this
  · simp [hlen]
  · refine run_build w _ _ _ ?_
    simp only [Program.built, hx, hu, hxx.1, hp]
    simp [Instr.fill, Value.cells, hlen]
end Go.Proofs.YtbfmmndpboagdaaGreatDoor.Fi

namespace Go.Proofs.YtbfmmndpboagdaaGreatDoor.Fi
set_option maxRecDepth 20000
open Go.RowKit
attribute [local go_sem ↓] ld_named st_named cp_named bd_named lv_named

theorem _root_.Go.Proofs.YtbfmmndpboagdaaGreatDoor.Kept.wrote_Fi {S : Nat → Prop} {w w1 w2 : World} (k : Kept w w1) (b : But S w1 w2) (h : ∀ j, S j → w.heap.size ≤ j) : Kept w w2 :=
  ((k.but S).trans b (fun _ _ h => h)).kept (fun j hj hS => by have := h j hS; omega)
theorem _root_.Go.Proofs.YtbfmmndpboagdaaGreatDoor.Kept.wrote1_Fi {w w1 w2 : World} {n : Nat} (k : Kept w w1) (b : But (fun j => j = n) w1 w2) (h : w.heap.size ≤ n) : Kept w w2 := k.wrote_Fi b (fun j e => by subst e; exact h)

def RetR (w : World) (room : Nat) (q : List Int) (e : Ending) (w' : World) : Prop := ∃ R, e = .returned (.agg R) ∧ Rg R room q ∧ Kept w w'

set_option maxRecDepth 100000 in
set_option maxHeartbeats 1000000 in
theorem filled_any {w : World} {v : Value} {q : List Int} (room : Nat) (hl : Lay w v q.length (words q)) (hq : q.length ≤ room) (hr : room ≤ 1024) :
    Calls Tryz.prog 42 #[.int .i64 room, v] w (RetR w room q) := by
  obtain ⟨Z, hZ, hZ1, _, _, hz⟩ := zeroed
  obtain ⟨R0, r0s, r01, r0r, r0f, r0m, hbuild⟩ := build_ring room q.length
  have k1 : Kept w (w.alloc (.cells Z 114)) := (Kept.refl w).alloc _ _
  have k2 : Kept w ((w.alloc (.cells Z 114)).alloc (.cells Z 114)) := k1.alloc _ _
  have b1 : BigAt ((w.alloc (.cells Z 114)).alloc (.cells Z 114)) w.heap.size Z := (BigAt.new w Z _ hZ hZ1 _ rfl).kept ((Kept.refl _).alloc _ _)
  have b2 : BigAt ((w.alloc (.cells Z 114)).alloc (.cells Z 114)) (w.heap.size + 1) Z := BigAt.new _ Z _ hZ hZ1 _ (by simp)
  obtain ⟨w3, run3, but3, big3, s3⟩ := big_st b2 r0s r01
  have k3 := k2.wrote1_Fi but3 (by omega)
  have b3 := b1.but but3 (by omega)
  obtain ⟨w4, R4, run4, but4, big4, q4, h4⟩ := big_cp big3 3 (hl.kept k3) (Nat.le_trans hq hr)
  have k4 := k3.wrote1_Fi but4 (by omega)
  have b4 := b3.but but4 (by omega)
  have ld4 := big_ld big4
  obtain ⟨w5, run5, but5, big5, s5⟩ := big_st b4 big4.size big4.one
  have k5 := Lib.hid (k4.wrote1_Fi but5 (Nat.le_refl _))
  have RG := Lib.hid (show Rg R4 room q from ⟨big4.size, big4.one, (h4 1024 (by decide)).trans r0r, ⟨0, by decide, (h4 1025 (by decide)).trans r0f, fun i x hx => by
    have hi : i < q.length := (List.getElem?_eq_some_iff.1 hx).1
    rw [Nat.zero_add, Nat.mod_eq_of_lt (by omega)]
    exact q4 i x hx⟩, (h4 1026 (by decide)).trans r0m, hq, hr⟩)
  obtain ⟨a, c, rfl, _⟩ := hl.form
  obtain ⟨n, hn⟩ : ∃ n, n = q.length := ⟨_, rfl⟩
  rw [← hn] at hbuild run4 ⊢
  clear hn k1 k2 b1 b2 but3 big3 s3 k3 b3 but4 big4 q4 h4 k4 b4 but5 s5 hZ hZ1 hl r0s r01 r0r r0f r0m hq hr
  go_enter Tryz.func42, Tryz.ntmps42
  go_wp2
  refine bodyPost_ret (v := .agg R4) (ring_result Tryz.results42 rfl big5) rfl ⟨R4, rfl, RG.out, k5.out⟩

set_option maxHeartbeats 1000000 in
theorem full_any {w : World} {b room : Nat} {R : Array Value} {q : List Int} (hb : BigAt w b R) (hR : Rg R room q) :
    Calls Tryz.prog 65 #[.pointer (some ⟨b, 0, none⟩)] w fun e w' => e = .returned (.bool (decide (q.length = room))) ∧ Kept w w' := by
  have c1 := hb.cell _ _ hR.many
  have c2 := hb.cell _ _ hR.room_
  obtain ⟨n, hn⟩ : ∃ n, n = q.length := ⟨_, rfl⟩
  rw [← hn] at c1 ⊢
  clear hn hR hb
  go_enter Tryz.func65, Tryz.ntmps65
  go_wp2
  go_quiet (fail)
  go_wp2
  go_ret
  refine ⟨?_, (Kept.refl w).drewN _⟩
  have : ((n : Int) == (room : Int)) = decide (n = room) := by rw [Bool.eq_iff_iff]; simp; omega
  show Ending.returned (.bool ((n : Int) == (room : Int))) = _
  rw [this]

set_option maxHeartbeats 1000000 in
theorem empty_any {w : World} {b room : Nat} {R : Array Value} {q : List Int} (hb : BigAt w b R) (hR : Rg R room q) :
    Calls Tryz.prog 68 #[.pointer (some ⟨b, 0, none⟩)] w fun e w' => e = .returned (.bool (decide (q.length = 0))) ∧ w = w' := by
  have c1 := hb.cell _ _ hR.many
  obtain ⟨n, hn⟩ : ∃ n, n = q.length := ⟨_, rfl⟩
  rw [← hn] at c1 ⊢
  clear hn hR hb
  go_enter Tryz.func68, Tryz.ntmps68
  go_wp2
  go_ret
  refine ⟨?_, rfl⟩
  have : ((n : Int) == 0) = decide (n = 0) := by rw [Bool.eq_iff_iff]; simp
  show Ending.returned (.bool ((n : Int) == 0)) = _
  rw [this]

set_option maxHeartbeats 1000000 in
theorem place_any {w : World} {b f n : Nat} (c1 : w.cell? ⟨b, 1025, none⟩ = some (.int .i64 f)) (hf : f < 1024) (hn : n ≤ 1024) :
    Calls Tryz.prog 73 #[.pointer (some ⟨b, 0, none⟩), .int .i64 n] w fun e w' => e = .returned (.int .i64 ((f + n) % 1024 : Nat)) ∧ w = w' := by
  go_enter Tryz.func73, Tryz.ntmps73
  go_wp2
  go_ret
  refine ⟨?_, rfl⟩
  show Ending.returned (.int .i64 (((f : Int) + n) % 1024)) = _
  rw [show (((f : Int) + n) % 1024) = (((f + n) % 1024 : Nat) : Int) by omega]

set_option maxHeartbeats 1000000 in
theorem front_any {w : World} {b room : Nat} {R : Array Value} {q : List Int} {x : Int} (hb : BigAt w b R) (hR : Rg R room q) (hx : q[0]? = some x) :
    Calls Tryz.prog 69 #[.pointer (some ⟨b, 0, none⟩)] w fun e w' => e = .returned (.int .u64 x) ∧ Kept w w' := by
  obtain ⟨f, hf, hc, hq⟩ := hR.first
  have c1 := hb.cell _ _ hc
  have c2 := hb.cell _ _ (hq 0 x hx)
  have PL := Lib.hid (fun W (k : Kept w W) => place_any (n := 0) (k.some c1) hf (by decide))
  obtain ⟨i, hi⟩ : ∃ i, i = (f + 0) % 1024 := ⟨_, rfl⟩
  rw [← hi] at c2
  have i1 : i < 1024 := by omega
  have i2 : (i : Int) < 1024 := by omega
  have i3 : (0 : Int) ≤ (i : Int) := by omega
  have i4 : ¬ ((i : Int) < 0) := by omega
  rw [← hi] at PL
  clear hi hq hc hR hb hx
  go_enter Tryz.func69, Tryz.ntmps69
  go_wp2
  go_region_held3 (fun w' => w'.cell? ⟨b, i, none⟩ = some (.int .u64 x)) (first | assumption | go_keep) (first | (go_at_call 73; refine (PL.out _ (by first | with_reducible exact Kept.refl _ | with_reducible exact (Kept.refl _).drew | with_reducible exact (Kept.refl _).drewN _)).mono ?_; rintro e w1 ⟨rfl, rfl⟩))
  go_wp2
  go_ret
  exact ⟨rfl, (Kept.refl w).drew⟩

set_option maxRecDepth 100000 in
set_option maxHeartbeats 1000000 in
theorem with_any {w : World} {room : Nat} {R : Array Value} {q : List Int} {x : Int} (hR : Rg R room q) (hq : q.length < room) :
    Calls Tryz.prog 67 #[.agg R, .int .u64 x] w (RetR w room (q ++ [x])) := by
  obtain ⟨Z, hZ, hZ1, _, _, hz⟩ := zeroed
  obtain ⟨f, hf, hfc, hfq⟩ := hR.first
  have hm := hR.most
  obtain ⟨W2, hW2⟩ : ∃ W2, W2 = ((w.alloc (.cells R 114)).alloc (.cells Z 114)) := ⟨_, rfl⟩
  have k2 : Kept w W2 := by rw [hW2]; exact ((Kept.refl w).alloc _ _).alloc _ _
  have b1 : BigAt W2 w.heap.size R := by rw [hW2]; exact (BigAt.new w R _ hR.size hR.one _ rfl).kept ((Kept.refl _).alloc _ _)
  have b2 : BigAt W2 (w.heap.size + 1) Z := by rw [hW2]; exact BigAt.new _ Z _ hZ hZ1 _ (by simp)
  obtain ⟨i, hi⟩ : ∃ i, i = (f + q.length) % 1024 := ⟨_, rfl⟩
  have c0 := b1.cell _ _ hfc
  have c1 := b1.cell _ _ hR.many
  have PL := Lib.hid (place_any (w := W2) c0 hf (show q.length ≤ 1024 by omega))
  rw [← hi] at PL
  have i1 : i < 1024 := by omega
  obtain ⟨vi, hvi⟩ : ∃ v, R[i]? = some v := ⟨_, Array.getElem?_eq_getElem (by rw [hR.size]; omega)⟩
  have c2 := b1.cell _ _ hvi
  have s1 := b1.soft i
  have s2 := b1.soft 1026
  have b3 := (b1.set i (.int .u64 x) rfl).set 1026 (.int .i64 (q.length + 1)) rfl
  have k3 : Kept w ((W2.setCell ⟨w.heap.size, i, none⟩ (.int .u64 x)).setCell ⟨w.heap.size, 1026, none⟩ (.int .i64 (q.length + 1))) := (k2.setCell (p := ⟨w.heap.size, i, none⟩) (Nat.le_refl _) _).setCell (p := ⟨w.heap.size, 1026, none⟩) (Nat.le_refl _) _
  have d3 : BigAt ((W2.setCell ⟨w.heap.size, i, none⟩ (.int .u64 x)).setCell ⟨w.heap.size, 1026, none⟩ (.int .i64 (q.length + 1))) (w.heap.size + 1) Z :=
    b2.but (((But.refl (fun j => j = w.heap.size) _).here _ _).here _ _) (by omega)
  have ld := big_ld b3
  obtain ⟨w5, run5, but5, big5, s5⟩ := big_st d3 b3.size b3.one
  have k5 := Lib.hid (k3.wrote1_Fi but5 (by omega))
  have RG := Lib.hid (show Rg ((R.setIfInBounds i (.int .u64 x)).setIfInBounds 1026 (.int .i64 (q.length + 1))) room (q ++ [x]) from ⟨b3.size, b3.one, by
      rw [Array.getElem?_setIfInBounds, if_neg (by decide), Array.getElem?_setIfInBounds, if_neg (by omega)]; exact hR.room_, ⟨f, hf, by
      rw [Array.getElem?_setIfInBounds, if_neg (by decide), Array.getElem?_setIfInBounds, if_neg (by omega)]; exact hfc, fun j y hy => by
        rw [Array.getElem?_setIfInBounds, if_neg (by omega), Array.getElem?_setIfInBounds]
        have hj : j < q.length + 1 := by have := (List.getElem?_eq_some_iff.1 hy).1; simpa using this
        by_cases e : j = q.length
        · subst e
          rw [if_pos hi, if_pos (by rw [hR.size]; omega)]
          simp at hy
          rw [hy]
        · rw [if_neg (by omega)]
          rw [List.getElem?_append_left (by omega)] at hy
          exact hfq j y hy⟩, by
      rw [Array.getElem?_setIfInBounds, if_pos rfl, if_pos (by simp [hR.size])]; simp, by simp; omega, hm⟩)
  obtain ⟨n, hn⟩ : ∃ n, n = q.length := ⟨_, rfl⟩
  rw [← hn] at c1 PL RG ld run5 hq
  obtain ⟨R5, hR5⟩ : ∃ R5, R5 = ((R.setIfInBounds i (.int .u64 x)).setIfInBounds 1026 (.int .i64 ((n : Int) + 1))) := ⟨_, rfl⟩
  rw [hn] at hR5
  rw [← hR5] at big5
  rw [← hn] at hR5
  rw [← hR5] at RG ld run5
  clear hn hR5 hi hvi hR hfc hfq k2 b1 b2 b3 k3 d3 but5 s5 hZ hZ1
  have HW := Lib.hid hW2
  clear hW2
  have i2 : (i : Int) < 1024 := by omega
  go_enter Tryz.func67, Tryz.ntmps67
  go_upto_region 1 with fail
  rw [← HW.out]
  go_wp2_with fail
  refine PL.out.mono ?_
  rintro e w1 ⟨rfl, rfl⟩
  go_wp2
  refine bodyPost_ret (v := .agg R5) (ring_result Tryz.results67 rfl big5) rfl ⟨R5, rfl, RG.out, k5.out⟩

set_option maxRecDepth 100000 in
set_option maxHeartbeats 1000000 in
theorem without_any {w : World} {room : Nat} {R : Array Value} {q : List Int} {x : Int} (hR : Rg R room (x :: q)) :
    Calls Tryz.prog 71 #[.agg R] w (RetR w room q) := by
  obtain ⟨Z, hZ, hZ1, _, _, hz⟩ := zeroed
  obtain ⟨f, hf, hfc, hfq⟩ := hR.first
  have hm := hR.most
  have hlen : (x :: q).length = q.length + 1 := rfl
  have hfit := hR.fits
  rw [hlen] at hfit
  obtain ⟨W2, hW2⟩ : ∃ W2, W2 = ((w.alloc (.cells R 114)).alloc (.cells Z 114)) := ⟨_, rfl⟩
  have k2 : Kept w W2 := by rw [hW2]; exact ((Kept.refl w).alloc _ _).alloc _ _
  have b1 : BigAt W2 w.heap.size R := by rw [hW2]; exact (BigAt.new w R _ hR.size hR.one _ rfl).kept ((Kept.refl _).alloc _ _)
  have b2 : BigAt W2 (w.heap.size + 1) Z := by rw [hW2]; exact BigAt.new _ Z _ hZ hZ1 _ (by simp)
  obtain ⟨i, hi⟩ : ∃ i, i = (f + 1) % 1024 := ⟨_, rfl⟩
  have c0 := b1.cell _ _ hfc
  have c1 := b1.cell _ _ hR.many
  rw [hlen] at c1
  have PL := Lib.hid (place_any (w := W2) (n := 1) c0 hf (by decide))
  rw [← hi] at PL
  have i1 : i < 1024 := by omega
  have s1 := b1.soft 1025
  have s2 := b1.soft 1026
  have b3 := (b1.set 1025 (.int .i64 i) rfl).set 1026 (.int .i64 q.length) rfl
  have k3 : Kept w ((W2.setCell ⟨w.heap.size, 1025, none⟩ (.int .i64 i)).setCell ⟨w.heap.size, 1026, none⟩ (.int .i64 q.length)) := (k2.setCell (p := ⟨w.heap.size, 1025, none⟩) (Nat.le_refl _) _).setCell (p := ⟨w.heap.size, 1026, none⟩) (Nat.le_refl _) _
  have d3 : BigAt ((W2.setCell ⟨w.heap.size, 1025, none⟩ (.int .i64 i)).setCell ⟨w.heap.size, 1026, none⟩ (.int .i64 q.length)) (w.heap.size + 1) Z :=
    b2.but (((But.refl (fun j => j = w.heap.size) _).here _ _).here _ _) (by omega)
  have ld := big_ld b3
  obtain ⟨w5, run5, but5, big5, s5⟩ := big_st d3 b3.size b3.one
  have k5 := Lib.hid (k3.wrote1_Fi but5 (by omega))
  have RG := Lib.hid (show Rg ((R.setIfInBounds 1025 (.int .i64 i)).setIfInBounds 1026 (.int .i64 q.length)) room q from ⟨b3.size, b3.one, by
      rw [Array.getElem?_setIfInBounds, if_neg (by decide), Array.getElem?_setIfInBounds, if_neg (by decide)]; exact hR.room_, ⟨i, i1, by
      rw [Array.getElem?_setIfInBounds, if_neg (by decide), Array.getElem?_setIfInBounds, if_pos rfl, if_pos (by rw [hR.size]; decide)], fun j y hy => by
        rw [Array.getElem?_setIfInBounds, if_neg (by omega), Array.getElem?_setIfInBounds, if_neg (by omega)]
        have := hfq (j + 1) y (by simpa using hy)
        rwa [show (f + (j + 1)) % 1024 = (i + j) % 1024 by omega] at this⟩, by
      rw [Array.getElem?_setIfInBounds, if_pos rfl, if_pos (by simp [hR.size])], by omega, hm⟩)
  obtain ⟨n, hn⟩ : ∃ n, n = q.length := ⟨_, rfl⟩
  rw [← hn] at c1 RG ld run5 hfit
  obtain ⟨R5, hR5⟩ : ∃ R5, R5 = ((R.setIfInBounds 1025 (.int .i64 i)).setIfInBounds 1026 (.int .i64 (n : Int))) := ⟨_, rfl⟩
  rw [hn] at hR5
  rw [← hR5] at big5
  rw [← hn] at hR5
  rw [← hR5] at RG ld run5
  have HW := Lib.hid hW2
  clear hn hR5 hi hR hfc hfq k2 b1 b2 b3 k3 d3 but5 s5 hZ hZ1 hW2 hlen
  have n0 : n ≤ 1024 := by omega
  have c1 : W2.cell? ⟨w.heap.size, 1026, none⟩ = some (.int .i64 ((n : Int) + 1)) := by rw [c1]; rfl
  go_enter Tryz.func71, Tryz.ntmps71
  go_upto_region 1 with fail
  rw [← HW.out]
  go_wp2_with fail
  refine PL.out.mono ?_
  rintro e w1 ⟨rfl, rfl⟩
  go_wp2
  refine bodyPost_ret (v := .agg R5) (ring_result Tryz.results71 rfl big5) rfl ⟨R5, rfl, RG.out, k5.out⟩
end Go.Proofs.YtbfmmndpboagdaaGreatDoor.Fi

namespace Go.Proofs.YtbfmmndpboagdaaGreatDoor.Fi
set_option maxRecDepth 20000
open Go.RowKit

structure Filled (w : World) (g : Nat) (t : TypeId) (n : Nat) (xs : List Value) : Prop where
  row : ∃ cur : Array Value, w.heap[g]? = some (.cells cur t (0, 0)) ∧ cur.size = n ∧ ∀ (j : Nat) (u : Value), xs[j]? = some u → cur[j]? = some u
section
variable {w w' : World} {g n : Nat} {t : TypeId} {xs : List Value}
theorem Filled.lt (h : Filled w g t n xs) : g < w.heap.size := by
  obtain ⟨cur, h1, _⟩ := h
  exact (Array.getElem?_eq_some_iff.1 h1).1
theorem Filled.but {S : Nat → Prop} (h : Filled w g t n xs) (k : But S w w') (hS : ¬ S g) : Filled w' g t n xs := by
  have := h.lt
  obtain ⟨cur, h1, h2⟩ := h
  exact ⟨cur, (k.block g this hS).trans h1, h2⟩
theorem Filled.kept (h : Filled w g t n xs) (k : Kept w w') : Filled w' g t n xs := h.but (k.but (fun _ => False)) id
theorem Filled.cell (h : Filled w g t n xs) (j : Nat) (hj : j < n) : ∃ v, w.cell? ⟨g, j, none⟩ = some v := by
  obtain ⟨cur, h1, h2, _⟩ := h
  refine ⟨cur[j]'(by omega), ?_⟩
  rw [cell_of_row w g j cur t _ h1]
  exact Array.getElem?_eq_getElem (by omega)
theorem Filled.soft (h : Filled w g t n xs) (j : Nat) : w.frozen? ⟨g, j, none⟩ = false := by
  obtain ⟨cur, h1, _⟩ := h
  exact frozen_of_row w g j cur t h1
theorem Filled.set (h : Filled w g t n xs) (v : Value) (o : Nat) (ho : o = xs.length) (hl : xs.length < n) : Filled (w.setCell ⟨g, o, none⟩ v) g t n (xs ++ [v]) := by
  subst ho
  obtain ⟨cur, h1, h2, h3⟩ := h
  refine ⟨cur.setIfInBounds xs.length v, ?_, by simp [h2], fun j u hu => ?_⟩
  · rw [setCell_eq_setRow w g _ cur t _ v h1]
    exact setRow_heap w g cur _ t _ h1
  · rw [Array.getElem?_setIfInBounds]
    by_cases e : xs.length = j
    · subst e
      rw [if_pos rfl, if_pos (by omega)]
      simpa using hu
    · rw [if_neg e]
      refine h3 j u ?_
      have hj : j < (xs ++ [v]).length := (List.getElem?_eq_some_iff.1 hu).1
      rw [List.getElem?_append_left (by simp at hj; omega)] at hu
      exact hu
theorem Filled.own {base size m : Nat} (h : Filled w g t n xs) (hn : xs.length = n) (hm : n = m * size) (hb : base ≤ g) (hmax : m ≤ maxLen) : w.ownsRow base t size (.slice (some ⟨g, 0, none⟩) m m) m xs := by
  obtain ⟨cur, h1, h2, h3⟩ := h
  refine ⟨by omega, .inr ⟨g, m, cur, rfl, hb, h1, Nat.le_refl _, hmax, by omega, ?_⟩⟩
  apply List.ext_getElem?
  intro j
  by_cases hj : j < n
  · rw [List.getElem?_take_of_lt (by omega)]
    have hx : xs[j]? = some (xs[j]'(by omega)) := List.getElem?_eq_getElem (by omega)
    rw [hx]
    have := h3 j _ hx
    simpa using this
  · rw [List.getElem?_eq_none (by rw [List.length_take]; omega), List.getElem?_eq_none (by omega)]
theorem Filled.new (w : World) (Z : Array Value) (t : TypeId) (n : Nat) (h : Z.size = n) : Filled (w.alloc (.cells Z t)) w.heap.size t n [] :=
  ⟨Z, heap_alloc_new w _, h, by simp⟩
end
theorem make_words (n : Nat) (hn : n ≤ 1000000) : ∃ Z : Array Value, Z.size = n ∧
    ∀ w : World, (Instr.makeSlice 64 (.int .i64 (n : Int)) (.int .i64 (n : Int))).run Tryz.prog w = .ok (.slice (some ⟨w.heap.size, 0, none⟩) n n) (w.alloc (.cells Z 22)) := by
  obtain ⟨i0, hi, hz0, hz1, hz2⟩ := info_parts infoW
  refine ⟨madeCells #[.int .u64 0] n, size_madeCells _ _, fun w => ?_⟩
  have h := run_makeSlice (P := Tryz.prog) w 64 22 i0 (.int .u64 0) Tryz.underlying64 hi hz0 .i64 .i64 (n : Int) (n : Int) (by omega) (Int.le_refl _) (by rw [hz1]; omega) (by rw [hz2]; omega) (by omega)
  rw [h, hz1]
  simp [Value.cells]
end Go.Proofs.YtbfmmndpboagdaaGreatDoor.Fi

namespace Go.Proofs.YtbfmmndpboagdaaGreatDoor.Fi
set_option maxRecDepth 20000
open Go.RowKit
attribute [local go_sem ↓] ld_named st_named cp_named bd_named lv_named

def RetW (w : World) (l : List Int) (ed : Ending) (w' : World) : Prop := ∃ a c, ed = .returned (.slice a l.length c) ∧ Kept w w' ∧ OwnW w' w.heap.size (.slice a l.length c) l
def ListAt (w : World) (g n : Nat) (q : List Int) (i : Value) (wr : World) : Prop := ∃ k : Nat, k ≤ n ∧ i = .int .i64 k ∧ Filled wr g 22 n (words (q.take k)) ∧ Kept w wr

set_option maxHeartbeats 2000000 in
theorem list_any {w : World} {b room : Nat} {R : Array Value} {q : List Int} (hb : BigAt w b R) (hR : Rg R room q) :
    Calls Tryz.prog 44 #[.pointer (some ⟨b, 0, none⟩)] w (RetW w q) := by
  obtain ⟨f, hf, hfc, hfq⟩ := hR.first
  have c0 := hb.cell _ _ hfc
  have c1 := hb.cell _ _ hR.many
  have hfit := hR.fits
  have hm := hR.most
  have HQ := Lib.hid (fun i x h => hb.cell _ _ (hfq i x h))
  have HB := Lib.hid hb
  obtain ⟨n, hn⟩ : ∃ n, n = q.length := ⟨_, rfl⟩
  rw [← hn] at c1 hfit
  have HN := Lib.hid hn
  obtain ⟨Z, hZ, hmake⟩ := make_words n (by omega)
  have PL := Lib.hid (fun W (k : Kept w W) m (hm : m ≤ 1024) => place_any (n := m) (k.some c0) hf hm)
  obtain ⟨W0, hW0⟩ : ∃ W0, w.alloc (.cells Z 22) = W0 := ⟨_, rfl⟩
  have HW := Lib.hid hW0
  have F0 := Lib.hid (show Filled W0 w.heap.size 22 n [] by rw [← hW0]; exact Filled.new w Z _ n hZ)
  have K0 := Lib.hid (show Kept w W0 by rw [← hW0]; exact (Kept.refl w).alloc _ _)
  have hbl := hb.lt
  clear hn hb hR hfc hfq hW0 hZ c0
  go_enter Tryz.func44, Tryz.ntmps44
  go_wp2
  rw [HW.out]
  go_loopw [12] (fun i wr => ListAt w w.heap.size n q i wr) (fun i _ => n - (intOf i).toNat)
  case atStart => exact ⟨0, Nat.zero_le _, rfl, F0.out, K0.out⟩
  case round =>
    obtain ⟨k, hk, rfl, hfill, hkept⟩ := hrel
    have FI := Lib.hid hfill
    have KE := Lib.hid hkept
    clear hfill hkept
    by_cases hlt : k < n
    · obtain ⟨x, hx⟩ : ∃ x, q[k]? = some x := ⟨_, List.getElem?_eq_getElem (by rw [← HN.out]; exact hlt)⟩
      have x0 := KE.out.some (HQ.out k x hx)
      have HX := Lib.hid hx
      clear hx
      obtain ⟨v0, hv0⟩ := FI.out.cell k hlt
      have f0 := FI.out.soft k
      have PK := Lib.hid (fun W (k' : Kept wr W) => PL.out W (KE.out.trans k') k (by omega))
      obtain ⟨i, hi⟩ : ∃ i, i = (f + k) % 1024 := ⟨_, rfl⟩
      rw [← hi] at x0 PK
      have i1 : i < 1024 := by omega
      have i2 : (i : Int) < 1024 := by omega
      have k2 : (k : Int) < (n : Int) := by omega
      clear hi
      go_wp2
      have hne : w.heap.size ≠ b := by omega
      go_region_held3 (fun w' => w'.cell? ⟨b, i, none⟩ = some (.int .u64 x)) (first | assumption | (simp [cell_set_far _ _ _ _ _ _ hne, x0]; done) | go_keep) (first | (go_at_call 73; refine (PK.out _ (by first | with_reducible exact Kept.refl _ | with_reducible exact (Kept.refl _).drew | with_reducible exact (Kept.refl _).drewN _)).mono ?_; rintro e w1 ⟨rfl, rfl⟩))
      go_wp2
      go_roundw
      case rel => exact ⟨k + 1, by omega, by go_num, by
        have h := FI.out.set (.int .u64 x) k (by simp [words]; have := HN.out; omega) (by simp [words]; have := HN.out; omega)
        rw [take_snoc q k x HX.out, words_append]
        exact h.kept ((Kept.refl _).drew), (KE.out.setCell (p := ⟨w.heap.size, k, none⟩) (Nat.le_refl _) _).drew⟩
      case measure => simp [intOf]; omega
    · have hkn : k = n := by omega
      subst hkn
      have hlen := HN.out
      clear HN
      subst hlen
      go_wp2
      go_ret
      refine ⟨some ⟨w.heap.size, 0, none⟩, q.length, rfl, KE.out, ?_⟩
      have h := FI.out
      rw [List.take_length] at h
      exact h.own (by simp [words]) (by omega) (Nat.le_refl _) (by unfold maxLen; omega)
end Go.Proofs.YtbfmmndpboagdaaGreatDoor.Fi
