/- Kept w w': the world w' is w with new blocks laid behind it; what was there is as it was. For contracts that only answer a value. (Of what is frozen in the new blocks it says nothing: a range over a function lays blocks of its own.) -/
import Derived.WalkKit
import Derived.WalkSpells
import Derived.Deep.Draws
import Derived.WalkLawsBesides
import Derived.Maps.AppendAt
import Derived.Deep.AppendLies
import Derived.RegionTactic
import Derived.OwnWalk
namespace Go.Proofs.YtbfmmndpboagdaaGreatDoor
open Go.RowKit

structure Kept (w w' : World) : Prop where
  below : Below w.heap.size w w'

theorem Kept.refl (w : World) : Kept w w := ⟨Below.refl _ _⟩
theorem Kept.trans {a b c : World} (h : Kept a b) (k : Kept b c) : Kept a c :=
  ⟨h.below.trans (k.below.mono h.below.size)⟩
theorem Kept.alloc {a w : World} (h : Kept a w) (c : Array Value) (t : TypeId) : Kept a (w.alloc (.cells c t)) :=
  ⟨h.below.alloc h.below.size _⟩
theorem Kept.drew {a w : World} (h : Kept a w) : Kept a w.drew := ⟨h.below.drew⟩
theorem Kept.drewN {a w : World} (h : Kept a w) (n : Nat) : Kept a (w.drewN n) := ⟨h.below.trans ⟨rfl, rfl, rfl, Nat.le_refl _, fun _ _ => rfl⟩⟩
theorem Kept.setCell {a w : World} (h : Kept a w) {p : Addr} (hp : a.heap.size ≤ p.block) (v : Value) : Kept a (w.setCell p v) :=
  ⟨h.below.setCell hp v⟩
theorem Kept.froze {w w' : World} (h : Kept w w') (a : Addr) (ha : a.block < w.heap.size) : w'.frozen? a = w.frozen? a := World.frozen?_of_block (h.below.block _ ha)
theorem Kept.soft {w w' : World} (h : Kept w w') {b i : Nat} (hb : b < w.heap.size) (hf : w.frozen? ⟨b, i, none⟩ = false) : w'.frozen? ⟨b, i, none⟩ = false := (h.froze ⟨b, i, none⟩ hb).trans hf
theorem Kept.cell {w w' : World} (h : Kept w w') (b o : Nat) (hb : b < w.heap.size) : w'.cell? ⟨b, o, none⟩ = w.cell? ⟨b, o, none⟩ := h.below.cell (p := ⟨b, o, none⟩) hb
theorem Kept.size {w w' : World} (h : Kept w w') : w.heap.size ≤ w'.heap.size := h.below.size
theorem lt_of_cell {w : World} {b o : Nat} {v : Value} (h : w.cell? ⟨b, o, none⟩ = some v) : b < w.heap.size := World.block_lt_of_cell? w ⟨b, o, none⟩ h
theorem Kept.some {w w' : World} (h : Kept w w') {b o : Nat} {v : Value} (hc : w.cell? ⟨b, o, none⟩ = some v) : w'.cell? ⟨b, o, none⟩ = some v := by
  rw [h.cell b o (lt_of_cell hc)]; exact hc
theorem Kept.past {w w' : World} {x : Obj} (h : Kept (w.alloc x) w') {b o : Nat} {v : Value} (hc : w.cell? ⟨b, o, none⟩ = Option.some v) : w'.cell? ⟨b, o, none⟩ = Option.some v :=
  h.some (by rw [World.cell?_alloc_past _ _ _ (lt_of_cell hc)]; exact hc)
end Go.Proofs.YtbfmmndpboagdaaGreatDoor

namespace Go.Proofs.YtbfmmndpboagdaaGreatDoor
open Go.RowKit

structure But (S : Nat → Prop) (w w' : World) : Prop where
  os : w'.os = w.os
  tape : w'.tape = w.tape
  output : w'.output = w.output
  size : w.heap.size ≤ w'.heap.size
  block : ∀ k, k < w.heap.size → ¬ S k → w'.heap[k]? = w.heap[k]?
  froze : ∀ a, a.block < w.heap.size → w'.frozen? a = w.frozen? a

theorem Kept.but {w w' : World} (h : Kept w w') (S : Nat → Prop) : But S w w' :=
  ⟨h.below.os, h.below.tape, h.below.output, h.below.size, fun k hk _ => h.below.block k hk, h.froze⟩
theorem But.refl (S : Nat → Prop) (w : World) : But S w w := (Kept.refl w).but S
theorem But.mono {S T : Nat → Prop} {w w' : World} (h : But S w w') (hST : ∀ k, k < w.heap.size → S k → T k) : But T w w' :=
  ⟨h.os, h.tape, h.output, h.size, fun k hk hT => h.block k hk (fun hS => hT (hST k hk hS)), h.froze⟩
theorem But.trans {S T : Nat → Prop} {a b c : World} (h : But S a b) (k : But T b c) (hT : ∀ i, i < a.heap.size → T i → S i) : But S a c :=
  ⟨k.os.trans h.os, k.tape.trans h.tape, k.output.trans h.output, Nat.le_trans h.size k.size,
   fun i hi hS => (k.block i (Nat.lt_of_lt_of_le hi h.size) (fun ht => hS (hT i hi ht))).trans (h.block i hi hS), fun x hx => (k.froze x (Nat.lt_of_lt_of_le hx h.size)).trans (h.froze x hx)⟩
theorem But.then {S : Nat → Prop} {a b c : World} (h : But S a b) (k : Kept b c) : But S a c := h.trans (k.but S) (fun _ _ h => h)
theorem But.alloc {S : Nat → Prop} {a w : World} (h : But S a w) (c : Array Value) (t : TypeId) : But S a (w.alloc (.cells c t)) := h.then ((Kept.refl w).alloc c t)
theorem But.drew {S : Nat → Prop} {a w : World} (h : But S a w) : But S a w.drew := h.then (Kept.refl w).drew
theorem But.drewN {S : Nat → Prop} {a w : World} (h : But S a w) (n : Nat) : But S a (w.drewN n) := h.then ((Kept.refl w).drewN n)
theorem But.setCell {S : Nat → Prop} {a w : World} (h : But S a w) {p : Addr} (hp : S p.block ∨ a.heap.size ≤ p.block) (v : Value) : But S a (w.setCell p v) :=
  ⟨h.os, h.tape, h.output, by simpa using h.size, fun k hk hS => by
    rw [Below.heap_setCell _ _ _ _ (by
      rcases hp with hp | hp
      · intro e; subst e; exact hS hp
      · omega)]
    exact h.block k hk hS, fun x hx => (World.frozen?_setCell _ _ _ _).trans (h.froze x hx)⟩
theorem But.cell {S : Nat → Prop} {w w' : World} (h : But S w w') (b o : Nat) (hb : b < w.heap.size) (hS : ¬ S b) : w'.cell? ⟨b, o, none⟩ = w.cell? ⟨b, o, none⟩ :=
  World.cell?_of_block (w := w) (h.block b hb hS)
theorem But.some {S : Nat → Prop} {w w' : World} (h : But S w w') {b o : Nat} {v : Value} (hc : w.cell? ⟨b, o, none⟩ = Option.some v) (hS : ¬ S b) : w'.cell? ⟨b, o, none⟩ = Option.some v := by
  rw [h.cell b o (lt_of_cell hc) hS]; exact hc
theorem But.soft {S : Nat → Prop} {w w' : World} (h : But S w w') {b i : Nat} (hb : b < w.heap.size) (hf : w.frozen? ⟨b, i, none⟩ = false) : w'.frozen? ⟨b, i, none⟩ = false := (h.froze ⟨b, i, none⟩ hb).trans hf
theorem But.kept {S : Nat → Prop} {w w' : World} (h : But S w w') (hS : ∀ k, k < w.heap.size → ¬ S k) : Kept w w' :=
  ⟨⟨h.os, h.tape, h.output, h.size, fun k hk => h.block k hk (hS k hk)⟩⟩

theorem cell_set (w : World) (b o o' : Nat) (v : Value) : (w.setCell ⟨b, o, none⟩ v).cell? ⟨b, o', none⟩ = if o = o' then (w.cell? ⟨b, o', none⟩).map (fun _ => v) else w.cell? ⟨b, o', none⟩ := by
  by_cases h : o = o'
  · subst h
    rw [if_pos rfl]
    cases hc : w.cell? ⟨b, o, none⟩ with
    | some u => exact World.cell?_setCell_same _ _ _ hc
    | none =>
      simp only [World.cell?, World.setCell, Array.getElem?_modify] at *
      cases hh : w.heap[b]? with
      | none => simp
      | some x =>
        cases x <;> simp_all
  · rw [if_neg h]
    exact World.cell?_setCell_other _ _ _ _ (by intro e; injection e; contradiction)
theorem cell_set_far (w : World) (b b' o o' : Nat) (v : Value) (h : b ≠ b') : (w.setCell ⟨b, o, none⟩ v).cell? ⟨b', o', none⟩ = w.cell? ⟨b', o', none⟩ :=
  World.cell?_setCell_other _ _ _ _ (by intro e; injection e; contradiction)
theorem But.here {b : Nat} {a w : World} (h : But (fun k => k = b) a w) (o : Nat) (v : Value) : But (fun k => k = b) a (w.setCell ⟨b, o, none⟩ v) := h.setCell (p := ⟨b, o, none⟩) (Or.inl rfl) v
theorem cell_new (w : World) (C : Array Value) (t : TypeId) (n i : Nat) (h : n = w.heap.size) : (w.alloc (.cells C t)).cell? ⟨n, i, none⟩ = C[i]? := by
  subst h; simp
end Go.Proofs.YtbfmmndpboagdaaGreatDoor

namespace Go.Proofs.YtbfmmndpboagdaaGreatDoor
open Go.RowKit

def ints (l : List Int) : List Value := l.map (Value.int .i64)
def flat (l : List (Int × Int × Int)) : List Value := l.flatMap fun d => [.int .i64 d.1, .int .i64 d.2.1, .int .i64 d.2.2]
theorem ints_get (l : List Int) (i : Nat) (x : Int) (h : l[i]? = some x) : (ints l)[i]? = some (.int .i64 x) := by simp [ints, h]
theorem ints_append (l m : List Int) : ints (l ++ m) = ints l ++ ints m := by simp [ints]
theorem flat_cons (d : Int × Int × Int) (l : List (Int × Int × Int)) : flat (d :: l) = .int .i64 d.1 :: .int .i64 d.2.1 :: .int .i64 d.2.2 :: flat l := by simp [flat]
theorem flat_one (l : List (Int × Int × Int)) : ∀ u ∈ flat l, u.oneCell' = true := by
  induction l with
  | nil => intro u h; cases h
  | cons c l ih =>
    intro u h
    rw [flat_cons] at h
    simp only [List.mem_cons] at h
    rcases h with rfl | rfl | rfl | h
    · rfl
    · rfl
    · rfl
    · exact ih u h
theorem ints_one (l : List Int) : ∀ u ∈ ints l, u.oneCell' = true := by
  intro u h
  obtain ⟨x, _, rfl⟩ := List.mem_map.1 h
  rfl

def Lies (w : World) (v : Value) (n : Nat) (xs : List Value) : Prop :=
  (v = .slice none 0 0 ∧ n = 0 ∧ xs = []) ∨ ∃ g o c, v = .slice (some ⟨g, o, none⟩) n c ∧ n ≤ c ∧ c ≤ maxLen ∧ ∀ j u, xs[j]? = some u → w.cell? ⟨g, o + j, none⟩ = some u

theorem Lies.form {w : World} {v : Value} {n : Nat} {xs : List Value} (h : Lies w v n xs) : ∃ a c, v = .slice a n c ∧ n ≤ c ∧ c ≤ maxLen := by
  rcases h with ⟨rfl, rfl, _⟩ | ⟨g, o, c, rfl, h1, h2, _⟩
  · exact ⟨_, _, rfl, Nat.le_refl _, Nat.zero_le _⟩
  · exact ⟨_, _, rfl, h1, h2⟩
theorem add_none (b o j : Nat) : (Addr.add ⟨b, o, none⟩ j) = ⟨b, o + j, none⟩ := by
  unfold Addr.add
  split <;> simp_all
theorem Lies.kept {w w' : World} {v : Value} {n : Nat} {xs : List Value} (h : Lies w v n xs) (k : Kept w w') : Lies w' v n xs := by
  rcases h with h | ⟨g, o, c, h1, h2, h3, h4⟩
  · exact .inl h
  · exact .inr ⟨g, o, c, h1, h2, h3, fun j u hu => k.some (h4 j u hu)⟩
theorem Lies.but {S : Nat → Prop} {w w' : World} {v : Value} {n : Nat} {xs : List Value} (h : Lies w v n xs) (k : But S w w') (hS : ∀ g, v.ownBlock = some g → ¬ S g) : Lies w' v n xs := by
  rcases h with h | ⟨g, o, c, rfl, h2, h3, h4⟩
  · exact .inl h
  · exact .inr ⟨g, o, c, rfl, h2, h3, fun j u hu => k.some (h4 j u hu) (hS g rfl)⟩

section
variable {w : World} {base : Nat} {e : TypeId} {size : Nat} {v : Value} {n : Nat} {xs : List Value}
theorem own_form (h : w.ownsRow base e size v n xs) : ∃ a c, v = .slice a n c := by
  rcases h.2 with ⟨rfl, rfl⟩ | ⟨g, cap, cur, rfl, _⟩
  · exact ⟨_, _, rfl⟩
  · exact ⟨_, _, rfl⟩
theorem own_lies (h : w.ownsRow base e size v n xs) : Lies w v n xs := by
  rcases h.2 with ⟨rfl, rfl⟩ | ⟨g, cap, cur, rfl, hb, hg, h1, h2, h3, h4⟩
  · have : xs = [] := List.eq_nil_of_length_eq_zero (by simpa using h.1)
    exact .inl ⟨rfl, rfl, this⟩
  · refine .inr ⟨g, 0, cap, rfl, h1, h2, fun j u hu => ?_⟩
    rw [Nat.zero_add, cell_of_row w g j cur e _ hg]
    rw [← h4] at hu
    have hj : j < n * size := by
      have := (List.getElem?_eq_some_iff.1 hu).1
      rw [List.length_take] at this
      omega
    rw [List.getElem?_take_of_lt hj] at hu
    simpa using hu
theorem own_same {w' : World} (h : w.ownsRow base e size v n xs) (hs : ∀ g, v.ownBlock = some g → w'.heap[g]? = w.heap[g]?) : w'.ownsRow base e size v n xs := by
  refine ⟨h.1, ?_⟩
  rcases h.2 with hn | ⟨g, cap, cur, rfl, hb, hg, rest⟩
  · exact .inl hn
  · exact .inr ⟨g, cap, cur, rfl, hb, (hs g rfl).trans hg, rest⟩
theorem own_mono {base' : Nat} (h : w.ownsRow base e size v n xs) (hb : base' ≤ base) : w.ownsRow base' e size v n xs := by
  refine ⟨h.1, ?_⟩
  rcases h.2 with hn | ⟨g, cap, cur, rfl, hb', rest⟩
  · exact .inl hn
  · exact .inr ⟨g, cap, cur, rfl, Nat.le_trans hb hb', rest⟩
end

theorem but_of_grown {w w' : World} {row : Option Nat} (h : w.grownBy w' row) (hf : ∀ g, row = some g → g < w.heap.size → ∀ i, w'.frozen? ⟨g, i, none⟩ = w.frozen? ⟨g, i, none⟩) : But (fun k => row = some k) w w' :=
  ⟨h.os, h.tape, h.output, h.size, fun k hk hS => h.block k hk (fun e => hS e.symm), fun a ha => by
    by_cases e : row = some a.block
    · obtain ⟨b, i, s⟩ := a
      cases s with
      | none => exact hf b e ha i
      | some s =>
        have := hf b e ha i
        simpa [World.frozen?] using this
    · exact World.frozen?_of_block (h.block a.block ha (fun h => e h.symm))⟩

section
variable {P : Program} (w : World)
theorem append_any (base : Nat) (t ty e : TypeId) (i : TypeInfo) (z : Value) (size bytes : Nat) (ht : P.underlying t = some (.slice e)) (hi : P.info? e = some i) (hz : i.zero = some z)
    (hsize : i.size = size) (hby : i.bytes = bytes) (hzs : z.cells.size = size) (hsz : 0 < size)
    (v : Value) (n : Nat) (xs : List Value) (hown : w.ownsRow base e size v n xs)
    (x : Value) (m : Nat) (news : List Value) (hl : news.length = m * size) (hx : Lies w x m news) (h1 : ∀ u ∈ news, u.oneCell' = true)
    (h63 : n + m ≤ maxLen) (hbytes : (n + m) * bytes ≤ 140737488355328) (hbase : base ≤ w.heap.size) :
    ∃ a c w', (Builtin.append_ #[t, t] ty #[v, x]).run P w = .ok (.slice a (n + m) c) w' ∧ w'.ownsRow base e size (.slice a (n + m) c) (n + m) (xs ++ news) ∧ But (fun k => v.ownBlock = some k) w w' ∧
      ((Value.slice a (n + m) c).ownBlock = v.ownBlock ∨ (Value.slice a (n + m) c).ownBlock = some w.heap.size) := by
  rcases hx with ⟨rfl, rfl, rfl⟩ | ⟨g, o, c, rfl, _, _, hc⟩
  · obtain ⟨a, c, rfl⟩ := own_form hown
    refine ⟨a, c, w, ?_, by simpa using hown, But.refl _ _, Or.inl rfl⟩
    rcases hown.2 with ⟨hv, rfl⟩ | ⟨g', cap, cur, hv, _, _, hnc, _⟩
    · cases hv
      simp [Builtin.append_, run_underlying ht, sizeOf, typeInfo, hi, Builtin.lenOf, Builtin.firstCells]
    · cases hv
      simp [Builtin.append_, run_underlying ht, sizeOf, typeInfo, hi, Builtin.lenOf, Builtin.firstCells, hnc, storeCells]
  · obtain ⟨v', w', hr, h2, h3, _, h5⟩ := run_append_own_at (P := P) w base t ty e i z size bytes ht hi hz hsize hby hzs hsz v n xs hown ⟨g, o, none⟩ m c news hl (fun j u hu => by rw [add_none]; exact hc j u hu) h1 h63 hbytes hbase
    obtain ⟨a, c', rfl⟩ := own_form h2
    refine ⟨a, c', w', hr, h2, but_of_grown h3 fun g' hg' _ k => ?_, h5⟩
    have hnews : ∀ j u, news[j]? = some u → w.cell? ((⟨g, o, none⟩ : Addr).add j) = some u := fun j u hu => by rw [add_none]; exact hc j u hu
    subst hsize
    subst hby
    rcases hown.2 with ⟨rfl, _⟩ | ⟨g2, cap, cur, rfl, _, hg2, hnc, hcm, hcs, htake⟩
    · cases hg'
    · have e' : g2 = g' := by simpa [Value.ownBlock] using hg'
      subst e'
      by_cases hroom : n + m ≤ cap
      · have hr2 := run_append_room (P := P) w t ty e i ht hi g2 n cap cur hg2 ⟨g, o, none⟩ m c news hl hnews h1 hroom (by rw [hl, hcs, ← Nat.add_mul]; exact Nat.mul_le_mul_right _ hroom)
        rw [hr] at hr2
        injection hr2 with _ hw
        rw [hw, frozen_of_row _ g2 k _ e (setRow_heap w g2 cur _ e _ hg2), frozen_of_row _ g2 k _ e hg2]
      · have hr2 := run_append_grow (P := P) w t ty e i z ht hi hz ⟨g2, 0, none⟩ n cap xs hown.1 (hown.cells (g := g2) rfl) ⟨g, o, none⟩ m c news hl hnews (by omega) (by unfold maxLen at h63; omega) (growslice_fits (by omega) hbytes)
        rw [hr] at hr2
        injection hr2 with _ hw
        rw [hw]
        exact (((Kept.refl w).drew).alloc _ _).froze ⟨g2, k, none⟩ (Array.getElem?_eq_some_iff.1 hg2).1

end
end Go.Proofs.YtbfmmndpboagdaaGreatDoor

namespace Go.Proofs.YtbfmmndpboagdaaGreatDoor
open Go.RowKit

section
variable {α : Type} {m : Nat} {f : α → List Value}
theorem wide_length (hf : ∀ a, (f a).length = m) (l : List α) : (l.flatMap f).length = l.length * m := by
  induction l with
  | nil => simp
  | cons a l ih => simp only [List.flatMap_cons, List.length_append, hf, ih, List.length_cons, Nat.add_mul, Nat.one_mul]; omega
theorem wide_get (hf : ∀ a, (f a).length = m) (l : List α) : ∀ (i j : Nat) (a : α), l[i]? = some a → j < m → (l.flatMap f)[i * m + j]? = (f a)[j]? := by
  induction l with
  | nil => intro i j a h; simp at h
  | cons b l ih =>
    intro i j a h hj
    rw [List.flatMap_cons]
    cases i with
    | zero =>
      simp at h
      subst h
      rw [List.getElem?_append_left (by rw [hf]; omega)]
      simp
    | succ i =>
      rw [List.getElem?_append_right (by rw [hf, Nat.add_mul]; omega), hf, show (i + 1) * m + j - m = i * m + j by rw [Nat.add_mul]; omega]
      exact ih i j a (by simpa using h) hj
theorem wide_snoc (l : List α) (a : α) : (l ++ [a]).flatMap f = l.flatMap f ++ f a := by simp
theorem wide_one (h1 : ∀ a, ∀ u ∈ f a, u.oneCell' = true) (l : List α) : ∀ u ∈ l.flatMap f, u.oneCell' = true := by
  intro u h
  obtain ⟨a, _, ha⟩ := List.mem_flatMap.1 h
  exact h1 a u ha
end

def Lay (w : World) (v : Value) (n : Nat) (xs : List Value) : Prop := Lies w v n xs ∨ ∃ x c, v = .slice (some x) 0 c ∧ n = 0 ∧ xs = [] ∧ c ≤ maxLen
theorem Lies.lay {w : World} {v : Value} {n : Nat} {xs : List Value} (h : Lies w v n xs) : Lay w v n xs := .inl h
theorem Lay.form {w : World} {v : Value} {n : Nat} {xs : List Value} (h : Lay w v n xs) : ∃ a c, v = .slice a n c ∧ n ≤ c ∧ c ≤ maxLen := by
  rcases h with h | ⟨x, c, rfl, rfl, _, hc⟩
  · exact h.form
  · exact ⟨_, _, rfl, Nat.zero_le _, hc⟩
theorem Lay.kept {w w' : World} {v : Value} {n : Nat} {xs : List Value} (h : Lay w v n xs) (k : Kept w w') : Lay w' v n xs := h.imp (fun h => h.kept k) id
theorem Lay.but {S : Nat → Prop} {w w' : World} {v : Value} {n : Nat} {xs : List Value} (h : Lay w v n xs) (k : But S w w') (hS : ∀ g, v.ownBlock = some g → ¬ S g) : Lay w' v n xs := h.imp (fun h => h.but k hS) id
theorem Lay.at {w : World} {v : Value} {n : Nat} {xs : List Value} (h : Lay w v n xs) (hn : 0 < n) : ∃ g o c, v = .slice (some ⟨g, o, none⟩) n c ∧ n ≤ c ∧ c ≤ maxLen ∧ ∀ j u, xs[j]? = some u → w.cell? ⟨g, o + j, none⟩ = some u := by
  rcases h with (⟨_, h, _⟩ | h) | ⟨_, _, _, h, _⟩
  · omega
  · exact h
  · omega
theorem Lay.pre {w : World} {a : Option Addr} {n c m : Nat} {xs ys : List Value} (h : Lay w (.slice a n c) n xs) (hm : m ≤ n) (h0 : m = 0 → ys = []) (hx : ∀ (j : Nat) u, ys[j]? = some u → xs[j]? = some u) : Lay w (.slice a m c) m ys := by
  obtain ⟨a', c', e, hc1, hc2⟩ := h.form
  cases e
  by_cases hz : m = 0
  · subst hz
    rw [h0 rfl]
    cases a with
    | none =>
      rcases h with (⟨e, _, _⟩ | ⟨g, o, c', e, _⟩) | ⟨x, c', e, _⟩
      · cases e; exact .inl (.inl ⟨rfl, rfl, rfl⟩)
      · cases e
      · cases e
    | some x => exact .inr ⟨x, c, rfl, rfl, rfl, hc2⟩
  · obtain ⟨g, o, c', e, h1, h2, h3⟩ := h.at (by omega)
    cases e
    exact .inl (.inr ⟨g, o, c, rfl, by omega, h2, fun j u hu => h3 j u (hx j u hu)⟩)

section
variable {P : Program} (w : World)
theorem append_lay (base : Nat) (t ty e : TypeId) (i : TypeInfo) (z : Value) (size bytes : Nat) (ht : P.underlying t = some (.slice e)) (hi : P.info? e = some i) (hz : i.zero = some z)
    (hsize : i.size = size) (hby : i.bytes = bytes) (hzs : z.cells.size = size) (hsz : 0 < size)
    (v : Value) (n : Nat) (xs : List Value) (hown : w.ownsRow base e size v n xs)
    (x : Value) (m : Nat) (news : List Value) (hl : news.length = m * size) (hx : Lay w x m news) (h1 : ∀ u ∈ news, u.oneCell' = true)
    (h63 : n + m ≤ maxLen) (hbytes : (n + m) * bytes ≤ 140737488355328) (hbase : base ≤ w.heap.size) :
    ∃ a c w', (Builtin.append_ #[t, t] ty #[v, x]).run P w = .ok (.slice a (n + m) c) w' ∧ w'.ownsRow base e size (.slice a (n + m) c) (n + m) (xs ++ news) ∧ But (fun k => v.ownBlock = some k) w w' ∧
      ((Value.slice a (n + m) c).ownBlock = v.ownBlock ∨ (Value.slice a (n + m) c).ownBlock = some w.heap.size) := by
  rcases hx with hx | ⟨x, c, rfl, rfl, rfl, hc⟩
  · exact append_any w base t ty e i z size bytes ht hi hz hsize hby hzs hsz v n xs hown x m news hl hx h1 h63 hbytes hbase
  · obtain ⟨v', w', hr, h2, h3, _, h5⟩ := run_append_own_at (P := P) w base t ty e i z size bytes ht hi hz hsize hby hzs hsz v n xs hown x 0 c [] (by simp) (fun j u hu => by simp at hu) h1 h63 hbytes hbase
    obtain ⟨a, c', rfl⟩ := own_form h2
    refine ⟨a, c', w', hr, h2, but_of_grown h3 fun g hg _ k => ?_, h5⟩
    subst hsize
    rcases hown.2 with ⟨rfl, _⟩ | ⟨g2, cap, cur, rfl, _, hg2, hnc, hcm, hcs, htake⟩
    · cases hg
    · have e' : g2 = g := by simpa [Value.ownBlock] using hg
      subst e'
      have hr2 := run_append_room (P := P) w t ty e i ht hi g2 n cap cur hg2 x 0 c [] (by simp) (fun j u hu => by simp at hu) h1 (by omega) (by simp [hcs]; exact Nat.mul_le_mul_right _ hnc)
      rw [hr] at hr2
      injection hr2 with _ hw
      rw [hw, frozen_of_row _ g2 k _ e (setRow_heap w g2 cur _ e _ hg2), frozen_of_row _ g2 k _ e hg2]

theorem wp_append_lay {o : Oper} {A : Act} {K : Act → World → Prop} {Q : Exit → Act → World → Prop} (s x : Operand) (t : TypeId)
    (ho : o.op = .call { callee := .builtin .append, args := #[s, x], argTypes := #[t, t] })
    (base : Nat) (e : TypeId) (i : TypeInfo) (z : Value) (size bytes : Nat) (ht : P.underlying t = some (.slice e)) (hi : P.info? e = some i) (hz : i.zero = some z)
    (hsize : i.size = size) (hby : i.bytes = bytes) (hzs : z.cells.size = size) (hsz : 0 < size)
    (v : Value) (n : Nat) (xs : List Value) (hs : A.eval s = v) (hown : w.ownsRow base e size v n xs)
    (y : Value) (m : Nat) (news : List Value) (hy : A.eval x = y) (hl : news.length = m * size) (hx : Lay w y m news) (h1 : ∀ u ∈ news, u.oneCell' = true)
    (h63 : n + m ≤ maxLen) (hbytes : (n + m) * bytes ≤ 140737488355328) (hbase : base ≤ w.heap.size)
    (h : ∀ a c w', w'.ownsRow base e size (.slice a (n + m) c) (n + m) (xs ++ news) → But (fun k => v.ownBlock = some k) w w' →
      ((Value.slice a (n + m) c).ownBlock = v.ownBlock ∨ (Value.slice a (n + m) c).ownBlock = some w.heap.size) → K (A.put o.dst (.slice a (n + m) c)) w') : o.wp P A w K Q := by
  obtain ⟨a, c, w', hr, h2, h3, h4⟩ := append_lay (P := P) w base t o.type e i z size bytes ht hi hz hsize hby hzs hsz v n xs hown y m news hl hx h1 h63 hbytes hbase
  unfold Oper.wp execOp
  simp only [ho, resolve, invoke, builtin, Sem.run_bind, Sem.run_pure, Result.andThen_ok, List.map_toArray, List.map_cons, List.map_nil, hs, hy, hr]
  exact h a c w' h2 h3 h4
theorem wpList_append_lay {ops : Array Oper} {rest : List Oper} {o : Oper} {A : Act} {Q : Exit → Act → World → Prop} (hgd : o.guard = none) (s x : Operand) (t : TypeId)
    (ho : o.op = .call { callee := .builtin .append, args := #[s, x], argTypes := #[t, t] })
    (base : Nat) (e : TypeId) (i : TypeInfo) (z : Value) (size bytes : Nat) (ht : P.underlying t = some (.slice e)) (hi : P.info? e = some i) (hz : i.zero = some z)
    (hsize : i.size = size) (hby : i.bytes = bytes) (hzs : z.cells.size = size) (hsz : 0 < size)
    (v : Value) (n : Nat) (xs : List Value) (hs : A.eval s = v) (hown : w.ownsRow base e size v n xs)
    (y : Value) (m : Nat) (news : List Value) (hy : A.eval x = y) (hl : news.length = m * size) (hx : Lay w y m news) (h1 : ∀ u ∈ news, u.oneCell' = true)
    (h63 : n + m ≤ maxLen) (hbytes : (n + m) * bytes ≤ 140737488355328) (hbase : base ≤ w.heap.size)
    (h : ∀ a c w', w'.ownsRow base e size (.slice a (n + m) c) (n + m) (xs ++ news) → But (fun k => v.ownBlock = some k) w w' →
      ((Value.slice a (n + m) c).ownBlock = v.ownBlock ∨ (Value.slice a (n + m) c).ownBlock = some w.heap.size) → wpList P ops Q rest (A.put o.dst (.slice a (n + m) c)) w') : wpList P ops Q (o :: rest) A w :=
  wpList_plain hgd fun _ hK => wp_append_lay w s x t ho base e i z size bytes ht hi hz hsize hby hzs hsz v n xs hs hown y m news hy hl hx h1 h63 hbytes hbase fun a c w' h2 h3 h4 => hK _ _ (h a c w' h2 h3 h4)
end
end Go.Proofs.YtbfmmndpboagdaaGreatDoor
