/- Rows of cells: slices of the call's own ('ownsRow'), lists of ints and of deeds as cells, and 'append' of whatever, empty or nil, onto a slice of the call's own. -/
import Derived.Test.YtbechdgcepiecaaG00
import Derived.WalkKit
import Derived.WalkLawsBesides
import Derived.Maps.AppendAt
import Derived.Deep.AppendLies
import Derived.RegionTactic
import Derived.OwnWalk
import Derived.Test.YtbechdgcepiecaaG08
import Derived.Test.YtbechdgcepiecaaG09
import Derived.Test.YtbechdgcepiecaaG06
import Derived.Deep.RegionLaw
set_option linter.unusedVariables false
set_option linter.unusedSimpArgs false

namespace Go.Proofs.Ytbechdgcepiecaa
open Go.RowKit

def ints (l : List Int) : List Value := l.map (Value.int .i64)
def flat (l : List (Int × Int × Int)) : List Value := l.flatMap fun d => [.int .i64 d.1, .int .i64 d.2.1, .int .i64 d.2.2]
theorem ints_length (l : List Int) : (ints l).length = l.length * 1 := by simp [ints]
theorem ints_get (l : List Int) (i : Nat) (x : Int) (h : l[i]? = some x) : (ints l)[i]? = some (.int .i64 x) := by simp [ints, h]
theorem ints_append (l m : List Int) : ints (l ++ m) = ints l ++ ints m := by simp [ints]
theorem flat_append (l m : List (Int × Int × Int)) : flat (l ++ m) = flat l ++ flat m := by simp [flat]
theorem flat_cons (d : Int × Int × Int) (l : List (Int × Int × Int)) : flat (d :: l) = .int .i64 d.1 :: .int .i64 d.2.1 :: .int .i64 d.2.2 :: flat l := by simp [flat]
theorem flat_length (l : List (Int × Int × Int)) : (flat l).length = l.length * 3 := by
  induction l with
  | nil => rfl
  | cons d l ih => rw [flat_cons]; simp [ih]; omega
theorem flat_get (l : List (Int × Int × Int)) : ∀ (i : Nat) (d : Int × Int × Int), l[i]? = some d → (flat l)[i * 3]? = some (.int .i64 d.1) ∧ (flat l)[i * 3 + 1]? = some (.int .i64 d.2.1) ∧ (flat l)[i * 3 + 2]? = some (.int .i64 d.2.2) := by
  induction l with
  | nil => intro i d h; simp at h
  | cons c l ih =>
    intro i d h
    rw [flat_cons]
    cases i with
    | zero => simp at h; subst h; simp
    | succ i =>
      have h' : l[i]? = some d := by simpa using h
      obtain ⟨h1, h2, h3⟩ := ih i d h'
      have e1 : (i + 1) * 3 = i * 3 + 1 + 1 + 1 := by omega
      refine ⟨?_, ?_, ?_⟩
      · rw [e1]; simpa using h1
      · rw [show (i + 1) * 3 + 1 = (i * 3 + 1) + 1 + 1 + 1 by omega]; simpa using h2
      · rw [show (i + 1) * 3 + 2 = (i * 3 + 2) + 1 + 1 + 1 by omega]; simpa using h3
theorem flat_take (l : List (Int × Int × Int)) : ∀ k, (flat l).take (k * 3) = flat (l.take k) := by
  induction l with
  | nil => intro k; simp [flat]
  | cons c l ih =>
    intro k
    cases k with
    | zero => simp [flat]
    | succ k =>
      rw [show (k + 1) * 3 = k * 3 + 1 + 1 + 1 by omega, flat_cons, List.take_succ_cons, List.take_succ_cons, List.take_succ_cons, List.take_succ_cons, flat_cons, ih]
theorem flat_one (l : List (Int × Int × Int)) : ∀ u ∈ flat l, u.oneCell' = true := by
  induction l with
  | nil => intro u h; cases h
  | cons c l ih =>
    intro u h
    rw [flat_cons] at h
    simp only [List.mem_cons] at h
    rcases h with rfl | rfl | rfl | h
    · rfl
    · rfl
    · rfl
    · exact ih u h
theorem ints_one (l : List Int) : ∀ u ∈ ints l, u.oneCell' = true := by
  intro u h
  obtain ⟨x, _, rfl⟩ := List.mem_map.1 h
  rfl

def Lies (w : World) (v : Value) (n : Nat) (xs : List Value) : Prop :=
  (v = .slice none 0 0 ∧ n = 0 ∧ xs = []) ∨ ∃ g o c, v = .slice (some ⟨g, o, none⟩) n c ∧ n ≤ c ∧ c ≤ maxLen ∧ ∀ j u, xs[j]? = some u → w.cell? ⟨g, o + j, none⟩ = some u

theorem Lies.form {w : World} {v : Value} {n : Nat} {xs : List Value} (h : Lies w v n xs) : ∃ a c, v = .slice a n c ∧ n ≤ c ∧ c ≤ maxLen := by
  rcases h with ⟨rfl, rfl, _⟩ | ⟨g, o, c, rfl, h1, h2, _⟩
  · exact ⟨_, _, rfl, Nat.le_refl _, Nat.zero_le _⟩
  · exact ⟨_, _, rfl, h1, h2⟩
theorem add_none (b o j : Nat) : (Addr.add ⟨b, o, none⟩ j) = ⟨b, o + j, none⟩ := by
  unfold Addr.add
  split <;> simp_all
theorem Lies.kept {w w' : World} {v : Value} {n : Nat} {xs : List Value} (h : Lies w v n xs) (k : Kept w w') : Lies w' v n xs := by
  rcases h with h | ⟨g, o, c, h1, h2, h3, h4⟩
  · exact .inl h
  · exact .inr ⟨g, o, c, h1, h2, h3, fun j u hu => k.some (h4 j u hu)⟩
theorem Lies.but {S : Nat → Prop} {w w' : World} {v : Value} {n : Nat} {xs : List Value} (h : Lies w v n xs) (k : But S w w') (hS : ∀ g, v.ownBlock = some g → ¬ S g) : Lies w' v n xs := by
  rcases h with h | ⟨g, o, c, rfl, h2, h3, h4⟩
  · exact .inl h
  · exact .inr ⟨g, o, c, rfl, h2, h3, fun j u hu => k.some (h4 j u hu) (hS g rfl)⟩

section
variable {w : World} {base : Nat} {e : TypeId} {size : Nat} {v : Value} {n : Nat} {xs : List Value}
theorem own_form (h : w.ownsRow base e size v n xs) : ∃ a c, v = .slice a n c := by
  rcases h.2 with ⟨rfl, rfl⟩ | ⟨g, cap, cur, rfl, _⟩
  · exact ⟨_, _, rfl⟩
  · exact ⟨_, _, rfl⟩
theorem own_lies (h : w.ownsRow base e size v n xs) : Lies w v n xs := by
  rcases h.2 with ⟨rfl, rfl⟩ | ⟨g, cap, cur, rfl, hb, hg, h1, h2, h3, h4⟩
  · have : xs = [] := List.eq_nil_of_length_eq_zero (by simpa using h.1)
    exact .inl ⟨rfl, rfl, this⟩
  · refine .inr ⟨g, 0, cap, rfl, h1, h2, fun j u hu => ?_⟩
    rw [Nat.zero_add, cell_of_row w g j cur e _ hg]
    rw [← h4] at hu
    have hj : j < n * size := by
      have := (List.getElem?_eq_some_iff.1 hu).1
      rw [List.length_take] at this
      omega
    rw [List.getElem?_take_of_lt hj] at hu
    simpa using hu
theorem own_soft (h : w.ownsRow base e size v n xs) (g : Nat) (hg : v.ownBlock = some g) (i : Nat) : w.frozen? ⟨g, i, none⟩ = false := by
  rcases h.2 with ⟨rfl, _⟩ | ⟨g', cap, cur, rfl, _, hh, _⟩
  · cases hg
  · have e' : g' = g := by simpa [Value.ownBlock] using hg
    subst e'
    exact frozen_of_row w g' i cur e hh
theorem own_same {w' : World} (h : w.ownsRow base e size v n xs) (hs : ∀ g, v.ownBlock = some g → w'.heap[g]? = w.heap[g]?) : w'.ownsRow base e size v n xs := by
  refine ⟨h.1, ?_⟩
  rcases h.2 with hn | ⟨g, cap, cur, rfl, hb, hg, rest⟩
  · exact .inl hn
  · exact .inr ⟨g, cap, cur, rfl, hb, (hs g rfl).trans hg, rest⟩
theorem own_mono {base' : Nat} (h : w.ownsRow base e size v n xs) (hb : base' ≤ base) : w.ownsRow base' e size v n xs := by
  refine ⟨h.1, ?_⟩
  rcases h.2 with hn | ⟨g, cap, cur, rfl, hb', rest⟩
  · exact .inl hn
  · exact .inr ⟨g, cap, cur, rfl, Nat.le_trans hb hb', rest⟩
end

theorem but_of_grown {w w' : World} {row : Option Nat} (h : w.grownBy w' row) (hf : ∀ g, row = some g → g < w.heap.size → ∀ i, w'.frozen? ⟨g, i, none⟩ = w.frozen? ⟨g, i, none⟩) : But (fun k => row = some k) w w' :=
  ⟨h.os, h.tape, h.output, h.size, fun k hk hS => h.block k hk (fun e => hS e.symm), fun a ha => by
    by_cases e : row = some a.block
    · obtain ⟨b, i, s⟩ := a
      cases s with
      | none => exact hf b e ha i
      | some s =>
        have := hf b e ha i
        simpa [World.frozen?] using this
    · exact World.frozen?_of_block (h.block a.block ha (fun h => e h.symm))⟩

section
variable {P : Program} (w : World)
theorem append_any (base : Nat) (t ty e : TypeId) (i : TypeInfo) (z : Value) (size bytes : Nat) (ht : P.underlying t = some (.slice e)) (hi : P.info? e = some i) (hz : i.zero = some z)
    (hsize : i.size = size) (hby : i.bytes = bytes) (hzs : z.cells.size = size) (hsz : 0 < size)
    (v : Value) (n : Nat) (xs : List Value) (hown : w.ownsRow base e size v n xs)
    (x : Value) (m : Nat) (news : List Value) (hl : news.length = m * size) (hx : Lies w x m news) (h1 : ∀ u ∈ news, u.oneCell' = true)
    (h63 : n + m ≤ maxLen) (hbytes : (n + m) * bytes ≤ 140737488355328) (hbase : base ≤ w.heap.size) :
    ∃ a c w', (Builtin.append_ #[t, t] ty #[v, x]).run P w = .ok (.slice a (n + m) c) w' ∧ w'.ownsRow base e size (.slice a (n + m) c) (n + m) (xs ++ news) ∧ But (fun k => v.ownBlock = some k) w w' ∧
      ((Value.slice a (n + m) c).ownBlock = v.ownBlock ∨ (Value.slice a (n + m) c).ownBlock = some w.heap.size) := by
  rcases hx with ⟨rfl, rfl, rfl⟩ | ⟨g, o, c, rfl, _, _, hc⟩
  · obtain ⟨a, c, rfl⟩ := own_form hown
    refine ⟨a, c, w, ?_, by simpa using hown, But.refl _ _, Or.inl rfl⟩
    rcases hown.2 with ⟨hv, rfl⟩ | ⟨g', cap, cur, hv, _, _, hnc, _⟩
    · cases hv
      simp [Builtin.append_, run_underlying ht, sizeOf, typeInfo, hi, Builtin.lenOf, Builtin.firstCells]
    · cases hv
      simp [Builtin.append_, run_underlying ht, sizeOf, typeInfo, hi, Builtin.lenOf, Builtin.firstCells, hnc, storeCells]
  · obtain ⟨v', w', hr, h2, h3, _, h5⟩ := run_append_own_at (P := P) w base t ty e i z size bytes ht hi hz hsize hby hzs hsz v n xs hown ⟨g, o, none⟩ m c news hl (fun j u hu => by rw [add_none]; exact hc j u hu) h1 h63 hbytes hbase
    obtain ⟨a, c', rfl⟩ := own_form h2
    refine ⟨a, c', w', hr, h2, but_of_grown h3 fun g' hg' _ k => ?_, h5⟩
    have hnews : ∀ j u, news[j]? = some u → w.cell? ((⟨g, o, none⟩ : Addr).add j) = some u := fun j u hu => by rw [add_none]; exact hc j u hu
    subst hsize
    subst hby
    rcases hown.2 with ⟨rfl, _⟩ | ⟨g2, cap, cur, rfl, _, hg2, hnc, hcm, hcs, htake⟩
    · cases hg'
    · have e' : g2 = g' := by simpa [Value.ownBlock] using hg'
      subst e'
      by_cases hroom : n + m ≤ cap
      · have hr2 := run_append_room (P := P) w t ty e i ht hi g2 n cap cur hg2 ⟨g, o, none⟩ m c news hl hnews h1 hroom (by rw [hl, hcs, ← Nat.add_mul]; exact Nat.mul_le_mul_right _ hroom)
        rw [hr] at hr2
        injection hr2 with _ hw
        rw [hw, frozen_of_row _ g2 k _ e (setRow_heap w g2 cur _ e _ hg2), frozen_of_row _ g2 k _ e hg2]
      · have hr2 := run_append_grow (P := P) w t ty e i z ht hi hz ⟨g2, 0, none⟩ n cap xs hown.1 (hown.cells (g := g2) rfl) ⟨g, o, none⟩ m c news hl hnews (by omega) (by unfold maxLen at h63; omega) (growslice_fits (by omega) hbytes)
        rw [hr] at hr2
        injection hr2 with _ hw
        rw [hw]
        exact (((Kept.refl w).drew).alloc _ _).froze ⟨g2, k, none⟩ (Array.getElem?_eq_some_iff.1 hg2).1

theorem wp_append_any {o : Oper} {A : Act} {K : Act → World → Prop} {Q : Exit → Act → World → Prop} (s x : Operand) (t : TypeId)
    (ho : o.op = .call { callee := .builtin .append, args := #[s, x], argTypes := #[t, t] })
    (base : Nat) (e : TypeId) (i : TypeInfo) (z : Value) (size bytes : Nat) (ht : P.underlying t = some (.slice e)) (hi : P.info? e = some i) (hz : i.zero = some z)
    (hsize : i.size = size) (hby : i.bytes = bytes) (hzs : z.cells.size = size) (hsz : 0 < size)
    (v : Value) (n : Nat) (xs : List Value) (hs : A.eval s = v) (hown : w.ownsRow base e size v n xs)
    (y : Value) (m : Nat) (news : List Value) (hy : A.eval x = y) (hl : news.length = m * size) (hx : Lies w y m news) (h1 : ∀ u ∈ news, u.oneCell' = true)
    (h63 : n + m ≤ maxLen) (hbytes : (n + m) * bytes ≤ 140737488355328) (hbase : base ≤ w.heap.size)
    (h : ∀ a c w', w'.ownsRow base e size (.slice a (n + m) c) (n + m) (xs ++ news) → But (fun k => v.ownBlock = some k) w w' →
      ((Value.slice a (n + m) c).ownBlock = v.ownBlock ∨ (Value.slice a (n + m) c).ownBlock = some w.heap.size) → K (A.put o.dst (.slice a (n + m) c)) w') : o.wp P A w K Q := by
  obtain ⟨a, c, w', hr, h2, h3, h4⟩ := append_any (P := P) w base t o.type e i z size bytes ht hi hz hsize hby hzs hsz v n xs hown y m news hl hx h1 h63 hbytes hbase
  unfold Oper.wp execOp
  simp only [ho, resolve, invoke, builtin, Sem.run_bind, Sem.run_pure, Result.andThen_ok, List.map_toArray, List.map_cons, List.map_nil, hs, hy, hr]
  exact h a c w' h2 h3 h4

theorem wpList_append_any {ops : Array Oper} {rest : List Oper} {o : Oper} {A : Act} {Q : Exit → Act → World → Prop} (hgd : o.guard = none) (s x : Operand) (t : TypeId)
    (ho : o.op = .call { callee := .builtin .append, args := #[s, x], argTypes := #[t, t] })
    (base : Nat) (e : TypeId) (i : TypeInfo) (z : Value) (size bytes : Nat) (ht : P.underlying t = some (.slice e)) (hi : P.info? e = some i) (hz : i.zero = some z)
    (hsize : i.size = size) (hby : i.bytes = bytes) (hzs : z.cells.size = size) (hsz : 0 < size)
    (v : Value) (n : Nat) (xs : List Value) (hs : A.eval s = v) (hown : w.ownsRow base e size v n xs)
    (y : Value) (m : Nat) (news : List Value) (hy : A.eval x = y) (hl : news.length = m * size) (hx : Lies w y m news) (h1 : ∀ u ∈ news, u.oneCell' = true)
    (h63 : n + m ≤ maxLen) (hbytes : (n + m) * bytes ≤ 140737488355328) (hbase : base ≤ w.heap.size)
    (h : ∀ a c w', w'.ownsRow base e size (.slice a (n + m) c) (n + m) (xs ++ news) → But (fun k => v.ownBlock = some k) w w' →
      ((Value.slice a (n + m) c).ownBlock = v.ownBlock ∨ (Value.slice a (n + m) c).ownBlock = some w.heap.size) → wpList P ops Q rest (A.put o.dst (.slice a (n + m) c)) w') : wpList P ops Q (o :: rest) A w :=
  wpList_plain hgd fun _ hK => wp_append_any w s x t ho base e i z size bytes ht hi hz hsize hby hzs hsz v n xs hs hown y m news hy hl hx h1 h63 hbytes hbase fun a c w' h2 h3 h4 => hK _ _ (h a c w' h2 h3 h4)

theorem step_append_any {ops : Array Oper} {o : Oper} {A : Act} {K : Act → World → Prop} {Q : Exit → Act → World → Prop} {E : Prop} (hgd : o.guard = none) (s x : Operand) (t : TypeId)
    (ho : o.op = .call { callee := .builtin .append, args := #[s, x], argTypes := #[t, t] })
    (base : Nat) (e : TypeId) (i : TypeInfo) (z : Value) (size bytes : Nat) (ht : P.underlying t = some (.slice e)) (hi : P.info? e = some i) (hz : i.zero = some z)
    (hsize : i.size = size) (hby : i.bytes = bytes) (hzs : z.cells.size = size) (hsz : 0 < size)
    (v : Value) (n : Nat) (xs : List Value) (hs : A.eval s = v) (hown : w.ownsRow base e size v n xs)
    (y : Value) (m : Nat) (news : List Value) (hy : A.eval x = y) (hl : news.length = m * size) (hx : Lies w y m news) (h1 : ∀ u ∈ news, u.oneCell' = true)
    (h63 : n + m ≤ maxLen) (hbytes : (n + m) * bytes ≤ 140737488355328) (hbase : base ≤ w.heap.size)
    (h : ∀ a c w', w'.ownsRow base e size (.slice a (n + m) c) (n + m) (xs ++ news) → But (fun k => v.ownBlock = some k) w w' →
      ((Value.slice a (n + m) c).ownBlock = v.ownBlock ∨ (Value.slice a (n + m) c).ownBlock = some w.heap.size) → K (A.put o.dst (.slice a (n + m) c)) w') :
    if Region.wanted o (yielded ops A.tmps) = true then Oper.wp P o A w K Q else E := by
  have hw : Region.wanted o (yielded ops A.tmps) = true := by simp [Region.wanted, hgd]
  rw [if_pos hw]
  exact wp_append_any w s x t ho base e i z size bytes ht hi hz hsize hby hzs hsz v n xs hs hown y m news hy hl hx h1 h63 hbytes hbase h
end
end Go.Proofs.Ytbechdgcepiecaa

namespace Go.Proofs.Ytbechdgcepiecaa.Tw
set_option maxRecDepth 20000
open Go.RowKit Go.Shelf
open Wo (St acc wordAt PMem RefIs)
open Sk (Stk Arn idx Wd pmem_kept p_words Blk g_top)

def Wds (w : World) (v : Value) (n : Nat) (f : Nat → Int) : Prop :=
  (n = 0 ∧ v = .slice none 0 0) ∨ ∃ g c, v = .slice (some ⟨g, 0, none⟩) n c ∧ g < w.heap.size ∧ ∀ i, i < n → w.cell? ⟨g, i, none⟩ = some (.int .u64 (f i))
theorem Wds.but {w w' : World} {v : Value} {n : Nat} {f : Nat → Int} (h : Wds w v n f) {T : Nat → Prop} (k : But T w w') (hT : ∀ g, v.ownBlock = some g → ¬ T g) : Wds w' v n f := by
  rcases h with h | ⟨g, c, rfl, h2, h3⟩
  · exact .inl h
  · exact .inr ⟨g, c, rfl, Nat.lt_of_lt_of_le h2 k.size, fun i hi => k.some (h3 i hi) (hT g rfl)⟩
theorem Wds.form {w : World} {v : Value} {n : Nat} {f : Nat → Int} (h : Wds w v n f) : ∃ a c, v = .slice a n c := by
  rcases h with ⟨rfl, rfl⟩ | ⟨g, c, rfl, _⟩
  · exact ⟨none, 0, rfl⟩
  · exact ⟨_, c, rfl⟩
theorem Wds.kept {w w' : World} {v : Value} {n : Nat} {f : Nat → Int} (h : Wds w v n f) (k : Kept w w') : Wds w' v n f := h.but (k.but (fun _ => False)) (fun _ _ => id)
def GivesWords (mv : Value) (n : Nat) (f : Nat → Int) (w : World) : Prop :=
  ∀ W, Kept w W → Calls Try.prog 73 #[mv] W fun e w' => ∃ v, e = .returned v ∧ Wds w' v n f ∧ (∀ g, v.ownBlock = some g → W.heap.size ≤ g) ∧ Kept W w'
theorem gives_words {w : World} {M B n : Nat} {s : St} (hm : PMem w M B n s) : GivesWords (.pointer (some ⟨M, 0, none⟩)) n s.ws w := fun W k =>
  (p_words M B n s W (pmem_kept hm k)).mono fun _ _ ⟨b, c, e, h1, h2, h3, _, k2⟩ => ⟨_, e, .inr ⟨b, c, rfl, h2, h3⟩, fun g hg => by
    have : b = g := by simpa [Value.ownBlock] using hg
    omega, k2⟩
theorem GivesWords.kept {mv : Value} {n : Nat} {f : Nat → Int} {w w' : World} (h : GivesWords mv n f w) (k : Kept w w') : GivesWords mv n f w' := fun W k2 => h W (k.trans k2)
def Wf (n : Nat) (f : Nat → Int) : Prop := ∀ i, i < n → 0 ≤ f i ∧ f i < 18446744073709551616
theorem hw_in {n : Nat} {f : Nat → Int} (h : Wf n f) (x : Int) : 0 ≤ hw n f x ∧ hw n f x < 18446744073709551616 := by
  unfold hw
  split
  · exact h _ (by omega)
  · omega
abbrev viewV (t : Twr) (v : Value) : Value := .agg #[.int .i64 t.D, .int .i64 t.H, .int .i64 t.G, .int .i64 t.A.F.T, .int .i64 t.A.F.K, .int .i64 t.A.F.N, .int .i64 t.A.G, .int .i64 t.A.V, .int .i64 t.A.L, .int .i64 t.E.T, .int .i64 t.E.K, .int .i64 t.E.N, .int .i64 t.P, v]
structure VB (w : World) (b : Nat) (t : Twr) (v : Value) : Prop where
  t : TB w b t
  v : w.cell? ⟨b, 13, none⟩ = some v
theorem VB.but {w w' : World} {b : Nat} {t : Twr} {v : Value} (h : VB w b t v) {S : Nat → Prop} (k : But S w w') (hS : ¬ S b) : VB w' b t v := ⟨h.t.but k hS, k.some h.v hS⟩
theorem VB.kept {w w' : World} {b : Nat} {t : Twr} {v : Value} (h : VB w b t v) (k : Kept w w') : VB w' b t v := h.but (k.but (fun _ => False)) id
theorem VB.new (w : World) (b : Nat) (ty : TypeId) (hb : b = w.heap.size) (t : Twr) (v : Value) : VB (w.alloc (.cells #[.int .i64 t.D, .int .i64 t.H, .int .i64 t.G, .int .i64 t.A.F.T, .int .i64 t.A.F.K, .int .i64 t.A.F.N, .int .i64 t.A.G, .int .i64 t.A.V, .int .i64 t.A.L, .int .i64 t.E.T, .int .i64 t.E.K, .int .i64 t.E.N, .int .i64 t.P, v] ty)) b t v :=
  ⟨⟨cell_new _ _ _ _ 0 hb, cell_new _ _ _ _ 1 hb, cell_new _ _ _ _ 2 hb, cell_new _ _ _ _ 3 hb, cell_new _ _ _ _ 4 hb, cell_new _ _ _ _ 5 hb, cell_new _ _ _ _ 6 hb, cell_new _ _ _ _ 7 hb, cell_new _ _ _ _ 8 hb, cell_new _ _ _ _ 9 hb, cell_new _ _ _ _ 10 hb, cell_new _ _ _ _ 11 hb, cell_new _ _ _ _ 12 hb⟩, cell_new _ _ _ _ 13 hb⟩
set_option maxHeartbeats 1000000 in
theorem held_lo (t : Twr) (a : Option Addr) (n c : Nat) (x : Int) (w : World) (h : x < 0) : Calls Try.prog 89 #[viewV t (.slice a n c), .int .i64 x] w fun e w' => e = .returned (.int .u64 0) ∧ Kept w w' := by
  go_enter Try.func89, Try.ntmps89
  go_wp2
  go_ret
  exact ⟨rfl, by (go_light; repeat (first | (with_reducible exact Kept.refl _) | (with_reducible assumption) | (with_reducible refine Kept.alloc ?_ _ _) | (with_reducible refine Kept.drew ?_) | (with_reducible refine Kept.drewN ?_ _) | ((with_reducible refine Kept.setCell ?_ ?_ _); rotate_left; focus (first | (simp; done) | (simp; omega))) | refine Kept.trans ?_ (by assumption)))⟩
set_option maxHeartbeats 1000000 in
theorem held_hi (t : Twr) (a : Option Addr) (n c k : Nat) (w : World) (h : n ≤ k) (hn : n ≤ 100000) : Calls Try.prog 89 #[viewV t (.slice a n c), .int .i64 k] w fun e w' => e = .returned (.int .u64 0) ∧ Kept w w' := by
  have h2 : (n : Int) ≤ (k : Int) := by omega
  go_enter Try.func89, Try.ntmps89
  go_wp2
  go_ret
  exact ⟨rfl, by (go_light; repeat (first | (with_reducible exact Kept.refl _) | (with_reducible assumption) | (with_reducible refine Kept.alloc ?_ _ _) | (with_reducible refine Kept.drew ?_) | (with_reducible refine Kept.drewN ?_ _) | ((with_reducible refine Kept.setCell ?_ ?_ _); rotate_left; focus (first | (simp; done) | (simp; omega))) | refine Kept.trans ?_ (by assumption)))⟩
set_option maxHeartbeats 1000000 in
theorem held_in (t : Twr) (g n c k : Nat) (u : Int) (w : World) (h2 : k < n) (hn : n ≤ 100000) (hg : g < w.heap.size) (ck : w.cell? ⟨g, k, none⟩ = some (.int .u64 u)) : Calls Try.prog 89 #[viewV t (.slice (some ⟨g, 0, none⟩) n c), .int .i64 k] w fun e w' => e = .returned (.int .u64 u) ∧ Kept w w' := by
  have h3 : ¬ (n : Int) ≤ (k : Int) := by omega
  go_enter Try.func89, Try.ntmps89
  go_wp2
  go_ret
  exact ⟨rfl, by (go_light; repeat (first | (with_reducible exact Kept.refl _) | (with_reducible assumption) | (with_reducible refine Kept.alloc ?_ _ _) | (with_reducible refine Kept.drew ?_) | (with_reducible refine Kept.drewN ?_ _) | ((with_reducible refine Kept.setCell ?_ ?_ _); rotate_left; focus (first | (simp; done) | (simp; omega))) | refine Kept.trans ?_ (by assumption)))⟩
theorem held_any {w : World} {v : Value} {n : Nat} {f : Nat → Int} (t : Twr) (h : Wds w v n f) (hn : n ≤ 100000) (x : Int) : Calls Try.prog 89 #[viewV t v, .int .i64 x] w fun e w' => e = .returned (.int .u64 (hw n f x)) ∧ Kept w w' := by
  by_cases h0 : x < 0
  · have E : hw n f x = 0 := by unfold hw; rw [if_neg (by omega)]
    obtain ⟨a, c, rfl⟩ := h.form
    rw [E]; exact held_lo t a n c x w h0
  · obtain ⟨k, rfl⟩ := Int.eq_ofNat_of_zero_le (show 0 ≤ x by omega)
    by_cases h1 : n ≤ k
    · have E : hw n f k = 0 := by unfold hw; rw [if_neg (by omega)]
      obtain ⟨a, c, rfl⟩ := h.form
      rw [E]; exact held_hi t a n c k w h1 hn
    · have E : hw n f k = f k := by unfold hw; rw [if_pos (by omega), Int.toNat_natCast]
      rcases h with ⟨rfl, rfl⟩ | ⟨g, cc, rfl, hg, hc⟩
      · omega
      · rw [E]; exact held_in t g n cc k _ w (by omega) hn hg (hc k (by omega))
set_option maxHeartbeats 2000000 in
theorem vpart_any {w : World} {a : Option Addr} {c n : Nat} {f : Nat → Int} (t : Twr) (hW : Wds w (.slice a n c) n f) (hn : n ≤ 100000) (i p : Int) (hp : I64 p) : Calls Try.prog 48 #[viewV t (.slice a n c), .int .i64 i, .int .i64 p] w fun e w' => e = .returned (.int .u64 (hw n f (atI t i p))) ∧ Kept w w' := by
  have HA := fun W => Lib.hid (at_any t i p hp W)
  have HH : ∀ W, Kept w W → Hid (Calls Try.prog 89 #[viewV t (.slice a n c), .int .i64 (atI t i p)] W fun e w' => e = .returned (.int .u64 (hw n f (atI t i p))) ∧ Kept W w') := fun W k => Lib.hid (held_any t (hW.kept k) hn _)
  clear hW
  go_enter Try.func48, Try.ntmps48
  go_wp2_with fail
  obtain ⟨⟨a0, a1, a2, a3, a4, a5, a6, a7, a8, a9, a10, a11, a12⟩, a13⟩ := VB.new w w.heap.size 112 rfl t (.slice a n c)
  have K0 : Hid (Kept w (w.alloc (.cells #[.int .i64 t.D, .int .i64 t.H, .int .i64 t.G, .int .i64 t.A.F.T, .int .i64 t.A.F.K, .int .i64 t.A.F.N, .int .i64 t.A.G, .int .i64 t.A.V, .int .i64 t.A.L, .int .i64 t.E.T, .int .i64 t.E.K, .int .i64 t.E.N, .int .i64 t.P, .slice a n c] 112))) := Lib.hid ((Kept.refl w).alloc _ _)
  have KT : Kept (w.alloc (.cells #[.int .i64 t.D, .int .i64 t.H, .int .i64 t.G, .int .i64 t.A.F.T, .int .i64 t.A.F.K, .int .i64 t.A.F.N, .int .i64 t.A.G, .int .i64 t.A.V, .int .i64 t.A.L, .int .i64 t.E.T, .int .i64 t.E.K, .int .i64 t.E.N, .int .i64 t.P, .slice a n c] 112)) (w.alloc (.cells #[.int .i64 t.D, .int .i64 t.H, .int .i64 t.G, .int .i64 t.A.F.T, .int .i64 t.A.F.K, .int .i64 t.A.F.N, .int .i64 t.A.G, .int .i64 t.A.V, .int .i64 t.A.L, .int .i64 t.E.T, .int .i64 t.E.K, .int .i64 t.E.N, .int .i64 t.P, .slice a n c] 112)) := Kept.refl _
  obtain ⟨W0, hW0⟩ : ∃ W0, W0 = (w.alloc (.cells #[.int .i64 t.D, .int .i64 t.H, .int .i64 t.G, .int .i64 t.A.F.T, .int .i64 t.A.F.K, .int .i64 t.A.F.N, .int .i64 t.A.G, .int .i64 t.A.V, .int .i64 t.A.L, .int .i64 t.E.T, .int .i64 t.E.K, .int .i64 t.E.N, .int .i64 t.P, .slice a n c] 112)) := ⟨_, rfl⟩
  simp only [← hW0] at *
  clear hW0
  go_region_held3 (fun w' => w'.cell? ⟨w.heap.size, 0, none⟩ = some (.int .i64 t.D) ∧ w'.cell? ⟨w.heap.size, 1, none⟩ = some (.int .i64 t.H) ∧ w'.cell? ⟨w.heap.size, 2, none⟩ = some (.int .i64 t.G) ∧ w'.cell? ⟨w.heap.size, 3, none⟩ = some (.int .i64 t.A.F.T) ∧ w'.cell? ⟨w.heap.size, 4, none⟩ = some (.int .i64 t.A.F.K) ∧ w'.cell? ⟨w.heap.size, 5, none⟩ = some (.int .i64 t.A.F.N) ∧ w'.cell? ⟨w.heap.size, 6, none⟩ = some (.int .i64 t.A.G) ∧ w'.cell? ⟨w.heap.size, 7, none⟩ = some (.int .i64 t.A.V) ∧ w'.cell? ⟨w.heap.size, 8, none⟩ = some (.int .i64 t.A.L) ∧ w'.cell? ⟨w.heap.size, 9, none⟩ = some (.int .i64 t.E.T) ∧ w'.cell? ⟨w.heap.size, 10, none⟩ = some (.int .i64 t.E.K) ∧ w'.cell? ⟨w.heap.size, 11, none⟩ = some (.int .i64 t.E.N) ∧ w'.cell? ⟨w.heap.size, 12, none⟩ = some (.int .i64 t.P) ∧ w'.cell? ⟨w.heap.size, 13, none⟩ = some (.slice a n c)) (first | (with_reducible exact ⟨KT.some a0, KT.some a1, KT.some a2, KT.some a3, KT.some a4, KT.some a5, KT.some a6, KT.some a7, KT.some a8, KT.some a9, KT.some a10, KT.some a11, KT.some a12, KT.some a13⟩) | go_keep) (first
    | (go_at_call 8; refine (HA _).out.mono ?_; rintro e w1 ⟨rfl, k1⟩; have KT : Kept W0 w1 := Kept.trans (b := _) (by first | exact KT | exact KT.drew | exact KT.drewN _) k1)
    | (go_at_call 89; refine ((HH _ (K0.out.trans (by first | exact KT | exact KT.drew | exact KT.drewN _))).out).mono ?_; rintro e w2 ⟨rfl, k2⟩; have KT : Kept W0 w2 := Kept.trans (b := _) (by first | exact KT | exact KT.drew | exact KT.drewN _) k2))
  go_wp2
  go_ret
  exact ⟨rfl, K0.out.trans (by first | exact KT | exact KT.drew | exact KT.drewN _)⟩
set_option maxHeartbeats 2000000 in
theorem vnext_any {w : World} {a : Option Addr} {c n : Nat} {f : Nat → Int} (t : Twr) (hW : Wds w (.slice a n c) n f) (hn : n ≤ 100000) (i p : Int) (hp : I64 p) : Calls Try.prog 49 #[viewV t (.slice a n c), .int .i64 i, .int .i64 p] w fun e w' => e = .returned (.int .u64 (hw n f (nextI t i p))) ∧ Kept w w' := by
  have HA := fun W => Lib.hid (next_any t i p hp W)
  have HH : ∀ W, Kept w W → Hid (Calls Try.prog 89 #[viewV t (.slice a n c), .int .i64 (nextI t i p)] W fun e w' => e = .returned (.int .u64 (hw n f (nextI t i p))) ∧ Kept W w') := fun W k => Lib.hid (held_any t (hW.kept k) hn _)
  clear hW
  go_enter Try.func49, Try.ntmps49
  go_wp2_with fail
  obtain ⟨⟨a0, a1, a2, a3, a4, a5, a6, a7, a8, a9, a10, a11, a12⟩, a13⟩ := VB.new w w.heap.size 112 rfl t (.slice a n c)
  have K0 : Hid (Kept w (w.alloc (.cells #[.int .i64 t.D, .int .i64 t.H, .int .i64 t.G, .int .i64 t.A.F.T, .int .i64 t.A.F.K, .int .i64 t.A.F.N, .int .i64 t.A.G, .int .i64 t.A.V, .int .i64 t.A.L, .int .i64 t.E.T, .int .i64 t.E.K, .int .i64 t.E.N, .int .i64 t.P, .slice a n c] 112))) := Lib.hid ((Kept.refl w).alloc _ _)
  have KT : Kept (w.alloc (.cells #[.int .i64 t.D, .int .i64 t.H, .int .i64 t.G, .int .i64 t.A.F.T, .int .i64 t.A.F.K, .int .i64 t.A.F.N, .int .i64 t.A.G, .int .i64 t.A.V, .int .i64 t.A.L, .int .i64 t.E.T, .int .i64 t.E.K, .int .i64 t.E.N, .int .i64 t.P, .slice a n c] 112)) (w.alloc (.cells #[.int .i64 t.D, .int .i64 t.H, .int .i64 t.G, .int .i64 t.A.F.T, .int .i64 t.A.F.K, .int .i64 t.A.F.N, .int .i64 t.A.G, .int .i64 t.A.V, .int .i64 t.A.L, .int .i64 t.E.T, .int .i64 t.E.K, .int .i64 t.E.N, .int .i64 t.P, .slice a n c] 112)) := Kept.refl _
  obtain ⟨W0, hW0⟩ : ∃ W0, W0 = (w.alloc (.cells #[.int .i64 t.D, .int .i64 t.H, .int .i64 t.G, .int .i64 t.A.F.T, .int .i64 t.A.F.K, .int .i64 t.A.F.N, .int .i64 t.A.G, .int .i64 t.A.V, .int .i64 t.A.L, .int .i64 t.E.T, .int .i64 t.E.K, .int .i64 t.E.N, .int .i64 t.P, .slice a n c] 112)) := ⟨_, rfl⟩
  simp only [← hW0] at *
  clear hW0
  go_region_held3 (fun w' => w'.cell? ⟨w.heap.size, 0, none⟩ = some (.int .i64 t.D) ∧ w'.cell? ⟨w.heap.size, 1, none⟩ = some (.int .i64 t.H) ∧ w'.cell? ⟨w.heap.size, 2, none⟩ = some (.int .i64 t.G) ∧ w'.cell? ⟨w.heap.size, 3, none⟩ = some (.int .i64 t.A.F.T) ∧ w'.cell? ⟨w.heap.size, 4, none⟩ = some (.int .i64 t.A.F.K) ∧ w'.cell? ⟨w.heap.size, 5, none⟩ = some (.int .i64 t.A.F.N) ∧ w'.cell? ⟨w.heap.size, 6, none⟩ = some (.int .i64 t.A.G) ∧ w'.cell? ⟨w.heap.size, 7, none⟩ = some (.int .i64 t.A.V) ∧ w'.cell? ⟨w.heap.size, 8, none⟩ = some (.int .i64 t.A.L) ∧ w'.cell? ⟨w.heap.size, 9, none⟩ = some (.int .i64 t.E.T) ∧ w'.cell? ⟨w.heap.size, 10, none⟩ = some (.int .i64 t.E.K) ∧ w'.cell? ⟨w.heap.size, 11, none⟩ = some (.int .i64 t.E.N) ∧ w'.cell? ⟨w.heap.size, 12, none⟩ = some (.int .i64 t.P) ∧ w'.cell? ⟨w.heap.size, 13, none⟩ = some (.slice a n c)) (first | (with_reducible exact ⟨KT.some a0, KT.some a1, KT.some a2, KT.some a3, KT.some a4, KT.some a5, KT.some a6, KT.some a7, KT.some a8, KT.some a9, KT.some a10, KT.some a11, KT.some a12, KT.some a13⟩) | go_keep) (first
    | (go_at_call 10; refine (HA _).out.mono ?_; rintro e w1 ⟨rfl, k1⟩; have KT : Kept W0 w1 := Kept.trans (b := _) (by first | exact KT | exact KT.drew | exact KT.drewN _) k1)
    | (go_at_call 89; refine ((HH _ (K0.out.trans (by first | exact KT | exact KT.drew | exact KT.drewN _))).out).mono ?_; rintro e w2 ⟨rfl, k2⟩; have KT : Kept W0 w2 := Kept.trans (b := _) (by first | exact KT | exact KT.drew | exact KT.drewN _) k2))
  go_wp2
  go_ret
  exact ⟨rfl, K0.out.trans (by first | exact KT | exact KT.drew | exact KT.drewN _)⟩

def zeroT : Twr := ⟨0, 0, 0, ⟨⟨0, 0, 0⟩, 0, 0, 0⟩, ⟨0, 0, 0⟩, 0⟩
def sto (w : World) (o : Nat) : Nat → List Value → World
  | _, [] => w
  | k, v :: l => sto (w.setCell ⟨o, k, none⟩ v) o (k + 1) l
theorem sto_but (w : World) (o : Nat) : ∀ (l : List Value) (k : Nat), But (fun j => j = o) w (sto w o k l)
  | [], _ => But.refl _ _
  | v :: l, k => ((But.refl (fun j => j = o) w).here k v).trans (sto_but _ o l (k + 1)) (fun _ _ h => h)
theorem sto_cell (w : World) (o : Nat) : ∀ (l : List Value) (k j : Nat), (sto w o k l).cell? ⟨o, j, none⟩ = if k ≤ j ∧ j < k + l.length then (w.cell? ⟨o, j, none⟩).bind (fun _ => l[j - k]?) else w.cell? ⟨o, j, none⟩
  | [], k, j => by rw [if_neg (by simp)]; rfl
  | v :: l, k, j => by
    show (sto (w.setCell ⟨o, k, none⟩ v) o (k + 1) l).cell? ⟨o, j, none⟩ = _
    rw [sto_cell _ o l (k + 1) j, cell_set]
    by_cases hj : k = j
    · subst hj
      rw [if_neg (by omega), if_pos rfl, if_pos (by simp)]
      cases w.cell? ⟨o, k, none⟩ <;> simp
    · rw [if_neg hj]
      by_cases h2 : k + 1 ≤ j ∧ j < k + 1 + l.length
      · rw [if_pos h2, if_pos (by simp; omega), show j - k = (j - (k + 1)) + 1 by omega]
        simp
      · rw [if_neg h2, if_neg (by simp; omega)]
theorem put14_go {P : Program} {F : Func} {Q : Ending → World → Prop} {A : Act} {w : World} {o : Nat} {t : Twr} {v : Value} (h : VB w o zeroT (.slice none 0 0))
    (k : ∀ W9, VB W9 o t v → But (fun k => k = o) w W9 → bodyPost P F Q Exit.ret A W9) :
    bodyPost P F Q Exit.ret A (sto w o 0 [.int .i64 t.D, .int .i64 t.H, .int .i64 t.G, .int .i64 t.A.F.T, .int .i64 t.A.F.K, .int .i64 t.A.F.N, .int .i64 t.A.G, .int .i64 t.A.V, .int .i64 t.A.L, .int .i64 t.E.T, .int .i64 t.E.K, .int .i64 t.E.N, .int .i64 t.P, v]) := by
  have c : ∀ j u, (∃ z, w.cell? ⟨o, j, none⟩ = some z) → [.int .i64 t.D, .int .i64 t.H, .int .i64 t.G, .int .i64 t.A.F.T, .int .i64 t.A.F.K, .int .i64 t.A.F.N, .int .i64 t.A.G, .int .i64 t.A.V, .int .i64 t.A.L, .int .i64 t.E.T, .int .i64 t.E.K, .int .i64 t.E.N, .int .i64 t.P, v][j]? = some u → j < 14 → (sto w o 0 [.int .i64 t.D, .int .i64 t.H, .int .i64 t.G, .int .i64 t.A.F.T, .int .i64 t.A.F.K, .int .i64 t.A.F.N, .int .i64 t.A.G, .int .i64 t.A.V, .int .i64 t.A.L, .int .i64 t.E.T, .int .i64 t.E.K, .int .i64 t.E.N, .int .i64 t.P, v]).cell? ⟨o, j, none⟩ = some u := by
    intro j u ⟨z, hz⟩ hu hj
    rw [sto_cell, if_pos ⟨Nat.zero_le _, by simpa using hj⟩, hz]
    simpa using hu
  exact k _ ⟨⟨c 0 _ ⟨_, h.t.c0⟩ rfl (by decide), c 1 _ ⟨_, h.t.c1⟩ rfl (by decide), c 2 _ ⟨_, h.t.c2⟩ rfl (by decide), c 3 _ ⟨_, h.t.c3⟩ rfl (by decide), c 4 _ ⟨_, h.t.c4⟩ rfl (by decide), c 5 _ ⟨_, h.t.c5⟩ rfl (by decide), c 6 _ ⟨_, h.t.c6⟩ rfl (by decide), c 7 _ ⟨_, h.t.c7⟩ rfl (by decide), c 8 _ ⟨_, h.t.c8⟩ rfl (by decide), c 9 _ ⟨_, h.t.c9⟩ rfl (by decide), c 10 _ ⟨_, h.t.c10⟩ rfl (by decide), c 11 _ ⟨_, h.t.c11⟩ rfl (by decide), c 12 _ ⟨_, h.t.c12⟩ rfl (by decide)⟩, c 13 _ ⟨_, h.v⟩ rfl (by decide)⟩ (sto_but _ _ _ _)
set_option maxHeartbeats 4000000 in
theorem look_any (t : Twr) (mv : Value) (n : Nat) (f : Nat → Int) (w : World) (hg : GivesWords mv n f w) : Calls Try.prog 47 #[towV t, mv] w fun e w' => ∃ v, e = .returned (viewV t v) ∧ Wds w' v n f ∧ (∀ g, v.ownBlock = some g → w.heap.size ≤ g) ∧ Kept w w' := by
  have HG := Lib.hid hg
  clear hg
  go_enter Try.func47, Try.ntmps47
  go_wp2_with fail
  obtain ⟨W0, hW0⟩ : ∃ W0, W0 = ((w.alloc (.cells #[.int .i64 t.D, .int .i64 t.H, .int .i64 t.G, .int .i64 t.A.F.T, .int .i64 t.A.F.K, .int .i64 t.A.F.N, .int .i64 t.A.G, .int .i64 t.A.V, .int .i64 t.A.L, .int .i64 t.E.T, .int .i64 t.E.K, .int .i64 t.E.N, .int .i64 t.P] 31)).alloc (.cells #[.int .i64 0, .int .i64 0, .int .i64 0, .int .i64 0, .int .i64 0, .int .i64 0, .int .i64 0, .int .i64 0, .int .i64 0, .int .i64 0, .int .i64 0, .int .i64 0, .int .i64 0, .slice none 0 0] 112)) := ⟨_, rfl⟩
  have T0 : TB W0 w.heap.size t := by rw [hW0]; exact TB.kept (TB.new w _ _ rfl t) ((Kept.refl _).alloc _ _)
  have R0 : VB W0 (w.heap.size + 1) zeroT (.slice none 0 0) := by rw [hW0]; exact VB.new (w.alloc (.cells #[.int .i64 t.D, .int .i64 t.H, .int .i64 t.G, .int .i64 t.A.F.T, .int .i64 t.A.F.K, .int .i64 t.A.F.N, .int .i64 t.A.G, .int .i64 t.A.V, .int .i64 t.A.L, .int .i64 t.E.T, .int .i64 t.E.K, .int .i64 t.E.N, .int .i64 t.P] 31)) _ 112 (by simp) zeroT _
  have F0 : ∀ i, W0.frozen? ⟨w.heap.size + 1, i, none⟩ = false := by intro i; rw [hW0]; rw [show w.heap.size + 1 = (w.alloc (.cells #[.int .i64 t.D, .int .i64 t.H, .int .i64 t.G, .int .i64 t.A.F.T, .int .i64 t.A.F.K, .int .i64 t.A.F.N, .int .i64 t.A.G, .int .i64 t.A.V, .int .i64 t.A.L, .int .i64 t.E.T, .int .i64 t.E.K, .int .i64 t.E.N, .int .i64 t.P] 31)).heap.size from by simp]; simp
  have L0 : w.heap.size + 1 < W0.heap.size := by rw [hW0]; simp
  have K0 : Hid (Kept w W0) := Lib.hid (by rw [hW0]; exact ((Kept.refl w).alloc _ _).alloc _ _)
  rw [← hW0]
  clear hW0
  have TH := Lib.hid T0
  have RH := Lib.hid R0
  obtain ⟨⟨r0, r1, r2, r3, r4, r5, r6, r7, r8, r9, r10, r11, r12⟩, r13⟩ := R0
  have FH := Lib.hid F0
  obtain ⟨a0, a1, a2, a3, a4, a5, a6, a7, a8, a9, a10, a11, a12⟩ := T0
  have KT : Kept W0 W0 := Kept.refl _
  go_region_law (first | (go_simp; go_at_call 73; refine (HG.out _ (K0.out.trans (by first | exact KT | exact KT.drew | exact KT.drewN _))).mono ?_; rintro e w1 ⟨v, rfl, wv, fv, k1⟩; have KT : Kept W0 w1 := Kept.trans (b := _) (by first | exact KT | exact KT.drew | exact KT.drewN _) k1; obtain ⟨a0, a1, a2, a3, a4, a5, a6, a7, a8, a9, a10, a11, a12⟩ := TB.kept TH.out KT; obtain ⟨⟨r0, r1, r2, r3, r4, r5, r6, r7, r8, r9, r10, r11, r12⟩, r13⟩ := VB.kept RH.out KT; have F0 : (∀ i, w1.frozen? ⟨w.heap.size + 1, i, none⟩ = false) := (fun i => KT.soft L0 (FH.out i)); obtain ⟨av, cv, rfl⟩ := wv.form))
  all_goals
    go_wp2
    refine put14_go (t := t) (v := .slice av n cv) (VB.kept RH.out KT) ?_
    rintro W9 ⟨⟨e0, e1, e2, e3, e4, e5, e6, e7, e8, e9, e10, e11, e12⟩, e13⟩ b9
    refine bodyPost_ret (v := viewV t (.slice av n cv)) (by simp [results, Try.results47, go_sem, e0, e1, e2, e3, e4, e5, e6, e7, e8, e9, e10, e11, e12, e13]) rfl ⟨_, rfl, ?_, fun g hg => ?_, ?_⟩
    · refine wv.but b9 (fun g hg e => ?_)
      have e : g = w.heap.size + 1 := e
      have h1 : W0.heap.size ≤ g := fv g hg
      omega
    · have h1 : W0.heap.size ≤ g := fv g hg
      have := K0.out.size
      omega
    · exact (((K0.out.trans KT).but (fun k => k = w.heap.size + 1)).trans b9 (fun _ _ h => h)).kept (fun i hi e => by have e : i = w.heap.size + 1 := e; omega)
end Go.Proofs.Ytbechdgcepiecaa.Tw
