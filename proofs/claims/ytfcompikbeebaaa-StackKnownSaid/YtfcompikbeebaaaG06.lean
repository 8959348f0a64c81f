/- Rows of cells: slices of the call's own ('ownsRow'), lists of ints and of deeds as cells, and 'append' of whatever, empty or nil, onto a slice of the call's own. -/
import Derived.Test.YtfcompikbeebaaaG00
import Derived.WalkKit
import Derived.WalkLawsBesides
import Derived.Maps.AppendAt
import Derived.Deep.AppendLies
import Derived.RegionTactic
import Derived.OwnWalk
import Derived.Test.YtfcompikbeebaaaG05
import Derived.Lib.Hide
import Derived.Deep.Light
import Derived.Deep.RegionHeld3
import Derived.Laws.EntriesVeiled
set_option linter.unusedVariables false
set_option linter.unusedSimpArgs false

namespace Go.Proofs.Ytfcompikbeebaaa
open Go.RowKit

def ints (l : List Int) : List Value := l.map (Value.int .i64)
def flat (l : List (Int × Int × Int)) : List Value := l.flatMap fun d => [.int .i64 d.1, .int .i64 d.2.1, .int .i64 d.2.2]
theorem ints_length (l : List Int) : (ints l).length = l.length * 1 := by simp [ints]
theorem ints_get (l : List Int) (i : Nat) (x : Int) (h : l[i]? = some x) : (ints l)[i]? = some (.int .i64 x) := by simp [ints, h]
theorem ints_append (l m : List Int) : ints (l ++ m) = ints l ++ ints m := by simp [ints]
theorem flat_append (l m : List (Int × Int × Int)) : flat (l ++ m) = flat l ++ flat m := by simp [flat]
theorem flat_cons (d : Int × Int × Int) (l : List (Int × Int × Int)) : flat (d :: l) = .int .i64 d.1 :: .int .i64 d.2.1 :: .int .i64 d.2.2 :: flat l := by simp [flat]
theorem flat_length (l : List (Int × Int × Int)) : (flat l).length = l.length * 3 := by
  induction l with
  | nil => rfl
  | cons d l ih => rw [flat_cons]; simp [ih]; omega
theorem flat_get (l : List (Int × Int × Int)) : ∀ (i : Nat) (d : Int × Int × Int), l[i]? = some d → (flat l)[i * 3]? = some (.int .i64 d.1) ∧ (flat l)[i * 3 + 1]? = some (.int .i64 d.2.1) ∧ (flat l)[i * 3 + 2]? = some (.int .i64 d.2.2) := by
  induction l with
  | nil => intro i d h; simp at h
  | cons c l ih =>
    intro i d h
    rw [flat_cons]
    cases i with
    | zero => simp at h; subst h; simp
    | succ i =>
      have h' : l[i]? = some d := by simpa using h
      obtain ⟨h1, h2, h3⟩ := ih i d h'
      have e1 : (i + 1) * 3 = i * 3 + 1 + 1 + 1 := by omega
      refine ⟨?_, ?_, ?_⟩
      · rw [e1]; simpa using h1
      · rw [show (i + 1) * 3 + 1 = (i * 3 + 1) + 1 + 1 + 1 by omega]; simpa using h2
      · rw [show (i + 1) * 3 + 2 = (i * 3 + 2) + 1 + 1 + 1 by omega]; simpa using h3
theorem flat_take (l : List (Int × Int × Int)) : ∀ k, (flat l).take (k * 3) = flat (l.take k) := by
  induction l with
  | nil => intro k; simp [flat]
  | cons c l ih =>
    intro k
    cases k with
    | zero => simp [flat]
    | succ k =>
      rw [show (k + 1) * 3 = k * 3 + 1 + 1 + 1 by omega, flat_cons, List.take_succ_cons, List.take_succ_cons, List.take_succ_cons, List.take_succ_cons, flat_cons, ih]
theorem flat_one (l : List (Int × Int × Int)) : ∀ u ∈ flat l, u.oneCell' = true := by
  induction l with
  | nil => intro u h; cases h
  | cons c l ih =>
    intro u h
    rw [flat_cons] at h
    simp only [List.mem_cons] at h
    rcases h with rfl | rfl | rfl | h
    · rfl
    · rfl
    · rfl
    · exact ih u h
theorem ints_one (l : List Int) : ∀ u ∈ ints l, u.oneCell' = true := by
  intro u h
  obtain ⟨x, _, rfl⟩ := List.mem_map.1 h
  rfl

def Lies (w : World) (v : Value) (n : Nat) (xs : List Value) : Prop :=
  (v = .slice none 0 0 ∧ n = 0 ∧ xs = []) ∨ ∃ g o c, v = .slice (some ⟨g, o, none⟩) n c ∧ n ≤ c ∧ c ≤ maxLen ∧ ∀ j u, xs[j]? = some u → w.cell? ⟨g, o + j, none⟩ = some u

theorem Lies.form {w : World} {v : Value} {n : Nat} {xs : List Value} (h : Lies w v n xs) : ∃ a c, v = .slice a n c ∧ n ≤ c ∧ c ≤ maxLen := by
  rcases h with ⟨rfl, rfl, _⟩ | ⟨g, o, c, rfl, h1, h2, _⟩
  · exact ⟨_, _, rfl, Nat.le_refl _, Nat.zero_le _⟩
  · exact ⟨_, _, rfl, h1, h2⟩
theorem add_none (b o j : Nat) : (Addr.add ⟨b, o, none⟩ j) = ⟨b, o + j, none⟩ := by
  unfold Addr.add
  split <;> simp_all
theorem Lies.kept {w w' : World} {v : Value} {n : Nat} {xs : List Value} (h : Lies w v n xs) (k : Kept w w') : Lies w' v n xs := by
  rcases h with h | ⟨g, o, c, h1, h2, h3, h4⟩
  · exact .inl h
  · exact .inr ⟨g, o, c, h1, h2, h3, fun j u hu => k.some (h4 j u hu)⟩
theorem Lies.but {S : Nat → Prop} {w w' : World} {v : Value} {n : Nat} {xs : List Value} (h : Lies w v n xs) (k : But S w w') (hS : ∀ g, v.ownBlock = some g → ¬ S g) : Lies w' v n xs := by
  rcases h with h | ⟨g, o, c, rfl, h2, h3, h4⟩
  · exact .inl h
  · exact .inr ⟨g, o, c, rfl, h2, h3, fun j u hu => k.some (h4 j u hu) (hS g rfl)⟩

section
variable {w : World} {base : Nat} {e : TypeId} {size : Nat} {v : Value} {n : Nat} {xs : List Value}
theorem own_form (h : w.ownsRow base e size v n xs) : ∃ a c, v = .slice a n c := by
  rcases h.2 with ⟨rfl, rfl⟩ | ⟨g, cap, cur, rfl, _⟩
  · exact ⟨_, _, rfl⟩
  · exact ⟨_, _, rfl⟩
theorem own_lies (h : w.ownsRow base e size v n xs) : Lies w v n xs := by
  rcases h.2 with ⟨rfl, rfl⟩ | ⟨g, cap, cur, rfl, hb, hg, h1, h2, h3, h4⟩
  · have : xs = [] := List.eq_nil_of_length_eq_zero (by simpa using h.1)
    exact .inl ⟨rfl, rfl, this⟩
  · refine .inr ⟨g, 0, cap, rfl, h1, h2, fun j u hu => ?_⟩
    rw [Nat.zero_add, cell_of_row w g j cur e _ hg]
    rw [← h4] at hu
    have hj : j < n * size := by
      have := (List.getElem?_eq_some_iff.1 hu).1
      rw [List.length_take] at this
      omega
    rw [List.getElem?_take_of_lt hj] at hu
    simpa using hu
theorem own_soft (h : w.ownsRow base e size v n xs) (g : Nat) (hg : v.ownBlock = some g) (i : Nat) : w.frozen? ⟨g, i, none⟩ = false := by
  rcases h.2 with ⟨rfl, _⟩ | ⟨g', cap, cur, rfl, _, hh, _⟩
  · cases hg
  · have e' : g' = g := by simpa [Value.ownBlock] using hg
    subst e'
    exact frozen_of_row w g' i cur e hh
theorem own_same {w' : World} (h : w.ownsRow base e size v n xs) (hs : ∀ g, v.ownBlock = some g → w'.heap[g]? = w.heap[g]?) : w'.ownsRow base e size v n xs := by
  refine ⟨h.1, ?_⟩
  rcases h.2 with hn | ⟨g, cap, cur, rfl, hb, hg, rest⟩
  · exact .inl hn
  · exact .inr ⟨g, cap, cur, rfl, hb, (hs g rfl).trans hg, rest⟩
theorem own_mono {base' : Nat} (h : w.ownsRow base e size v n xs) (hb : base' ≤ base) : w.ownsRow base' e size v n xs := by
  refine ⟨h.1, ?_⟩
  rcases h.2 with hn | ⟨g, cap, cur, rfl, hb', rest⟩
  · exact .inl hn
  · exact .inr ⟨g, cap, cur, rfl, Nat.le_trans hb hb', rest⟩
end

theorem but_of_grown {w w' : World} {row : Option Nat} (h : w.grownBy w' row) (hf : ∀ g, row = some g → g < w.heap.size → ∀ i, w'.frozen? ⟨g, i, none⟩ = w.frozen? ⟨g, i, none⟩) : But (fun k => row = some k) w w' :=
  ⟨h.os, h.tape, h.output, h.size, fun k hk hS => h.block k hk (fun e => hS e.symm), fun a ha => by
    by_cases e : row = some a.block
    · obtain ⟨b, i, s⟩ := a
      cases s with
      | none => exact hf b e ha i
      | some s =>
        have := hf b e ha i
        simpa [World.frozen?] using this
    · exact World.frozen?_of_block (h.block a.block ha (fun h => e h.symm))⟩

section
variable {P : Program} (w : World)
theorem append_any (base : Nat) (t ty e : TypeId) (i : TypeInfo) (z : Value) (size bytes : Nat) (ht : P.underlying t = some (.slice e)) (hi : P.info? e = some i) (hz : i.zero = some z)
    (hsize : i.size = size) (hby : i.bytes = bytes) (hzs : z.cells.size = size) (hsz : 0 < size)
    (v : Value) (n : Nat) (xs : List Value) (hown : w.ownsRow base e size v n xs)
    (x : Value) (m : Nat) (news : List Value) (hl : news.length = m * size) (hx : Lies w x m news) (h1 : ∀ u ∈ news, u.oneCell' = true)
    (h63 : n + m ≤ maxLen) (hbytes : (n + m) * bytes ≤ 140737488355328) (hbase : base ≤ w.heap.size) :
    ∃ a c w', (Builtin.append_ #[t, t] ty #[v, x]).run P w = .ok (.slice a (n + m) c) w' ∧ w'.ownsRow base e size (.slice a (n + m) c) (n + m) (xs ++ news) ∧ But (fun k => v.ownBlock = some k) w w' ∧
      ((Value.slice a (n + m) c).ownBlock = v.ownBlock ∨ (Value.slice a (n + m) c).ownBlock = some w.heap.size) := by
  rcases hx with ⟨rfl, rfl, rfl⟩ | ⟨g, o, c, rfl, _, _, hc⟩
  · obtain ⟨a, c, rfl⟩ := own_form hown
    refine ⟨a, c, w, ?_, by simpa using hown, But.refl _ _, Or.inl rfl⟩
    rcases hown.2 with ⟨hv, rfl⟩ | ⟨g', cap, cur, hv, _, _, hnc, _⟩
    · cases hv
      simp [Builtin.append_, run_underlying ht, sizeOf, typeInfo, hi, Builtin.lenOf, Builtin.firstCells]
    · cases hv
      simp [Builtin.append_, run_underlying ht, sizeOf, typeInfo, hi, Builtin.lenOf, Builtin.firstCells, hnc, storeCells]
  · obtain ⟨v', w', hr, h2, h3, _, h5⟩ := run_append_own_at (P := P) w base t ty e i z size bytes ht hi hz hsize hby hzs hsz v n xs hown ⟨g, o, none⟩ m c news hl (fun j u hu => by rw [add_none]; exact hc j u hu) h1 h63 hbytes hbase
    obtain ⟨a, c', rfl⟩ := own_form h2
    refine ⟨a, c', w', hr, h2, but_of_grown h3 fun g' hg' _ k => ?_, h5⟩
    have hnews : ∀ j u, news[j]? = some u → w.cell? ((⟨g, o, none⟩ : Addr).add j) = some u := fun j u hu => by rw [add_none]; exact hc j u hu
    subst hsize
    subst hby
    rcases hown.2 with ⟨rfl, _⟩ | ⟨g2, cap, cur, rfl, _, hg2, hnc, hcm, hcs, htake⟩
    · cases hg'
    · have e' : g2 = g' := by simpa [Value.ownBlock] using hg'
      subst e'
      by_cases hroom : n + m ≤ cap
      · have hr2 := run_append_room (P := P) w t ty e i ht hi g2 n cap cur hg2 ⟨g, o, none⟩ m c news hl hnews h1 hroom (by rw [hl, hcs, ← Nat.add_mul]; exact Nat.mul_le_mul_right _ hroom)
        rw [hr] at hr2
        injection hr2 with _ hw
        rw [hw, frozen_of_row _ g2 k _ e (setRow_heap w g2 cur _ e _ hg2), frozen_of_row _ g2 k _ e hg2]
      · have hr2 := run_append_grow (P := P) w t ty e i z ht hi hz ⟨g2, 0, none⟩ n cap xs hown.1 (hown.cells (g := g2) rfl) ⟨g, o, none⟩ m c news hl hnews (by omega) (by unfold maxLen at h63; omega) (growslice_fits (by omega) hbytes)
        rw [hr] at hr2
        injection hr2 with _ hw
        rw [hw]
        exact (((Kept.refl w).drew).alloc _ _).froze ⟨g2, k, none⟩ (Array.getElem?_eq_some_iff.1 hg2).1

theorem wp_append_any {o : Oper} {A : Act} {K : Act → World → Prop} {Q : Exit → Act → World → Prop} (s x : Operand) (t : TypeId)
    (ho : o.op = .call { callee := .builtin .append, args := #[s, x], argTypes := #[t, t] })
    (base : Nat) (e : TypeId) (i : TypeInfo) (z : Value) (size bytes : Nat) (ht : P.underlying t = some (.slice e)) (hi : P.info? e = some i) (hz : i.zero = some z)
    (hsize : i.size = size) (hby : i.bytes = bytes) (hzs : z.cells.size = size) (hsz : 0 < size)
    (v : Value) (n : Nat) (xs : List Value) (hs : A.eval s = v) (hown : w.ownsRow base e size v n xs)
    (y : Value) (m : Nat) (news : List Value) (hy : A.eval x = y) (hl : news.length = m * size) (hx : Lies w y m news) (h1 : ∀ u ∈ news, u.oneCell' = true)
    (h63 : n + m ≤ maxLen) (hbytes : (n + m) * bytes ≤ 140737488355328) (hbase : base ≤ w.heap.size)
    (h : ∀ a c w', w'.ownsRow base e size (.slice a (n + m) c) (n + m) (xs ++ news) → But (fun k => v.ownBlock = some k) w w' →
      ((Value.slice a (n + m) c).ownBlock = v.ownBlock ∨ (Value.slice a (n + m) c).ownBlock = some w.heap.size) → K (A.put o.dst (.slice a (n + m) c)) w') : o.wp P A w K Q := by
  obtain ⟨a, c, w', hr, h2, h3, h4⟩ := append_any (P := P) w base t o.type e i z size bytes ht hi hz hsize hby hzs hsz v n xs hown y m news hl hx h1 h63 hbytes hbase
  unfold Oper.wp execOp
  simp only [ho, resolve, invoke, builtin, Sem.run_bind, Sem.run_pure, Result.andThen_ok, List.map_toArray, List.map_cons, List.map_nil, hs, hy, hr]
  exact h a c w' h2 h3 h4

theorem wpList_append_any {ops : Array Oper} {rest : List Oper} {o : Oper} {A : Act} {Q : Exit → Act → World → Prop} (hgd : o.guard = none) (s x : Operand) (t : TypeId)
    (ho : o.op = .call { callee := .builtin .append, args := #[s, x], argTypes := #[t, t] })
    (base : Nat) (e : TypeId) (i : TypeInfo) (z : Value) (size bytes : Nat) (ht : P.underlying t = some (.slice e)) (hi : P.info? e = some i) (hz : i.zero = some z)
    (hsize : i.size = size) (hby : i.bytes = bytes) (hzs : z.cells.size = size) (hsz : 0 < size)
    (v : Value) (n : Nat) (xs : List Value) (hs : A.eval s = v) (hown : w.ownsRow base e size v n xs)
    (y : Value) (m : Nat) (news : List Value) (hy : A.eval x = y) (hl : news.length = m * size) (hx : Lies w y m news) (h1 : ∀ u ∈ news, u.oneCell' = true)
    (h63 : n + m ≤ maxLen) (hbytes : (n + m) * bytes ≤ 140737488355328) (hbase : base ≤ w.heap.size)
    (h : ∀ a c w', w'.ownsRow base e size (.slice a (n + m) c) (n + m) (xs ++ news) → But (fun k => v.ownBlock = some k) w w' →
      ((Value.slice a (n + m) c).ownBlock = v.ownBlock ∨ (Value.slice a (n + m) c).ownBlock = some w.heap.size) → wpList P ops Q rest (A.put o.dst (.slice a (n + m) c)) w') : wpList P ops Q (o :: rest) A w :=
  wpList_plain hgd fun _ hK => wp_append_any w s x t ho base e i z size bytes ht hi hz hsize hby hzs hsz v n xs hs hown y m news hy hl hx h1 h63 hbytes hbase fun a c w' h2 h3 h4 => hK _ _ (h a c w' h2 h3 h4)

theorem step_append_any {ops : Array Oper} {o : Oper} {A : Act} {K : Act → World → Prop} {Q : Exit → Act → World → Prop} {E : Prop} (hgd : o.guard = none) (s x : Operand) (t : TypeId)
    (ho : o.op = .call { callee := .builtin .append, args := #[s, x], argTypes := #[t, t] })
    (base : Nat) (e : TypeId) (i : TypeInfo) (z : Value) (size bytes : Nat) (ht : P.underlying t = some (.slice e)) (hi : P.info? e = some i) (hz : i.zero = some z)
    (hsize : i.size = size) (hby : i.bytes = bytes) (hzs : z.cells.size = size) (hsz : 0 < size)
    (v : Value) (n : Nat) (xs : List Value) (hs : A.eval s = v) (hown : w.ownsRow base e size v n xs)
    (y : Value) (m : Nat) (news : List Value) (hy : A.eval x = y) (hl : news.length = m * size) (hx : Lies w y m news) (h1 : ∀ u ∈ news, u.oneCell' = true)
    (h63 : n + m ≤ maxLen) (hbytes : (n + m) * bytes ≤ 140737488355328) (hbase : base ≤ w.heap.size)
    (h : ∀ a c w', w'.ownsRow base e size (.slice a (n + m) c) (n + m) (xs ++ news) → But (fun k => v.ownBlock = some k) w w' →
      ((Value.slice a (n + m) c).ownBlock = v.ownBlock ∨ (Value.slice a (n + m) c).ownBlock = some w.heap.size) → K (A.put o.dst (.slice a (n + m) c)) w') :
    if Region.wanted o (yielded ops A.tmps) = true then Oper.wp P o A w K Q else E := by
  have hw : Region.wanted o (yielded ops A.tmps) = true := by simp [Region.wanted, hgd]
  rw [if_pos hw]
  exact wp_append_any w s x t ho base e i z size bytes ht hi hz hsize hby hzs hsz v n xs hs hown y m news hy hl hx h1 h63 hbytes hbase h
end
end Go.Proofs.Ytfcompikbeebaaa

namespace Go.Proofs.Ytfcompikbeebaaa.Sk
set_option maxRecDepth 20000
open Go.RowKit Go.Shelf
open Wo (St acc wordAt PMem RefIs)
attribute [local go_sem] Oper.semAt_some

def Wds (w : World) (v : Value) (n : Nat) (f : Nat → Int) : Prop :=
  (n = 0 ∧ v = .slice none 0 0) ∨ ∃ g c, v = .slice (some ⟨g, 0, none⟩) n c ∧ g < w.heap.size ∧ ∀ i, i < n → w.cell? ⟨g, i, none⟩ = some (.int .u64 (f i))
theorem Wds.kept {w w' : World} {v : Value} {n : Nat} {f : Nat → Int} (h : Wds w v n f) (k : Kept w w') : Wds w' v n f := by
  rcases h with h | ⟨g, c, h1, h2, h3⟩
  · exact .inl h
  · exact .inr ⟨g, c, h1, Nat.lt_of_lt_of_le h2 k.size, fun i hi => k.some (h3 i hi)⟩

def atV (n : Nat) (f : Nat → Int) (N x : Int) : Int := if 0 ≤ x ∧ x < n then idx N (f x.toNat) else -1
theorem atV_lo (n : Nat) (f : Nat → Int) (N x : Int) : -1 ≤ atV n f N x := by
  unfold atV; split
  · exact idx_lo _ _
  · omega
theorem atV_le (n : Nat) (f : Nat → Int) (N x : Int) : atV n f N x ≤ 65534 := by
  unfold atV; split
  · exact idx_le _ _
  · omega

structure Boxes (w : World) (a b c : Nat) (S : Stk) (v : Value) (n : Nat) (f : Nat → Int) : Prop where
  a0 : w.cell? ⟨a, 0, none⟩ = some (.int .i64 S.T)
  a1 : w.cell? ⟨a, 1, none⟩ = some (.int .i64 S.K)
  a2 : w.cell? ⟨a, 2, none⟩ = some (.int .i64 S.N)
  b0 : w.cell? ⟨b, 0, none⟩ = some v
  c0 : w.cell? ⟨c, 0, none⟩ = some (.func (.func 67) #[] #[.pointer (some ⟨b, 0, none⟩), .pointer (some ⟨a, 0, none⟩)])
  ws : Wds w v n f
theorem Boxes.kept {w w' : World} {a b c : Nat} {S : Stk} {v : Value} {n : Nat} {f : Nat → Int} (h : Boxes w a b c S v n f) (k : Kept w w') : Boxes w' a b c S v n f :=
  ⟨k.some h.a0, k.some h.a1, k.some h.a2, k.some h.b0, k.some h.c0, h.ws.kept k⟩
theorem Boxes.but {w w' : World} {a b c : Nat} {S : Stk} {v : Value} {n : Nat} {f : Nat → Int} (h : Boxes w a b c S v n f) {T : Nat → Prop} (k : But T w w') (ha : ¬ T a) (hb : ¬ T b) (hc : ¬ T c) (hg : ∀ g, v.ownBlock = some g → ¬ T g) : Boxes w' a b c S v n f := by
  refine ⟨k.some h.a0 ha, k.some h.a1 ha, k.some h.a2 ha, k.some h.b0 hb, k.some h.c0 hc, ?_⟩
  rcases h.ws with h | ⟨g, c, rfl, h2, h3⟩
  · exact .inl h
  · exact .inr ⟨g, c, rfl, Nat.lt_of_lt_of_le h2 k.size, fun i hi => k.some (h3 i hi) (hg g rfl)⟩

theorem Boxes.blk {w w' : World} {a b c : Nat} {S : Stk} {v : Value} {n : Nat} {f : Nat → Int} (h : Boxes w a b c S v n f) {T : Nat → Prop} (k : Blk T w w') (ha : ¬ T a) (hb : ¬ T b) (hc : ¬ T c) (hg : ∀ g, v.ownBlock = some g → ¬ T g) : Boxes w' a b c S v n f := by
  have cell : ∀ {b o : Nat} {u : Value}, w.cell? ⟨b, o, none⟩ = some u → ¬ T b → w'.cell? ⟨b, o, none⟩ = some u := fun {b o u} hc hT => (World.cell?_of_block (k.block b (lt_of_cell hc) hT)).trans hc
  refine ⟨cell h.a0 ha, cell h.a1 ha, cell h.a2 ha, cell h.b0 hb, cell h.c0 hc, ?_⟩
  rcases h.ws with h | ⟨g, c, rfl, h2, h3⟩
  · exact .inl h
  · exact .inr ⟨g, c, rfl, Nat.lt_of_lt_of_le h2 k.size, fun i hi => cell (h3 i hi) (hg g rfl)⟩

def Wf (n : Nat) (f : Nat → Int) : Prop := ∀ i, i < n → 0 ≤ f i ∧ f i < 18446744073709551616

set_option maxHeartbeats 1000000 in
theorem at_any {w : World} {a b c : Nat} {S : Stk} {v : Value} {n : Nat} {f : Nat → Int} (h : Boxes w a b c S v n f) (hf : Wf n f) (x : Int) :
    Calls Try.prog 67 #[.int .i64 x, .pointer (some ⟨b, 0, none⟩), .pointer (some ⟨a, 0, none⟩)] w fun e w' => e = .returned (.int .i64 (atV n f S.N x)) ∧ Kept w w' := by
  obtain ⟨a0, a1, a2, b0, c0, ws⟩ := h
  by_cases h0 : x < 0
  · have E : Hid (atV n f S.N x = -1) := Lib.hid (by unfold atV; rw [if_neg (by omega)])
    rcases ws with ⟨rfl, rfl⟩ | ⟨g, cc, rfl, hg, hc⟩
    · go_enter Try.func67, Try.ntmps67
      go_wp2
      go_ret
      exact ⟨by rw [E.out]; rfl, by (go_light; repeat (first | (with_reducible exact Kept.refl _) | (with_reducible assumption) | (with_reducible refine Kept.alloc ?_ _ _) | (with_reducible refine Kept.drew ?_) | (with_reducible refine Kept.drewN ?_ _) | ((with_reducible refine Kept.setCell ?_ ?_ _); rotate_left; focus (first | (simp; done) | (simp; omega))) | refine Kept.trans ?_ (by assumption)))⟩
    · clear hc
      go_enter Try.func67, Try.ntmps67
      go_wp2
      go_ret
      exact ⟨by rw [E.out]; rfl, by (go_light; repeat (first | (with_reducible exact Kept.refl _) | (with_reducible assumption) | (with_reducible refine Kept.alloc ?_ _ _) | (with_reducible refine Kept.drew ?_) | (with_reducible refine Kept.drewN ?_ _) | ((with_reducible refine Kept.setCell ?_ ?_ _); rotate_left; focus (first | (simp; done) | (simp; omega))) | refine Kept.trans ?_ (by assumption)))⟩
  · obtain ⟨k, rfl⟩ := Int.eq_ofNat_of_zero_le (show 0 ≤ x by omega)
    by_cases h1 : n ≤ k
    · have E : Hid (atV n f S.N k = -1) := Lib.hid (by unfold atV; rw [if_neg (by omega)])
      rcases ws with ⟨rfl, rfl⟩ | ⟨g, cc, rfl, hg, hc⟩
      · go_enter Try.func67, Try.ntmps67
        go_wp2
        go_ret
        exact ⟨by rw [E.out]; rfl, by (go_light; repeat (first | (with_reducible exact Kept.refl _) | (with_reducible assumption) | (with_reducible refine Kept.alloc ?_ _ _) | (with_reducible refine Kept.drew ?_) | (with_reducible refine Kept.drewN ?_ _) | ((with_reducible refine Kept.setCell ?_ ?_ _); rotate_left; focus (first | (simp; done) | (simp; omega))) | refine Kept.trans ?_ (by assumption)))⟩
      · clear hc
        go_enter Try.func67, Try.ntmps67
        go_wp2
        go_ret
        exact ⟨by rw [E.out]; rfl, by (go_light; repeat (first | (with_reducible exact Kept.refl _) | (with_reducible assumption) | (with_reducible refine Kept.alloc ?_ _ _) | (with_reducible refine Kept.drew ?_) | (with_reducible refine Kept.drewN ?_ _) | ((with_reducible refine Kept.setCell ?_ ?_ _); rotate_left; focus (first | (simp; done) | (simp; omega))) | refine Kept.trans ?_ (by assumption)))⟩
    · have h2 : k < n := by omega
      have E : Hid (atV n f S.N k = idx S.N (f k)) := Lib.hid (by unfold atV; rw [if_pos (by omega), Int.toNat_natCast])
      rcases ws with ⟨rfl, rfl⟩ | ⟨g, cc, rfl, hg, hc⟩
      · omega
      · have ck := hc k h2
        obtain ⟨f0, f1⟩ := hf k h2
        clear hc hf h0 h1
        go_enter Try.func67, Try.ntmps67
        go_wp2_with fail
        go_region_held3 (fun w' => w'.cell? ⟨a, 0, none⟩ = some (.int .i64 S.T) ∧ w'.cell? ⟨a, 1, none⟩ = some (.int .i64 S.K) ∧ w'.cell? ⟨a, 2, none⟩ = some (.int .i64 S.N) ∧ w'.cell? ⟨b, 0, none⟩ = some (.slice (some ⟨g, 0, none⟩) n cc) ∧ w'.cell? ⟨g, k, none⟩ = some (.int .u64 (f k))) (first | go_keep | (exact ⟨k1.some a0, k1.some a1, k1.some a2, k1.some b0, k1.some ck⟩)) (first | (go_at_call 68; refine (read_any S.T S.K S.N (f k) _ f0 f1).mono ?_; rintro e w1 ⟨rfl, k1⟩))
        go_wp2
        go_ret
        exact ⟨by rw [E.out]; rfl, by (go_light; repeat (first | (with_reducible exact Kept.refl _) | (with_reducible assumption) | (with_reducible refine Kept.alloc ?_ _ _) | (with_reducible refine Kept.drew ?_) | (with_reducible refine Kept.drewN ?_ _) | ((with_reducible refine Kept.setCell ?_ ?_ _); rotate_left; focus (first | (simp; done) | (simp; omega))) | refine Kept.trans ?_ (by assumption)))⟩

def sq (n : Nat) (f : Nat → Int) (S : Stk) : Nat → Int
  | 0 => atV n f S.N S.T
  | k + 1 => atV n f S.N (wrap64 (S.K + sq n f S k))
theorem sq_lo (n : Nat) (f : Nat → Int) (S : Stk) (k : Nat) : -1 ≤ sq n f S k := by cases k <;> exact atV_lo _ _ _ _
def sqs (n : Nat) (f : Nat → Int) (S : Stk) (k : Nat) : List Int := (List.range k).map (sq n f S)
theorem sqs_succ (n : Nat) (f : Nat → Int) (S : Stk) (k : Nat) : sqs n f S (k + 1) = sqs n f S k ++ [sq n f S k] := by simp [sqs, List.range_succ]
theorem sqs_length (n : Nat) (f : Nat → Int) (S : Stk) (k : Nat) : (sqs n f S k).length = k := by simp [sqs]

theorem wpIn_loop_ghost {F : Fence} {n : Nat} {P : Program} {Q : Exit → Act → World → Prop} {a : Act} {w : World} {c : Code} (NN : Nat) (Rel : Nat → Act → World → Prop) (h0 : Rel 0 a w)
    (hstep : ∀ k a w, Rel k a w → k < NN ∧ ∀ K : Act → World → Prop, (∀ a' w', Rel (k + 1) a' w' → K a' w') → c.wpIn F n P (Exit.then K Q) a w) : (Code.loop c).wpIn F n P Q a w := by
  have key : ∀ m k a w, Rel k a w → NN ≤ k + m → Code.roundsIn F n P c Q m a w := by
    intro m
    induction m with
    | zero => intro k a w h hk; have := (hstep k a w h).1; omega
    | succ m ih => intro k a w h hk; exact (hstep k a w h).2 _ fun a' w' h' => ih (k + 1) a' w' h' (by omega)
  exact wpIn_loop_rounds NN (key NN 0 a w h0 (by omega))

def ItAct (l a c : Nat) (i : Int) (x5 x6 x7 x8 x9 x10 x11 x12 x13 x14 x15 x16 x17 x18 x19 x20 : Value) : Act :=
  { tmps := #[.func (.yield l) #[] #[], .pointer (some ⟨c, 0, none⟩), .pointer (some ⟨a, 0, none⟩), undef, .int .i64 i, x5, x6, x7, x8, x9, x10, x11, x12, x13, x14, x15, x16, x17, x18, x19, x20], defers := [] }
def ItRel (J : List Int → World → Prop) (n : Nat) (f : Nat → Int) (S : Stk) (l a c : Nat) (k : Nat) (A : Act) (w : World) : Prop :=
  J (sqs n f S k) w ∧ ∃ x5 x6 x7 x8 x9 x10 x11 x12 x13 x14 x15 x16 x17 x18 x19 x20, A = ItAct l a c (sq n f S k) x5 x6 x7 x8 x9 x10 x11 x12 x13 x14 x15 x16 x17 x18 x19 x20

set_option maxHeartbeats 4000000 in
theorem indices_in (m : Nat) (hm : 1 ≤ m) (l a b c : Nat) (S : Stk) (v : Value) (n : Nat) (f : Nat → Int) (hf : Wf n f) (NN : Nat) (J Jx : List Int → World → Prop)
    (hJk : ∀ pre W W', J pre W → Kept W W' → J pre W') (hJb : ∀ pre W, J pre W → Boxes W a b c S v n f ∧ pre.length < NN)
    (hY : ∀ pre x W, J pre W → (pre = sqs n f S pre.length ∧ x = sq n f S pre.length ∧ 0 ≤ x) → YieldAt Fence.wide (m - 1) Try.prog l #[.int .i64 x] W fun e W' =>
      (e = .returned (.bool true) ∧ J (pre ++ [x]) W') ∨ (e = .returned (.bool false) ∧ Jx (pre ++ [x]) W'))
    (W : World) (h0 : J [] W) :
    CallsIn Fence.wide m Try.prog 69 #[.func (.yield l) #[] #[], .pointer (some ⟨c, 0, none⟩), .pointer (some ⟨a, 0, none⟩)] W fun e W' => (∃ v, e = .returned v) ∧
      ((∃ xs, (∃ k, xs = sqs n f S k ∧ sq n f S k < 0) ∧ J xs W') ∨ (∃ pre W1, Jx pre W1 ∧ Kept W1 W')) := by
  refine callsIn_of_wp Try.func69 rfl trivial ?_ rfl
  simp only [Try.ntmps69, List.size_toArray, List.length_cons, List.length_nil, Nat.reduceAdd, Nat.reduceSub, Array.replicate_succ, Array.replicate_zero, List.push_toArray, List.append_toArray, List.nil_append, List.cons_append]
  rw [wpIn_wide]
  obtain ⟨a0, a1, a2, b0, c0, ws⟩ := (hJb _ _ h0).1
  have HY := Lib.hid hY
  have HK := Lib.hid hJk
  have HB := Lib.hid hJb
  have HF := Lib.hid hf
  clear hY hJk hJb hf ws
  go_wp2_with fail
  refine (at_any (HB.out _ _ h0).1 HF.out S.T).mono ?_
  rintro e w1 ⟨rfl, k1⟩
  have j1 := HK.out _ _ _ h0 k1
  have hfm : Try.prog.follows .mixedOrders = true := by kernel_rfl
  clear h0 a0 a1 a2 b0 c0 k1
  go_wp2_with fail
  rw [← wpIn_wide (n := m)]
  refine wpIn_loop_ghost NN (ItRel J n f S l a c) ⟨j1, _, _, _, _, _, _, _, _, _, _, _, _, _, _, _, _, rfl⟩ ?_
  clear j1
  rintro k _ w ⟨hj, x5, x6, x7, x8, x9, x10, x11, x12, x13, x14, x15, x16, x17, x18, x19, x20, rfl⟩
  obtain ⟨hb, hlt⟩ := HB.out _ _ hj
  rw [sqs_length] at hlt
  refine ⟨hlt, fun K hK => ?_⟩
  unfold ItAct
  by_cases hs : sq n f S k = -1
  · have hne : (sq n f S k != -1) = false := by simp [hs]
    have HS := Lib.hid hs
    clear hs hb
    gi_wp2
    refine ⟨fun _ h => (by cases h), ?_⟩
    gi_wp2
    go_end0
    exact ⟨⟨_, rfl⟩, .inl ⟨_, ⟨k, rfl, by rw [HS.out]; decide⟩, hj⟩⟩
  · have hne : (sq n f S k != -1) = true := by simp [hs]
    have hp : 0 ≤ sq n f S k := by have := sq_lo n f S k; omega
    obtain ⟨fn, tmps, assign, body, hy, hR⟩ := HY.out _ (sq n f S k) w hj ⟨by rw [sqs_length], by rw [sqs_length], hp⟩
    clear hs hb
    gi_wp2
    refine hR.mono ?_
    rintro e W3 (⟨rfl, hJ3⟩ | ⟨rfl, hJx3⟩)
    · obtain ⟨b3, hlt3⟩ := HB.out _ _ hJ3
      obtain ⟨a0, a1, a2, b0, c0, ws⟩ := b3
      have BX : Hid (Boxes W3 a b c S v n f) := Lib.hid ⟨a0, a1, a2, b0, c0, ws⟩
      have J3 := Lib.hid hJ3
      clear hJ3 hy hR ws hj hlt3
      gi_wp2_with fail
      rw [wpIn_wide]
      go_region_held3 (fun w' => w'.cell? ⟨a, 0, none⟩ = some (.int .i64 S.T) ∧ w'.cell? ⟨a, 1, none⟩ = some (.int .i64 S.K) ∧ w'.cell? ⟨a, 2, none⟩ = some (.int .i64 S.N) ∧ w'.cell? ⟨c, 0, none⟩ = some (.func (.func 67) #[] #[.pointer (some ⟨b, 0, none⟩), .pointer (some ⟨a, 0, none⟩)])) (first | go_keep | (exact ⟨k4.some a0, k4.some a1, k4.some a2, k4.some c0⟩) | (exact ⟨k5.some (k4.some a0), k5.some (k4.some a1), k5.some (k4.some a2), k5.some (k4.some c0)⟩)) (first
        | (go_at_call 47; refine (link_any S.T S.K S.N (sq n f S k) _).mono ?_; rintro e w4 ⟨rfl, k4⟩; have KT : Kept W3 w4 := Kept.trans (b := _) (by first | exact Kept.refl _ | exact (Kept.refl _).drew | exact (Kept.refl _).drewN _) k4)
        | (go_at_call 67; refine (at_any (BX.out.kept (by first | exact KT | exact KT.drew | exact KT.drewN _)) HF.out _).mono ?_; rintro e w5 ⟨rfl, k5⟩; have KU : Kept W3 w5 := Kept.trans (b := _) (by first | exact KT | exact KT.drew | exact KT.drewN _) k5))
      refine hK _ _ ⟨?_, _, _, _, _, _, _, _, _, _, _, _, _, _, _, _, _, rfl⟩
      rw [sqs_succ]
      exact HK.out _ _ _ J3.out KU
    · gi_wp2
      go_end0
      exact ⟨⟨_, rfl⟩, .inr ⟨_, _, hJx3, Kept.refl _⟩⟩

theorem indices_any (S : Stk) (v : Value) (n : Nat) (f : Nat → Int) (w : World) (h : Wds w v n f) :
    Calls Try.prog 50 #[.agg #[.int .i64 S.T, .int .i64 S.K, .int .i64 S.N], v] w fun e w' => ∃ a b c, e = .returned (.func (.func 69) #[] #[.pointer (some ⟨c, 0, none⟩), .pointer (some ⟨a, 0, none⟩)]) ∧ w.heap.size ≤ a ∧ w.heap.size ≤ b ∧ w.heap.size ≤ c ∧ a < w'.heap.size ∧ b < w'.heap.size ∧ c < w'.heap.size ∧ Boxes w' a b c S v n f ∧ Kept w w' := by
  have hv : v.oneCell' = true := by
    rcases h with ⟨_, rfl⟩ | ⟨g, cc, rfl, _⟩ <;> rfl
  have HW := Lib.hid h
  rcases h with ⟨rfl, rfl⟩ | ⟨g, cc, rfl, hg, hc⟩
  · go_enter Try.func50, Try.ntmps50
    go_wp2
    go_ret
    go_light
    refine ⟨w.heap.size, w.heap.size + 1, w.heap.size + 1 + 1, rfl, by omega, by omega, by omega, ?_, ?_, ?_, ⟨?_, ?_, ?_, ?_, ?_, ?_⟩, by (go_light; repeat (first | (with_reducible exact Kept.refl _) | (with_reducible assumption) | (with_reducible refine Kept.alloc ?_ _ _) | (with_reducible refine Kept.drew ?_) | (with_reducible refine Kept.drewN ?_ _) | ((with_reducible refine Kept.setCell ?_ ?_ _); rotate_left; focus (first | (simp; done) | (simp; omega))) | refine Kept.trans ?_ (by assumption)))⟩
    · simp; omega
    · simp
    · simp
    · exact (((Kept.refl _).alloc _ _).alloc _ _).some (cell_new w _ _ _ 0 rfl)
    · exact (((Kept.refl _).alloc _ _).alloc _ _).some (cell_new w _ _ _ 1 rfl)
    · exact (((Kept.refl _).alloc _ _).alloc _ _).some (cell_new w _ _ _ 2 rfl)
    · exact ((Kept.refl _).alloc _ _).some (cell_new _ _ _ _ 0 (by simp))
    · exact cell_new _ _ _ _ 0 (by simp)
    · exact HW.out.kept (by (go_light; repeat (first | (with_reducible exact Kept.refl _) | (with_reducible assumption) | (with_reducible refine Kept.alloc ?_ _ _) | (with_reducible refine Kept.drew ?_) | (with_reducible refine Kept.drewN ?_ _) | ((with_reducible refine Kept.setCell ?_ ?_ _); rotate_left; focus (first | (simp; done) | (simp; omega))) | refine Kept.trans ?_ (by assumption))))
  · clear hc
    go_enter Try.func50, Try.ntmps50
    go_wp2
    go_ret
    go_light
    refine ⟨w.heap.size, w.heap.size + 1, w.heap.size + 1 + 1, rfl, by omega, by omega, by omega, ?_, ?_, ?_, ⟨?_, ?_, ?_, ?_, ?_, ?_⟩, by (go_light; repeat (first | (with_reducible exact Kept.refl _) | (with_reducible assumption) | (with_reducible refine Kept.alloc ?_ _ _) | (with_reducible refine Kept.drew ?_) | (with_reducible refine Kept.drewN ?_ _) | ((with_reducible refine Kept.setCell ?_ ?_ _); rotate_left; focus (first | (simp; done) | (simp; omega))) | refine Kept.trans ?_ (by assumption)))⟩
    · simp; omega
    · simp
    · simp
    · exact (((Kept.refl _).alloc _ _).alloc _ _).some (cell_new w _ _ _ 0 rfl)
    · exact (((Kept.refl _).alloc _ _).alloc _ _).some (cell_new w _ _ _ 1 rfl)
    · exact (((Kept.refl _).alloc _ _).alloc _ _).some (cell_new w _ _ _ 2 rfl)
    · exact ((Kept.refl _).alloc _ _).some (cell_new _ _ _ _ 0 (by simp))
    · exact cell_new _ _ _ _ 0 (by simp)
    · exact HW.out.kept (by (go_light; repeat (first | (with_reducible exact Kept.refl _) | (with_reducible assumption) | (with_reducible refine Kept.alloc ?_ _ _) | (with_reducible refine Kept.drew ?_) | (with_reducible refine Kept.drewN ?_ _) | ((with_reducible refine Kept.setCell ?_ ?_ _); rotate_left; focus (first | (simp; done) | (simp; omega))) | refine Kept.trans ?_ (by assumption))))

def chnLen (n : Nat) (f : Nat → Int) (S : Stk) : Nat → Nat → Nat
  | 0, k => k
  | r + 1, k => if sq n f S k < 0 then k else chnLen n f S r (k + 1)
theorem chnLen_eq {n : Nat} {f : Nat → Int} {S : Stk} : ∀ (r j k : Nat), j ≤ k → k ≤ j + r → (∀ i, j ≤ i → i < k → 0 ≤ sq n f S i) → (sq n f S k < 0 ∨ k = j + r) → chnLen n f S r j = k
  | 0, j, k, h1, h2, _, _ => by unfold chnLen; omega
  | r + 1, j, k, h1, h2, h3, h4 => by
    unfold chnLen
    by_cases e : j = k
    · subst e
      rcases h4 with h4 | h4
      · rw [if_pos h4]
      · omega
    · have := h3 j (Nat.le_refl _) (by omega)
      rw [if_neg (by omega)]
      exact chnLen_eq r (j + 1) k (by omega) (by omega) (fun i h h' => h3 i (by omega) h') (by omega)
def chn (n : Nat) (f : Nat → Int) (S : Stk) : List Int := sqs n f S (chnLen n f S S.N.toNat 0)
theorem chn_eq {n : Nat} {f : Nat → Int} {S : Stk} {k : Nat} (h2 : k ≤ S.N.toNat) (h3 : ∀ i, i < k → 0 ≤ sq n f S i) (h4 : sq n f S k < 0 ∨ k = S.N.toNat) : chn n f S = sqs n f S k := by
  unfold chn
  rw [chnLen_eq S.N.toNat 0 k (Nat.zero_le _) (by omega) (fun i _ h => h3 i h) (by omega)]
theorem atV_pos {n : Nat} {f : Nat → Int} {N x : Int} (h : 0 ≤ atV n f N x) : atV n f N x < N := by
  unfold atV at *
  split at h
  · rename_i hx
    rw [if_pos hx]
    unfold idx at *
    split at h
    · rename_i hn
      rw [if_pos hn]; exact hn
    · omega
  · omega
theorem sq_pos {n : Nat} {f : Nat → Int} {S : Stk} {k : Nat} (h : 0 ≤ sq n f S k) : sq n f S k < S.N := by
  cases k with
  | zero => exact atV_pos h
  | succ k => exact atV_pos h

def RetI (w : World) (l : List Int) (ed : Ending) (w' : World) : Prop := ∃ a c, ed = .returned (.slice a l.length c) ∧ Kept w w' ∧ w'.ownsRow w.heap.size 3 1 (.slice a l.length c) l.length (ints l)
end Go.Proofs.Ytfcompikbeebaaa.Sk
