/- Rows of cells: slices of the call's own ('ownsRow'), lists of ints and of deeds as cells, and 'append' of whatever, empty or nil, onto a slice of the call's own. -/
import Derived.Test.YtmfbjlaajcdbnaaG00
import Derived.WalkKit
import Derived.WalkLawsBesides
import Derived.Maps.AppendAt
import Derived.Deep.AppendLies
import Derived.RegionTactic
import Derived.OwnWalk
import Derived.Test.YtmfbjlaajcdbnaaG04
import Derived.Test.YtmfbjlaajcdbnaaG05
import Derived.Deep.RegionHeld3
import Derived.Test.YtmfbjlaajcdbnaaProg
import Derived.Deep.AppendSrc
import Derived.ChangeSlices
import Derived.ProofKit
import Derived.Lib.Hide
set_option linter.unusedVariables false
set_option linter.unusedSimpArgs false

namespace Go.Proofs.Ytmfbjlaajcdbnaa
open Go.RowKit

def ints (l : List Int) : List Value := l.map (Value.int .i64)
def flat (l : List (Int × Int × Int)) : List Value := l.flatMap fun d => [.int .i64 d.1, .int .i64 d.2.1, .int .i64 d.2.2]
theorem ints_length (l : List Int) : (ints l).length = l.length * 1 := by simp [ints]
theorem ints_get (l : List Int) (i : Nat) (x : Int) (h : l[i]? = some x) : (ints l)[i]? = some (.int .i64 x) := by simp [ints, h]
theorem ints_append (l m : List Int) : ints (l ++ m) = ints l ++ ints m := by simp [ints]
theorem flat_append (l m : List (Int × Int × Int)) : flat (l ++ m) = flat l ++ flat m := by simp [flat]
theorem flat_cons (d : Int × Int × Int) (l : List (Int × Int × Int)) : flat (d :: l) = .int .i64 d.1 :: .int .i64 d.2.1 :: .int .i64 d.2.2 :: flat l := by simp [flat]
theorem flat_length (l : List (Int × Int × Int)) : (flat l).length = l.length * 3 := by
  induction l with
  | nil => rfl
  | cons d l ih => rw [flat_cons]; simp [ih]; omega
theorem flat_get (l : List (Int × Int × Int)) : ∀ (i : Nat) (d : Int × Int × Int), l[i]? = some d → (flat l)[i * 3]? = some (.int .i64 d.1) ∧ (flat l)[i * 3 + 1]? = some (.int .i64 d.2.1) ∧ (flat l)[i * 3 + 2]? = some (.int .i64 d.2.2) := by
  induction l with
  | nil => intro i d h; simp at h
  | cons c l ih =>
    intro i d h
    rw [flat_cons]
    cases i with
    | zero => simp at h; subst h; simp
    | succ i =>
      have h' : l[i]? = some d := by simpa using h
      obtain ⟨h1, h2, h3⟩ := ih i d h'
      have e1 : (i + 1) * 3 = i * 3 + 1 + 1 + 1 := by omega
      refine ⟨?_, ?_, ?_⟩
      · rw [e1]; simpa using h1
      · rw [show (i + 1) * 3 + 1 = (i * 3 + 1) + 1 + 1 + 1 by omega]; simpa using h2
      · rw [show (i + 1) * 3 + 2 = (i * 3 + 2) + 1 + 1 + 1 by omega]; simpa using h3
theorem flat_take (l : List (Int × Int × Int)) : ∀ k, (flat l).take (k * 3) = flat (l.take k) := by
  induction l with
  | nil => intro k; simp [flat]
  | cons c l ih =>
    intro k
    cases k with
    | zero => simp [flat]
    | succ k =>
      rw [show (k + 1) * 3 = k * 3 + 1 + 1 + 1 by omega, flat_cons, List.take_succ_cons, List.take_succ_cons, List.take_succ_cons, List.take_succ_cons, flat_cons, ih]
theorem flat_one (l : List (Int × Int × Int)) : ∀ u ∈ flat l, u.oneCell' = true := by
  induction l with
  | nil => intro u h; cases h
  | cons c l ih =>
    intro u h
    rw [flat_cons] at h
    simp only [List.mem_cons] at h
    rcases h with rfl | rfl | rfl | h
    · rfl
    · rfl
    · rfl
    · exact ih u h
theorem ints_one (l : List Int) : ∀ u ∈ ints l, u.oneCell' = true := by
  intro u h
  obtain ⟨x, _, rfl⟩ := List.mem_map.1 h
  rfl

def Lies (w : World) (v : Value) (n : Nat) (xs : List Value) : Prop :=
  (v = .slice none 0 0 ∧ n = 0 ∧ xs = []) ∨ ∃ g o c, v = .slice (some ⟨g, o, none⟩) n c ∧ n ≤ c ∧ c ≤ maxLen ∧ ∀ j u, xs[j]? = some u → w.cell? ⟨g, o + j, none⟩ = some u

theorem Lies.form {w : World} {v : Value} {n : Nat} {xs : List Value} (h : Lies w v n xs) : ∃ a c, v = .slice a n c ∧ n ≤ c ∧ c ≤ maxLen := by
  rcases h with ⟨rfl, rfl, _⟩ | ⟨g, o, c, rfl, h1, h2, _⟩
  · exact ⟨_, _, rfl, Nat.le_refl _, Nat.zero_le _⟩
  · exact ⟨_, _, rfl, h1, h2⟩
theorem add_none (b o j : Nat) : (Addr.add ⟨b, o, none⟩ j) = ⟨b, o + j, none⟩ := by
  unfold Addr.add
  split <;> simp_all
theorem Lies.kept {w w' : World} {v : Value} {n : Nat} {xs : List Value} (h : Lies w v n xs) (k : Kept w w') : Lies w' v n xs := by
  rcases h with h | ⟨g, o, c, h1, h2, h3, h4⟩
  · exact .inl h
  · exact .inr ⟨g, o, c, h1, h2, h3, fun j u hu => k.some (h4 j u hu)⟩
theorem Lies.but {S : Nat → Prop} {w w' : World} {v : Value} {n : Nat} {xs : List Value} (h : Lies w v n xs) (k : But S w w') (hS : ∀ g, v.ownBlock = some g → ¬ S g) : Lies w' v n xs := by
  rcases h with h | ⟨g, o, c, rfl, h2, h3, h4⟩
  · exact .inl h
  · exact .inr ⟨g, o, c, rfl, h2, h3, fun j u hu => k.some (h4 j u hu) (hS g rfl)⟩

section
variable {w : World} {base : Nat} {e : TypeId} {size : Nat} {v : Value} {n : Nat} {xs : List Value}
theorem own_form (h : w.ownsRow base e size v n xs) : ∃ a c, v = .slice a n c := by
  rcases h.2 with ⟨rfl, rfl⟩ | ⟨g, cap, cur, rfl, _⟩
  · exact ⟨_, _, rfl⟩
  · exact ⟨_, _, rfl⟩
theorem own_lies (h : w.ownsRow base e size v n xs) : Lies w v n xs := by
  rcases h.2 with ⟨rfl, rfl⟩ | ⟨g, cap, cur, rfl, hb, hg, h1, h2, h3, h4⟩
  · have : xs = [] := List.eq_nil_of_length_eq_zero (by simpa using h.1)
    exact .inl ⟨rfl, rfl, this⟩
  · refine .inr ⟨g, 0, cap, rfl, h1, h2, fun j u hu => ?_⟩
    rw [Nat.zero_add, cell_of_row w g j cur e _ hg]
    rw [← h4] at hu
    have hj : j < n * size := by
      have := (List.getElem?_eq_some_iff.1 hu).1
      rw [List.length_take] at this
      omega
    rw [List.getElem?_take_of_lt hj] at hu
    simpa using hu
theorem own_soft (h : w.ownsRow base e size v n xs) (g : Nat) (hg : v.ownBlock = some g) (i : Nat) : w.frozen? ⟨g, i, none⟩ = false := by
  rcases h.2 with ⟨rfl, _⟩ | ⟨g', cap, cur, rfl, _, hh, _⟩
  · cases hg
  · have e' : g' = g := by simpa [Value.ownBlock] using hg
    subst e'
    exact frozen_of_row w g' i cur e hh
theorem own_same {w' : World} (h : w.ownsRow base e size v n xs) (hs : ∀ g, v.ownBlock = some g → w'.heap[g]? = w.heap[g]?) : w'.ownsRow base e size v n xs := by
  refine ⟨h.1, ?_⟩
  rcases h.2 with hn | ⟨g, cap, cur, rfl, hb, hg, rest⟩
  · exact .inl hn
  · exact .inr ⟨g, cap, cur, rfl, hb, (hs g rfl).trans hg, rest⟩
theorem own_mono {base' : Nat} (h : w.ownsRow base e size v n xs) (hb : base' ≤ base) : w.ownsRow base' e size v n xs := by
  refine ⟨h.1, ?_⟩
  rcases h.2 with hn | ⟨g, cap, cur, rfl, hb', rest⟩
  · exact .inl hn
  · exact .inr ⟨g, cap, cur, rfl, Nat.le_trans hb hb', rest⟩
end

theorem but_of_grown {w w' : World} {row : Option Nat} (h : w.grownBy w' row) (hf : ∀ g, row = some g → g < w.heap.size → ∀ i, w'.frozen? ⟨g, i, none⟩ = w.frozen? ⟨g, i, none⟩) : But (fun k => row = some k) w w' :=
  ⟨h.os, h.tape, h.output, h.size, fun k hk hS => h.block k hk (fun e => hS e.symm), fun a ha => by
    by_cases e : row = some a.block
    · obtain ⟨b, i, s⟩ := a
      cases s with
      | none => exact hf b e ha i
      | some s =>
        have := hf b e ha i
        simpa [World.frozen?] using this
    · exact World.frozen?_of_block (h.block a.block ha (fun h => e h.symm))⟩

section
variable {P : Program} (w : World)
theorem append_any (base : Nat) (t ty e : TypeId) (i : TypeInfo) (z : Value) (size bytes : Nat) (ht : P.underlying t = some (.slice e)) (hi : P.info? e = some i) (hz : i.zero = some z)
    (hsize : i.size = size) (hby : i.bytes = bytes) (hzs : z.cells.size = size) (hsz : 0 < size)
    (v : Value) (n : Nat) (xs : List Value) (hown : w.ownsRow base e size v n xs)
    (x : Value) (m : Nat) (news : List Value) (hl : news.length = m * size) (hx : Lies w x m news) (h1 : ∀ u ∈ news, u.oneCell' = true)
    (h63 : n + m ≤ maxLen) (hbytes : (n + m) * bytes ≤ 140737488355328) (hbase : base ≤ w.heap.size) :
    ∃ a c w', (Builtin.append_ #[t, t] ty #[v, x]).run P w = .ok (.slice a (n + m) c) w' ∧ w'.ownsRow base e size (.slice a (n + m) c) (n + m) (xs ++ news) ∧ But (fun k => v.ownBlock = some k) w w' ∧
      ((Value.slice a (n + m) c).ownBlock = v.ownBlock ∨ (Value.slice a (n + m) c).ownBlock = some w.heap.size) := by
  rcases hx with ⟨rfl, rfl, rfl⟩ | ⟨g, o, c, rfl, _, _, hc⟩
  · obtain ⟨a, c, rfl⟩ := own_form hown
    refine ⟨a, c, w, ?_, by simpa using hown, But.refl _ _, Or.inl rfl⟩
    rcases hown.2 with ⟨hv, rfl⟩ | ⟨g', cap, cur, hv, _, _, hnc, _⟩
    · cases hv
      simp [Builtin.append_, run_underlying ht, sizeOf, typeInfo, hi, Builtin.lenOf, Builtin.firstCells]
    · cases hv
      simp [Builtin.append_, run_underlying ht, sizeOf, typeInfo, hi, Builtin.lenOf, Builtin.firstCells, hnc, storeCells]
  · obtain ⟨v', w', hr, h2, h3, _, h5⟩ := run_append_own_at (P := P) w base t ty e i z size bytes ht hi hz hsize hby hzs hsz v n xs hown ⟨g, o, none⟩ m c news hl (fun j u hu => by rw [add_none]; exact hc j u hu) h1 h63 hbytes hbase
    obtain ⟨a, c', rfl⟩ := own_form h2
    refine ⟨a, c', w', hr, h2, but_of_grown h3 fun g' hg' _ k => ?_, h5⟩
    have hnews : ∀ j u, news[j]? = some u → w.cell? ((⟨g, o, none⟩ : Addr).add j) = some u := fun j u hu => by rw [add_none]; exact hc j u hu
    subst hsize
    subst hby
    rcases hown.2 with ⟨rfl, _⟩ | ⟨g2, cap, cur, rfl, _, hg2, hnc, hcm, hcs, htake⟩
    · cases hg'
    · have e' : g2 = g' := by simpa [Value.ownBlock] using hg'
      subst e'
      by_cases hroom : n + m ≤ cap
      · have hr2 := run_append_room (P := P) w t ty e i ht hi g2 n cap cur hg2 ⟨g, o, none⟩ m c news hl hnews h1 hroom (by rw [hl, hcs, ← Nat.add_mul]; exact Nat.mul_le_mul_right _ hroom)
        rw [hr] at hr2
        injection hr2 with _ hw
        rw [hw, frozen_of_row _ g2 k _ e (setRow_heap w g2 cur _ e _ hg2), frozen_of_row _ g2 k _ e hg2]
      · have hr2 := run_append_grow (P := P) w t ty e i z ht hi hz ⟨g2, 0, none⟩ n cap xs hown.1 (hown.cells (g := g2) rfl) ⟨g, o, none⟩ m c news hl hnews (by omega) (by unfold maxLen at h63; omega) (growslice_fits (by omega) hbytes)
        rw [hr] at hr2
        injection hr2 with _ hw
        rw [hw]
        exact (((Kept.refl w).drew).alloc _ _).froze ⟨g2, k, none⟩ (Array.getElem?_eq_some_iff.1 hg2).1

theorem wp_append_any {o : Oper} {A : Act} {K : Act → World → Prop} {Q : Exit → Act → World → Prop} (s x : Operand) (t : TypeId)
    (ho : o.op = .call { callee := .builtin .append, args := #[s, x], argTypes := #[t, t] })
    (base : Nat) (e : TypeId) (i : TypeInfo) (z : Value) (size bytes : Nat) (ht : P.underlying t = some (.slice e)) (hi : P.info? e = some i) (hz : i.zero = some z)
    (hsize : i.size = size) (hby : i.bytes = bytes) (hzs : z.cells.size = size) (hsz : 0 < size)
    (v : Value) (n : Nat) (xs : List Value) (hs : A.eval s = v) (hown : w.ownsRow base e size v n xs)
    (y : Value) (m : Nat) (news : List Value) (hy : A.eval x = y) (hl : news.length = m * size) (hx : Lies w y m news) (h1 : ∀ u ∈ news, u.oneCell' = true)
    (h63 : n + m ≤ maxLen) (hbytes : (n + m) * bytes ≤ 140737488355328) (hbase : base ≤ w.heap.size)
    (h : ∀ a c w', w'.ownsRow base e size (.slice a (n + m) c) (n + m) (xs ++ news) → But (fun k => v.ownBlock = some k) w w' →
      ((Value.slice a (n + m) c).ownBlock = v.ownBlock ∨ (Value.slice a (n + m) c).ownBlock = some w.heap.size) → K (A.put o.dst (.slice a (n + m) c)) w') : o.wp P A w K Q := by
  obtain ⟨a, c, w', hr, h2, h3, h4⟩ := append_any (P := P) w base t o.type e i z size bytes ht hi hz hsize hby hzs hsz v n xs hown y m news hl hx h1 h63 hbytes hbase
  unfold Oper.wp execOp
  simp only [ho, resolve, invoke, builtin, Sem.run_bind, Sem.run_pure, Result.andThen_ok, List.map_toArray, List.map_cons, List.map_nil, hs, hy, hr]
  exact h a c w' h2 h3 h4

theorem wpList_append_any {ops : Array Oper} {rest : List Oper} {o : Oper} {A : Act} {Q : Exit → Act → World → Prop} (hgd : o.guard = none) (s x : Operand) (t : TypeId)
    (ho : o.op = .call { callee := .builtin .append, args := #[s, x], argTypes := #[t, t] })
    (base : Nat) (e : TypeId) (i : TypeInfo) (z : Value) (size bytes : Nat) (ht : P.underlying t = some (.slice e)) (hi : P.info? e = some i) (hz : i.zero = some z)
    (hsize : i.size = size) (hby : i.bytes = bytes) (hzs : z.cells.size = size) (hsz : 0 < size)
    (v : Value) (n : Nat) (xs : List Value) (hs : A.eval s = v) (hown : w.ownsRow base e size v n xs)
    (y : Value) (m : Nat) (news : List Value) (hy : A.eval x = y) (hl : news.length = m * size) (hx : Lies w y m news) (h1 : ∀ u ∈ news, u.oneCell' = true)
    (h63 : n + m ≤ maxLen) (hbytes : (n + m) * bytes ≤ 140737488355328) (hbase : base ≤ w.heap.size)
    (h : ∀ a c w', w'.ownsRow base e size (.slice a (n + m) c) (n + m) (xs ++ news) → But (fun k => v.ownBlock = some k) w w' →
      ((Value.slice a (n + m) c).ownBlock = v.ownBlock ∨ (Value.slice a (n + m) c).ownBlock = some w.heap.size) → wpList P ops Q rest (A.put o.dst (.slice a (n + m) c)) w') : wpList P ops Q (o :: rest) A w :=
  wpList_plain hgd fun _ hK => wp_append_any w s x t ho base e i z size bytes ht hi hz hsize hby hzs hsz v n xs hs hown y m news hy hl hx h1 h63 hbytes hbase fun a c w' h2 h3 h4 => hK _ _ (h a c w' h2 h3 h4)

theorem step_append_any {ops : Array Oper} {o : Oper} {A : Act} {K : Act → World → Prop} {Q : Exit → Act → World → Prop} {E : Prop} (hgd : o.guard = none) (s x : Operand) (t : TypeId)
    (ho : o.op = .call { callee := .builtin .append, args := #[s, x], argTypes := #[t, t] })
    (base : Nat) (e : TypeId) (i : TypeInfo) (z : Value) (size bytes : Nat) (ht : P.underlying t = some (.slice e)) (hi : P.info? e = some i) (hz : i.zero = some z)
    (hsize : i.size = size) (hby : i.bytes = bytes) (hzs : z.cells.size = size) (hsz : 0 < size)
    (v : Value) (n : Nat) (xs : List Value) (hs : A.eval s = v) (hown : w.ownsRow base e size v n xs)
    (y : Value) (m : Nat) (news : List Value) (hy : A.eval x = y) (hl : news.length = m * size) (hx : Lies w y m news) (h1 : ∀ u ∈ news, u.oneCell' = true)
    (h63 : n + m ≤ maxLen) (hbytes : (n + m) * bytes ≤ 140737488355328) (hbase : base ≤ w.heap.size)
    (h : ∀ a c w', w'.ownsRow base e size (.slice a (n + m) c) (n + m) (xs ++ news) → But (fun k => v.ownBlock = some k) w w' →
      ((Value.slice a (n + m) c).ownBlock = v.ownBlock ∨ (Value.slice a (n + m) c).ownBlock = some w.heap.size) → K (A.put o.dst (.slice a (n + m) c)) w') :
    if Region.wanted o (yielded ops A.tmps) = true then Oper.wp P o A w K Q else E := by
  have hw : Region.wanted o (yielded ops A.tmps) = true := by simp [Region.wanted, hgd]
  rw [if_pos hw]
  exact wp_append_any w s x t ho base e i z size bytes ht hi hz hsize hby hzs hsz v n xs hs hown y m news hy hl hx h1 h63 hbytes hbase h
end
end Go.Proofs.Ytmfbjlaajcdbnaa

namespace Go.Proofs.Ytmfbjlaajcdbnaa.Ep
set_option maxRecDepth 20000
open Go.RowKit
open Wo (St acc wordAt PMem RefIs)
open Sk (Stk Wd pmem_kept p_words)

def Wds (w : World) (v : Value) (n : Nat) (f : Nat → Int) : Prop :=
  (n = 0 ∧ v = .slice none 0 0) ∨ ∃ g c, v = .slice (some ⟨g, 0, none⟩) n c ∧ g < w.heap.size ∧ ∀ i, i < n → w.cell? ⟨g, i, none⟩ = some (.int .u64 (f i))
theorem Wds.but {w w' : World} {v : Value} {n : Nat} {f : Nat → Int} (h : Wds w v n f) {T : Nat → Prop} (k : But T w w') (hT : ∀ g, v.ownBlock = some g → ¬ T g) : Wds w' v n f := by
  rcases h with h | ⟨g, c, rfl, h2, h3⟩
  · exact .inl h
  · exact .inr ⟨g, c, rfl, Nat.lt_of_lt_of_le h2 k.size, fun i hi => k.some (h3 i hi) (hT g rfl)⟩
theorem Wds.form {w : World} {v : Value} {n : Nat} {f : Nat → Int} (h : Wds w v n f) : ∃ a c, v = .slice a n c := by
  rcases h with ⟨rfl, rfl⟩ | ⟨g, c, rfl, _⟩
  · exact ⟨none, 0, rfl⟩
  · exact ⟨_, c, rfl⟩
theorem Wds.kept {w w' : World} {v : Value} {n : Nat} {f : Nat → Int} (h : Wds w v n f) (k : Kept w w') : Wds w' v n f := h.but (k.but (fun _ => False)) (fun _ _ => id)
def GivesWords (mv : Value) (n : Nat) (f : Nat → Int) (w : World) : Prop :=
  ∀ W, Kept w W → Calls Try.prog 21 #[mv] W fun e w' => ∃ v, e = .returned v ∧ Wds w' v n f ∧ (∀ g, v.ownBlock = some g → W.heap.size ≤ g) ∧ Kept W w'
theorem gives_words {w : World} {M B n : Nat} {s : St} (hm : PMem w M B n s) : GivesWords (.pointer (some ⟨M, 0, none⟩)) n s.ws w := fun W k =>
  (p_words M B n s W (pmem_kept hm k)).mono fun _ _ ⟨b, c, e, h1, h2, h3, _, k2⟩ => ⟨_, e, .inr ⟨b, c, rfl, h2, h3⟩, fun g hg => by
    have : b = g := by simpa [Value.ownBlock] using hg
    omega, k2⟩
def Wf (n : Nat) (f : Nat → Int) : Prop := ∀ i, i < n → 0 ≤ f i ∧ f i < 18446744073709551616
def hv (n : Nat) (f : Nat → Int) (x : Int) : Int := if 0 ≤ x ∧ x < n then f x.toNat else 0
theorem hv_word (n : Nat) (s : St) (x : Int) : hv n s.ws x = wordAt n s x := rfl
theorem hv_in {n : Nat} {f : Nat → Int} (h : Wf n f) (x : Int) : 0 ≤ hv n f x ∧ hv n f x < 18446744073709551616 := by
  unfold hv
  split
  · exact h _ (by omega)
  · omega
def pinV (p : Int) : Int := if p = 0 then -1 else ep (p - 1)

set_option maxHeartbeats 1000000 in
theorem held_any {w : World} {v : Value} {n : Nat} {f : Nat → Int} (h : Wds w v n f) (hf : Wf n f) (hn : n ≤ 100000) (x : Int) : Calls Try.prog 66 #[v, .int .i64 x] w fun e w' => e = .returned (.int .u64 (hv n f x)) ∧ Kept w w' := by
  by_cases h0 : x < 0
  · have E : Hid (hv n f x = 0) := Lib.hid (by unfold hv; rw [if_neg (by omega)])
    rcases h with ⟨rfl, rfl⟩ | ⟨g, cc, rfl, hg, hc⟩
    · go_enter Try.func66, Try.ntmps66
      go_wp2
      go_ret
      exact ⟨by rw [E.out]; rfl, by (go_light; repeat (first | (with_reducible exact Kept.refl _) | (with_reducible assumption) | (with_reducible refine Kept.alloc ?_ _ _) | (with_reducible refine Kept.drew ?_) | (with_reducible refine Kept.drewN ?_ _) | ((with_reducible refine Kept.setCell ?_ ?_ _); rotate_left; focus (first | (simp; done) | (simp; omega))) | refine Kept.trans ?_ (by assumption)))⟩
    · clear hc
      go_enter Try.func66, Try.ntmps66
      go_wp2
      go_ret
      exact ⟨by rw [E.out]; rfl, by (go_light; repeat (first | (with_reducible exact Kept.refl _) | (with_reducible assumption) | (with_reducible refine Kept.alloc ?_ _ _) | (with_reducible refine Kept.drew ?_) | (with_reducible refine Kept.drewN ?_ _) | ((with_reducible refine Kept.setCell ?_ ?_ _); rotate_left; focus (first | (simp; done) | (simp; omega))) | refine Kept.trans ?_ (by assumption)))⟩
  · obtain ⟨k, rfl⟩ := Int.eq_ofNat_of_zero_le (show 0 ≤ x by omega)
    by_cases h1 : n ≤ k
    · have E : Hid (hv n f k = 0) := Lib.hid (by unfold hv; rw [if_neg (by omega)])
      rcases h with ⟨rfl, rfl⟩ | ⟨g, cc, rfl, hg, hc⟩
      · go_enter Try.func66, Try.ntmps66
        go_wp2
        go_ret
        exact ⟨by rw [E.out]; rfl, by (go_light; repeat (first | (with_reducible exact Kept.refl _) | (with_reducible assumption) | (with_reducible refine Kept.alloc ?_ _ _) | (with_reducible refine Kept.drew ?_) | (with_reducible refine Kept.drewN ?_ _) | ((with_reducible refine Kept.setCell ?_ ?_ _); rotate_left; focus (first | (simp; done) | (simp; omega))) | refine Kept.trans ?_ (by assumption)))⟩
      · clear hc
        have h2 : (n : Int) ≤ (k : Int) := by omega
        go_enter Try.func66, Try.ntmps66
        go_wp2
        go_ret
        exact ⟨by rw [E.out]; rfl, by (go_light; repeat (first | (with_reducible exact Kept.refl _) | (with_reducible assumption) | (with_reducible refine Kept.alloc ?_ _ _) | (with_reducible refine Kept.drew ?_) | (with_reducible refine Kept.drewN ?_ _) | ((with_reducible refine Kept.setCell ?_ ?_ _); rotate_left; focus (first | (simp; done) | (simp; omega))) | refine Kept.trans ?_ (by assumption)))⟩
    · have h2 : k < n := by omega
      have E : Hid (hv n f k = f k) := Lib.hid (by unfold hv; rw [if_pos (by omega), Int.toNat_natCast])
      rcases h with ⟨rfl, rfl⟩ | ⟨g, cc, rfl, hg, hc⟩
      · omega
      · have ck := hc k h2
        have h3 : ¬ (n : Int) ≤ (k : Int) := by omega
        clear hc hf h0 h1
        go_enter Try.func66, Try.ntmps66
        go_wp2
        go_ret
        exact ⟨by rw [E.out]; rfl, by (go_light; repeat (first | (with_reducible exact Kept.refl _) | (with_reducible assumption) | (with_reducible refine Kept.alloc ?_ _ _) | (with_reducible refine Kept.drew ?_) | (with_reducible refine Kept.drewN ?_ _) | ((with_reducible refine Kept.setCell ?_ ?_ _); rotate_left; focus (first | (simp; done) | (simp; omega))) | refine Kept.trans ?_ (by assumption)))⟩
set_option maxHeartbeats 1000000 in
theorem pinnedAt_any (p : Int) (h0 : 0 ≤ p) (h1 : p < 18446744073709551616) (w : World) : Calls Try.prog 65 #[.int .u64 p] w fun e w' => e = .returned (.int .i64 (pinV p)) ∧ Kept w w' := by
  by_cases hz : p = 0
  · subst hz
    go_enter Try.func65, Try.ntmps65
    go_wp2
    go_ret
    exact ⟨rfl, by (go_light; repeat (first | (with_reducible exact Kept.refl _) | (with_reducible assumption) | (with_reducible refine Kept.alloc ?_ _ _) | (with_reducible refine Kept.drew ?_) | (with_reducible refine Kept.drewN ?_ _) | ((with_reducible refine Kept.setCell ?_ ?_ _); rotate_left; focus (first | (simp; done) | (simp; omega))) | refine Kept.trans ?_ (by assumption)))⟩
  · have E : Hid (pinV p = ep (p - 1)) := Lib.hid (by unfold pinV; rw [if_neg hz])
    have hne : (p == 0) = false := by simpa using hz
    have e0 := ep_lo (p - 1)
    have e1 := ep_hi (p - 1)
    go_enter Try.func65, Try.ntmps65
    go_wp2
    go_ret
    exact ⟨by rw [E.out]; rfl, by (go_light; repeat (first | (with_reducible exact Kept.refl _) | (with_reducible assumption) | (with_reducible refine Kept.alloc ?_ _ _) | (with_reducible refine Kept.drew ?_) | (with_reducible refine Kept.drewN ?_ _) | ((with_reducible refine Kept.setCell ?_ ?_ _); rotate_left; focus (first | (simp; done) | (simp; omega))) | refine Kept.trans ?_ (by assumption)))⟩
set_option maxHeartbeats 1000000 in
theorem now_any (S : Stk) (mv : Value) (n : Nat) (f : Nat → Int) (hf : Wf n f) (hn : n ≤ 100000) (w : World) (hg : GivesWords mv n f w) : Calls Try.prog 16 #[.agg #[.int .i64 S.T, .int .i64 S.K, .int .i64 S.N], mv] w fun e w' => e = .returned (.int .i64 (ep (hv n f S.T))) ∧ Kept w w' := by
  have HG := Lib.hid hg
  have HF := Lib.hid hf
  obtain ⟨v0, v1⟩ := hv_in hf S.T
  have e0 := ep_lo (hv n f S.T)
  have e1 := ep_hi (hv n f S.T)
  clear hg hf
  go_enter Try.func16, Try.ntmps16
  go_upto_region 1 with fail
  obtain ⟨W0, hW0⟩ : ∃ W0, W0 = w.alloc (.cells #[.int .i64 S.T, .int .i64 S.K, .int .i64 S.N] 23) := ⟨_, rfl⟩
  have a0 : W0.cell? ⟨w.heap.size, 0, none⟩ = some (.int .i64 S.T) := by rw [hW0]; exact cell_new _ _ _ _ 0 rfl
  have k0 : Kept w W0 := by rw [hW0]; exact (Kept.refl w).alloc _ _
  rw [← hW0]
  clear hW0
  go_region_held3 (fun w' => w'.cell? ⟨w.heap.size, 0, none⟩ = some (.int .i64 S.T)) (first | go_keep | (exact KT.some a0) | (exact KU.some a0)) (first
    | (go_at_call 21; refine (HG.out _ (k0.trans (by first | exact Kept.refl _ | exact (Kept.refl _).drew | exact (Kept.refl _).drewN _))).mono ?_; rintro e w2 ⟨v, rfl, wd, fv, k2⟩; have KT : Kept W0 w2 := Kept.trans (b := _) (by first | exact Kept.refl _ | exact (Kept.refl _).drew | exact (Kept.refl _).drewN _) k2)
    | (go_at_call 66; refine (held_any (wd.kept (by first | exact Kept.refl _ | exact (Kept.refl _).drew | exact (Kept.refl _).drewN _)) HF.out hn S.T).mono ?_; rintro e w3 ⟨rfl, k3⟩; have KU : Kept W0 w3 := Kept.trans (b := _) (by first | exact KT | exact KT.drew | exact KT.drewN _) k3))
  rename_i hcells
  clear hcells
  have hwr : IntKind.i64.wrap (ep (hv n f S.T)) = ep (hv n f S.T) := by rw [IntKind.wrap_i64]; omega
  go_wp2
  go_ret
  exact ⟨(show Ending.returned (.int .i64 (IntKind.i64.wrap (ep (hv n f S.T)))) = _ from by rw [hwr]), k0.trans KU⟩
end Go.Proofs.Ytmfbjlaajcdbnaa.Ep

namespace Go.Proofs.Ytmfbjlaajcdbnaa
open Go.RowKit Go.ChangeShapes Go.WideShapes

structure Nums (f : Nat → Int) (len : Nat) : Prop where
  lo : ∀ i, -9223372036854775808 ≤ f i
  hi : ∀ i, f i ≤ 9223372036854775807
  zero : ∀ i, len ≤ i → f i = 0

def Row (w : World) (a : Option Addr) (len cap : Nat) (f : Nat → Int) : Prop :=
  Nums f len ∧ len ≤ cap ∧ cap ≤ maxLen ∧ ((a = none ∧ len = 0 ∧ cap = 0) ∨ (∃ x, a = some x ∧ len = 0) ∨
    ∃ b off, a = some ⟨b, off, none⟩ ∧ b < w.heap.size ∧ ∀ i, i < len → w.cell? ⟨b, off + i, none⟩ = some (.int .i64 (f i)))

theorem wf_i64 (x : Int) (h : (Lit.int .i64 x).wf = true) : -9223372036854775808 ≤ x ∧ x ≤ 9223372036854775807 := by
  have e : IntKind.i64.min = -9223372036854775808 := by decide
  simpa [Lit.wf, e] using h
theorem getD_mem (zs : List Int) (i : Nat) (h : i < zs.length) : zs.getD i 0 ∈ zs := by
  have e : zs.getD i 0 = zs[i]'h := by simp [h]
  rw [e]
  exact List.getElem_mem _

theorem open_row {H : Type} {enc : TypeId × Value → H} {w : World} {base : Nat} {spare : Nat → Bool} {held : Bool} {fuel : Nat} {a : Option Addr} {len cap : Nat} {x : DataW H × List MemPlace}
    (h : DataW.trod enc Try.prog w base spare held fuel 47 [.slice a len cap] = some x) : ∃ f, Row w a len cap f := by
  rcases open_ints Try.underlying47 Try.underlying3 (by kernel_rfl) h with h0 | ⟨x, len', cap', zs, hcs, _, hl, hm, hz, _, hc, hw⟩
  · obtain ⟨rfl, rfl, rfl⟩ : a = none ∧ len = 0 ∧ cap = 0 := by simpa using h0.1
    exact ⟨fun _ => 0, ⟨by intro i; omega, by intro i; omega, fun _ _ => rfl⟩, Nat.le_refl _, Nat.zero_le _, .inl ⟨rfl, rfl, rfl⟩⟩
  · obtain ⟨rfl, rfl, rfl⟩ : a = some x ∧ len = len' ∧ cap = cap' := by simpa using hcs
    have hle : len ≤ zs.length := by rw [hz]; split <;> omega
    refine ⟨fun i => if i < len then zs.getD i 0 else 0, ⟨fun i => ?_, fun i => ?_, fun i hi => by simp; omega⟩, hl, hm, ?_⟩
    · by_cases hi : i < len
      · simp only [hi, if_true]
        exact (wf_i64 _ (hw _ (getD_mem zs i (by omega)))).1
      · simp [hi]
    · by_cases hi : i < len
      · simp only [hi, if_true]
        exact (wf_i64 _ (hw _ (getD_mem zs i (by omega)))).2
      · simp [hi]
    · by_cases h0 : len = 0
      · exact .inr (.inl ⟨x, rfl, h0⟩)
      · obtain ⟨b, off, spot⟩ := x
        have hc0 := hc 0 (by omega)
        have hs : spot = none := by simpa [Addr.add] using World.cell?_spot hc0
        subst hs
        refine .inr (.inr ⟨b, off, rfl, ?_, fun i hi => ?_⟩)
        · have := World.block_lt_of_cell? w _ hc0
          simpa [Addr.add] using this
        · have h := hc i (by omega)
          have e : (Addr.add ⟨b, off, none⟩ i) = ⟨b, off + i, none⟩ := by
            unfold Addr.add
            split <;> simp_all
          rw [e] at h
          simp only [hi, if_true]
          exact h

theorem infoInt : (Try.prog.info? 3).map (fun i => (i.zero, i.size, i.bytes)) = some (some (.int .i64 0), 1, 8) := by kernel_rfl

structure Made (W w' : World) (b len cap : Nat) (f : Nat → Int) : Prop where
  new : W.heap.size ≤ b
  old : b < w'.heap.size
  room : len ≤ cap
  most : cap ≤ maxLen
  cell : ∀ i, i < len → w'.cell? ⟨b, i, none⟩ = some (.int .i64 (f i))
  soft : ∀ i, w'.frozen? ⟨b, i, none⟩ = false

theorem copy_run (ty : TypeId) (W : World) (a : Option Addr) (len cap : Nat) (f : Nat → Int) (h : Row W a len cap f) (hs : len ≤ 1000000) :
    ∃ b C W', (Builtin.append_ #[47, 47] ty #[.slice (some ⟨W.heap.size, 0, none⟩) 0 0, .slice a len cap]).run Try.prog (W.alloc (.cells #[] 3)) = .ok (.slice (some ⟨b, 0, none⟩) len C) W' ∧
      Kept W W' ∧ Made W W' b len C f := by
  obtain ⟨i0, hi, hz0, hz1, hz2⟩ := info_parts infoInt
  obtain ⟨hn, hlc, hcm, h⟩ := h
  have k1 : Kept W (W.alloc (.cells #[] 3)) := (Kept.refl W).alloc _ _
  by_cases h0 : len = 0
  · subst h0
    have src : Src Try.prog i0.size 47 (.slice a 0 cap) 0 [] (W.alloc (.cells #[] 3)) := by
      cases a with
      | none => exact Src.ofNil _ Try.underlying47 cap
      | some x => exact Src.ofSlice _ Try.underlying47 x 0 cap [] (by simp) (fun j u hj => by simp at hj) (fun u hu => by cases hu)
    have hr := run_append_room_src (P := Try.prog) (W.alloc (.cells #[] 3)) 47 47 ty 3 i0 Try.underlying47 hi W.heap.size 0 0 0 (.slice a 0 cap) 0 [] src (Nat.le_refl _) (fun j hj => by simp at hj) (fun j hj => by simp at hj)
    refine ⟨W.heap.size, 0, _, hr, ?_, Nat.le_refl _, by simp [World.setCells], Nat.le_refl _, Nat.zero_le _, fun i hi => absurd hi (Nat.not_lt_zero i), fun i => ?_⟩
    · simpa [World.setCells] using k1
    · have e : ((W.alloc (.cells #[] 3)).setCells W.heap.size (0 + 0 * i0.size) []).frozen? ⟨W.heap.size, i, none⟩ = (W.alloc (.cells #[] 3)).frozen? ⟨W.heap.size, i, none⟩ := by simp [World.setCells]
      rw [e, frozen?_alloc_cells]
      simp [World.frozen?]
  · obtain ⟨b, off, rfl, hb, hc⟩ : ∃ b off, a = some ⟨b, off, none⟩ ∧ b < W.heap.size ∧ ∀ i, i < len → W.cell? ⟨b, off + i, none⟩ = some (.int .i64 (f i)) := by
      rcases h with ⟨_, h, _⟩ | ⟨_, _, h⟩ | h
      · omega
      · omega
      · exact h
    have src : Src Try.prog i0.size 47 (.slice (some ⟨b, off, none⟩) len cap) len ((List.range len).map fun i => Value.int .i64 (f i)) (W.alloc (.cells #[] 3)) := by
      refine Src.ofSlice _ Try.underlying47 _ len cap _ (by simp [hz1]) (fun j u hj => ?_) (fun u hu => by obtain ⟨i, _, rfl⟩ := List.mem_map.1 hu; rfl)
      have hjl : j < len := by have := (List.getElem?_eq_some_iff.1 hj).1; simpa using this
      have e : (Addr.add ⟨b, off, none⟩ j) = ⟨b, off + j, none⟩ := by unfold Addr.add; split <;> simp_all
      rw [e, World.cell?_alloc_past _ _ _ hb, hc j hjl]
      simpa [hjl] using hj
    have hold : (Builtin.firstCells i0.size 0 (.slice (some ⟨W.heap.size, 0, none⟩) 0 0)).run Try.prog (W.alloc (.cells #[] 3)).drew = .ok (([] : List Value).toArray) (W.alloc (.cells #[] 3)).drew := by
      exact run_firstCells_some _ i0.size 0 ⟨W.heap.size, 0, none⟩ 0 0 [] (by simp) (fun j u hj => by simp at hj)
    have hr := run_append_grow_src (P := Try.prog) (W.alloc (.cells #[] 3)) 47 47 ty 3 i0 (.int .i64 0) Try.underlying47 hi hz0 (some ⟨W.heap.size, 0, none⟩) 0 0 [] hold (.slice (some ⟨b, off, none⟩) len cap) len _ src (by omega) (by omega)
      (by rw [hz2]; have := growslice_fits (old := 0) (need := 0 + len) (bytes := 8) (by omega) (by omega); exact this)
    have hge := grownCap_ge (W.alloc (.cells #[] 3)) (0 + len) 0 3
    have hle := grownCap_le_maxLen (W.alloc (.cells #[] 3)) (0 + len) 0 3 (by unfold maxLen; omega)
    simp only [Nat.zero_add, List.nil_append, World.size_alloc] at hr hge hle
    refine ⟨_, _, _, hr, (k1.drew).alloc _ _, by omega, by simp [World.drew], hge, hle, fun i hi => ?_, fun i => ?_⟩
    · rw [cell_new _ _ _ (W.heap.size + 1) i (by simp), Array.getElem?_append_left (by simpa using hi)]
      simp [hi]
    · rw [frozen?_alloc_cells]
      simp [World.frozen?, World.drew]

theorem wpList_copy {ops : Array Oper} {rest : List Oper} {o : Oper} {A : Act} {Q : Exit → Act → World → Prop} (hg : o.guard = none) (s x : Operand)
    (ho : o.op = .call { callee := .builtin .append, args := #[s, x], argTypes := #[47, 47] })
    (W : World) (a : Option Addr) (len cap : Nat) (f : Nat → Int) (hr : Row W a len cap f) (hs : len ≤ 1000000) (e1 : A.eval s = .slice (some ⟨W.heap.size, 0, none⟩) 0 0) (e2 : A.eval x = .slice a len cap)
    (h : ∀ b C W', Kept W W' → Made W W' b len C f → wpList Try.prog ops Q rest (A.put o.dst (.slice (some ⟨b, 0, none⟩) len C)) W') :
    wpList Try.prog ops Q (o :: rest) A (W.alloc (.cells #[] 3)) := by
  refine wpList_plain hg fun K hK => ?_
  obtain ⟨b, C, W', hrun, hk, hm⟩ := copy_run o.type W a len cap f hr hs
  unfold Oper.wp execOp
  simp only [ho, resolve, invoke, builtin, Sem.run_bind, Sem.run_pure, Result.andThen_ok, List.map_toArray, List.map_cons, List.map_nil, e1, e2, hrun]
  exact hK _ _ (h b C W' hk hm)

def Reads (w : World) (a : Option Addr) (len : Nat) (f : Nat → Int) : Prop :=
  len = 0 ∨ ∃ b o, a = some ⟨b, o, none⟩ ∧ ∀ i, i < len → w.cell? ⟨b, o + i, none⟩ = some (.int .i64 (f i))
theorem Row.reads {w : World} {a : Option Addr} {len cap : Nat} {f : Nat → Int} (h : Row w a len cap f) : Reads w a len f := by
  rcases h.2.2.2 with h | ⟨_, _, h⟩ | ⟨b, o, h, _, hc⟩
  · exact .inl h.2.1
  · exact .inl h
  · exact .inr ⟨b, o, h, hc⟩
theorem Reads.kept {w w' : World} {a : Option Addr} {len : Nat} {f : Nat → Int} (h : Reads w a len f) (k : Kept w w') : Reads w' a len f := by
  rcases h with h | ⟨b, o, h, hc⟩
  · exact .inl h
  · exact .inr ⟨b, o, h, fun i hi => k.some (hc i hi)⟩
theorem Row.kept {w w' : World} {a : Option Addr} {len cap : Nat} {f : Nat → Int} (h : Row w a len cap f) (k : Kept w w') : Row w' a len cap f := by
  refine ⟨h.1, h.2.1, h.2.2.1, ?_⟩
  rcases h.2.2.2 with h | h | ⟨b, o, h, hb, hc⟩
  · exact .inl h
  · exact .inr (.inl h)
  · exact .inr (.inr ⟨b, o, h, Nat.lt_of_lt_of_le hb k.size, fun i hi => k.some (hc i hi)⟩)
theorem Made.reads {W w : World} {b len cap : Nat} {f : Nat → Int} (h : Made W w b len cap f) : Reads w (some ⟨b, 0, none⟩) len f :=
  .inr ⟨b, 0, rfl, fun i hi => by rw [Nat.zero_add]; exact h.cell i hi⟩
theorem Made.kept {W w w' : World} {b len cap : Nat} {f : Nat → Int} (h : Made W w b len cap f) (k : Kept w w') : Made W w' b len cap f :=
  ⟨h.new, Nat.lt_of_lt_of_le h.old k.size, h.room, h.most, fun i hi => k.some (h.cell i hi), fun i => k.soft h.old (h.soft i)⟩
theorem Made.row {W w : World} {b len cap : Nat} {f : Nat → Int} (h : Made W w b len cap f) (hn : Nums f len) : Row w (some ⟨b, 0, none⟩) len cap f :=
  ⟨hn, h.room, h.most, .inr (.inr ⟨b, 0, rfl, h.old, fun i hi => by rw [Nat.zero_add]; exact h.cell i hi⟩)⟩
end Go.Proofs.Ytmfbjlaajcdbnaa
