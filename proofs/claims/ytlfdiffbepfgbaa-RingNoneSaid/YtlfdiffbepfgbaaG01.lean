/- But S w w': the world w' is w with new blocks laid behind it, and with cells written in the blocks that S names; all other old blocks are as they were. For contracts of functions that write what they are handed. -/
import Derived.Test.YtlfdiffbepfgbaaG00
import Derived.Test.YtlfdiffbepfgbaaProg
import Derived.Deep.RegionHeld3
import Derived.Lib.Hide
import Derived.Deep.Light
import Derived.WalkLawsBesides
set_option linter.unusedVariables false
set_option linter.unusedSimpArgs false

namespace Go.Proofs.Ytlfdiffbepfgbaa
open Go.RowKit

structure But (S : Nat → Prop) (w w' : World) : Prop where
  os : w'.os = w.os
  tape : w'.tape = w.tape
  output : w'.output = w.output
  size : w.heap.size ≤ w'.heap.size
  block : ∀ k, k < w.heap.size → ¬ S k → w'.heap[k]? = w.heap[k]?
  froze : ∀ a, a.block < w.heap.size → w'.frozen? a = w.frozen? a

theorem Kept.but {w w' : World} (h : Kept w w') (S : Nat → Prop) : But S w w' :=
  ⟨h.below.os, h.below.tape, h.below.output, h.below.size, fun k hk _ => h.below.block k hk, h.froze⟩
theorem But.refl (S : Nat → Prop) (w : World) : But S w w := (Kept.refl w).but S
theorem But.mono {S T : Nat → Prop} {w w' : World} (h : But S w w') (hST : ∀ k, k < w.heap.size → S k → T k) : But T w w' :=
  ⟨h.os, h.tape, h.output, h.size, fun k hk hT => h.block k hk (fun hS => hT (hST k hk hS)), h.froze⟩
theorem But.trans {S T : Nat → Prop} {a b c : World} (h : But S a b) (k : But T b c) (hT : ∀ i, i < a.heap.size → T i → S i) : But S a c :=
  ⟨k.os.trans h.os, k.tape.trans h.tape, k.output.trans h.output, Nat.le_trans h.size k.size,
   fun i hi hS => (k.block i (Nat.lt_of_lt_of_le hi h.size) (fun ht => hS (hT i hi ht))).trans (h.block i hi hS), fun x hx => (k.froze x (Nat.lt_of_lt_of_le hx h.size)).trans (h.froze x hx)⟩
theorem But.then {S : Nat → Prop} {a b c : World} (h : But S a b) (k : Kept b c) : But S a c := h.trans (k.but S) (fun _ _ h => h)
theorem But.alloc {S : Nat → Prop} {a w : World} (h : But S a w) (c : Array Value) (t : TypeId) : But S a (w.alloc (.cells c t)) := h.then ((Kept.refl w).alloc c t)
theorem But.drew {S : Nat → Prop} {a w : World} (h : But S a w) : But S a w.drew := h.then (Kept.refl w).drew
theorem But.drewN {S : Nat → Prop} {a w : World} (h : But S a w) (n : Nat) : But S a (w.drewN n) := h.then ((Kept.refl w).drewN n)
theorem But.setCell {S : Nat → Prop} {a w : World} (h : But S a w) {p : Addr} (hp : S p.block ∨ a.heap.size ≤ p.block) (v : Value) : But S a (w.setCell p v) :=
  ⟨h.os, h.tape, h.output, by simpa using h.size, fun k hk hS => by
    rw [Below.heap_setCell _ _ _ _ (by
      rcases hp with hp | hp
      · intro e; subst e; exact hS hp
      · omega)]
    exact h.block k hk hS, fun x hx => (World.frozen?_setCell _ _ _ _).trans (h.froze x hx)⟩
theorem But.cell {S : Nat → Prop} {w w' : World} (h : But S w w') (b o : Nat) (hb : b < w.heap.size) (hS : ¬ S b) : w'.cell? ⟨b, o, none⟩ = w.cell? ⟨b, o, none⟩ :=
  World.cell?_of_block (w := w) (h.block b hb hS)
theorem But.some {S : Nat → Prop} {w w' : World} (h : But S w w') {b o : Nat} {v : Value} (hc : w.cell? ⟨b, o, none⟩ = Option.some v) (hS : ¬ S b) : w'.cell? ⟨b, o, none⟩ = Option.some v := by
  rw [h.cell b o (lt_of_cell hc) hS]; exact hc
theorem But.soft {S : Nat → Prop} {w w' : World} (h : But S w w') {b i : Nat} (hb : b < w.heap.size) (hf : w.frozen? ⟨b, i, none⟩ = false) : w'.frozen? ⟨b, i, none⟩ = false := (h.froze ⟨b, i, none⟩ hb).trans hf
theorem But.kept {S : Nat → Prop} {w w' : World} (h : But S w w') (hS : ∀ k, k < w.heap.size → ¬ S k) : Kept w w' :=
  ⟨⟨h.os, h.tape, h.output, h.size, fun k hk => h.block k hk (hS k hk)⟩⟩

theorem cell_set (w : World) (b o o' : Nat) (v : Value) : (w.setCell ⟨b, o, none⟩ v).cell? ⟨b, o', none⟩ = if o = o' then (w.cell? ⟨b, o', none⟩).map (fun _ => v) else w.cell? ⟨b, o', none⟩ := by
  by_cases h : o = o'
  · subst h
    rw [if_pos rfl]
    cases hc : w.cell? ⟨b, o, none⟩ with
    | some u => exact World.cell?_setCell_same _ _ _ hc
    | none =>
      simp only [World.cell?, World.setCell, Array.getElem?_modify] at *
      cases hh : w.heap[b]? with
      | none => simp
      | some x =>
        cases x <;> simp_all
  · rw [if_neg h]
    exact World.cell?_setCell_other _ _ _ _ (by intro e; injection e; contradiction)
theorem cell_set_far (w : World) (b b' o o' : Nat) (v : Value) (h : b ≠ b') : (w.setCell ⟨b, o, none⟩ v).cell? ⟨b', o', none⟩ = w.cell? ⟨b', o', none⟩ :=
  World.cell?_setCell_other _ _ _ _ (by intro e; injection e; contradiction)
theorem cell_set_far' (w : World) (b b' o o' : Nat) (v : Value) (h : b' ≠ b) : (w.setCell ⟨b, o, none⟩ v).cell? ⟨b', o', none⟩ = w.cell? ⟨b', o', none⟩ :=
  cell_set_far _ _ _ _ _ _ (Ne.symm h)
theorem But.here {b : Nat} {a w : World} (h : But (fun k => k = b) a w) (o : Nat) (v : Value) : But (fun k => k = b) a (w.setCell ⟨b, o, none⟩ v) := h.setCell (p := ⟨b, o, none⟩) (Or.inl rfl) v
theorem cell_new (w : World) (C : Array Value) (t : TypeId) (n i : Nat) (h : n = w.heap.size) : (w.alloc (.cells C t)).cell? ⟨n, i, none⟩ = C[i]? := by
  subst h; simp
end Go.Proofs.Ytlfdiffbepfgbaa

namespace Go.Proofs.Ytlfdiffbepfgbaa.Wo
set_option maxRecDepth 20000
open Go.RowKit

theorem exists_nil (w : World) : Calls Try.prog 79 #[.pointer none] w fun e w' => e = .returned (.bool false) ∧ w = w' := by
  go_enter Try.func79, Try.ntmps79
  go_wp2
  go_ret
  exact ⟨rfl, rfl⟩
theorem exists_at (a : Addr) (w : World) : Calls Try.prog 79 #[.pointer (some a)] w fun e w' => e = .returned (.bool true) ∧ w = w' := by
  go_enter Try.func79, Try.ntmps79
  go_wp2
  go_ret
  exact ⟨rfl, rfl⟩
theorem word_nil (w : World) : Calls Try.prog 63 #[.pointer none] w fun e w' => e = .returned (.int .u64 0) ∧ w = w' := by
  go_enter Try.func63, Try.ntmps63
  go_wp2_with fail
  refine (exists_nil _).mono ?_
  rintro e w' ⟨rfl, rfl⟩
  go_wp2
  go_ret
  exact ⟨rfl, rfl⟩
theorem word_at (b o : Nat) (x : Int) (w : World) (hc : w.cell? ⟨b, o, none⟩ = some (.int .u64 x)) : Calls Try.prog 63 #[.pointer (some ⟨b, o, none⟩)] w fun e w' => e = .returned (.int .u64 x) ∧ w = w' := by
  go_enter Try.func63, Try.ntmps63
  go_wp2_with fail
  refine (exists_at _ _).mono ?_
  rintro e w' ⟨rfl, rfl⟩
  go_wp2
  go_ret
  exact ⟨rfl, rfl⟩

set_option maxHeartbeats 1000000 in
theorem keep_nil (o n : Int) (w : World) : Calls Try.prog 69 #[.agg #[.pointer none, .int .u64 o, .int .u64 n]] w fun e w' => e = .returned (.agg #[.int .i64 0, .int .i64 0, .int .u64 (0), .int .u64 (0), .bool false]) ∧ Kept w w' := by
  go_enter Try.func69, Try.ntmps69
  go_wp2_with fail
  refine (word_nil _).mono ?_
  rintro e w' ⟨rfl, rfl⟩
  go_wp2
  refine bodyPost_ret (v := (.agg #[.int .i64 0, .int .i64 0, .int .u64 (0), .int .u64 (0), .bool false])) (by simp [results, Try.results69, go_sem]) rfl ⟨rfl, ?_⟩
  (go_light; repeat (first | (with_reducible exact Kept.refl _) | (with_reducible assumption) | (with_reducible refine Kept.alloc ?_ _ _) | (with_reducible refine Kept.drew ?_) | (with_reducible refine Kept.drewN ?_ _) | ((with_reducible refine Kept.setCell ?_ ?_ _); rotate_left; focus (first | (simp; done) | (simp; omega))) | refine Kept.trans ?_ (by assumption)))
set_option maxHeartbeats 1000000 in
theorem keep_at (b i : Nat) (x o n : Int) (w : World) (hc : w.cell? ⟨b, i, none⟩ = some (.int .u64 x)) : Calls Try.prog 69 #[.agg #[.pointer (some ⟨b, i, none⟩), .int .u64 o, .int .u64 n]] w fun e w' => e = .returned (.agg #[.int .i64 0, .int .i64 0, .int .u64 (x), .int .u64 (x), .bool false]) ∧ Kept w w' := by
  have hb := lt_of_cell hc
  go_enter Try.func69, Try.ntmps69
  go_wp2_with fail
  refine (word_at b i x _ ?_).mono ?_
  · exact Kept.some (w := w) (by (go_light; repeat (first | (with_reducible exact Kept.refl _) | (with_reducible assumption) | (with_reducible refine Kept.alloc ?_ _ _) | (with_reducible refine Kept.drew ?_) | (with_reducible refine Kept.drewN ?_ _) | ((with_reducible refine Kept.setCell ?_ ?_ _); rotate_left; focus (first | (simp; done) | (simp; omega))) | refine Kept.trans ?_ (by assumption)))) hc
  rintro e w' ⟨rfl, rfl⟩
  go_wp2
  refine bodyPost_ret (v := (.agg #[.int .i64 0, .int .i64 0, .int .u64 (x), .int .u64 (x), .bool false])) (by simp [results, Try.results69, go_sem]) rfl ⟨rfl, ?_⟩
  (go_light; repeat (first | (with_reducible exact Kept.refl _) | (with_reducible assumption) | (with_reducible refine Kept.alloc ?_ _ _) | (with_reducible refine Kept.drew ?_) | (with_reducible refine Kept.drewN ?_ _) | ((with_reducible refine Kept.setCell ?_ ?_ _); rotate_left; focus (first | (simp; done) | (simp; omega))) | refine Kept.trans ?_ (by assumption)))

structure Wrote (b i : Nat) (v : Int) (w w' : World) : Prop where
  but : But (fun k => k = b) w w'
  cell : ∀ j, w'.cell? ⟨b, j, none⟩ = if j = i then some (.int .u64 v) else w.cell? ⟨b, j, none⟩

theorem Wrote.after {b i : Nat} {v : Int} {a w w' : World} (h : Wrote b i v w w') (k : Kept a w) (hb : b < a.heap.size) : Wrote b i v a w' :=
  ⟨(k.but _).trans h.but (fun _ _ h => h), fun j => by rw [h.cell, k.cell b j hb]⟩
theorem Wrote.then {b i : Nat} {v : Int} {w w' c : World} (h : Wrote b i v w w') (k : Kept w' c) (hb : b < w.heap.size) : Wrote b i v w c :=
  ⟨h.but.then k, fun j => by rw [k.cell b j (Nat.lt_of_lt_of_le hb h.but.size), h.cell]⟩
theorem Wrote.set {b i : Nat} {v : Int} {w w' : World} (h : Wrote b i v w w') (hb : b < w.heap.size) {p : Addr} (hp : w.heap.size ≤ p.block) (x : Value) : Wrote b i v w (w'.setCell p x) :=
  ⟨h.but.setCell (Or.inr hp) x, fun j => by rw [World.cell?_setCell_other _ _ _ _ (by intro e; subst e; exact absurd hp (by simp; omega)), h.cell]⟩
theorem Wrote.mk' {b i : Nat} {x v : Int} {w : World} (hc : w.cell? ⟨b, i, none⟩ = some (.int .u64 x)) : Wrote b i v w (w.setCell ⟨b, i, none⟩ (.int .u64 v)) :=
  ⟨(But.refl (fun k => k = b) w).setCell (p := ⟨b, i, none⟩) (Or.inl rfl) _, fun j => by
    rw [cell_set]
    by_cases h : i = j
    · subst h; rw [if_pos rfl, if_pos rfl, hc]; rfl
    · rw [if_neg h, if_neg (fun e => h e.symm)]⟩

set_option maxHeartbeats 1000000 in
theorem write_nil (o n v : Int) (w : World) : Calls Try.prog 78 #[.agg #[.pointer none, .int .u64 o, .int .u64 n], .int .u64 v] w fun e w' => e = .returned (.agg #[.int .i64 0, .int .i64 0, .int .u64 (0), .int .u64 (0), .bool false]) ∧ Kept w w' := by
  go_enter Try.func78, Try.ntmps78
  go_wp2_with fail
  refine (exists_nil _).mono ?_
  rintro e w' ⟨rfl, rfl⟩
  go_wp2_with fail
  refine (keep_nil _ _ _).mono ?_
  rintro e w' ⟨rfl, k⟩
  have hc := k.cell
  have hfr := k.froze
  have hz := k.size
  simp at hz
  have hz1 : w.heap.size < w'.heap.size := by omega
  have hz2 : w.heap.size + 1 < w'.heap.size := by omega
  clear hz
  go_wp2
  refine bodyPost_ret (v := (.agg #[.int .i64 0, .int .i64 0, .int .u64 (0), .int .u64 (0), .bool false])) (by simp [results, Try.results78, go_sem, hc]) rfl ⟨rfl, ?_⟩
  (go_light; repeat (first | (with_reducible exact Kept.refl _) | (with_reducible assumption) | (with_reducible refine Kept.alloc ?_ _ _) | (with_reducible refine Kept.drew ?_) | (with_reducible refine Kept.drewN ?_ _) | ((with_reducible refine Kept.setCell ?_ ?_ _); rotate_left; focus (first | (simp; done) | (simp; omega))) | refine Kept.trans ?_ (by assumption)))
set_option maxHeartbeats 1000000 in
theorem write_at (b i : Nat) (x o n v : Int) (w : World) (hc : w.cell? ⟨b, i, none⟩ = some (.int .u64 x)) (hf : w.frozen? ⟨b, i, none⟩ = false) : Calls Try.prog 78 #[.agg #[.pointer (some ⟨b, i, none⟩), .int .u64 o, .int .u64 n], .int .u64 v] w fun e w' => e = .returned (.agg #[.int .i64 0, .int .i64 0, .int .u64 (x), .int .u64 (v), .bool true]) ∧ Wrote b i v w w' := by
  have hb := lt_of_cell hc
  go_enter Try.func78, Try.ntmps78
  go_wp2_with fail
  refine (exists_at _ _).mono ?_
  rintro e w' ⟨rfl, rfl⟩
  go_wp2_with fail
  refine (word_at b i x _ ?_).mono ?_
  · exact Kept.some (w := w) (by (go_light; repeat (first | (with_reducible exact Kept.refl _) | (with_reducible assumption) | (with_reducible refine Kept.alloc ?_ _ _) | (with_reducible refine Kept.drew ?_) | (with_reducible refine Kept.drewN ?_ _) | ((with_reducible refine Kept.setCell ?_ ?_ _); rotate_left; focus (first | (simp; done) | (simp; omega))) | refine Kept.trans ?_ (by assumption)))) hc
  rintro e w' ⟨rfl, rfl⟩
  go_wp2
  refine bodyPost_ret (v := (.agg #[.int .i64 0, .int .i64 0, .int .u64 (x), .int .u64 (v), .bool true])) (by simp [results, Try.results78, go_sem]) rfl ⟨rfl, ?_⟩
  go_light
  refine Wrote.then (Wrote.mk' hc) ?_ hb
  (go_light; repeat (first | (with_reducible exact Kept.refl _) | (with_reducible assumption) | (with_reducible refine Kept.alloc ?_ _ _) | (with_reducible refine Kept.drew ?_) | (with_reducible refine Kept.drewN ?_ _) | ((with_reducible refine Kept.setCell ?_ ?_ _); rotate_left; focus (first | (simp; done) | (simp; omega))) | refine Kept.trans ?_ (by assumption)))
set_option maxHeartbeats 1000000 in
theorem load_nil (o n : Int) (w : World) : Calls Try.prog 50 #[.agg #[.pointer none, .int .u64 o, .int .u64 n]] w fun e w' => e = .returned (.agg #[.int .i64 0, .int .i64 0, .int .u64 (0), .int .u64 (0), .bool false]) ∧ Kept w w' := by
  go_enter Try.func50, Try.ntmps50
  go_wp2_with fail
  refine (keep_nil _ _ _).mono ?_
  rintro e w' ⟨rfl, k⟩
  have k1 := k
  have hcc := k.cell
  have hfr := k.froze
  have hz := k.size
  simp at hz
  have hz1 : w.heap.size < w'.heap.size := by omega
  have hz2 : w.heap.size + 1 < w'.heap.size := by omega
  clear hz k
  go_wp2
  refine bodyPost_ret (v := (.agg #[.int .i64 0, .int .i64 0, .int .u64 (0), .int .u64 (0), .bool false])) (by simp [results, Try.results50, go_sem, hcc]) rfl ⟨rfl, ?_⟩
  (go_light; repeat (first | (with_reducible exact Kept.refl _) | (with_reducible assumption) | (with_reducible refine Kept.alloc ?_ _ _) | (with_reducible refine Kept.drew ?_) | (with_reducible refine Kept.drewN ?_ _) | ((with_reducible refine Kept.setCell ?_ ?_ _); rotate_left; focus (first | (simp; done) | (simp; omega))) | refine Kept.trans ?_ (by assumption)))
set_option maxHeartbeats 1000000 in
theorem load_at (b i : Nat) (x o n : Int) (w : World) (hc : w.cell? ⟨b, i, none⟩ = some (.int .u64 x)) : Calls Try.prog 50 #[.agg #[.pointer (some ⟨b, i, none⟩), .int .u64 o, .int .u64 n]] w fun e w' => e = .returned (.agg #[.int .i64 0, .int .i64 0, .int .u64 (x), .int .u64 (x), .bool false]) ∧ Kept w w' := by
  go_enter Try.func50, Try.ntmps50
  go_wp2_with fail
  refine (keep_at b i x _ _ _ ?_).mono ?_
  · exact Kept.some (w := w) (by (go_light; repeat (first | (with_reducible exact Kept.refl _) | (with_reducible assumption) | (with_reducible refine Kept.alloc ?_ _ _) | (with_reducible refine Kept.drew ?_) | (with_reducible refine Kept.drewN ?_ _) | ((with_reducible refine Kept.setCell ?_ ?_ _); rotate_left; focus (first | (simp; done) | (simp; omega))) | refine Kept.trans ?_ (by assumption)))) hc
  rintro e w' ⟨rfl, k⟩
  have k1 := k
  have hcc := k.cell
  have hfr := k.froze
  have hz := k.size
  simp at hz
  have hz1 : w.heap.size < w'.heap.size := by omega
  have hz2 : w.heap.size + 1 < w'.heap.size := by omega
  clear hz k
  go_wp2
  refine bodyPost_ret (v := (.agg #[.int .i64 0, .int .i64 0, .int .u64 (x), .int .u64 (x), .bool false])) (by simp [results, Try.results50, go_sem, hcc]) rfl ⟨rfl, ?_⟩
  (go_light; repeat (first | (with_reducible exact Kept.refl _) | (with_reducible assumption) | (with_reducible refine Kept.alloc ?_ _ _) | (with_reducible refine Kept.drew ?_) | (with_reducible refine Kept.drewN ?_ _) | ((with_reducible refine Kept.setCell ?_ ?_ _); rotate_left; focus (first | (simp; done) | (simp; omega))) | refine Kept.trans ?_ (by assumption)))
set_option maxHeartbeats 1000000 in
theorem store_nil (o n : Int) (w : World) : Calls Try.prog 62 #[.agg #[.pointer none, .int .u64 o, .int .u64 n]] w fun e w' => e = .returned (.agg #[.int .i64 0, .int .i64 0, .int .u64 (0), .int .u64 (0), .bool false]) ∧ Kept w w' := by
  go_enter Try.func62, Try.ntmps62
  go_wp2_with fail
  refine (write_nil _ _ _ _).mono ?_
  rintro e w' ⟨rfl, k⟩
  have c0 : w'.cell? ⟨w.heap.size + 1, 0, none⟩ = some (.int .i64 0) := k.some (by simp)
  have c1 : w'.cell? ⟨w.heap.size + 1, 1, none⟩ = some (.int .i64 0) := k.some (by simp)
  have c2 : w'.cell? ⟨w.heap.size + 1, 2, none⟩ = some (.int .u64 0) := k.some (by simp)
  have c3 : w'.cell? ⟨w.heap.size + 1, 3, none⟩ = some (.int .u64 0) := k.some (by simp)
  have c4 : w'.cell? ⟨w.heap.size + 1, 4, none⟩ = some (.bool false) := k.some (by simp)
  have f0 : ∀ i, w'.frozen? ⟨w.heap.size + 1, i, none⟩ = false := fun i => by rw [k.froze]; simp
  have K := Lib.hid k
  clear k
  go_wp2
  refine bodyPost_ret (v := (.agg #[.int .i64 0, .int .i64 0, .int .u64 (0), .int .u64 (0), .bool false])) (by simp [results, Try.results62, go_sem, cell_set, *]) rfl ⟨rfl, ?_⟩
  have k := K.out
  (go_light; repeat (first | (with_reducible exact Kept.refl _) | (with_reducible assumption) | (with_reducible refine Kept.alloc ?_ _ _) | (with_reducible refine Kept.drew ?_) | (with_reducible refine Kept.drewN ?_ _) | ((with_reducible refine Kept.setCell ?_ ?_ _); rotate_left; focus (first | (simp; done) | (simp; omega))) | refine Kept.trans ?_ (by assumption)))
set_option maxHeartbeats 1000000 in
theorem store_at (b i : Nat) (x o n : Int) (w : World) (hc : w.cell? ⟨b, i, none⟩ = some (.int .u64 x)) (hf : w.frozen? ⟨b, i, none⟩ = false) : Calls Try.prog 62 #[.agg #[.pointer (some ⟨b, i, none⟩), .int .u64 o, .int .u64 n]] w fun e w' => e = .returned (.agg #[.int .i64 0, .int .i64 0, .int .u64 (x), .int .u64 (n), .bool true]) ∧ Wrote b i n w w' := by
  have hb := lt_of_cell hc
  go_enter Try.func62, Try.ntmps62
  go_wp2_with fail
  refine (write_at b i x _ _ _ _ ?_ ?_).mono ?_
  · exact Kept.some (w := w) (by (go_light; repeat (first | (with_reducible exact Kept.refl _) | (with_reducible assumption) | (with_reducible refine Kept.alloc ?_ _ _) | (with_reducible refine Kept.drew ?_) | (with_reducible refine Kept.drewN ?_ _) | ((with_reducible refine Kept.setCell ?_ ?_ _); rotate_left; focus (first | (simp; done) | (simp; omega))) | refine Kept.trans ?_ (by assumption)))) hc
  · rw [Kept.froze (w := w) (by (go_light; repeat (first | (with_reducible exact Kept.refl _) | (with_reducible assumption) | (with_reducible refine Kept.alloc ?_ _ _) | (with_reducible refine Kept.drew ?_) | (with_reducible refine Kept.drewN ?_ _) | ((with_reducible refine Kept.setCell ?_ ?_ _); rotate_left; focus (first | (simp; done) | (simp; omega))) | refine Kept.trans ?_ (by assumption))))]; exact hf
  rintro e w' ⟨rfl, k⟩
  have c0 : w'.cell? ⟨w.heap.size + 1, 0, none⟩ = some (.int .i64 0) := k.but.some (by simp) (by omega)
  have c1 : w'.cell? ⟨w.heap.size + 1, 1, none⟩ = some (.int .i64 0) := k.but.some (by simp) (by omega)
  have c2 : w'.cell? ⟨w.heap.size + 1, 2, none⟩ = some (.int .u64 0) := k.but.some (by simp) (by omega)
  have c3 : w'.cell? ⟨w.heap.size + 1, 3, none⟩ = some (.int .u64 0) := k.but.some (by simp) (by omega)
  have c4 : w'.cell? ⟨w.heap.size + 1, 4, none⟩ = some (.bool false) := k.but.some (by simp) (by omega)
  have f0 : ∀ i, w'.frozen? ⟨w.heap.size + 1, i, none⟩ = false := fun i => by rw [k.but.froze]; simp
  have K := Lib.hid k
  clear k
  go_wp2
  refine bodyPost_ret (v := (.agg #[.int .i64 0, .int .i64 0, .int .u64 (x), .int .u64 (n), .bool true])) (by simp [results, Try.results62, go_sem, cell_set, *]) rfl ⟨rfl, ?_⟩
  have k := K.out
  go_light
  repeat ((with_reducible refine Wrote.set ?_ hb ?_ _); rotate_left; focus (simp; done))
  refine Wrote.after k ?_ hb
  (go_light; repeat (first | (with_reducible exact Kept.refl _) | (with_reducible assumption) | (with_reducible refine Kept.alloc ?_ _ _) | (with_reducible refine Kept.drew ?_) | (with_reducible refine Kept.drewN ?_ _) | ((with_reducible refine Kept.setCell ?_ ?_ _); rotate_left; focus (first | (simp; done) | (simp; omega))) | refine Kept.trans ?_ (by assumption)))
set_option maxHeartbeats 1000000 in
theorem swap_nil (o n : Int) (w : World) : Calls Try.prog 94 #[.agg #[.pointer none, .int .u64 o, .int .u64 n]] w fun e w' => e = .returned (.agg #[.int .i64 0, .int .i64 0, .int .u64 (0), .int .u64 (0), .bool false]) ∧ Kept w w' := by
  by_cases ho : o = 0
  · subst ho
    go_enter Try.func94, Try.ntmps94
    go_wp2_with fail
    go_region_held3 (fun w' => w'.cell? ⟨w.heap.size, 0, none⟩ = some (.pointer none) ∧ w'.cell? ⟨w.heap.size, 1, none⟩ = some (.int .u64 0) ∧ w'.cell? ⟨w.heap.size, 2, none⟩ = some (.int .u64 n)) (first | go_keep | assumption) (first | (go_at_call 63; refine (word_nil _).mono ?_; rintro e w' ⟨rfl, rfl⟩))
    go_wp2_with fail
    refine (write_nil _ _ _ _).mono ?_
    rintro e w' ⟨rfl, k⟩
    have c0 : w'.cell? ⟨w.heap.size + 1, 0, none⟩ = some (.int .i64 0) := k.some (by simp)
    have c1 : w'.cell? ⟨w.heap.size + 1, 1, none⟩ = some (.int .i64 0) := k.some (by simp)
    have c2 : w'.cell? ⟨w.heap.size + 1, 2, none⟩ = some (.int .u64 0) := k.some (by simp)
    have c3 : w'.cell? ⟨w.heap.size + 1, 3, none⟩ = some (.int .u64 0) := k.some (by simp)
    have c4 : w'.cell? ⟨w.heap.size + 1, 4, none⟩ = some (.bool false) := k.some (by simp)
    have f0 : ∀ i, w'.frozen? ⟨w.heap.size + 1, i, none⟩ = false := fun i => by rw [k.froze]; simp
    have K := Lib.hid k
    clear k
    go_wp2
    refine bodyPost_ret (v := (.agg #[.int .i64 0, .int .i64 0, .int .u64 (0), .int .u64 (0), .bool false])) (by simp [results, Try.results94, go_sem, cell_set, *]) rfl ⟨rfl, ?_⟩
    have k := K.out
    (go_light; repeat (first | (with_reducible exact Kept.refl _) | (with_reducible assumption) | (with_reducible refine Kept.alloc ?_ _ _) | (with_reducible refine Kept.drew ?_) | (with_reducible refine Kept.drewN ?_ _) | ((with_reducible refine Kept.setCell ?_ ?_ _); rotate_left; focus (first | (simp; done) | (simp; omega))) | refine Kept.trans ?_ (by assumption)))
  · have hq : ((0 : Int) != o) = true := by simp; omega
    go_enter Try.func94, Try.ntmps94
    go_wp2_with fail
    go_region_held3 (fun w' => w'.cell? ⟨w.heap.size, 0, none⟩ = some (.pointer none) ∧ w'.cell? ⟨w.heap.size, 1, none⟩ = some (.int .u64 o) ∧ w'.cell? ⟨w.heap.size, 2, none⟩ = some (.int .u64 n)) (first | go_keep | assumption) (first | (go_at_call 63; refine (word_nil _).mono ?_; rintro e w' ⟨rfl, rfl⟩))
    go_wp2_with fail
    refine (keep_nil _ _ _).mono ?_
    rintro e w' ⟨rfl, k⟩
    have c0 : w'.cell? ⟨w.heap.size + 1, 0, none⟩ = some (.int .i64 0) := k.some (by simp)
    have c1 : w'.cell? ⟨w.heap.size + 1, 1, none⟩ = some (.int .i64 0) := k.some (by simp)
    have c2 : w'.cell? ⟨w.heap.size + 1, 2, none⟩ = some (.int .u64 0) := k.some (by simp)
    have c3 : w'.cell? ⟨w.heap.size + 1, 3, none⟩ = some (.int .u64 0) := k.some (by simp)
    have c4 : w'.cell? ⟨w.heap.size + 1, 4, none⟩ = some (.bool false) := k.some (by simp)
    have f0 : ∀ i, w'.frozen? ⟨w.heap.size + 1, i, none⟩ = false := fun i => by rw [k.froze]; simp
    have K := Lib.hid k
    clear k
    go_wp2
    refine bodyPost_ret (v := (.agg #[.int .i64 0, .int .i64 0, .int .u64 (0), .int .u64 (0), .bool false])) (by simp [results, Try.results94, go_sem, cell_set, *]) rfl ⟨rfl, ?_⟩
    have k := K.out
    (go_light; repeat (first | (with_reducible exact Kept.refl _) | (with_reducible assumption) | (with_reducible refine Kept.alloc ?_ _ _) | (with_reducible refine Kept.drew ?_) | (with_reducible refine Kept.drewN ?_ _) | ((with_reducible refine Kept.setCell ?_ ?_ _); rotate_left; focus (first | (simp; done) | (simp; omega))) | refine Kept.trans ?_ (by assumption)))
set_option maxHeartbeats 1000000 in
theorem swap_no (b i : Nat) (x o n : Int) (w : World) (hc : w.cell? ⟨b, i, none⟩ = some (.int .u64 x)) (hq : (x != o) = true) : Calls Try.prog 94 #[.agg #[.pointer (some ⟨b, i, none⟩), .int .u64 o, .int .u64 n]] w fun e w' => e = .returned (.agg #[.int .i64 0, .int .i64 0, .int .u64 (x), .int .u64 (x), .bool false]) ∧ Kept w w' := by
  have hb := lt_of_cell hc
  go_enter Try.func94, Try.ntmps94
  go_wp2_with fail
  go_region_held3 (fun w' => w'.cell? ⟨w.heap.size, 0, none⟩ = some (.pointer (some ⟨b, i, none⟩)) ∧ w'.cell? ⟨w.heap.size, 1, none⟩ = some (.int .u64 o) ∧ w'.cell? ⟨w.heap.size, 2, none⟩ = some (.int .u64 n)) (first | go_keep | assumption) (first | (go_at_call 63; refine (word_at b i x _ (Kept.some (w := w) (by (go_light; repeat (first | (with_reducible exact Kept.refl _) | (with_reducible assumption) | (with_reducible refine Kept.alloc ?_ _ _) | (with_reducible refine Kept.drew ?_) | (with_reducible refine Kept.drewN ?_ _) | ((with_reducible refine Kept.setCell ?_ ?_ _); rotate_left; focus (first | (simp; done) | (simp; omega))) | refine Kept.trans ?_ (by assumption)))) hc)).mono ?_; rintro e w' ⟨rfl, rfl⟩))
  go_wp2_with fail
  refine (keep_at b i x _ _ _ ?_).mono ?_
  · exact Kept.some (w := w) (by (go_light; repeat (first | (with_reducible exact Kept.refl _) | (with_reducible assumption) | (with_reducible refine Kept.alloc ?_ _ _) | (with_reducible refine Kept.drew ?_) | (with_reducible refine Kept.drewN ?_ _) | ((with_reducible refine Kept.setCell ?_ ?_ _); rotate_left; focus (first | (simp; done) | (simp; omega))) | refine Kept.trans ?_ (by assumption)))) hc
  rintro e w' ⟨rfl, k⟩
  have c0 : w'.cell? ⟨w.heap.size + 1, 0, none⟩ = some (.int .i64 0) := k.some (by simp)
  have c1 : w'.cell? ⟨w.heap.size + 1, 1, none⟩ = some (.int .i64 0) := k.some (by simp)
  have c2 : w'.cell? ⟨w.heap.size + 1, 2, none⟩ = some (.int .u64 0) := k.some (by simp)
  have c3 : w'.cell? ⟨w.heap.size + 1, 3, none⟩ = some (.int .u64 0) := k.some (by simp)
  have c4 : w'.cell? ⟨w.heap.size + 1, 4, none⟩ = some (.bool false) := k.some (by simp)
  have f0 : ∀ i, w'.frozen? ⟨w.heap.size + 1, i, none⟩ = false := fun i => by rw [k.froze]; simp
  have K := Lib.hid k
  clear k
  go_wp2
  refine bodyPost_ret (v := (.agg #[.int .i64 0, .int .i64 0, .int .u64 (x), .int .u64 (x), .bool false])) (by simp [results, Try.results94, go_sem, cell_set, *]) rfl ⟨rfl, ?_⟩
  have k := K.out
  (go_light; repeat (first | (with_reducible exact Kept.refl _) | (with_reducible assumption) | (with_reducible refine Kept.alloc ?_ _ _) | (with_reducible refine Kept.drew ?_) | (with_reducible refine Kept.drewN ?_ _) | ((with_reducible refine Kept.setCell ?_ ?_ _); rotate_left; focus (first | (simp; done) | (simp; omega))) | refine Kept.trans ?_ (by assumption)))
set_option maxHeartbeats 1000000 in
theorem swap_yes (b i : Nat) (x n : Int) (w : World) (hc : w.cell? ⟨b, i, none⟩ = some (.int .u64 x)) (hf : w.frozen? ⟨b, i, none⟩ = false) : Calls Try.prog 94 #[.agg #[.pointer (some ⟨b, i, none⟩), .int .u64 x, .int .u64 n]] w fun e w' => e = .returned (.agg #[.int .i64 0, .int .i64 0, .int .u64 (x), .int .u64 (n), .bool true]) ∧ Wrote b i n w w' := by
  have hb := lt_of_cell hc
  go_enter Try.func94, Try.ntmps94
  go_wp2_with fail
  go_region_held3 (fun w' => w'.cell? ⟨w.heap.size, 0, none⟩ = some (.pointer (some ⟨b, i, none⟩)) ∧ w'.cell? ⟨w.heap.size, 1, none⟩ = some (.int .u64 x) ∧ w'.cell? ⟨w.heap.size, 2, none⟩ = some (.int .u64 n)) (first | go_keep | assumption) (first | (go_at_call 63; refine (word_at b i x _ (Kept.some (w := w) (by (go_light; repeat (first | (with_reducible exact Kept.refl _) | (with_reducible assumption) | (with_reducible refine Kept.alloc ?_ _ _) | (with_reducible refine Kept.drew ?_) | (with_reducible refine Kept.drewN ?_ _) | ((with_reducible refine Kept.setCell ?_ ?_ _); rotate_left; focus (first | (simp; done) | (simp; omega))) | refine Kept.trans ?_ (by assumption)))) hc)).mono ?_; rintro e w' ⟨rfl, rfl⟩))
  go_wp2_with fail
  refine (write_at b i x _ _ _ _ ?_ ?_).mono ?_
  · exact Kept.some (w := w) (by (go_light; repeat (first | (with_reducible exact Kept.refl _) | (with_reducible assumption) | (with_reducible refine Kept.alloc ?_ _ _) | (with_reducible refine Kept.drew ?_) | (with_reducible refine Kept.drewN ?_ _) | ((with_reducible refine Kept.setCell ?_ ?_ _); rotate_left; focus (first | (simp; done) | (simp; omega))) | refine Kept.trans ?_ (by assumption)))) hc
  · rw [Kept.froze (w := w) (by (go_light; repeat (first | (with_reducible exact Kept.refl _) | (with_reducible assumption) | (with_reducible refine Kept.alloc ?_ _ _) | (with_reducible refine Kept.drew ?_) | (with_reducible refine Kept.drewN ?_ _) | ((with_reducible refine Kept.setCell ?_ ?_ _); rotate_left; focus (first | (simp; done) | (simp; omega))) | refine Kept.trans ?_ (by assumption))))]; exact hf
  rintro e w' ⟨rfl, k⟩
  have c0 : w'.cell? ⟨w.heap.size + 1, 0, none⟩ = some (.int .i64 0) := k.but.some (by simp) (by omega)
  have c1 : w'.cell? ⟨w.heap.size + 1, 1, none⟩ = some (.int .i64 0) := k.but.some (by simp) (by omega)
  have c2 : w'.cell? ⟨w.heap.size + 1, 2, none⟩ = some (.int .u64 0) := k.but.some (by simp) (by omega)
  have c3 : w'.cell? ⟨w.heap.size + 1, 3, none⟩ = some (.int .u64 0) := k.but.some (by simp) (by omega)
  have c4 : w'.cell? ⟨w.heap.size + 1, 4, none⟩ = some (.bool false) := k.but.some (by simp) (by omega)
  have f0 : ∀ i, w'.frozen? ⟨w.heap.size + 1, i, none⟩ = false := fun i => by rw [k.but.froze]; simp
  have K := Lib.hid k
  clear k
  go_wp2
  refine bodyPost_ret (v := (.agg #[.int .i64 0, .int .i64 0, .int .u64 (x), .int .u64 (n), .bool true])) (by simp [results, Try.results94, go_sem, cell_set, *]) rfl ⟨rfl, ?_⟩
  have k := K.out
  go_light
  repeat ((with_reducible refine Wrote.set ?_ hb ?_ _); rotate_left; focus (simp; done))
  refine Wrote.after k ?_ hb
  (go_light; repeat (first | (with_reducible exact Kept.refl _) | (with_reducible assumption) | (with_reducible refine Kept.alloc ?_ _ _) | (with_reducible refine Kept.drew ?_) | (with_reducible refine Kept.drewN ?_ _) | ((with_reducible refine Kept.setCell ?_ ?_ _); rotate_left; focus (first | (simp; done) | (simp; omega))) | refine Kept.trans ?_ (by assumption)))
end Go.Proofs.Ytlfdiffbepfgbaa.Wo

namespace Go.Proofs.Ytlfdiffbepfgbaa.Wo
set_option maxRecDepth 20000
open Go.RowKit

theorem infoWord : (Try.prog.info? 24).map (fun i => (i.zero, i.size, i.bytes)) = some (some (.int .u64 0), 1, 8) := by kernel_rfl

theorem make_words (n : Nat) (hn : n ≤ 1000000) : ∃ Z : Array Value, (∀ i, i < n → Z[i]? = some (.int .u64 0)) ∧
    ∀ w : World, (Instr.makeSlice 87 (.int .i64 (n : Int)) (.int .i64 (n : Int))).run Try.prog w = .ok (.slice (some ⟨w.heap.size, 0, none⟩) n n) (w.alloc (.cells Z 24)) := by
  obtain ⟨i0, hi, hz0, hz1, hz2⟩ := info_parts infoWord
  refine ⟨madeCells #[.int .u64 0] n, fun i h => ?_, fun w => ?_⟩
  · have e : (madeCells #[.int .u64 0] n)[i]? = (madeCells #[.int .u64 0] n).toList[i]? := by simp
    rw [e, toList_madeCells_one]
    simp [h]
  · have h := run_makeSlice (P := Try.prog) w 87 24 i0 (.int .u64 0) Try.underlying87 hi hz0 .i64 .i64 (n : Int) (n : Int) (by omega) (Int.le_refl _) (by rw [hz1]; omega) (by rw [hz2]; omega) (by omega)
    rw [h, hz1]
    simp [Value.cells]
end Go.Proofs.Ytlfdiffbepfgbaa.Wo

namespace Go.Proofs.Ytlfdiffbepfgbaa.Wo
set_option maxRecDepth 20000
open Go.RowKit

def St.zero : St := { ws := fun _ => 0, kind := 0, at_ := 0, old := 0, new := 0, held := false, cnt := 0 }

def NewPost (n : Nat) (w : World) (e : Ending) (w' : World) : Prop :=
  ∃ M B, e = .returned (.tuple #[.pointer (some ⟨M, 0, none⟩), .int .i64 0]) ∧ RefIs w' M B n St.zero ∧ w.heap.size ≤ M ∧ w.heap.size ≤ B ∧ M < w'.heap.size ∧ B < w'.heap.size ∧ Kept w w'

end Go.Proofs.Ytlfdiffbepfgbaa.Wo

namespace Go.Proofs.Ytlfdiffbepfgbaa.Wo
set_option maxRecDepth 20000
open Go.RowKit

theorem RefMem.frame {w w' : World} {M B n : Nat} {ws : Nat → Int} {k a o v c : Int} {h : Bool} (hm : RefMem w M B n ws k a o v h c) {T : Nat → Prop} (hb : But T w w') (hM : ¬ T M) (hB : ¬ T B) : RefMem w' M B n ws k a o v h c :=
  ⟨hb.some hm.c0 hM, hb.some hm.c1 hM, hb.some hm.c2 hM, hb.some hm.c3 hM, hb.some hm.c4 hM, hb.some hm.c5 hM, hb.some hm.c6 hM,
   fun i hi => hb.some (hm.words i hi) hB, fun i => (hb.froze _).trans (hm.fM i), fun i => (hb.froze _).trans (hm.fB i), hm.ne⟩
theorem RefIs.frame {w w' : World} {M B n : Nat} {s : St} (hm : RefIs w M B n s) {T : Nat → Prop} (hb : But T w w') (hM : ¬ T M) (hB : ¬ T B) : RefIs w' M B n s := RefMem.frame hm hb hM hB

def WordsPost (n : Nat) (s : St) (w : World) (e : Ending) (w' : World) : Prop :=
  ∃ b c, e = .returned (.slice (some ⟨b, 0, none⟩) n c) ∧ w.heap.size ≤ b ∧ b < w'.heap.size ∧ (∀ i, i < n → w'.cell? ⟨b, i, none⟩ = some (.int .u64 (s.ws i))) ∧ (∀ i, w'.frozen? ⟨b, i, none⟩ = false) ∧ Kept w w'

def MadePost (Is : World → Nat → (Nat → Prop) → Nat → St → Prop) (n : Nat) (s : St) (w : World) (e : Ending) (w' : World) : Prop :=
  ∃ M S, e = .returned (.tuple #[.pointer (some ⟨M, 0, none⟩), .int .i64 0]) ∧ Is w' M S n s ∧ (∀ k, S k → w.heap.size ≤ k ∧ k < w'.heap.size) ∧ Kept w w'

end Go.Proofs.Ytlfdiffbepfgbaa.Wo
