/- The program's accesses of one cell: what each does, and tells. A pointer that is nil is no cell. -/
import Derived.Test.YtejiogggocnldaaProg
import Derived.Test.YtejiogggocnldaaG00
import Derived.Deep.RegionHeld3
import Derived.Lib.Hide
import Derived.Deep.Light
import Derived.WalkLawsBesides
set_option linter.unusedVariables false
set_option linter.unusedSimpArgs false

namespace Go.Proofs.Ytejiogggocnldaa.Wo
set_option maxRecDepth 20000
open Go.RowKit

theorem exists_nil (w : World) : Calls Try.prog 110 #[.pointer none] w fun e w' => e = .returned (.bool false) ∧ w = w' := by
  go_enter Try.func110, Try.ntmps110
  go_wp2
  go_ret
  exact ⟨rfl, rfl⟩
theorem exists_at (a : Addr) (w : World) : Calls Try.prog 110 #[.pointer (some a)] w fun e w' => e = .returned (.bool true) ∧ w = w' := by
  go_enter Try.func110, Try.ntmps110
  go_wp2
  go_ret
  exact ⟨rfl, rfl⟩
theorem word_nil (w : World) : Calls Try.prog 81 #[.pointer none] w fun e w' => e = .returned (.int .u64 0) ∧ w = w' := by
  go_enter Try.func81, Try.ntmps81
  go_wp2_with fail
  refine (exists_nil _).mono ?_
  rintro e w' ⟨rfl, rfl⟩
  go_wp2
  go_ret
  exact ⟨rfl, rfl⟩
theorem word_at (b o : Nat) (x : Int) (w : World) (hc : w.cell? ⟨b, o, none⟩ = some (.int .u64 x)) : Calls Try.prog 81 #[.pointer (some ⟨b, o, none⟩)] w fun e w' => e = .returned (.int .u64 x) ∧ w = w' := by
  go_enter Try.func81, Try.ntmps81
  go_wp2_with fail
  refine (exists_at _ _).mono ?_
  rintro e w' ⟨rfl, rfl⟩
  go_wp2
  go_ret
  exact ⟨rfl, rfl⟩

set_option maxHeartbeats 1000000 in
theorem keep_nil (o n : Int) (w : World) : Calls Try.prog 103 #[.agg #[.pointer none, .int .u64 o, .int .u64 n]] w fun e w' => e = .returned (.agg #[.int .i64 0, .int .i64 0, .int .u64 (0), .int .u64 (0), .bool false]) ∧ Kept w w' := by
  go_enter Try.func103, Try.ntmps103
  go_wp2_with fail
  refine (word_nil _).mono ?_
  rintro e w' ⟨rfl, rfl⟩
  go_wp2
  refine bodyPost_ret (v := (.agg #[.int .i64 0, .int .i64 0, .int .u64 (0), .int .u64 (0), .bool false])) (by simp [results, Try.results103, go_sem]) rfl ⟨rfl, ?_⟩
  (go_light; repeat (first | (with_reducible exact Kept.refl _) | (with_reducible assumption) | (with_reducible refine Kept.alloc ?_ _ _) | (with_reducible refine Kept.drew ?_) | (with_reducible refine Kept.drewN ?_ _) | ((with_reducible refine Kept.setCell ?_ ?_ _); rotate_left; focus (first | (simp; done) | (simp; omega))) | refine Kept.trans ?_ (by assumption)))
set_option maxHeartbeats 1000000 in
theorem keep_at (b i : Nat) (x o n : Int) (w : World) (hc : w.cell? ⟨b, i, none⟩ = some (.int .u64 x)) : Calls Try.prog 103 #[.agg #[.pointer (some ⟨b, i, none⟩), .int .u64 o, .int .u64 n]] w fun e w' => e = .returned (.agg #[.int .i64 0, .int .i64 0, .int .u64 (x), .int .u64 (x), .bool false]) ∧ Kept w w' := by
  have hb := lt_of_cell hc
  go_enter Try.func103, Try.ntmps103
  go_wp2_with fail
  refine (word_at b i x _ ?_).mono ?_
  · exact Kept.some (w := w) (by (go_light; repeat (first | (with_reducible exact Kept.refl _) | (with_reducible assumption) | (with_reducible refine Kept.alloc ?_ _ _) | (with_reducible refine Kept.drew ?_) | (with_reducible refine Kept.drewN ?_ _) | ((with_reducible refine Kept.setCell ?_ ?_ _); rotate_left; focus (first | (simp; done) | (simp; omega))) | refine Kept.trans ?_ (by assumption)))) hc
  rintro e w' ⟨rfl, rfl⟩
  go_wp2
  refine bodyPost_ret (v := (.agg #[.int .i64 0, .int .i64 0, .int .u64 (x), .int .u64 (x), .bool false])) (by simp [results, Try.results103, go_sem]) rfl ⟨rfl, ?_⟩
  (go_light; repeat (first | (with_reducible exact Kept.refl _) | (with_reducible assumption) | (with_reducible refine Kept.alloc ?_ _ _) | (with_reducible refine Kept.drew ?_) | (with_reducible refine Kept.drewN ?_ _) | ((with_reducible refine Kept.setCell ?_ ?_ _); rotate_left; focus (first | (simp; done) | (simp; omega))) | refine Kept.trans ?_ (by assumption)))

structure Wrote (b i : Nat) (v : Int) (w w' : World) : Prop where
  but : But (fun k => k = b) w w'
  cell : ∀ j, w'.cell? ⟨b, j, none⟩ = if j = i then some (.int .u64 v) else w.cell? ⟨b, j, none⟩

theorem Wrote.after {b i : Nat} {v : Int} {a w w' : World} (h : Wrote b i v w w') (k : Kept a w) (hb : b < a.heap.size) : Wrote b i v a w' :=
  ⟨(k.but _).trans h.but (fun _ _ h => h), fun j => by rw [h.cell, k.cell b j hb]⟩
theorem Wrote.then {b i : Nat} {v : Int} {w w' c : World} (h : Wrote b i v w w') (k : Kept w' c) (hb : b < w.heap.size) : Wrote b i v w c :=
  ⟨h.but.then k, fun j => by rw [k.cell b j (Nat.lt_of_lt_of_le hb h.but.size), h.cell]⟩
theorem Wrote.set {b i : Nat} {v : Int} {w w' : World} (h : Wrote b i v w w') (hb : b < w.heap.size) {p : Addr} (hp : w.heap.size ≤ p.block) (x : Value) : Wrote b i v w (w'.setCell p x) :=
  ⟨h.but.setCell (Or.inr hp) x, fun j => by rw [World.cell?_setCell_other _ _ _ _ (by intro e; subst e; exact absurd hp (by simp; omega)), h.cell]⟩
theorem Wrote.mk' {b i : Nat} {x v : Int} {w : World} (hc : w.cell? ⟨b, i, none⟩ = some (.int .u64 x)) : Wrote b i v w (w.setCell ⟨b, i, none⟩ (.int .u64 v)) :=
  ⟨(But.refl (fun k => k = b) w).setCell (p := ⟨b, i, none⟩) (Or.inl rfl) _, fun j => by
    rw [cell_set]
    by_cases h : i = j
    · subst h; rw [if_pos rfl, if_pos rfl, hc]; rfl
    · rw [if_neg h, if_neg (fun e => h e.symm)]⟩

set_option maxHeartbeats 1000000 in
theorem write_nil (o n v : Int) (w : World) : Calls Try.prog 96 #[.agg #[.pointer none, .int .u64 o, .int .u64 n], .int .u64 v] w fun e w' => e = .returned (.agg #[.int .i64 0, .int .i64 0, .int .u64 (0), .int .u64 (0), .bool false]) ∧ Kept w w' := by
  go_enter Try.func96, Try.ntmps96
  go_wp2_with fail
  refine (exists_nil _).mono ?_
  rintro e w' ⟨rfl, rfl⟩
  go_wp2_with fail
  refine (keep_nil _ _ _).mono ?_
  rintro e w' ⟨rfl, k⟩
  have hc := k.cell
  have hfr := k.froze
  have hz := k.size
  simp at hz
  have hz1 : w.heap.size < w'.heap.size := by omega
  have hz2 : w.heap.size + 1 < w'.heap.size := by omega
  clear hz
  go_wp2
  refine bodyPost_ret (v := (.agg #[.int .i64 0, .int .i64 0, .int .u64 (0), .int .u64 (0), .bool false])) (by simp [results, Try.results96, go_sem, hc]) rfl ⟨rfl, ?_⟩
  (go_light; repeat (first | (with_reducible exact Kept.refl _) | (with_reducible assumption) | (with_reducible refine Kept.alloc ?_ _ _) | (with_reducible refine Kept.drew ?_) | (with_reducible refine Kept.drewN ?_ _) | ((with_reducible refine Kept.setCell ?_ ?_ _); rotate_left; focus (first | (simp; done) | (simp; omega))) | refine Kept.trans ?_ (by assumption)))
set_option maxHeartbeats 1000000 in
theorem write_at (b i : Nat) (x o n v : Int) (w : World) (hc : w.cell? ⟨b, i, none⟩ = some (.int .u64 x)) (hf : w.frozen? ⟨b, i, none⟩ = false) : Calls Try.prog 96 #[.agg #[.pointer (some ⟨b, i, none⟩), .int .u64 o, .int .u64 n], .int .u64 v] w fun e w' => e = .returned (.agg #[.int .i64 0, .int .i64 0, .int .u64 (x), .int .u64 (v), .bool true]) ∧ Wrote b i v w w' := by
  have hb := lt_of_cell hc
  go_enter Try.func96, Try.ntmps96
  go_wp2_with fail
  refine (exists_at _ _).mono ?_
  rintro e w' ⟨rfl, rfl⟩
  go_wp2_with fail
  refine (word_at b i x _ ?_).mono ?_
  · exact Kept.some (w := w) (by (go_light; repeat (first | (with_reducible exact Kept.refl _) | (with_reducible assumption) | (with_reducible refine Kept.alloc ?_ _ _) | (with_reducible refine Kept.drew ?_) | (with_reducible refine Kept.drewN ?_ _) | ((with_reducible refine Kept.setCell ?_ ?_ _); rotate_left; focus (first | (simp; done) | (simp; omega))) | refine Kept.trans ?_ (by assumption)))) hc
  rintro e w' ⟨rfl, rfl⟩
  go_wp2
  refine bodyPost_ret (v := (.agg #[.int .i64 0, .int .i64 0, .int .u64 (x), .int .u64 (v), .bool true])) (by simp [results, Try.results96, go_sem]) rfl ⟨rfl, ?_⟩
  go_light
  refine Wrote.then (Wrote.mk' hc) ?_ hb
  (go_light; repeat (first | (with_reducible exact Kept.refl _) | (with_reducible assumption) | (with_reducible refine Kept.alloc ?_ _ _) | (with_reducible refine Kept.drew ?_) | (with_reducible refine Kept.drewN ?_ _) | ((with_reducible refine Kept.setCell ?_ ?_ _); rotate_left; focus (first | (simp; done) | (simp; omega))) | refine Kept.trans ?_ (by assumption)))
set_option maxHeartbeats 1000000 in
theorem load_nil (o n : Int) (w : World) : Calls Try.prog 69 #[.agg #[.pointer none, .int .u64 o, .int .u64 n]] w fun e w' => e = .returned (.agg #[.int .i64 0, .int .i64 0, .int .u64 (0), .int .u64 (0), .bool false]) ∧ Kept w w' := by
  go_enter Try.func69, Try.ntmps69
  go_wp2_with fail
  refine (keep_nil _ _ _).mono ?_
  rintro e w' ⟨rfl, k⟩
  have k1 := k
  have hcc := k.cell
  have hfr := k.froze
  have hz := k.size
  simp at hz
  have hz1 : w.heap.size < w'.heap.size := by omega
  have hz2 : w.heap.size + 1 < w'.heap.size := by omega
  clear hz k
  go_wp2
  refine bodyPost_ret (v := (.agg #[.int .i64 0, .int .i64 0, .int .u64 (0), .int .u64 (0), .bool false])) (by simp [results, Try.results69, go_sem, hcc]) rfl ⟨rfl, ?_⟩
  (go_light; repeat (first | (with_reducible exact Kept.refl _) | (with_reducible assumption) | (with_reducible refine Kept.alloc ?_ _ _) | (with_reducible refine Kept.drew ?_) | (with_reducible refine Kept.drewN ?_ _) | ((with_reducible refine Kept.setCell ?_ ?_ _); rotate_left; focus (first | (simp; done) | (simp; omega))) | refine Kept.trans ?_ (by assumption)))
set_option maxHeartbeats 1000000 in
theorem load_at (b i : Nat) (x o n : Int) (w : World) (hc : w.cell? ⟨b, i, none⟩ = some (.int .u64 x)) : Calls Try.prog 69 #[.agg #[.pointer (some ⟨b, i, none⟩), .int .u64 o, .int .u64 n]] w fun e w' => e = .returned (.agg #[.int .i64 0, .int .i64 0, .int .u64 (x), .int .u64 (x), .bool false]) ∧ Kept w w' := by
  go_enter Try.func69, Try.ntmps69
  go_wp2_with fail
  refine (keep_at b i x _ _ _ ?_).mono ?_
  · exact Kept.some (w := w) (by (go_light; repeat (first | (with_reducible exact Kept.refl _) | (with_reducible assumption) | (with_reducible refine Kept.alloc ?_ _ _) | (with_reducible refine Kept.drew ?_) | (with_reducible refine Kept.drewN ?_ _) | ((with_reducible refine Kept.setCell ?_ ?_ _); rotate_left; focus (first | (simp; done) | (simp; omega))) | refine Kept.trans ?_ (by assumption)))) hc
  rintro e w' ⟨rfl, k⟩
  have k1 := k
  have hcc := k.cell
  have hfr := k.froze
  have hz := k.size
  simp at hz
  have hz1 : w.heap.size < w'.heap.size := by omega
  have hz2 : w.heap.size + 1 < w'.heap.size := by omega
  clear hz k
  go_wp2
  refine bodyPost_ret (v := (.agg #[.int .i64 0, .int .i64 0, .int .u64 (x), .int .u64 (x), .bool false])) (by simp [results, Try.results69, go_sem, hcc]) rfl ⟨rfl, ?_⟩
  (go_light; repeat (first | (with_reducible exact Kept.refl _) | (with_reducible assumption) | (with_reducible refine Kept.alloc ?_ _ _) | (with_reducible refine Kept.drew ?_) | (with_reducible refine Kept.drewN ?_ _) | ((with_reducible refine Kept.setCell ?_ ?_ _); rotate_left; focus (first | (simp; done) | (simp; omega))) | refine Kept.trans ?_ (by assumption)))
set_option maxHeartbeats 1000000 in
theorem store_nil (o n : Int) (w : World) : Calls Try.prog 64 #[.agg #[.pointer none, .int .u64 o, .int .u64 n]] w fun e w' => e = .returned (.agg #[.int .i64 0, .int .i64 0, .int .u64 (0), .int .u64 (0), .bool false]) ∧ Kept w w' := by
  go_enter Try.func64, Try.ntmps64
  go_wp2_with fail
  refine (write_nil _ _ _ _).mono ?_
  rintro e w' ⟨rfl, k⟩
  have c0 : w'.cell? ⟨w.heap.size + 1, 0, none⟩ = some (.int .i64 0) := k.some (by simp)
  have c1 : w'.cell? ⟨w.heap.size + 1, 1, none⟩ = some (.int .i64 0) := k.some (by simp)
  have c2 : w'.cell? ⟨w.heap.size + 1, 2, none⟩ = some (.int .u64 0) := k.some (by simp)
  have c3 : w'.cell? ⟨w.heap.size + 1, 3, none⟩ = some (.int .u64 0) := k.some (by simp)
  have c4 : w'.cell? ⟨w.heap.size + 1, 4, none⟩ = some (.bool false) := k.some (by simp)
  have f0 : ∀ i, w'.frozen? ⟨w.heap.size + 1, i, none⟩ = false := fun i => by rw [k.froze]; simp
  have K := Lib.hid k
  clear k
  go_wp2
  refine bodyPost_ret (v := (.agg #[.int .i64 0, .int .i64 0, .int .u64 (0), .int .u64 (0), .bool false])) (by simp [results, Try.results64, go_sem, cell_set, *]) rfl ⟨rfl, ?_⟩
  have k := K.out
  (go_light; repeat (first | (with_reducible exact Kept.refl _) | (with_reducible assumption) | (with_reducible refine Kept.alloc ?_ _ _) | (with_reducible refine Kept.drew ?_) | (with_reducible refine Kept.drewN ?_ _) | ((with_reducible refine Kept.setCell ?_ ?_ _); rotate_left; focus (first | (simp; done) | (simp; omega))) | refine Kept.trans ?_ (by assumption)))
set_option maxHeartbeats 1000000 in
theorem store_at (b i : Nat) (x o n : Int) (w : World) (hc : w.cell? ⟨b, i, none⟩ = some (.int .u64 x)) (hf : w.frozen? ⟨b, i, none⟩ = false) : Calls Try.prog 64 #[.agg #[.pointer (some ⟨b, i, none⟩), .int .u64 o, .int .u64 n]] w fun e w' => e = .returned (.agg #[.int .i64 0, .int .i64 0, .int .u64 (x), .int .u64 (n), .bool true]) ∧ Wrote b i n w w' := by
  have hb := lt_of_cell hc
  go_enter Try.func64, Try.ntmps64
  go_wp2_with fail
  refine (write_at b i x _ _ _ _ ?_ ?_).mono ?_
  · exact Kept.some (w := w) (by (go_light; repeat (first | (with_reducible exact Kept.refl _) | (with_reducible assumption) | (with_reducible refine Kept.alloc ?_ _ _) | (with_reducible refine Kept.drew ?_) | (with_reducible refine Kept.drewN ?_ _) | ((with_reducible refine Kept.setCell ?_ ?_ _); rotate_left; focus (first | (simp; done) | (simp; omega))) | refine Kept.trans ?_ (by assumption)))) hc
  · rw [Kept.froze (w := w) (by (go_light; repeat (first | (with_reducible exact Kept.refl _) | (with_reducible assumption) | (with_reducible refine Kept.alloc ?_ _ _) | (with_reducible refine Kept.drew ?_) | (with_reducible refine Kept.drewN ?_ _) | ((with_reducible refine Kept.setCell ?_ ?_ _); rotate_left; focus (first | (simp; done) | (simp; omega))) | refine Kept.trans ?_ (by assumption))))]; exact hf
  rintro e w' ⟨rfl, k⟩
  have c0 : w'.cell? ⟨w.heap.size + 1, 0, none⟩ = some (.int .i64 0) := k.but.some (by simp) (by omega)
  have c1 : w'.cell? ⟨w.heap.size + 1, 1, none⟩ = some (.int .i64 0) := k.but.some (by simp) (by omega)
  have c2 : w'.cell? ⟨w.heap.size + 1, 2, none⟩ = some (.int .u64 0) := k.but.some (by simp) (by omega)
  have c3 : w'.cell? ⟨w.heap.size + 1, 3, none⟩ = some (.int .u64 0) := k.but.some (by simp) (by omega)
  have c4 : w'.cell? ⟨w.heap.size + 1, 4, none⟩ = some (.bool false) := k.but.some (by simp) (by omega)
  have f0 : ∀ i, w'.frozen? ⟨w.heap.size + 1, i, none⟩ = false := fun i => by rw [k.but.froze]; simp
  have K := Lib.hid k
  clear k
  go_wp2
  refine bodyPost_ret (v := (.agg #[.int .i64 0, .int .i64 0, .int .u64 (x), .int .u64 (n), .bool true])) (by simp [results, Try.results64, go_sem, cell_set, *]) rfl ⟨rfl, ?_⟩
  have k := K.out
  go_light
  repeat ((with_reducible refine Wrote.set ?_ hb ?_ _); rotate_left; focus (simp; done))
  refine Wrote.after k ?_ hb
  (go_light; repeat (first | (with_reducible exact Kept.refl _) | (with_reducible assumption) | (with_reducible refine Kept.alloc ?_ _ _) | (with_reducible refine Kept.drew ?_) | (with_reducible refine Kept.drewN ?_ _) | ((with_reducible refine Kept.setCell ?_ ?_ _); rotate_left; focus (first | (simp; done) | (simp; omega))) | refine Kept.trans ?_ (by assumption)))
set_option maxHeartbeats 1000000 in
theorem swap_nil (o n : Int) (w : World) : Calls Try.prog 144 #[.agg #[.pointer none, .int .u64 o, .int .u64 n]] w fun e w' => e = .returned (.agg #[.int .i64 0, .int .i64 0, .int .u64 (0), .int .u64 (0), .bool false]) ∧ Kept w w' := by
  by_cases ho : o = 0
  · subst ho
    go_enter Try.func144, Try.ntmps144
    go_wp2_with fail
    go_region_held3 (fun w' => w'.cell? ⟨w.heap.size, 0, none⟩ = some (.pointer none) ∧ w'.cell? ⟨w.heap.size, 1, none⟩ = some (.int .u64 0) ∧ w'.cell? ⟨w.heap.size, 2, none⟩ = some (.int .u64 n)) (first | go_keep | assumption) (first | (go_at_call 81; refine (word_nil _).mono ?_; rintro e w' ⟨rfl, rfl⟩))
    go_wp2_with fail
    refine (write_nil _ _ _ _).mono ?_
    rintro e w' ⟨rfl, k⟩
    have c0 : w'.cell? ⟨w.heap.size + 1, 0, none⟩ = some (.int .i64 0) := k.some (by simp)
    have c1 : w'.cell? ⟨w.heap.size + 1, 1, none⟩ = some (.int .i64 0) := k.some (by simp)
    have c2 : w'.cell? ⟨w.heap.size + 1, 2, none⟩ = some (.int .u64 0) := k.some (by simp)
    have c3 : w'.cell? ⟨w.heap.size + 1, 3, none⟩ = some (.int .u64 0) := k.some (by simp)
    have c4 : w'.cell? ⟨w.heap.size + 1, 4, none⟩ = some (.bool false) := k.some (by simp)
    have f0 : ∀ i, w'.frozen? ⟨w.heap.size + 1, i, none⟩ = false := fun i => by rw [k.froze]; simp
    have K := Lib.hid k
    clear k
    go_wp2
    refine bodyPost_ret (v := (.agg #[.int .i64 0, .int .i64 0, .int .u64 (0), .int .u64 (0), .bool false])) (by simp [results, Try.results144, go_sem, cell_set, *]) rfl ⟨rfl, ?_⟩
    have k := K.out
    (go_light; repeat (first | (with_reducible exact Kept.refl _) | (with_reducible assumption) | (with_reducible refine Kept.alloc ?_ _ _) | (with_reducible refine Kept.drew ?_) | (with_reducible refine Kept.drewN ?_ _) | ((with_reducible refine Kept.setCell ?_ ?_ _); rotate_left; focus (first | (simp; done) | (simp; omega))) | refine Kept.trans ?_ (by assumption)))
  · have hq : ((0 : Int) != o) = true := by simp; omega
    go_enter Try.func144, Try.ntmps144
    go_wp2_with fail
    go_region_held3 (fun w' => w'.cell? ⟨w.heap.size, 0, none⟩ = some (.pointer none) ∧ w'.cell? ⟨w.heap.size, 1, none⟩ = some (.int .u64 o) ∧ w'.cell? ⟨w.heap.size, 2, none⟩ = some (.int .u64 n)) (first | go_keep | assumption) (first | (go_at_call 81; refine (word_nil _).mono ?_; rintro e w' ⟨rfl, rfl⟩))
    go_wp2_with fail
    refine (keep_nil _ _ _).mono ?_
    rintro e w' ⟨rfl, k⟩
    have c0 : w'.cell? ⟨w.heap.size + 1, 0, none⟩ = some (.int .i64 0) := k.some (by simp)
    have c1 : w'.cell? ⟨w.heap.size + 1, 1, none⟩ = some (.int .i64 0) := k.some (by simp)
    have c2 : w'.cell? ⟨w.heap.size + 1, 2, none⟩ = some (.int .u64 0) := k.some (by simp)
    have c3 : w'.cell? ⟨w.heap.size + 1, 3, none⟩ = some (.int .u64 0) := k.some (by simp)
    have c4 : w'.cell? ⟨w.heap.size + 1, 4, none⟩ = some (.bool false) := k.some (by simp)
    have f0 : ∀ i, w'.frozen? ⟨w.heap.size + 1, i, none⟩ = false := fun i => by rw [k.froze]; simp
    have K := Lib.hid k
    clear k
    go_wp2
    refine bodyPost_ret (v := (.agg #[.int .i64 0, .int .i64 0, .int .u64 (0), .int .u64 (0), .bool false])) (by simp [results, Try.results144, go_sem, cell_set, *]) rfl ⟨rfl, ?_⟩
    have k := K.out
    (go_light; repeat (first | (with_reducible exact Kept.refl _) | (with_reducible assumption) | (with_reducible refine Kept.alloc ?_ _ _) | (with_reducible refine Kept.drew ?_) | (with_reducible refine Kept.drewN ?_ _) | ((with_reducible refine Kept.setCell ?_ ?_ _); rotate_left; focus (first | (simp; done) | (simp; omega))) | refine Kept.trans ?_ (by assumption)))
set_option maxHeartbeats 1000000 in
theorem swap_no (b i : Nat) (x o n : Int) (w : World) (hc : w.cell? ⟨b, i, none⟩ = some (.int .u64 x)) (hq : (x != o) = true) : Calls Try.prog 144 #[.agg #[.pointer (some ⟨b, i, none⟩), .int .u64 o, .int .u64 n]] w fun e w' => e = .returned (.agg #[.int .i64 0, .int .i64 0, .int .u64 (x), .int .u64 (x), .bool false]) ∧ Kept w w' := by
  have hb := lt_of_cell hc
  go_enter Try.func144, Try.ntmps144
  go_wp2_with fail
  go_region_held3 (fun w' => w'.cell? ⟨w.heap.size, 0, none⟩ = some (.pointer (some ⟨b, i, none⟩)) ∧ w'.cell? ⟨w.heap.size, 1, none⟩ = some (.int .u64 o) ∧ w'.cell? ⟨w.heap.size, 2, none⟩ = some (.int .u64 n)) (first | go_keep | assumption) (first | (go_at_call 81; refine (word_at b i x _ (Kept.some (w := w) (by (go_light; repeat (first | (with_reducible exact Kept.refl _) | (with_reducible assumption) | (with_reducible refine Kept.alloc ?_ _ _) | (with_reducible refine Kept.drew ?_) | (with_reducible refine Kept.drewN ?_ _) | ((with_reducible refine Kept.setCell ?_ ?_ _); rotate_left; focus (first | (simp; done) | (simp; omega))) | refine Kept.trans ?_ (by assumption)))) hc)).mono ?_; rintro e w' ⟨rfl, rfl⟩))
  go_wp2_with fail
  refine (keep_at b i x _ _ _ ?_).mono ?_
  · exact Kept.some (w := w) (by (go_light; repeat (first | (with_reducible exact Kept.refl _) | (with_reducible assumption) | (with_reducible refine Kept.alloc ?_ _ _) | (with_reducible refine Kept.drew ?_) | (with_reducible refine Kept.drewN ?_ _) | ((with_reducible refine Kept.setCell ?_ ?_ _); rotate_left; focus (first | (simp; done) | (simp; omega))) | refine Kept.trans ?_ (by assumption)))) hc
  rintro e w' ⟨rfl, k⟩
  have c0 : w'.cell? ⟨w.heap.size + 1, 0, none⟩ = some (.int .i64 0) := k.some (by simp)
  have c1 : w'.cell? ⟨w.heap.size + 1, 1, none⟩ = some (.int .i64 0) := k.some (by simp)
  have c2 : w'.cell? ⟨w.heap.size + 1, 2, none⟩ = some (.int .u64 0) := k.some (by simp)
  have c3 : w'.cell? ⟨w.heap.size + 1, 3, none⟩ = some (.int .u64 0) := k.some (by simp)
  have c4 : w'.cell? ⟨w.heap.size + 1, 4, none⟩ = some (.bool false) := k.some (by simp)
  have f0 : ∀ i, w'.frozen? ⟨w.heap.size + 1, i, none⟩ = false := fun i => by rw [k.froze]; simp
  have K := Lib.hid k
  clear k
  go_wp2
  refine bodyPost_ret (v := (.agg #[.int .i64 0, .int .i64 0, .int .u64 (x), .int .u64 (x), .bool false])) (by simp [results, Try.results144, go_sem, cell_set, *]) rfl ⟨rfl, ?_⟩
  have k := K.out
  (go_light; repeat (first | (with_reducible exact Kept.refl _) | (with_reducible assumption) | (with_reducible refine Kept.alloc ?_ _ _) | (with_reducible refine Kept.drew ?_) | (with_reducible refine Kept.drewN ?_ _) | ((with_reducible refine Kept.setCell ?_ ?_ _); rotate_left; focus (first | (simp; done) | (simp; omega))) | refine Kept.trans ?_ (by assumption)))
set_option maxHeartbeats 1000000 in
theorem swap_yes (b i : Nat) (x n : Int) (w : World) (hc : w.cell? ⟨b, i, none⟩ = some (.int .u64 x)) (hf : w.frozen? ⟨b, i, none⟩ = false) : Calls Try.prog 144 #[.agg #[.pointer (some ⟨b, i, none⟩), .int .u64 x, .int .u64 n]] w fun e w' => e = .returned (.agg #[.int .i64 0, .int .i64 0, .int .u64 (x), .int .u64 (n), .bool true]) ∧ Wrote b i n w w' := by
  have hb := lt_of_cell hc
  go_enter Try.func144, Try.ntmps144
  go_wp2_with fail
  go_region_held3 (fun w' => w'.cell? ⟨w.heap.size, 0, none⟩ = some (.pointer (some ⟨b, i, none⟩)) ∧ w'.cell? ⟨w.heap.size, 1, none⟩ = some (.int .u64 x) ∧ w'.cell? ⟨w.heap.size, 2, none⟩ = some (.int .u64 n)) (first | go_keep | assumption) (first | (go_at_call 81; refine (word_at b i x _ (Kept.some (w := w) (by (go_light; repeat (first | (with_reducible exact Kept.refl _) | (with_reducible assumption) | (with_reducible refine Kept.alloc ?_ _ _) | (with_reducible refine Kept.drew ?_) | (with_reducible refine Kept.drewN ?_ _) | ((with_reducible refine Kept.setCell ?_ ?_ _); rotate_left; focus (first | (simp; done) | (simp; omega))) | refine Kept.trans ?_ (by assumption)))) hc)).mono ?_; rintro e w' ⟨rfl, rfl⟩))
  go_wp2_with fail
  refine (write_at b i x _ _ _ _ ?_ ?_).mono ?_
  · exact Kept.some (w := w) (by (go_light; repeat (first | (with_reducible exact Kept.refl _) | (with_reducible assumption) | (with_reducible refine Kept.alloc ?_ _ _) | (with_reducible refine Kept.drew ?_) | (with_reducible refine Kept.drewN ?_ _) | ((with_reducible refine Kept.setCell ?_ ?_ _); rotate_left; focus (first | (simp; done) | (simp; omega))) | refine Kept.trans ?_ (by assumption)))) hc
  · rw [Kept.froze (w := w) (by (go_light; repeat (first | (with_reducible exact Kept.refl _) | (with_reducible assumption) | (with_reducible refine Kept.alloc ?_ _ _) | (with_reducible refine Kept.drew ?_) | (with_reducible refine Kept.drewN ?_ _) | ((with_reducible refine Kept.setCell ?_ ?_ _); rotate_left; focus (first | (simp; done) | (simp; omega))) | refine Kept.trans ?_ (by assumption))))]; exact hf
  rintro e w' ⟨rfl, k⟩
  have c0 : w'.cell? ⟨w.heap.size + 1, 0, none⟩ = some (.int .i64 0) := k.but.some (by simp) (by omega)
  have c1 : w'.cell? ⟨w.heap.size + 1, 1, none⟩ = some (.int .i64 0) := k.but.some (by simp) (by omega)
  have c2 : w'.cell? ⟨w.heap.size + 1, 2, none⟩ = some (.int .u64 0) := k.but.some (by simp) (by omega)
  have c3 : w'.cell? ⟨w.heap.size + 1, 3, none⟩ = some (.int .u64 0) := k.but.some (by simp) (by omega)
  have c4 : w'.cell? ⟨w.heap.size + 1, 4, none⟩ = some (.bool false) := k.but.some (by simp) (by omega)
  have f0 : ∀ i, w'.frozen? ⟨w.heap.size + 1, i, none⟩ = false := fun i => by rw [k.but.froze]; simp
  have K := Lib.hid k
  clear k
  go_wp2
  refine bodyPost_ret (v := (.agg #[.int .i64 0, .int .i64 0, .int .u64 (x), .int .u64 (n), .bool true])) (by simp [results, Try.results144, go_sem, cell_set, *]) rfl ⟨rfl, ?_⟩
  have k := K.out
  go_light
  repeat ((with_reducible refine Wrote.set ?_ hb ?_ _); rotate_left; focus (simp; done))
  refine Wrote.after k ?_ hb
  (go_light; repeat (first | (with_reducible exact Kept.refl _) | (with_reducible assumption) | (with_reducible refine Kept.alloc ?_ _ _) | (with_reducible refine Kept.drew ?_) | (with_reducible refine Kept.drewN ?_ _) | ((with_reducible refine Kept.setCell ?_ ?_ _); rotate_left; focus (first | (simp; done) | (simp; omega))) | refine Kept.trans ?_ (by assumption)))
end Go.Proofs.Ytejiogggocnldaa.Wo

namespace Go.Proofs.Ytejiogggocnldaa.Wo
set_option maxRecDepth 20000
open Go.RowKit

theorem infoWord : (Try.prog.info? 52).map (fun i => (i.zero, i.size, i.bytes)) = some (some (.int .u64 0), 1, 8) := by kernel_rfl

theorem make_words (n : Nat) (hn : n ≤ 1000000) : ∃ Z : Array Value, (∀ i, i < n → Z[i]? = some (.int .u64 0)) ∧
    ∀ w : World, (Instr.makeSlice 66 (.int .i64 (n : Int)) (.int .i64 (n : Int))).run Try.prog w = .ok (.slice (some ⟨w.heap.size, 0, none⟩) n n) (w.alloc (.cells Z 52)) := by
  obtain ⟨i0, hi, hz0, hz1, hz2⟩ := info_parts infoWord
  refine ⟨madeCells #[.int .u64 0] n, fun i h => ?_, fun w => ?_⟩
  · have e : (madeCells #[.int .u64 0] n)[i]? = (madeCells #[.int .u64 0] n).toList[i]? := by simp
    rw [e, toList_madeCells_one]
    simp [h]
  · have h := run_makeSlice (P := Try.prog) w 66 52 i0 (.int .u64 0) Try.underlying66 hi hz0 .i64 .i64 (n : Int) (n : Int) (by omega) (Int.le_refl _) (by rw [hz1]; omega) (by rw [hz2]; omega) (by omega)
    rw [h, hz1]
    simp [Value.cells]
end Go.Proofs.Ytejiogggocnldaa.Wo

namespace Go.Proofs.Ytejiogggocnldaa.Wo
set_option maxRecDepth 20000
open Go.RowKit

def St.zero : St := { ws := fun _ => 0, kind := 0, at_ := 0, old := 0, new := 0, held := false, cnt := 0 }

def NewPost (n : Nat) (w : World) (e : Ending) (w' : World) : Prop :=
  ∃ M B, e = .returned (.tuple #[.pointer (some ⟨M, 0, none⟩), .int .i64 0]) ∧ RefIs w' M B n St.zero ∧ w.heap.size ≤ M ∧ w.heap.size ≤ B ∧ M < w'.heap.size ∧ B < w'.heap.size ∧ Kept w w'

end Go.Proofs.Ytejiogggocnldaa.Wo

namespace Go.Proofs.Ytejiogggocnldaa.Wo
set_option maxRecDepth 20000
open Go.RowKit

theorem RefMem.frame {w w' : World} {M B n : Nat} {ws : Nat → Int} {k a o v c : Int} {h : Bool} (hm : RefMem w M B n ws k a o v h c) {T : Nat → Prop} (hb : But T w w') (hM : ¬ T M) (hB : ¬ T B) : RefMem w' M B n ws k a o v h c :=
  ⟨hb.some hm.c0 hM, hb.some hm.c1 hM, hb.some hm.c2 hM, hb.some hm.c3 hM, hb.some hm.c4 hM, hb.some hm.c5 hM, hb.some hm.c6 hM,
   fun i hi => hb.some (hm.words i hi) hB, fun i => (hb.froze _).trans (hm.fM i), fun i => (hb.froze _).trans (hm.fB i), hm.ne⟩
theorem RefIs.frame {w w' : World} {M B n : Nat} {s : St} (hm : RefIs w M B n s) {T : Nat → Prop} (hb : But T w w') (hM : ¬ T M) (hB : ¬ T B) : RefIs w' M B n s := RefMem.frame hm hb hM hB

def WordsPost (n : Nat) (s : St) (w : World) (e : Ending) (w' : World) : Prop :=
  ∃ b c, e = .returned (.slice (some ⟨b, 0, none⟩) n c) ∧ w.heap.size ≤ b ∧ b < w'.heap.size ∧ (∀ i, i < n → w'.cell? ⟨b, i, none⟩ = some (.int .u64 (s.ws i))) ∧ (∀ i, w'.frozen? ⟨b, i, none⟩ = false) ∧ Kept w w'

def MadePost (Is : World → Nat → (Nat → Prop) → Nat → St → Prop) (n : Nat) (s : St) (w : World) (e : Ending) (w' : World) : Prop :=
  ∃ M S, e = .returned (.tuple #[.pointer (some ⟨M, 0, none⟩), .int .i64 0]) ∧ Is w' M S n s ∧ (∀ k, S k → w.heap.size ≤ k ∧ k < w'.heap.size) ∧ Kept w w'

end Go.Proofs.Ytejiogggocnldaa.Wo

namespace Go.Proofs.Ytejiogggocnldaa.Wo
set_option maxRecDepth 20000
open Go.RowKit

structure PMem (w : World) (M B n : Nat) (s : St) : Prop where
  p : w.cell? ⟨M, 0, none⟩ = some (.pointer (some ⟨B, 0, none⟩))
  words : ∀ i, i < 4096 → ∃ x, w.cell? ⟨B, i, none⟩ = some (.int .u64 x) ∧ (i < n → x = s.ws i)
  size : w.cell? ⟨B, 4096, none⟩ = some (.int .i64 n)
  c0 : w.cell? ⟨B, 4097, none⟩ = some (.int .i64 s.kind)
  c1 : w.cell? ⟨B, 4098, none⟩ = some (.int .i64 s.at_)
  c2 : w.cell? ⟨B, 4099, none⟩ = some (.int .u64 s.old)
  c3 : w.cell? ⟨B, 4100, none⟩ = some (.int .u64 s.new)
  c4 : w.cell? ⟨B, 4101, none⟩ = some (.bool s.held)
  cnt : w.cell? ⟨B, 4102, none⟩ = some (.int .i64 s.cnt)
  fB : ∀ i, w.frozen? ⟨B, i, none⟩ = false
  ne : M ≠ B
  hn : 1 ≤ n ∧ n ≤ 4096

theorem PMem.frame {w w' : World} {M B n : Nat} {s : St} (hm : PMem w M B n s) {T : Nat → Prop} (hb : But T w w') (hM : ¬ T M) (hB : ¬ T B) : PMem w' M B n s :=
  ⟨hb.some hm.p hM, fun i hi => by obtain ⟨x, h, h'⟩ := hm.words i hi; exact ⟨x, hb.some h hB, h'⟩, hb.some hm.size hB, hb.some hm.c0 hB, hb.some hm.c1 hB, hb.some hm.c2 hB, hb.some hm.c3 hB, hb.some hm.c4 hB, hb.some hm.cnt hB,
   fun i => (hb.froze _).trans (hm.fB i), hm.ne, hm.hn⟩
theorem PMem.kept {w w' : World} {M B n : Nat} {s : St} (hm : PMem w M B n s) (k : Kept w w') : PMem w' M B n s := hm.frame (k.but (fun _ => False)) id id
theorem PMem.lt {w : World} {M B n : Nat} {s : St} (hm : PMem w M B n s) : M < w.heap.size ∧ B < w.heap.size := ⟨lt_of_cell hm.p, lt_of_cell hm.size⟩

set_option maxHeartbeats 1000000 in
theorem valid_yes (M : Nat) (a : Addr) (w : World) (hp : w.cell? ⟨M, 0, none⟩ = some (.pointer (some a))) : Calls Try.prog 60 #[.pointer (some ⟨M, 0, none⟩)] w fun e w' => e = .returned (.bool true) ∧ w = w' := by
  go_enter Try.func60, Try.ntmps60
  go_wp2
  go_ret
  exact ⟨rfl, rfl⟩

set_option maxHeartbeats 1000000 in
theorem size_any (M B n : Nat) (w : World) (hp : w.cell? ⟨M, 0, none⟩ = some (.pointer (some ⟨B, 0, none⟩))) (hs : w.cell? ⟨B, 4096, none⟩ = some (.int .i64 n)) : Calls Try.prog 95 #[.pointer (some ⟨M, 0, none⟩)] w fun e w' => e = .returned (.int .i64 n) ∧ w = w' := by
  go_enter Try.func95, Try.ntmps95
  go_wp2_with fail
  refine (valid_yes M _ _ hp).mono ?_
  rintro e w' ⟨rfl, rfl⟩
  go_wp2
  go_ret
  exact ⟨rfl, rfl⟩

set_option maxHeartbeats 1000000 in
theorem count_any (M B : Nat) (c : Int) (w : World) (hp : w.cell? ⟨M, 0, none⟩ = some (.pointer (some ⟨B, 0, none⟩))) (hs : w.cell? ⟨B, 4102, none⟩ = some (.int .i64 c)) : Calls Try.prog 21 #[.pointer (some ⟨M, 0, none⟩)] w fun e w' => e = .returned (.int .i64 c) ∧ w = w' := by
  go_enter Try.func21, Try.ntmps21
  go_wp2_with fail
  refine (valid_yes M _ _ hp).mono ?_
  rintro e w' ⟨rfl, rfl⟩
  go_wp2
  go_ret
  exact ⟨rfl, rfl⟩

set_option maxHeartbeats 1000000 in
theorem cell_out (M B n : Nat) (a : Int) (w : World) (hp : w.cell? ⟨M, 0, none⟩ = some (.pointer (some ⟨B, 0, none⟩))) (hs : w.cell? ⟨B, 4096, none⟩ = some (.int .i64 n)) (ha : a < 0 ∨ n ≤ a) : Calls Try.prog 63 #[.pointer (some ⟨M, 0, none⟩), .int .i64 a] w fun e w' => e = .returned (.pointer none) ∧ w = w' := by
  rcases ha with ha | ha
  · go_enter Try.func63, Try.ntmps63
    go_wp2
    go_ret
    exact ⟨rfl, rfl⟩
  · go_enter Try.func63, Try.ntmps63
    go_wp2_with fail
    refine (size_any M B n _ hp hs).mono ?_
    rintro e w' ⟨rfl, rfl⟩
    go_wp2
    go_ret
    exact ⟨rfl, rfl⟩
set_option maxHeartbeats 1000000 in
theorem cell_in (M B n a : Nat) (w : World) (hp : w.cell? ⟨M, 0, none⟩ = some (.pointer (some ⟨B, 0, none⟩))) (hs : w.cell? ⟨B, 4096, none⟩ = some (.int .i64 n)) (ha : a < n) (hn : n ≤ 4096) : Calls Try.prog 63 #[.pointer (some ⟨M, 0, none⟩), .int .i64 a] w fun e w' => e = .returned (.pointer (some ⟨B, a, none⟩)) ∧ w = w' := by
  go_enter Try.func63, Try.ntmps63
  go_wp2_with fail
  refine (size_any M B n _ hp hs).mono ?_
  rintro e w' ⟨rfl, rfl⟩
  go_wp2
  go_ret
  exact ⟨rfl, rfl⟩
set_option maxHeartbeats 1000000 in
theorem last_any (M B n : Nat) (s : St) (w : World) (hm : PMem w M B n s) : Calls Try.prog 106 #[.pointer (some ⟨M, 0, none⟩)] w fun e w' => e = .returned (.agg #[.int .i64 s.kind, .int .i64 s.at_, .int .u64 s.old, .int .u64 s.new, .bool s.held]) ∧ Kept w w' := by
  obtain ⟨p, _, _, c0, c1, c2, c3, c4, _, _, _, _⟩ := hm
  have hM := lt_of_cell p
  have hB := lt_of_cell c0
  go_enter Try.func106, Try.ntmps106
  go_wp2_with fail
  refine (valid_yes M _ _ (Kept.some (w := w) (by (go_light; repeat (first | (with_reducible exact Kept.refl _) | (with_reducible assumption) | (with_reducible refine Kept.alloc ?_ _ _) | (with_reducible refine Kept.drew ?_) | (with_reducible refine Kept.drewN ?_ _) | ((with_reducible refine Kept.setCell ?_ ?_ _); rotate_left; focus (first | (simp; done) | (simp; omega))) | refine Kept.trans ?_ (by assumption)))) p)).mono ?_
  rintro e w' ⟨rfl, rfl⟩
  go_wp2
  refine bodyPost_ret (v := .agg #[.int .i64 s.kind, .int .i64 s.at_, .int .u64 s.old, .int .u64 s.new, .bool s.held]) (by simp [results, Try.results106, go_sem]) rfl ⟨rfl, ?_⟩
  (go_light; repeat (first | (with_reducible exact Kept.refl _) | (with_reducible assumption) | (with_reducible refine Kept.alloc ?_ _ _) | (with_reducible refine Kept.drew ?_) | (with_reducible refine Kept.drewN ?_ _) | ((with_reducible refine Kept.setCell ?_ ?_ _); rotate_left; focus (first | (simp; done) | (simp; omega))) | refine Kept.trans ?_ (by assumption)))
end Go.Proofs.Ytejiogggocnldaa.Wo
