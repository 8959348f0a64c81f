/- The program's accesses of one cell: what each does, and tells. A pointer that is nil is no cell. -/
import Derived.Test.YtejiogggocnldaaGreatProg
import Derived.Test.YtejiogggocnldaaGreatG00
import Derived.Deep.RegionHeld3
import Derived.Lib.Hide
import Derived.Deep.Light
import Derived.WalkLawsBesides
set_option linter.unusedVariables false
set_option linter.unusedSimpArgs false

namespace Go.Proofs.YtejiogggocnldaaGreat.Wo
set_option maxRecDepth 20000
open Go.RowKit

theorem exists_nil (w : World) : Calls Tryz.prog 161 #[.pointer none] w fun e w' => e = .returned (.bool false) ∧ w = w' := by
  go_enter Tryz.func161, Tryz.ntmps161
  go_wp2
  go_ret
  exact ⟨rfl, rfl⟩
theorem exists_at (a : Addr) (w : World) : Calls Tryz.prog 161 #[.pointer (some a)] w fun e w' => e = .returned (.bool true) ∧ w = w' := by
  go_enter Tryz.func161, Tryz.ntmps161
  go_wp2
  go_ret
  exact ⟨rfl, rfl⟩
theorem word_nil (w : World) : Calls Tryz.prog 94 #[.pointer none] w fun e w' => e = .returned (.int .u64 0) ∧ w = w' := by
  go_enter Tryz.func94, Tryz.ntmps94
  go_wp2_with fail
  refine (exists_nil _).mono ?_
  rintro e w' ⟨rfl, rfl⟩
  go_wp2
  go_ret
  exact ⟨rfl, rfl⟩
theorem word_at (b o : Nat) (x : Int) (w : World) (hc : w.cell? ⟨b, o, none⟩ = some (.int .u64 x)) : Calls Tryz.prog 94 #[.pointer (some ⟨b, o, none⟩)] w fun e w' => e = .returned (.int .u64 x) ∧ w = w' := by
  go_enter Tryz.func94, Tryz.ntmps94
  go_wp2_with fail
  refine (exists_at _ _).mono ?_
  rintro e w' ⟨rfl, rfl⟩
  go_wp2
  go_ret
  exact ⟨rfl, rfl⟩

set_option maxHeartbeats 1000000 in
theorem keep_nil (o n : Int) (w : World) : Calls Tryz.prog 200 #[.agg #[.pointer none, .int .u64 o, .int .u64 n]] w fun e w' => e = .returned (.agg #[.int .i64 0, .int .i64 0, .int .u64 (0), .int .u64 (0), .bool false]) ∧ Kept w w' := by
  go_enter Tryz.func200, Tryz.ntmps200
  go_wp2_with fail
  refine (word_nil _).mono ?_
  rintro e w' ⟨rfl, rfl⟩
  go_wp2
  refine bodyPost_ret (v := (.agg #[.int .i64 0, .int .i64 0, .int .u64 (0), .int .u64 (0), .bool false])) (by simp [results, Tryz.results200, go_sem]) rfl ⟨rfl, ?_⟩
  (go_light; repeat (first | (with_reducible exact Kept.refl _) | (with_reducible assumption) | (with_reducible refine Kept.alloc ?_ _ _) | (with_reducible refine Kept.drew ?_) | (with_reducible refine Kept.drewN ?_ _) | ((with_reducible refine Kept.setCell ?_ ?_ _); rotate_left; focus (first | (simp; done) | (simp; omega))) | refine Kept.trans ?_ (by assumption)))
set_option maxHeartbeats 1000000 in
theorem keep_at (b i : Nat) (x o n : Int) (w : World) (hc : w.cell? ⟨b, i, none⟩ = some (.int .u64 x)) : Calls Tryz.prog 200 #[.agg #[.pointer (some ⟨b, i, none⟩), .int .u64 o, .int .u64 n]] w fun e w' => e = .returned (.agg #[.int .i64 0, .int .i64 0, .int .u64 (x), .int .u64 (x), .bool false]) ∧ Kept w w' := by
  have hb := lt_of_cell hc
  go_enter Tryz.func200, Tryz.ntmps200
  go_wp2_with fail
  refine (word_at b i x _ ?_).mono ?_
  · exact Kept.some (w := w) (by (go_light; repeat (first | (with_reducible exact Kept.refl _) | (with_reducible assumption) | (with_reducible refine Kept.alloc ?_ _ _) | (with_reducible refine Kept.drew ?_) | (with_reducible refine Kept.drewN ?_ _) | ((with_reducible refine Kept.setCell ?_ ?_ _); rotate_left; focus (first | (simp; done) | (simp; omega))) | refine Kept.trans ?_ (by assumption)))) hc
  rintro e w' ⟨rfl, rfl⟩
  go_wp2
  refine bodyPost_ret (v := (.agg #[.int .i64 0, .int .i64 0, .int .u64 (x), .int .u64 (x), .bool false])) (by simp [results, Tryz.results200, go_sem]) rfl ⟨rfl, ?_⟩
  (go_light; repeat (first | (with_reducible exact Kept.refl _) | (with_reducible assumption) | (with_reducible refine Kept.alloc ?_ _ _) | (with_reducible refine Kept.drew ?_) | (with_reducible refine Kept.drewN ?_ _) | ((with_reducible refine Kept.setCell ?_ ?_ _); rotate_left; focus (first | (simp; done) | (simp; omega))) | refine Kept.trans ?_ (by assumption)))

structure Wrote (b i : Nat) (v : Int) (w w' : World) : Prop where
  but : But (fun k => k = b) w w'
  cell : ∀ j, w'.cell? ⟨b, j, none⟩ = if j = i then some (.int .u64 v) else w.cell? ⟨b, j, none⟩

theorem Wrote.after {b i : Nat} {v : Int} {a w w' : World} (h : Wrote b i v w w') (k : Kept a w) (hb : b < a.heap.size) : Wrote b i v a w' :=
  ⟨(k.but _).trans h.but (fun _ _ h => h), fun j => by rw [h.cell, k.cell b j hb]⟩
theorem Wrote.then {b i : Nat} {v : Int} {w w' c : World} (h : Wrote b i v w w') (k : Kept w' c) (hb : b < w.heap.size) : Wrote b i v w c :=
  ⟨h.but.then k, fun j => by rw [k.cell b j (Nat.lt_of_lt_of_le hb h.but.size), h.cell]⟩
theorem Wrote.set {b i : Nat} {v : Int} {w w' : World} (h : Wrote b i v w w') (hb : b < w.heap.size) {p : Addr} (hp : w.heap.size ≤ p.block) (x : Value) : Wrote b i v w (w'.setCell p x) :=
  ⟨h.but.setCell (Or.inr hp) x, fun j => by rw [World.cell?_setCell_other _ _ _ _ (by intro e; subst e; exact absurd hp (by simp; omega)), h.cell]⟩
theorem Wrote.mk' {b i : Nat} {x v : Int} {w : World} (hc : w.cell? ⟨b, i, none⟩ = some (.int .u64 x)) : Wrote b i v w (w.setCell ⟨b, i, none⟩ (.int .u64 v)) :=
  ⟨(But.refl (fun k => k = b) w).setCell (p := ⟨b, i, none⟩) (Or.inl rfl) _, fun j => by
    rw [cell_set]
    by_cases h : i = j
    · subst h; rw [if_pos rfl, if_pos rfl, hc]; rfl
    · rw [if_neg h, if_neg (fun e => h e.symm)]⟩

set_option maxHeartbeats 1000000 in
theorem write_nil (o n v : Int) (w : World) : Calls Tryz.prog 164 #[.agg #[.pointer none, .int .u64 o, .int .u64 n], .int .u64 v] w fun e w' => e = .returned (.agg #[.int .i64 0, .int .i64 0, .int .u64 (0), .int .u64 (0), .bool false]) ∧ Kept w w' := by
  go_enter Tryz.func164, Tryz.ntmps164
  go_wp2_with fail
  refine (exists_nil _).mono ?_
  rintro e w' ⟨rfl, rfl⟩
  go_wp2_with fail
  refine (keep_nil _ _ _).mono ?_
  rintro e w' ⟨rfl, k⟩
  have hc := k.cell
  have hfr := k.froze
  have hz := k.size
  simp at hz
  have hz1 : w.heap.size < w'.heap.size := by omega
  have hz2 : w.heap.size + 1 < w'.heap.size := by omega
  clear hz
  go_wp2
  refine bodyPost_ret (v := (.agg #[.int .i64 0, .int .i64 0, .int .u64 (0), .int .u64 (0), .bool false])) (by simp [results, Tryz.results164, go_sem, hc]) rfl ⟨rfl, ?_⟩
  (go_light; repeat (first | (with_reducible exact Kept.refl _) | (with_reducible assumption) | (with_reducible refine Kept.alloc ?_ _ _) | (with_reducible refine Kept.drew ?_) | (with_reducible refine Kept.drewN ?_ _) | ((with_reducible refine Kept.setCell ?_ ?_ _); rotate_left; focus (first | (simp; done) | (simp; omega))) | refine Kept.trans ?_ (by assumption)))
set_option maxHeartbeats 1000000 in
theorem write_at (b i : Nat) (x o n v : Int) (w : World) (hc : w.cell? ⟨b, i, none⟩ = some (.int .u64 x)) (hf : w.frozen? ⟨b, i, none⟩ = false) : Calls Tryz.prog 164 #[.agg #[.pointer (some ⟨b, i, none⟩), .int .u64 o, .int .u64 n], .int .u64 v] w fun e w' => e = .returned (.agg #[.int .i64 0, .int .i64 0, .int .u64 (x), .int .u64 (v), .bool true]) ∧ Wrote b i v w w' := by
  have hb := lt_of_cell hc
  go_enter Tryz.func164, Tryz.ntmps164
  go_wp2_with fail
  refine (exists_at _ _).mono ?_
  rintro e w' ⟨rfl, rfl⟩
  go_wp2_with fail
  refine (word_at b i x _ ?_).mono ?_
  · exact Kept.some (w := w) (by (go_light; repeat (first | (with_reducible exact Kept.refl _) | (with_reducible assumption) | (with_reducible refine Kept.alloc ?_ _ _) | (with_reducible refine Kept.drew ?_) | (with_reducible refine Kept.drewN ?_ _) | ((with_reducible refine Kept.setCell ?_ ?_ _); rotate_left; focus (first | (simp; done) | (simp; omega))) | refine Kept.trans ?_ (by assumption)))) hc
  rintro e w' ⟨rfl, rfl⟩
  go_wp2
  refine bodyPost_ret (v := (.agg #[.int .i64 0, .int .i64 0, .int .u64 (x), .int .u64 (v), .bool true])) (by simp [results, Tryz.results164, go_sem]) rfl ⟨rfl, ?_⟩
  go_light
  refine Wrote.then (Wrote.mk' hc) ?_ hb
  (go_light; repeat (first | (with_reducible exact Kept.refl _) | (with_reducible assumption) | (with_reducible refine Kept.alloc ?_ _ _) | (with_reducible refine Kept.drew ?_) | (with_reducible refine Kept.drewN ?_ _) | ((with_reducible refine Kept.setCell ?_ ?_ _); rotate_left; focus (first | (simp; done) | (simp; omega))) | refine Kept.trans ?_ (by assumption)))
set_option maxHeartbeats 1000000 in
theorem load_nil (o n : Int) (w : World) : Calls Tryz.prog 185 #[.agg #[.pointer none, .int .u64 o, .int .u64 n]] w fun e w' => e = .returned (.agg #[.int .i64 0, .int .i64 0, .int .u64 (0), .int .u64 (0), .bool false]) ∧ Kept w w' := by
  go_enter Tryz.func185, Tryz.ntmps185
  go_wp2_with fail
  refine (keep_nil _ _ _).mono ?_
  rintro e w' ⟨rfl, k⟩
  have k1 := k
  have hcc := k.cell
  have hfr := k.froze
  have hz := k.size
  simp at hz
  have hz1 : w.heap.size < w'.heap.size := by omega
  have hz2 : w.heap.size + 1 < w'.heap.size := by omega
  clear hz k
  go_wp2
  refine bodyPost_ret (v := (.agg #[.int .i64 0, .int .i64 0, .int .u64 (0), .int .u64 (0), .bool false])) (by simp [results, Tryz.results185, go_sem, hcc]) rfl ⟨rfl, ?_⟩
  (go_light; repeat (first | (with_reducible exact Kept.refl _) | (with_reducible assumption) | (with_reducible refine Kept.alloc ?_ _ _) | (with_reducible refine Kept.drew ?_) | (with_reducible refine Kept.drewN ?_ _) | ((with_reducible refine Kept.setCell ?_ ?_ _); rotate_left; focus (first | (simp; done) | (simp; omega))) | refine Kept.trans ?_ (by assumption)))
set_option maxHeartbeats 1000000 in
theorem load_at (b i : Nat) (x o n : Int) (w : World) (hc : w.cell? ⟨b, i, none⟩ = some (.int .u64 x)) : Calls Tryz.prog 185 #[.agg #[.pointer (some ⟨b, i, none⟩), .int .u64 o, .int .u64 n]] w fun e w' => e = .returned (.agg #[.int .i64 0, .int .i64 0, .int .u64 (x), .int .u64 (x), .bool false]) ∧ Kept w w' := by
  go_enter Tryz.func185, Tryz.ntmps185
  go_wp2_with fail
  refine (keep_at b i x _ _ _ ?_).mono ?_
  · exact Kept.some (w := w) (by (go_light; repeat (first | (with_reducible exact Kept.refl _) | (with_reducible assumption) | (with_reducible refine Kept.alloc ?_ _ _) | (with_reducible refine Kept.drew ?_) | (with_reducible refine Kept.drewN ?_ _) | ((with_reducible refine Kept.setCell ?_ ?_ _); rotate_left; focus (first | (simp; done) | (simp; omega))) | refine Kept.trans ?_ (by assumption)))) hc
  rintro e w' ⟨rfl, k⟩
  have k1 := k
  have hcc := k.cell
  have hfr := k.froze
  have hz := k.size
  simp at hz
  have hz1 : w.heap.size < w'.heap.size := by omega
  have hz2 : w.heap.size + 1 < w'.heap.size := by omega
  clear hz k
  go_wp2
  refine bodyPost_ret (v := (.agg #[.int .i64 0, .int .i64 0, .int .u64 (x), .int .u64 (x), .bool false])) (by simp [results, Tryz.results185, go_sem, hcc]) rfl ⟨rfl, ?_⟩
  (go_light; repeat (first | (with_reducible exact Kept.refl _) | (with_reducible assumption) | (with_reducible refine Kept.alloc ?_ _ _) | (with_reducible refine Kept.drew ?_) | (with_reducible refine Kept.drewN ?_ _) | ((with_reducible refine Kept.setCell ?_ ?_ _); rotate_left; focus (first | (simp; done) | (simp; omega))) | refine Kept.trans ?_ (by assumption)))
set_option maxHeartbeats 1000000 in
theorem store_nil (o n : Int) (w : World) : Calls Tryz.prog 103 #[.agg #[.pointer none, .int .u64 o, .int .u64 n]] w fun e w' => e = .returned (.agg #[.int .i64 0, .int .i64 0, .int .u64 (0), .int .u64 (0), .bool false]) ∧ Kept w w' := by
  go_enter Tryz.func103, Tryz.ntmps103
  go_wp2_with fail
  refine (write_nil _ _ _ _).mono ?_
  rintro e w' ⟨rfl, k⟩
  have c0 : w'.cell? ⟨w.heap.size + 1, 0, none⟩ = some (.int .i64 0) := k.some (by simp)
  have c1 : w'.cell? ⟨w.heap.size + 1, 1, none⟩ = some (.int .i64 0) := k.some (by simp)
  have c2 : w'.cell? ⟨w.heap.size + 1, 2, none⟩ = some (.int .u64 0) := k.some (by simp)
  have c3 : w'.cell? ⟨w.heap.size + 1, 3, none⟩ = some (.int .u64 0) := k.some (by simp)
  have c4 : w'.cell? ⟨w.heap.size + 1, 4, none⟩ = some (.bool false) := k.some (by simp)
  have f0 : ∀ i, w'.frozen? ⟨w.heap.size + 1, i, none⟩ = false := fun i => by rw [k.froze]; simp
  have K := Lib.hid k
  clear k
  go_wp2
  refine bodyPost_ret (v := (.agg #[.int .i64 0, .int .i64 0, .int .u64 (0), .int .u64 (0), .bool false])) (by simp [results, Tryz.results103, go_sem, cell_set, *]) rfl ⟨rfl, ?_⟩
  have k := K.out
  (go_light; repeat (first | (with_reducible exact Kept.refl _) | (with_reducible assumption) | (with_reducible refine Kept.alloc ?_ _ _) | (with_reducible refine Kept.drew ?_) | (with_reducible refine Kept.drewN ?_ _) | ((with_reducible refine Kept.setCell ?_ ?_ _); rotate_left; focus (first | (simp; done) | (simp; omega))) | refine Kept.trans ?_ (by assumption)))
set_option maxHeartbeats 1000000 in
theorem store_at (b i : Nat) (x o n : Int) (w : World) (hc : w.cell? ⟨b, i, none⟩ = some (.int .u64 x)) (hf : w.frozen? ⟨b, i, none⟩ = false) : Calls Tryz.prog 103 #[.agg #[.pointer (some ⟨b, i, none⟩), .int .u64 o, .int .u64 n]] w fun e w' => e = .returned (.agg #[.int .i64 0, .int .i64 0, .int .u64 (x), .int .u64 (n), .bool true]) ∧ Wrote b i n w w' := by
  have hb := lt_of_cell hc
  go_enter Tryz.func103, Tryz.ntmps103
  go_wp2_with fail
  refine (write_at b i x _ _ _ _ ?_ ?_).mono ?_
  · exact Kept.some (w := w) (by (go_light; repeat (first | (with_reducible exact Kept.refl _) | (with_reducible assumption) | (with_reducible refine Kept.alloc ?_ _ _) | (with_reducible refine Kept.drew ?_) | (with_reducible refine Kept.drewN ?_ _) | ((with_reducible refine Kept.setCell ?_ ?_ _); rotate_left; focus (first | (simp; done) | (simp; omega))) | refine Kept.trans ?_ (by assumption)))) hc
  · rw [Kept.froze (w := w) (by (go_light; repeat (first | (with_reducible exact Kept.refl _) | (with_reducible assumption) | (with_reducible refine Kept.alloc ?_ _ _) | (with_reducible refine Kept.drew ?_) | (with_reducible refine Kept.drewN ?_ _) | ((with_reducible refine Kept.setCell ?_ ?_ _); rotate_left; focus (first | (simp; done) | (simp; omega))) | refine Kept.trans ?_ (by assumption))))]; exact hf
  rintro e w' ⟨rfl, k⟩
  have c0 : w'.cell? ⟨w.heap.size + 1, 0, none⟩ = some (.int .i64 0) := k.but.some (by simp) (by omega)
  have c1 : w'.cell? ⟨w.heap.size + 1, 1, none⟩ = some (.int .i64 0) := k.but.some (by simp) (by omega)
  have c2 : w'.cell? ⟨w.heap.size + 1, 2, none⟩ = some (.int .u64 0) := k.but.some (by simp) (by omega)
  have c3 : w'.cell? ⟨w.heap.size + 1, 3, none⟩ = some (.int .u64 0) := k.but.some (by simp) (by omega)
  have c4 : w'.cell? ⟨w.heap.size + 1, 4, none⟩ = some (.bool false) := k.but.some (by simp) (by omega)
  have f0 : ∀ i, w'.frozen? ⟨w.heap.size + 1, i, none⟩ = false := fun i => by rw [k.but.froze]; simp
  have K := Lib.hid k
  clear k
  go_wp2
  refine bodyPost_ret (v := (.agg #[.int .i64 0, .int .i64 0, .int .u64 (x), .int .u64 (n), .bool true])) (by simp [results, Tryz.results103, go_sem, cell_set, *]) rfl ⟨rfl, ?_⟩
  have k := K.out
  go_light
  repeat ((with_reducible refine Wrote.set ?_ hb ?_ _); rotate_left; focus (simp; done))
  refine Wrote.after k ?_ hb
  (go_light; repeat (first | (with_reducible exact Kept.refl _) | (with_reducible assumption) | (with_reducible refine Kept.alloc ?_ _ _) | (with_reducible refine Kept.drew ?_) | (with_reducible refine Kept.drewN ?_ _) | ((with_reducible refine Kept.setCell ?_ ?_ _); rotate_left; focus (first | (simp; done) | (simp; omega))) | refine Kept.trans ?_ (by assumption)))
set_option maxHeartbeats 1000000 in
theorem swap_nil (o n : Int) (w : World) : Calls Tryz.prog 224 #[.agg #[.pointer none, .int .u64 o, .int .u64 n]] w fun e w' => e = .returned (.agg #[.int .i64 0, .int .i64 0, .int .u64 (0), .int .u64 (0), .bool false]) ∧ Kept w w' := by
  by_cases ho : o = 0
  · subst ho
    go_enter Tryz.func224, Tryz.ntmps224
    go_wp2_with fail
    go_region_held3 (fun w' => w'.cell? ⟨w.heap.size, 0, none⟩ = some (.pointer none) ∧ w'.cell? ⟨w.heap.size, 1, none⟩ = some (.int .u64 0) ∧ w'.cell? ⟨w.heap.size, 2, none⟩ = some (.int .u64 n)) (first | go_keep | assumption) (first | (go_at_call 94; refine (word_nil _).mono ?_; rintro e w' ⟨rfl, rfl⟩))
    go_wp2_with fail
    refine (write_nil _ _ _ _).mono ?_
    rintro e w' ⟨rfl, k⟩
    have c0 : w'.cell? ⟨w.heap.size + 1, 0, none⟩ = some (.int .i64 0) := k.some (by simp)
    have c1 : w'.cell? ⟨w.heap.size + 1, 1, none⟩ = some (.int .i64 0) := k.some (by simp)
    have c2 : w'.cell? ⟨w.heap.size + 1, 2, none⟩ = some (.int .u64 0) := k.some (by simp)
    have c3 : w'.cell? ⟨w.heap.size + 1, 3, none⟩ = some (.int .u64 0) := k.some (by simp)
    have c4 : w'.cell? ⟨w.heap.size + 1, 4, none⟩ = some (.bool false) := k.some (by simp)
    have f0 : ∀ i, w'.frozen? ⟨w.heap.size + 1, i, none⟩ = false := fun i => by rw [k.froze]; simp
    have K := Lib.hid k
    clear k
    go_wp2
    refine bodyPost_ret (v := (.agg #[.int .i64 0, .int .i64 0, .int .u64 (0), .int .u64 (0), .bool false])) (by simp [results, Tryz.results224, go_sem, cell_set, *]) rfl ⟨rfl, ?_⟩
    have k := K.out
    (go_light; repeat (first | (with_reducible exact Kept.refl _) | (with_reducible assumption) | (with_reducible refine Kept.alloc ?_ _ _) | (with_reducible refine Kept.drew ?_) | (with_reducible refine Kept.drewN ?_ _) | ((with_reducible refine Kept.setCell ?_ ?_ _); rotate_left; focus (first | (simp; done) | (simp; omega))) | refine Kept.trans ?_ (by assumption)))
  · have hq : ((0 : Int) != o) = true := by simp; omega
    go_enter Tryz.func224, Tryz.ntmps224
    go_wp2_with fail
    go_region_held3 (fun w' => w'.cell? ⟨w.heap.size, 0, none⟩ = some (.pointer none) ∧ w'.cell? ⟨w.heap.size, 1, none⟩ = some (.int .u64 o) ∧ w'.cell? ⟨w.heap.size, 2, none⟩ = some (.int .u64 n)) (first | go_keep | assumption) (first | (go_at_call 94; refine (word_nil _).mono ?_; rintro e w' ⟨rfl, rfl⟩))
    go_wp2_with fail
    refine (keep_nil _ _ _).mono ?_
    rintro e w' ⟨rfl, k⟩
    have c0 : w'.cell? ⟨w.heap.size + 1, 0, none⟩ = some (.int .i64 0) := k.some (by simp)
    have c1 : w'.cell? ⟨w.heap.size + 1, 1, none⟩ = some (.int .i64 0) := k.some (by simp)
    have c2 : w'.cell? ⟨w.heap.size + 1, 2, none⟩ = some (.int .u64 0) := k.some (by simp)
    have c3 : w'.cell? ⟨w.heap.size + 1, 3, none⟩ = some (.int .u64 0) := k.some (by simp)
    have c4 : w'.cell? ⟨w.heap.size + 1, 4, none⟩ = some (.bool false) := k.some (by simp)
    have f0 : ∀ i, w'.frozen? ⟨w.heap.size + 1, i, none⟩ = false := fun i => by rw [k.froze]; simp
    have K := Lib.hid k
    clear k
    go_wp2
    refine bodyPost_ret (v := (.agg #[.int .i64 0, .int .i64 0, .int .u64 (0), .int .u64 (0), .bool false])) (by simp [results, Tryz.results224, go_sem, cell_set, *]) rfl ⟨rfl, ?_⟩
    have k := K.out
    (go_light; repeat (first | (with_reducible exact Kept.refl _) | (with_reducible assumption) | (with_reducible refine Kept.alloc ?_ _ _) | (with_reducible refine Kept.drew ?_) | (with_reducible refine Kept.drewN ?_ _) | ((with_reducible refine Kept.setCell ?_ ?_ _); rotate_left; focus (first | (simp; done) | (simp; omega))) | refine Kept.trans ?_ (by assumption)))
set_option maxHeartbeats 1000000 in
theorem swap_no (b i : Nat) (x o n : Int) (w : World) (hc : w.cell? ⟨b, i, none⟩ = some (.int .u64 x)) (hq : (x != o) = true) : Calls Tryz.prog 224 #[.agg #[.pointer (some ⟨b, i, none⟩), .int .u64 o, .int .u64 n]] w fun e w' => e = .returned (.agg #[.int .i64 0, .int .i64 0, .int .u64 (x), .int .u64 (x), .bool false]) ∧ Kept w w' := by
  have hb := lt_of_cell hc
  go_enter Tryz.func224, Tryz.ntmps224
  go_wp2_with fail
  go_region_held3 (fun w' => w'.cell? ⟨w.heap.size, 0, none⟩ = some (.pointer (some ⟨b, i, none⟩)) ∧ w'.cell? ⟨w.heap.size, 1, none⟩ = some (.int .u64 o) ∧ w'.cell? ⟨w.heap.size, 2, none⟩ = some (.int .u64 n)) (first | go_keep | assumption) (first | (go_at_call 94; refine (word_at b i x _ (Kept.some (w := w) (by (go_light; repeat (first | (with_reducible exact Kept.refl _) | (with_reducible assumption) | (with_reducible refine Kept.alloc ?_ _ _) | (with_reducible refine Kept.drew ?_) | (with_reducible refine Kept.drewN ?_ _) | ((with_reducible refine Kept.setCell ?_ ?_ _); rotate_left; focus (first | (simp; done) | (simp; omega))) | refine Kept.trans ?_ (by assumption)))) hc)).mono ?_; rintro e w' ⟨rfl, rfl⟩))
  go_wp2_with fail
  refine (keep_at b i x _ _ _ ?_).mono ?_
  · exact Kept.some (w := w) (by (go_light; repeat (first | (with_reducible exact Kept.refl _) | (with_reducible assumption) | (with_reducible refine Kept.alloc ?_ _ _) | (with_reducible refine Kept.drew ?_) | (with_reducible refine Kept.drewN ?_ _) | ((with_reducible refine Kept.setCell ?_ ?_ _); rotate_left; focus (first | (simp; done) | (simp; omega))) | refine Kept.trans ?_ (by assumption)))) hc
  rintro e w' ⟨rfl, k⟩
  have c0 : w'.cell? ⟨w.heap.size + 1, 0, none⟩ = some (.int .i64 0) := k.some (by simp)
  have c1 : w'.cell? ⟨w.heap.size + 1, 1, none⟩ = some (.int .i64 0) := k.some (by simp)
  have c2 : w'.cell? ⟨w.heap.size + 1, 2, none⟩ = some (.int .u64 0) := k.some (by simp)
  have c3 : w'.cell? ⟨w.heap.size + 1, 3, none⟩ = some (.int .u64 0) := k.some (by simp)
  have c4 : w'.cell? ⟨w.heap.size + 1, 4, none⟩ = some (.bool false) := k.some (by simp)
  have f0 : ∀ i, w'.frozen? ⟨w.heap.size + 1, i, none⟩ = false := fun i => by rw [k.froze]; simp
  have K := Lib.hid k
  clear k
  go_wp2
  refine bodyPost_ret (v := (.agg #[.int .i64 0, .int .i64 0, .int .u64 (x), .int .u64 (x), .bool false])) (by simp [results, Tryz.results224, go_sem, cell_set, *]) rfl ⟨rfl, ?_⟩
  have k := K.out
  (go_light; repeat (first | (with_reducible exact Kept.refl _) | (with_reducible assumption) | (with_reducible refine Kept.alloc ?_ _ _) | (with_reducible refine Kept.drew ?_) | (with_reducible refine Kept.drewN ?_ _) | ((with_reducible refine Kept.setCell ?_ ?_ _); rotate_left; focus (first | (simp; done) | (simp; omega))) | refine Kept.trans ?_ (by assumption)))
set_option maxHeartbeats 1000000 in
theorem swap_yes (b i : Nat) (x n : Int) (w : World) (hc : w.cell? ⟨b, i, none⟩ = some (.int .u64 x)) (hf : w.frozen? ⟨b, i, none⟩ = false) : Calls Tryz.prog 224 #[.agg #[.pointer (some ⟨b, i, none⟩), .int .u64 x, .int .u64 n]] w fun e w' => e = .returned (.agg #[.int .i64 0, .int .i64 0, .int .u64 (x), .int .u64 (n), .bool true]) ∧ Wrote b i n w w' := by
  have hb := lt_of_cell hc
  go_enter Tryz.func224, Tryz.ntmps224
  go_wp2_with fail
  go_region_held3 (fun w' => w'.cell? ⟨w.heap.size, 0, none⟩ = some (.pointer (some ⟨b, i, none⟩)) ∧ w'.cell? ⟨w.heap.size, 1, none⟩ = some (.int .u64 x) ∧ w'.cell? ⟨w.heap.size, 2, none⟩ = some (.int .u64 n)) (first | go_keep | assumption) (first | (go_at_call 94; refine (word_at b i x _ (Kept.some (w := w) (by (go_light; repeat (first | (with_reducible exact Kept.refl _) | (with_reducible assumption) | (with_reducible refine Kept.alloc ?_ _ _) | (with_reducible refine Kept.drew ?_) | (with_reducible refine Kept.drewN ?_ _) | ((with_reducible refine Kept.setCell ?_ ?_ _); rotate_left; focus (first | (simp; done) | (simp; omega))) | refine Kept.trans ?_ (by assumption)))) hc)).mono ?_; rintro e w' ⟨rfl, rfl⟩))
  go_wp2_with fail
  refine (write_at b i x _ _ _ _ ?_ ?_).mono ?_
  · exact Kept.some (w := w) (by (go_light; repeat (first | (with_reducible exact Kept.refl _) | (with_reducible assumption) | (with_reducible refine Kept.alloc ?_ _ _) | (with_reducible refine Kept.drew ?_) | (with_reducible refine Kept.drewN ?_ _) | ((with_reducible refine Kept.setCell ?_ ?_ _); rotate_left; focus (first | (simp; done) | (simp; omega))) | refine Kept.trans ?_ (by assumption)))) hc
  · rw [Kept.froze (w := w) (by (go_light; repeat (first | (with_reducible exact Kept.refl _) | (with_reducible assumption) | (with_reducible refine Kept.alloc ?_ _ _) | (with_reducible refine Kept.drew ?_) | (with_reducible refine Kept.drewN ?_ _) | ((with_reducible refine Kept.setCell ?_ ?_ _); rotate_left; focus (first | (simp; done) | (simp; omega))) | refine Kept.trans ?_ (by assumption))))]; exact hf
  rintro e w' ⟨rfl, k⟩
  have c0 : w'.cell? ⟨w.heap.size + 1, 0, none⟩ = some (.int .i64 0) := k.but.some (by simp) (by omega)
  have c1 : w'.cell? ⟨w.heap.size + 1, 1, none⟩ = some (.int .i64 0) := k.but.some (by simp) (by omega)
  have c2 : w'.cell? ⟨w.heap.size + 1, 2, none⟩ = some (.int .u64 0) := k.but.some (by simp) (by omega)
  have c3 : w'.cell? ⟨w.heap.size + 1, 3, none⟩ = some (.int .u64 0) := k.but.some (by simp) (by omega)
  have c4 : w'.cell? ⟨w.heap.size + 1, 4, none⟩ = some (.bool false) := k.but.some (by simp) (by omega)
  have f0 : ∀ i, w'.frozen? ⟨w.heap.size + 1, i, none⟩ = false := fun i => by rw [k.but.froze]; simp
  have K := Lib.hid k
  clear k
  go_wp2
  refine bodyPost_ret (v := (.agg #[.int .i64 0, .int .i64 0, .int .u64 (x), .int .u64 (n), .bool true])) (by simp [results, Tryz.results224, go_sem, cell_set, *]) rfl ⟨rfl, ?_⟩
  have k := K.out
  go_light
  repeat ((with_reducible refine Wrote.set ?_ hb ?_ _); rotate_left; focus (simp; done))
  refine Wrote.after k ?_ hb
  (go_light; repeat (first | (with_reducible exact Kept.refl _) | (with_reducible assumption) | (with_reducible refine Kept.alloc ?_ _ _) | (with_reducible refine Kept.drew ?_) | (with_reducible refine Kept.drewN ?_ _) | ((with_reducible refine Kept.setCell ?_ ?_ _); rotate_left; focus (first | (simp; done) | (simp; omega))) | refine Kept.trans ?_ (by assumption)))
end Go.Proofs.YtejiogggocnldaaGreat.Wo

namespace Go.Proofs.YtejiogggocnldaaGreat.Wo
set_option maxRecDepth 20000
open Go.RowKit

theorem infoWord : (Tryz.prog.info? 44).map (fun i => (i.zero, i.size, i.bytes)) = some (some (.int .u64 0), 1, 8) := by kernel_rfl

theorem make_words (n : Nat) (hn : n ≤ 1000000) : ∃ Z : Array Value, (∀ i, i < n → Z[i]? = some (.int .u64 0)) ∧
    ∀ w : World, (Instr.makeSlice 32 (.int .i64 (n : Int)) (.int .i64 (n : Int))).run Tryz.prog w = .ok (.slice (some ⟨w.heap.size, 0, none⟩) n n) (w.alloc (.cells Z 44)) := by
  obtain ⟨i0, hi, hz0, hz1, hz2⟩ := info_parts infoWord
  refine ⟨madeCells #[.int .u64 0] n, fun i h => ?_, fun w => ?_⟩
  · have e : (madeCells #[.int .u64 0] n)[i]? = (madeCells #[.int .u64 0] n).toList[i]? := by simp
    rw [e, toList_madeCells_one]
    simp [h]
  · have h := run_makeSlice (P := Tryz.prog) w 32 44 i0 (.int .u64 0) Tryz.underlying32 hi hz0 .i64 .i64 (n : Int) (n : Int) (by omega) (Int.le_refl _) (by rw [hz1]; omega) (by rw [hz2]; omega) (by omega)
    rw [h, hz1]
    simp [Value.cells]
end Go.Proofs.YtejiogggocnldaaGreat.Wo

namespace Go.Proofs.YtejiogggocnldaaGreat.Wo
set_option maxRecDepth 20000
open Go.RowKit

def St.zero : St := { ws := fun _ => 0, kind := 0, at_ := 0, old := 0, new := 0, held := false, cnt := 0 }

set_option maxHeartbeats 1000000 in
theorem refNew_no (n : Int) (h : n < 1 ∨ 4096 < n) (w : World) :
    Calls Tryz.prog 79 #[.int .i64 n] w fun e w' => e = .returned (.tuple #[.pointer none, .int .i64 3]) ∧ w = w' := by
  rcases h with h | h
  · go_enter Tryz.func79, Tryz.ntmps79
    go_wp2
    go_ret2
    exact ⟨rfl, rfl⟩
  · have h' : ¬ n < 1 := by omega
    go_enter Tryz.func79, Tryz.ntmps79
    go_wp2
    go_ret2
    exact ⟨rfl, rfl⟩

def NewPost (n : Nat) (w : World) (e : Ending) (w' : World) : Prop :=
  ∃ M B, e = .returned (.tuple #[.pointer (some ⟨M, 0, none⟩), .int .i64 0]) ∧ RefIs w' M B n St.zero ∧ w.heap.size ≤ M ∧ w.heap.size ≤ B ∧ M < w'.heap.size ∧ B < w'.heap.size ∧ Kept w w'

set_option maxHeartbeats 1000000 in
theorem refNew_yes (n : Nat) (h : 1 ≤ n) (h' : n ≤ 4096) (w : World) :
    Calls Tryz.prog 79 #[.int .i64 n] w (NewPost n w) := by
  obtain ⟨Z, hZ, hmk⟩ := make_words n (by omega)
  have HZ := Lib.hid hZ
  clear hZ
  go_enter Tryz.func79, Tryz.ntmps79
  go_wp2
  go_ret2
  go_light
  refine ⟨w.heap.size + 1, w.heap.size, rfl, ?_, by omega, by omega, by simp, by simp; omega, ((Kept.refl w).alloc _ _).alloc _ _⟩
  refine ⟨?_, ?_, ?_, ?_, ?_, ?_, ?_, fun i hi => ?_, fun i => ?_, fun i => ?_, by omega⟩
  all_goals first | (simp; done) | (simp [St.zero]; done) | (have hz := HZ.out i hi; simp [hz, St.zero]; done)
end Go.Proofs.YtejiogggocnldaaGreat.Wo

namespace Go.Proofs.YtejiogggocnldaaGreat.Wo
set_option maxRecDepth 20000
open Go.RowKit

theorem RefMem.frame {w w' : World} {M B n : Nat} {ws : Nat → Int} {k a o v c : Int} {h : Bool} (hm : RefMem w M B n ws k a o v h c) {T : Nat → Prop} (hb : But T w w') (hM : ¬ T M) (hB : ¬ T B) : RefMem w' M B n ws k a o v h c :=
  ⟨hb.some hm.c0 hM, hb.some hm.c1 hM, hb.some hm.c2 hM, hb.some hm.c3 hM, hb.some hm.c4 hM, hb.some hm.c5 hM, hb.some hm.c6 hM,
   fun i hi => hb.some (hm.words i hi) hB, fun i => (hb.froze _).trans (hm.fM i), fun i => (hb.froze _).trans (hm.fB i), hm.ne⟩
theorem RefIs.frame {w w' : World} {M B n : Nat} {s : St} (hm : RefIs w M B n s) {T : Nat → Prop} (hb : But T w w') (hM : ¬ T M) (hB : ¬ T B) : RefIs w' M B n s := RefMem.frame hm hb hM hB

def WordsPost (n : Nat) (s : St) (w : World) (e : Ending) (w' : World) : Prop :=
  ∃ b c, e = .returned (.slice (some ⟨b, 0, none⟩) n c) ∧ w.heap.size ≤ b ∧ b < w'.heap.size ∧ (∀ i, i < n → w'.cell? ⟨b, i, none⟩ = some (.int .u64 (s.ws i))) ∧ (∀ i, w'.frozen? ⟨b, i, none⟩ = false) ∧ Kept w w'

def MadePost (Is : World → Nat → (Nat → Prop) → Nat → St → Prop) (n : Nat) (s : St) (w : World) (e : Ending) (w' : World) : Prop :=
  ∃ M S, e = .returned (.tuple #[.pointer (some ⟨M, 0, none⟩), .int .i64 0]) ∧ Is w' M S n s ∧ (∀ k, S k → w.heap.size ≤ k ∧ k < w'.heap.size) ∧ Kept w w'

end Go.Proofs.YtejiogggocnldaaGreat.Wo

namespace Go.Proofs.YtejiogggocnldaaGreat.Wo
set_option maxRecDepth 20000
open Go.RowKit

structure PMem (w : World) (M B n : Nat) (s : St) : Prop where
  p : w.cell? ⟨M, 0, none⟩ = some (.pointer (some ⟨B, 0, none⟩))
  words : ∀ i, i < 4096 → ∃ x, w.cell? ⟨B, i, none⟩ = some (.int .u64 x) ∧ (i < n → x = s.ws i)
  size : w.cell? ⟨B, 4096, none⟩ = some (.int .i64 n)
  c0 : w.cell? ⟨B, 4097, none⟩ = some (.int .i64 s.kind)
  c1 : w.cell? ⟨B, 4098, none⟩ = some (.int .i64 s.at_)
  c2 : w.cell? ⟨B, 4099, none⟩ = some (.int .u64 s.old)
  c3 : w.cell? ⟨B, 4100, none⟩ = some (.int .u64 s.new)
  c4 : w.cell? ⟨B, 4101, none⟩ = some (.bool s.held)
  cnt : w.cell? ⟨B, 4102, none⟩ = some (.int .i64 s.cnt)
  fB : ∀ i, w.frozen? ⟨B, i, none⟩ = false
  ne : M ≠ B
  hn : 1 ≤ n ∧ n ≤ 4096

theorem PMem.frame {w w' : World} {M B n : Nat} {s : St} (hm : PMem w M B n s) {T : Nat → Prop} (hb : But T w w') (hM : ¬ T M) (hB : ¬ T B) : PMem w' M B n s :=
  ⟨hb.some hm.p hM, fun i hi => by obtain ⟨x, h, h'⟩ := hm.words i hi; exact ⟨x, hb.some h hB, h'⟩, hb.some hm.size hB, hb.some hm.c0 hB, hb.some hm.c1 hB, hb.some hm.c2 hB, hb.some hm.c3 hB, hb.some hm.c4 hB, hb.some hm.cnt hB,
   fun i => (hb.froze _).trans (hm.fB i), hm.ne, hm.hn⟩
theorem PMem.kept {w w' : World} {M B n : Nat} {s : St} (hm : PMem w M B n s) (k : Kept w w') : PMem w' M B n s := hm.frame (k.but (fun _ => False)) id id
theorem PMem.lt {w : World} {M B n : Nat} {s : St} (hm : PMem w M B n s) : M < w.heap.size ∧ B < w.heap.size := ⟨lt_of_cell hm.p, lt_of_cell hm.size⟩

set_option maxHeartbeats 1000000 in
theorem valid_yes (M : Nat) (a : Addr) (w : World) (hp : w.cell? ⟨M, 0, none⟩ = some (.pointer (some a))) : Calls Tryz.prog 93 #[.pointer (some ⟨M, 0, none⟩)] w fun e w' => e = .returned (.bool true) ∧ w = w' := by
  go_enter Tryz.func93, Tryz.ntmps93
  go_wp2
  go_ret
  exact ⟨rfl, rfl⟩

set_option maxHeartbeats 1000000 in
theorem size_any (M B n : Nat) (w : World) (hp : w.cell? ⟨M, 0, none⟩ = some (.pointer (some ⟨B, 0, none⟩))) (hs : w.cell? ⟨B, 4096, none⟩ = some (.int .i64 n)) : Calls Tryz.prog 163 #[.pointer (some ⟨M, 0, none⟩)] w fun e w' => e = .returned (.int .i64 n) ∧ w = w' := by
  go_enter Tryz.func163, Tryz.ntmps163
  go_wp2_with fail
  refine (valid_yes M _ _ hp).mono ?_
  rintro e w' ⟨rfl, rfl⟩
  go_wp2
  go_ret
  exact ⟨rfl, rfl⟩

set_option maxHeartbeats 1000000 in
theorem count_any (M B : Nat) (c : Int) (w : World) (hp : w.cell? ⟨M, 0, none⟩ = some (.pointer (some ⟨B, 0, none⟩))) (hs : w.cell? ⟨B, 4102, none⟩ = some (.int .i64 c)) : Calls Tryz.prog 26 #[.pointer (some ⟨M, 0, none⟩)] w fun e w' => e = .returned (.int .i64 c) ∧ w = w' := by
  go_enter Tryz.func26, Tryz.ntmps26
  go_wp2_with fail
  refine (valid_yes M _ _ hp).mono ?_
  rintro e w' ⟨rfl, rfl⟩
  go_wp2
  go_ret
  exact ⟨rfl, rfl⟩

set_option maxHeartbeats 1000000 in
theorem cell_out (M B n : Nat) (a : Int) (w : World) (hp : w.cell? ⟨M, 0, none⟩ = some (.pointer (some ⟨B, 0, none⟩))) (hs : w.cell? ⟨B, 4096, none⟩ = some (.int .i64 n)) (ha : a < 0 ∨ n ≤ a) : Calls Tryz.prog 102 #[.pointer (some ⟨M, 0, none⟩), .int .i64 a] w fun e w' => e = .returned (.pointer none) ∧ w = w' := by
  rcases ha with ha | ha
  · go_enter Tryz.func102, Tryz.ntmps102
    go_wp2
    go_ret
    exact ⟨rfl, rfl⟩
  · go_enter Tryz.func102, Tryz.ntmps102
    go_wp2_with fail
    refine (size_any M B n _ hp hs).mono ?_
    rintro e w' ⟨rfl, rfl⟩
    go_wp2
    go_ret
    exact ⟨rfl, rfl⟩
set_option maxHeartbeats 1000000 in
theorem cell_in (M B n a : Nat) (w : World) (hp : w.cell? ⟨M, 0, none⟩ = some (.pointer (some ⟨B, 0, none⟩))) (hs : w.cell? ⟨B, 4096, none⟩ = some (.int .i64 n)) (ha : a < n) (hn : n ≤ 4096) : Calls Tryz.prog 102 #[.pointer (some ⟨M, 0, none⟩), .int .i64 a] w fun e w' => e = .returned (.pointer (some ⟨B, a, none⟩)) ∧ w = w' := by
  go_enter Tryz.func102, Tryz.ntmps102
  go_wp2_with fail
  refine (size_any M B n _ hp hs).mono ?_
  rintro e w' ⟨rfl, rfl⟩
  go_wp2
  go_ret
  exact ⟨rfl, rfl⟩
set_option maxHeartbeats 1000000 in
theorem last_any (M B n : Nat) (s : St) (w : World) (hm : PMem w M B n s) : Calls Tryz.prog 24 #[.pointer (some ⟨M, 0, none⟩)] w fun e w' => e = .returned (.agg #[.int .i64 s.kind, .int .i64 s.at_, .int .u64 s.old, .int .u64 s.new, .bool s.held]) ∧ Kept w w' := by
  obtain ⟨p, _, _, c0, c1, c2, c3, c4, _, _, _, _⟩ := hm
  have hM := lt_of_cell p
  have hB := lt_of_cell c0
  go_enter Tryz.func24, Tryz.ntmps24
  go_wp2_with fail
  refine (valid_yes M _ _ (Kept.some (w := w) (by (go_light; repeat (first | (with_reducible exact Kept.refl _) | (with_reducible assumption) | (with_reducible refine Kept.alloc ?_ _ _) | (with_reducible refine Kept.drew ?_) | (with_reducible refine Kept.drewN ?_ _) | ((with_reducible refine Kept.setCell ?_ ?_ _); rotate_left; focus (first | (simp; done) | (simp; omega))) | refine Kept.trans ?_ (by assumption)))) p)).mono ?_
  rintro e w' ⟨rfl, rfl⟩
  go_wp2
  refine bodyPost_ret (v := .agg #[.int .i64 s.kind, .int .i64 s.at_, .int .u64 s.old, .int .u64 s.new, .bool s.held]) (by simp [results, Tryz.results24, go_sem]) rfl ⟨rfl, ?_⟩
  (go_light; repeat (first | (with_reducible exact Kept.refl _) | (with_reducible assumption) | (with_reducible refine Kept.alloc ?_ _ _) | (with_reducible refine Kept.drew ?_) | (with_reducible refine Kept.drewN ?_ _) | ((with_reducible refine Kept.setCell ?_ ?_ _); rotate_left; focus (first | (simp; done) | (simp; omega))) | refine Kept.trans ?_ (by assumption)))
end Go.Proofs.YtejiogggocnldaaGreat.Wo
