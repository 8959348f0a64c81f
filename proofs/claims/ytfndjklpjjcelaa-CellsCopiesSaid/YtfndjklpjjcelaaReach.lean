/- The program's accesses of one cell: what each does, and tells. A pointer that is nil is no cell. -/
import Derived.Test.YtfndjklpjjcelaaProg
import Derived.Test.YtfndjklpjjcelaaFrame
import Derived.Deep.RegionHeld3
import Derived.Lib.Hide
import Derived.Deep.Light
namespace Go.Proofs.Ytfndjklpjjcelaa
open Go.RowKit

theorem exists_nil (w : World) : Calls Try.prog 43 #[.pointer none] w fun e w' => e = .returned (.bool false) ∧ w = w' := by
  go_enter Try.func43, Try.ntmps43
  go_wp2
  go_ret
  exact ⟨rfl, rfl⟩
theorem exists_at (a : Addr) (w : World) : Calls Try.prog 43 #[.pointer (some a)] w fun e w' => e = .returned (.bool true) ∧ w = w' := by
  go_enter Try.func43, Try.ntmps43
  go_wp2
  go_ret
  exact ⟨rfl, rfl⟩
theorem word_nil (w : World) : Calls Try.prog 40 #[.pointer none] w fun e w' => e = .returned (.int .u64 0) ∧ w = w' := by
  go_enter Try.func40, Try.ntmps40
  go_wp2_with fail
  refine (exists_nil _).mono ?_
  rintro e w' ⟨rfl, rfl⟩
  go_wp2
  go_ret
  exact ⟨rfl, rfl⟩
theorem word_at (b o : Nat) (x : Int) (w : World) (hc : w.cell? ⟨b, o, none⟩ = some (.int .u64 x)) : Calls Try.prog 40 #[.pointer (some ⟨b, o, none⟩)] w fun e w' => e = .returned (.int .u64 x) ∧ w = w' := by
  go_enter Try.func40, Try.ntmps40
  go_wp2_with fail
  refine (exists_at _ _).mono ?_
  rintro e w' ⟨rfl, rfl⟩
  go_wp2
  go_ret
  exact ⟨rfl, rfl⟩

set_option maxHeartbeats 1000000 in
theorem keep_nil (o n : Int) (w : World) : Calls Try.prog 41 #[.agg #[.pointer none, .int .u64 o, .int .u64 n]] w fun e w' => e = .returned (.agg #[.int .i64 0, .int .i64 0, .int .u64 (0), .int .u64 (0), .bool false]) ∧ Kept w w' := by
  go_enter Try.func41, Try.ntmps41
  go_wp2_with fail
  refine (word_nil _).mono ?_
  rintro e w' ⟨rfl, rfl⟩
  go_wp2
  refine bodyPost_ret (v := (.agg #[.int .i64 0, .int .i64 0, .int .u64 (0), .int .u64 (0), .bool false])) (by simp [results, Try.results41, go_sem]) rfl ⟨rfl, ?_⟩
  (go_light; repeat (first | (with_reducible exact Kept.refl _) | (with_reducible assumption) | (with_reducible refine Kept.alloc ?_ _ _) | (with_reducible refine Kept.drew ?_) | (with_reducible refine Kept.drewN ?_ _) | ((with_reducible refine Kept.setCell ?_ ?_ _); rotate_left; focus (first | (simp; done) | (simp; omega))) | refine Kept.trans ?_ (by assumption)))
set_option maxHeartbeats 1000000 in
theorem keep_at (b i : Nat) (x o n : Int) (w : World) (hc : w.cell? ⟨b, i, none⟩ = some (.int .u64 x)) : Calls Try.prog 41 #[.agg #[.pointer (some ⟨b, i, none⟩), .int .u64 o, .int .u64 n]] w fun e w' => e = .returned (.agg #[.int .i64 0, .int .i64 0, .int .u64 (x), .int .u64 (x), .bool false]) ∧ Kept w w' := by
  have hb := lt_of_cell hc
  go_enter Try.func41, Try.ntmps41
  go_wp2_with fail
  refine (word_at b i x _ ?_).mono ?_
  · exact Kept.some (w := w) (by (go_light; repeat (first | (with_reducible exact Kept.refl _) | (with_reducible assumption) | (with_reducible refine Kept.alloc ?_ _ _) | (with_reducible refine Kept.drew ?_) | (with_reducible refine Kept.drewN ?_ _) | ((with_reducible refine Kept.setCell ?_ ?_ _); rotate_left; focus (first | (simp; done) | (simp; omega))) | refine Kept.trans ?_ (by assumption)))) hc
  rintro e w' ⟨rfl, rfl⟩
  go_wp2
  refine bodyPost_ret (v := (.agg #[.int .i64 0, .int .i64 0, .int .u64 (x), .int .u64 (x), .bool false])) (by simp [results, Try.results41, go_sem]) rfl ⟨rfl, ?_⟩
  (go_light; repeat (first | (with_reducible exact Kept.refl _) | (with_reducible assumption) | (with_reducible refine Kept.alloc ?_ _ _) | (with_reducible refine Kept.drew ?_) | (with_reducible refine Kept.drewN ?_ _) | ((with_reducible refine Kept.setCell ?_ ?_ _); rotate_left; focus (first | (simp; done) | (simp; omega))) | refine Kept.trans ?_ (by assumption)))

/-- The cell i of block b is v now; all else is as it was, but for new blocks. -/
structure Wrote (b i : Nat) (v : Int) (w w' : World) : Prop where
  but : But (fun k => k = b) w w'
  cell : ∀ j, w'.cell? ⟨b, j, none⟩ = if j = i then some (.int .u64 v) else w.cell? ⟨b, j, none⟩

theorem Wrote.after {b i : Nat} {v : Int} {a w w' : World} (h : Wrote b i v w w') (k : Kept a w) (hb : b < a.heap.size) : Wrote b i v a w' :=
  ⟨(k.but _).trans h.but (fun _ _ h => h), fun j => by rw [h.cell, k.cell b j hb]⟩
theorem Wrote.then {b i : Nat} {v : Int} {w w' c : World} (h : Wrote b i v w w') (k : Kept w' c) (hb : b < w.heap.size) : Wrote b i v w c :=
  ⟨h.but.then k, fun j => by rw [k.cell b j (Nat.lt_of_lt_of_le hb h.but.size), h.cell]⟩
theorem Wrote.set {b i : Nat} {v : Int} {w w' : World} (h : Wrote b i v w w') (hb : b < w.heap.size) {p : Addr} (hp : w.heap.size ≤ p.block) (x : Value) : Wrote b i v w (w'.setCell p x) :=
  ⟨h.but.setCell (Or.inr hp) x, fun j => by rw [World.cell?_setCell_other _ _ _ _ (by intro e; subst e; exact absurd hp (by simp; omega)), h.cell]⟩
theorem Wrote.mk' {b i : Nat} {x v : Int} {w : World} (hc : w.cell? ⟨b, i, none⟩ = some (.int .u64 x)) : Wrote b i v w (w.setCell ⟨b, i, none⟩ (.int .u64 v)) :=
  ⟨(But.refl (fun k => k = b) w).setCell (p := ⟨b, i, none⟩) (Or.inl rfl) _, fun j => by
    rw [cell_set]
    by_cases h : i = j
    · subst h; rw [if_pos rfl, if_pos rfl, hc]; rfl
    · rw [if_neg h, if_neg (fun e => h e.symm)]⟩

set_option maxHeartbeats 1000000 in
theorem write_nil (o n v : Int) (w : World) : Calls Try.prog 42 #[.agg #[.pointer none, .int .u64 o, .int .u64 n], .int .u64 v] w fun e w' => e = .returned (.agg #[.int .i64 0, .int .i64 0, .int .u64 (0), .int .u64 (0), .bool false]) ∧ Kept w w' := by
  go_enter Try.func42, Try.ntmps42
  go_wp2_with fail
  refine (exists_nil _).mono ?_
  rintro e w' ⟨rfl, rfl⟩
  go_wp2_with fail
  refine (keep_nil _ _ _).mono ?_
  rintro e w' ⟨rfl, k⟩
  have hc := k.cell
  have hfr := k.froze
  have hz := k.size
  simp at hz
  have hz1 : w.heap.size < w'.heap.size := by omega
  have hz2 : w.heap.size + 1 < w'.heap.size := by omega
  clear hz
  go_wp2
  refine bodyPost_ret (v := (.agg #[.int .i64 0, .int .i64 0, .int .u64 (0), .int .u64 (0), .bool false])) (by simp [results, Try.results42, go_sem, hc]) rfl ⟨rfl, ?_⟩
  (go_light; repeat (first | (with_reducible exact Kept.refl _) | (with_reducible assumption) | (with_reducible refine Kept.alloc ?_ _ _) | (with_reducible refine Kept.drew ?_) | (with_reducible refine Kept.drewN ?_ _) | ((with_reducible refine Kept.setCell ?_ ?_ _); rotate_left; focus (first | (simp; done) | (simp; omega))) | refine Kept.trans ?_ (by assumption)))
set_option maxHeartbeats 1000000 in
theorem write_at (b i : Nat) (x o n v : Int) (w : World) (hc : w.cell? ⟨b, i, none⟩ = some (.int .u64 x)) (hf : w.frozen? ⟨b, i, none⟩ = false) : Calls Try.prog 42 #[.agg #[.pointer (some ⟨b, i, none⟩), .int .u64 o, .int .u64 n], .int .u64 v] w fun e w' => e = .returned (.agg #[.int .i64 0, .int .i64 0, .int .u64 (x), .int .u64 (v), .bool true]) ∧ Wrote b i v w w' := by
  have hb := lt_of_cell hc
  go_enter Try.func42, Try.ntmps42
  go_wp2_with fail
  refine (exists_at _ _).mono ?_
  rintro e w' ⟨rfl, rfl⟩
  go_wp2_with fail
  refine (word_at b i x _ ?_).mono ?_
  · exact Kept.some (w := w) (by (go_light; repeat (first | (with_reducible exact Kept.refl _) | (with_reducible assumption) | (with_reducible refine Kept.alloc ?_ _ _) | (with_reducible refine Kept.drew ?_) | (with_reducible refine Kept.drewN ?_ _) | ((with_reducible refine Kept.setCell ?_ ?_ _); rotate_left; focus (first | (simp; done) | (simp; omega))) | refine Kept.trans ?_ (by assumption)))) hc
  rintro e w' ⟨rfl, rfl⟩
  go_wp2
  refine bodyPost_ret (v := (.agg #[.int .i64 0, .int .i64 0, .int .u64 (x), .int .u64 (v), .bool true])) (by simp [results, Try.results42, go_sem]) rfl ⟨rfl, ?_⟩
  go_light
  refine Wrote.then (Wrote.mk' hc) ?_ hb
  (go_light; repeat (first | (with_reducible exact Kept.refl _) | (with_reducible assumption) | (with_reducible refine Kept.alloc ?_ _ _) | (with_reducible refine Kept.drew ?_) | (with_reducible refine Kept.drewN ?_ _) | ((with_reducible refine Kept.setCell ?_ ?_ _); rotate_left; focus (first | (simp; done) | (simp; omega))) | refine Kept.trans ?_ (by assumption)))
set_option maxHeartbeats 1000000 in
theorem load_nil (o n : Int) (w : World) : Calls Try.prog 33 #[.agg #[.pointer none, .int .u64 o, .int .u64 n]] w fun e w' => e = .returned (.agg #[.int .i64 0, .int .i64 0, .int .u64 (0), .int .u64 (0), .bool false]) ∧ Kept w w' := by
  go_enter Try.func33, Try.ntmps33
  go_wp2_with fail
  refine (keep_nil _ _ _).mono ?_
  rintro e w' ⟨rfl, k⟩
  have k1 := k
  have hcc := k.cell
  have hfr := k.froze
  have hz := k.size
  simp at hz
  have hz1 : w.heap.size < w'.heap.size := by omega
  have hz2 : w.heap.size + 1 < w'.heap.size := by omega
  clear hz k
  go_wp2
  refine bodyPost_ret (v := (.agg #[.int .i64 0, .int .i64 0, .int .u64 (0), .int .u64 (0), .bool false])) (by simp [results, Try.results33, go_sem, hcc]) rfl ⟨rfl, ?_⟩
  (go_light; repeat (first | (with_reducible exact Kept.refl _) | (with_reducible assumption) | (with_reducible refine Kept.alloc ?_ _ _) | (with_reducible refine Kept.drew ?_) | (with_reducible refine Kept.drewN ?_ _) | ((with_reducible refine Kept.setCell ?_ ?_ _); rotate_left; focus (first | (simp; done) | (simp; omega))) | refine Kept.trans ?_ (by assumption)))
set_option maxHeartbeats 1000000 in
theorem load_at (b i : Nat) (x o n : Int) (w : World) (hc : w.cell? ⟨b, i, none⟩ = some (.int .u64 x)) : Calls Try.prog 33 #[.agg #[.pointer (some ⟨b, i, none⟩), .int .u64 o, .int .u64 n]] w fun e w' => e = .returned (.agg #[.int .i64 0, .int .i64 0, .int .u64 (x), .int .u64 (x), .bool false]) ∧ Kept w w' := by
  go_enter Try.func33, Try.ntmps33
  go_wp2_with fail
  refine (keep_at b i x _ _ _ ?_).mono ?_
  · exact Kept.some (w := w) (by (go_light; repeat (first | (with_reducible exact Kept.refl _) | (with_reducible assumption) | (with_reducible refine Kept.alloc ?_ _ _) | (with_reducible refine Kept.drew ?_) | (with_reducible refine Kept.drewN ?_ _) | ((with_reducible refine Kept.setCell ?_ ?_ _); rotate_left; focus (first | (simp; done) | (simp; omega))) | refine Kept.trans ?_ (by assumption)))) hc
  rintro e w' ⟨rfl, k⟩
  have k1 := k
  have hcc := k.cell
  have hfr := k.froze
  have hz := k.size
  simp at hz
  have hz1 : w.heap.size < w'.heap.size := by omega
  have hz2 : w.heap.size + 1 < w'.heap.size := by omega
  clear hz k
  go_wp2
  refine bodyPost_ret (v := (.agg #[.int .i64 0, .int .i64 0, .int .u64 (x), .int .u64 (x), .bool false])) (by simp [results, Try.results33, go_sem, hcc]) rfl ⟨rfl, ?_⟩
  (go_light; repeat (first | (with_reducible exact Kept.refl _) | (with_reducible assumption) | (with_reducible refine Kept.alloc ?_ _ _) | (with_reducible refine Kept.drew ?_) | (with_reducible refine Kept.drewN ?_ _) | ((with_reducible refine Kept.setCell ?_ ?_ _); rotate_left; focus (first | (simp; done) | (simp; omega))) | refine Kept.trans ?_ (by assumption)))
set_option maxHeartbeats 1000000 in
theorem store_nil (o n : Int) (w : World) : Calls Try.prog 35 #[.agg #[.pointer none, .int .u64 o, .int .u64 n]] w fun e w' => e = .returned (.agg #[.int .i64 0, .int .i64 0, .int .u64 (0), .int .u64 (0), .bool false]) ∧ Kept w w' := by
  go_enter Try.func35, Try.ntmps35
  go_wp2_with fail
  refine (write_nil _ _ _ _).mono ?_
  rintro e w' ⟨rfl, k⟩
  have c0 : w'.cell? ⟨w.heap.size + 1, 0, none⟩ = some (.int .i64 0) := k.some (by simp)
  have c1 : w'.cell? ⟨w.heap.size + 1, 1, none⟩ = some (.int .i64 0) := k.some (by simp)
  have c2 : w'.cell? ⟨w.heap.size + 1, 2, none⟩ = some (.int .u64 0) := k.some (by simp)
  have c3 : w'.cell? ⟨w.heap.size + 1, 3, none⟩ = some (.int .u64 0) := k.some (by simp)
  have c4 : w'.cell? ⟨w.heap.size + 1, 4, none⟩ = some (.bool false) := k.some (by simp)
  have f0 : ∀ i, w'.frozen? ⟨w.heap.size + 1, i, none⟩ = false := fun i => by rw [k.froze]; simp
  have K := Lib.hid k
  clear k
  go_wp2
  refine bodyPost_ret (v := (.agg #[.int .i64 0, .int .i64 0, .int .u64 (0), .int .u64 (0), .bool false])) (by simp [results, Try.results35, go_sem, cell_set, *]) rfl ⟨rfl, ?_⟩
  have k := K.out
  (go_light; repeat (first | (with_reducible exact Kept.refl _) | (with_reducible assumption) | (with_reducible refine Kept.alloc ?_ _ _) | (with_reducible refine Kept.drew ?_) | (with_reducible refine Kept.drewN ?_ _) | ((with_reducible refine Kept.setCell ?_ ?_ _); rotate_left; focus (first | (simp; done) | (simp; omega))) | refine Kept.trans ?_ (by assumption)))
set_option maxHeartbeats 1000000 in
theorem store_at (b i : Nat) (x o n : Int) (w : World) (hc : w.cell? ⟨b, i, none⟩ = some (.int .u64 x)) (hf : w.frozen? ⟨b, i, none⟩ = false) : Calls Try.prog 35 #[.agg #[.pointer (some ⟨b, i, none⟩), .int .u64 o, .int .u64 n]] w fun e w' => e = .returned (.agg #[.int .i64 0, .int .i64 0, .int .u64 (x), .int .u64 (n), .bool true]) ∧ Wrote b i n w w' := by
  have hb := lt_of_cell hc
  go_enter Try.func35, Try.ntmps35
  go_wp2_with fail
  refine (write_at b i x _ _ _ _ ?_ ?_).mono ?_
  · exact Kept.some (w := w) (by (go_light; repeat (first | (with_reducible exact Kept.refl _) | (with_reducible assumption) | (with_reducible refine Kept.alloc ?_ _ _) | (with_reducible refine Kept.drew ?_) | (with_reducible refine Kept.drewN ?_ _) | ((with_reducible refine Kept.setCell ?_ ?_ _); rotate_left; focus (first | (simp; done) | (simp; omega))) | refine Kept.trans ?_ (by assumption)))) hc
  · rw [Kept.froze (w := w) (by (go_light; repeat (first | (with_reducible exact Kept.refl _) | (with_reducible assumption) | (with_reducible refine Kept.alloc ?_ _ _) | (with_reducible refine Kept.drew ?_) | (with_reducible refine Kept.drewN ?_ _) | ((with_reducible refine Kept.setCell ?_ ?_ _); rotate_left; focus (first | (simp; done) | (simp; omega))) | refine Kept.trans ?_ (by assumption))))]; exact hf
  rintro e w' ⟨rfl, k⟩
  have c0 : w'.cell? ⟨w.heap.size + 1, 0, none⟩ = some (.int .i64 0) := k.but.some (by simp) (by omega)
  have c1 : w'.cell? ⟨w.heap.size + 1, 1, none⟩ = some (.int .i64 0) := k.but.some (by simp) (by omega)
  have c2 : w'.cell? ⟨w.heap.size + 1, 2, none⟩ = some (.int .u64 0) := k.but.some (by simp) (by omega)
  have c3 : w'.cell? ⟨w.heap.size + 1, 3, none⟩ = some (.int .u64 0) := k.but.some (by simp) (by omega)
  have c4 : w'.cell? ⟨w.heap.size + 1, 4, none⟩ = some (.bool false) := k.but.some (by simp) (by omega)
  have f0 : ∀ i, w'.frozen? ⟨w.heap.size + 1, i, none⟩ = false := fun i => by rw [k.but.froze]; simp
  have K := Lib.hid k
  clear k
  go_wp2
  refine bodyPost_ret (v := (.agg #[.int .i64 0, .int .i64 0, .int .u64 (x), .int .u64 (n), .bool true])) (by simp [results, Try.results35, go_sem, cell_set, *]) rfl ⟨rfl, ?_⟩
  have k := K.out
  go_light
  repeat ((with_reducible refine Wrote.set ?_ hb ?_ _); rotate_left; focus (simp; done))
  refine Wrote.after k ?_ hb
  (go_light; repeat (first | (with_reducible exact Kept.refl _) | (with_reducible assumption) | (with_reducible refine Kept.alloc ?_ _ _) | (with_reducible refine Kept.drew ?_) | (with_reducible refine Kept.drewN ?_ _) | ((with_reducible refine Kept.setCell ?_ ?_ _); rotate_left; focus (first | (simp; done) | (simp; omega))) | refine Kept.trans ?_ (by assumption)))
set_option maxHeartbeats 1000000 in
theorem swap_nil (o n : Int) (w : World) : Calls Try.prog 36 #[.agg #[.pointer none, .int .u64 o, .int .u64 n]] w fun e w' => e = .returned (.agg #[.int .i64 0, .int .i64 0, .int .u64 (0), .int .u64 (0), .bool false]) ∧ Kept w w' := by
  by_cases ho : o = 0
  · subst ho
    go_enter Try.func36, Try.ntmps36
    go_wp2_with fail
    go_region_held3 (fun w' => w'.cell? ⟨w.heap.size, 0, none⟩ = some (.pointer none) ∧ w'.cell? ⟨w.heap.size, 1, none⟩ = some (.int .u64 0) ∧ w'.cell? ⟨w.heap.size, 2, none⟩ = some (.int .u64 n)) (first | go_keep | assumption) (first | (go_at_call 40; refine (word_nil _).mono ?_; rintro e w' ⟨rfl, rfl⟩))
    go_wp2_with fail
    refine (write_nil _ _ _ _).mono ?_
    rintro e w' ⟨rfl, k⟩
    have c0 : w'.cell? ⟨w.heap.size + 1, 0, none⟩ = some (.int .i64 0) := k.some (by simp)
    have c1 : w'.cell? ⟨w.heap.size + 1, 1, none⟩ = some (.int .i64 0) := k.some (by simp)
    have c2 : w'.cell? ⟨w.heap.size + 1, 2, none⟩ = some (.int .u64 0) := k.some (by simp)
    have c3 : w'.cell? ⟨w.heap.size + 1, 3, none⟩ = some (.int .u64 0) := k.some (by simp)
    have c4 : w'.cell? ⟨w.heap.size + 1, 4, none⟩ = some (.bool false) := k.some (by simp)
    have f0 : ∀ i, w'.frozen? ⟨w.heap.size + 1, i, none⟩ = false := fun i => by rw [k.froze]; simp
    have K := Lib.hid k
    clear k
    go_wp2
    refine bodyPost_ret (v := (.agg #[.int .i64 0, .int .i64 0, .int .u64 (0), .int .u64 (0), .bool false])) (by simp [results, Try.results36, go_sem, cell_set, *]) rfl ⟨rfl, ?_⟩
    have k := K.out
    (go_light; repeat (first | (with_reducible exact Kept.refl _) | (with_reducible assumption) | (with_reducible refine Kept.alloc ?_ _ _) | (with_reducible refine Kept.drew ?_) | (with_reducible refine Kept.drewN ?_ _) | ((with_reducible refine Kept.setCell ?_ ?_ _); rotate_left; focus (first | (simp; done) | (simp; omega))) | refine Kept.trans ?_ (by assumption)))
  · have hq : ((0 : Int) != o) = true := by simp; omega
    go_enter Try.func36, Try.ntmps36
    go_wp2_with fail
    go_region_held3 (fun w' => w'.cell? ⟨w.heap.size, 0, none⟩ = some (.pointer none) ∧ w'.cell? ⟨w.heap.size, 1, none⟩ = some (.int .u64 o) ∧ w'.cell? ⟨w.heap.size, 2, none⟩ = some (.int .u64 n)) (first | go_keep | assumption) (first | (go_at_call 40; refine (word_nil _).mono ?_; rintro e w' ⟨rfl, rfl⟩))
    go_wp2_with fail
    refine (keep_nil _ _ _).mono ?_
    rintro e w' ⟨rfl, k⟩
    have c0 : w'.cell? ⟨w.heap.size + 1, 0, none⟩ = some (.int .i64 0) := k.some (by simp)
    have c1 : w'.cell? ⟨w.heap.size + 1, 1, none⟩ = some (.int .i64 0) := k.some (by simp)
    have c2 : w'.cell? ⟨w.heap.size + 1, 2, none⟩ = some (.int .u64 0) := k.some (by simp)
    have c3 : w'.cell? ⟨w.heap.size + 1, 3, none⟩ = some (.int .u64 0) := k.some (by simp)
    have c4 : w'.cell? ⟨w.heap.size + 1, 4, none⟩ = some (.bool false) := k.some (by simp)
    have f0 : ∀ i, w'.frozen? ⟨w.heap.size + 1, i, none⟩ = false := fun i => by rw [k.froze]; simp
    have K := Lib.hid k
    clear k
    go_wp2
    refine bodyPost_ret (v := (.agg #[.int .i64 0, .int .i64 0, .int .u64 (0), .int .u64 (0), .bool false])) (by simp [results, Try.results36, go_sem, cell_set, *]) rfl ⟨rfl, ?_⟩
    have k := K.out
    (go_light; repeat (first | (with_reducible exact Kept.refl _) | (with_reducible assumption) | (with_reducible refine Kept.alloc ?_ _ _) | (with_reducible refine Kept.drew ?_) | (with_reducible refine Kept.drewN ?_ _) | ((with_reducible refine Kept.setCell ?_ ?_ _); rotate_left; focus (first | (simp; done) | (simp; omega))) | refine Kept.trans ?_ (by assumption)))
set_option maxHeartbeats 1000000 in
theorem swap_no (b i : Nat) (x o n : Int) (w : World) (hc : w.cell? ⟨b, i, none⟩ = some (.int .u64 x)) (hq : (x != o) = true) : Calls Try.prog 36 #[.agg #[.pointer (some ⟨b, i, none⟩), .int .u64 o, .int .u64 n]] w fun e w' => e = .returned (.agg #[.int .i64 0, .int .i64 0, .int .u64 (x), .int .u64 (x), .bool false]) ∧ Kept w w' := by
  have hb := lt_of_cell hc
  go_enter Try.func36, Try.ntmps36
  go_wp2_with fail
  go_region_held3 (fun w' => w'.cell? ⟨w.heap.size, 0, none⟩ = some (.pointer (some ⟨b, i, none⟩)) ∧ w'.cell? ⟨w.heap.size, 1, none⟩ = some (.int .u64 o) ∧ w'.cell? ⟨w.heap.size, 2, none⟩ = some (.int .u64 n)) (first | go_keep | assumption) (first | (go_at_call 40; refine (word_at b i x _ (Kept.some (w := w) (by (go_light; repeat (first | (with_reducible exact Kept.refl _) | (with_reducible assumption) | (with_reducible refine Kept.alloc ?_ _ _) | (with_reducible refine Kept.drew ?_) | (with_reducible refine Kept.drewN ?_ _) | ((with_reducible refine Kept.setCell ?_ ?_ _); rotate_left; focus (first | (simp; done) | (simp; omega))) | refine Kept.trans ?_ (by assumption)))) hc)).mono ?_; rintro e w' ⟨rfl, rfl⟩))
  go_wp2_with fail
  refine (keep_at b i x _ _ _ ?_).mono ?_
  · exact Kept.some (w := w) (by (go_light; repeat (first | (with_reducible exact Kept.refl _) | (with_reducible assumption) | (with_reducible refine Kept.alloc ?_ _ _) | (with_reducible refine Kept.drew ?_) | (with_reducible refine Kept.drewN ?_ _) | ((with_reducible refine Kept.setCell ?_ ?_ _); rotate_left; focus (first | (simp; done) | (simp; omega))) | refine Kept.trans ?_ (by assumption)))) hc
  rintro e w' ⟨rfl, k⟩
  have c0 : w'.cell? ⟨w.heap.size + 1, 0, none⟩ = some (.int .i64 0) := k.some (by simp)
  have c1 : w'.cell? ⟨w.heap.size + 1, 1, none⟩ = some (.int .i64 0) := k.some (by simp)
  have c2 : w'.cell? ⟨w.heap.size + 1, 2, none⟩ = some (.int .u64 0) := k.some (by simp)
  have c3 : w'.cell? ⟨w.heap.size + 1, 3, none⟩ = some (.int .u64 0) := k.some (by simp)
  have c4 : w'.cell? ⟨w.heap.size + 1, 4, none⟩ = some (.bool false) := k.some (by simp)
  have f0 : ∀ i, w'.frozen? ⟨w.heap.size + 1, i, none⟩ = false := fun i => by rw [k.froze]; simp
  have K := Lib.hid k
  clear k
  go_wp2
  refine bodyPost_ret (v := (.agg #[.int .i64 0, .int .i64 0, .int .u64 (x), .int .u64 (x), .bool false])) (by simp [results, Try.results36, go_sem, cell_set, *]) rfl ⟨rfl, ?_⟩
  have k := K.out
  (go_light; repeat (first | (with_reducible exact Kept.refl _) | (with_reducible assumption) | (with_reducible refine Kept.alloc ?_ _ _) | (with_reducible refine Kept.drew ?_) | (with_reducible refine Kept.drewN ?_ _) | ((with_reducible refine Kept.setCell ?_ ?_ _); rotate_left; focus (first | (simp; done) | (simp; omega))) | refine Kept.trans ?_ (by assumption)))
set_option maxHeartbeats 1000000 in
theorem swap_yes (b i : Nat) (x n : Int) (w : World) (hc : w.cell? ⟨b, i, none⟩ = some (.int .u64 x)) (hf : w.frozen? ⟨b, i, none⟩ = false) : Calls Try.prog 36 #[.agg #[.pointer (some ⟨b, i, none⟩), .int .u64 x, .int .u64 n]] w fun e w' => e = .returned (.agg #[.int .i64 0, .int .i64 0, .int .u64 (x), .int .u64 (n), .bool true]) ∧ Wrote b i n w w' := by
  have hb := lt_of_cell hc
  go_enter Try.func36, Try.ntmps36
  go_wp2_with fail
  go_region_held3 (fun w' => w'.cell? ⟨w.heap.size, 0, none⟩ = some (.pointer (some ⟨b, i, none⟩)) ∧ w'.cell? ⟨w.heap.size, 1, none⟩ = some (.int .u64 x) ∧ w'.cell? ⟨w.heap.size, 2, none⟩ = some (.int .u64 n)) (first | go_keep | assumption) (first | (go_at_call 40; refine (word_at b i x _ (Kept.some (w := w) (by (go_light; repeat (first | (with_reducible exact Kept.refl _) | (with_reducible assumption) | (with_reducible refine Kept.alloc ?_ _ _) | (with_reducible refine Kept.drew ?_) | (with_reducible refine Kept.drewN ?_ _) | ((with_reducible refine Kept.setCell ?_ ?_ _); rotate_left; focus (first | (simp; done) | (simp; omega))) | refine Kept.trans ?_ (by assumption)))) hc)).mono ?_; rintro e w' ⟨rfl, rfl⟩))
  go_wp2_with fail
  refine (write_at b i x _ _ _ _ ?_ ?_).mono ?_
  · exact Kept.some (w := w) (by (go_light; repeat (first | (with_reducible exact Kept.refl _) | (with_reducible assumption) | (with_reducible refine Kept.alloc ?_ _ _) | (with_reducible refine Kept.drew ?_) | (with_reducible refine Kept.drewN ?_ _) | ((with_reducible refine Kept.setCell ?_ ?_ _); rotate_left; focus (first | (simp; done) | (simp; omega))) | refine Kept.trans ?_ (by assumption)))) hc
  · rw [Kept.froze (w := w) (by (go_light; repeat (first | (with_reducible exact Kept.refl _) | (with_reducible assumption) | (with_reducible refine Kept.alloc ?_ _ _) | (with_reducible refine Kept.drew ?_) | (with_reducible refine Kept.drewN ?_ _) | ((with_reducible refine Kept.setCell ?_ ?_ _); rotate_left; focus (first | (simp; done) | (simp; omega))) | refine Kept.trans ?_ (by assumption))))]; exact hf
  rintro e w' ⟨rfl, k⟩
  have c0 : w'.cell? ⟨w.heap.size + 1, 0, none⟩ = some (.int .i64 0) := k.but.some (by simp) (by omega)
  have c1 : w'.cell? ⟨w.heap.size + 1, 1, none⟩ = some (.int .i64 0) := k.but.some (by simp) (by omega)
  have c2 : w'.cell? ⟨w.heap.size + 1, 2, none⟩ = some (.int .u64 0) := k.but.some (by simp) (by omega)
  have c3 : w'.cell? ⟨w.heap.size + 1, 3, none⟩ = some (.int .u64 0) := k.but.some (by simp) (by omega)
  have c4 : w'.cell? ⟨w.heap.size + 1, 4, none⟩ = some (.bool false) := k.but.some (by simp) (by omega)
  have f0 : ∀ i, w'.frozen? ⟨w.heap.size + 1, i, none⟩ = false := fun i => by rw [k.but.froze]; simp
  have K := Lib.hid k
  clear k
  go_wp2
  refine bodyPost_ret (v := (.agg #[.int .i64 0, .int .i64 0, .int .u64 (x), .int .u64 (n), .bool true])) (by simp [results, Try.results36, go_sem, cell_set, *]) rfl ⟨rfl, ?_⟩
  have k := K.out
  go_light
  repeat ((with_reducible refine Wrote.set ?_ hb ?_ _); rotate_left; focus (simp; done))
  refine Wrote.after k ?_ hb
  (go_light; repeat (first | (with_reducible exact Kept.refl _) | (with_reducible assumption) | (with_reducible refine Kept.alloc ?_ _ _) | (with_reducible refine Kept.drew ?_) | (with_reducible refine Kept.drewN ?_ _) | ((with_reducible refine Kept.setCell ?_ ?_ _); rotate_left; focus (first | (simp; done) | (simp; omega))) | refine Kept.trans ?_ (by assumption)))
set_option maxHeartbeats 1000000 in
theorem add_nil (o n : Int) (w : World) : Calls Try.prog 38 #[.agg #[.pointer none, .int .u64 o, .int .u64 n]] w fun e w' => e = .returned (.agg #[.int .i64 0, .int .i64 0, .int .u64 (0), .int .u64 (0), .bool false]) ∧ Kept w w' := by
  go_enter Try.func38, Try.ntmps38
  go_wp2_with fail
  go_region_held3 (fun w' => w'.cell? ⟨w.heap.size, 0, none⟩ = some (.pointer none) ∧ w'.cell? ⟨w.heap.size, 1, none⟩ = some (.int .u64 o) ∧ w'.cell? ⟨w.heap.size, 2, none⟩ = some (.int .u64 n)) (first | go_keep | assumption | exact ⟨k.some (by simp), k.some (by simp), k.some (by simp)⟩ | exact ⟨k.but.some (by simp) (by omega), k.but.some (by simp) (by omega), k.but.some (by simp) (by omega)⟩) (first | (go_at_call 40; refine (word_nil _).mono ?_; rintro e w' ⟨rfl, rfl⟩) | (go_at_call 42; refine (write_nil _ _ _ _).mono ?_; rintro e w' ⟨rfl, k⟩; have c0 : w'.cell? ⟨w.heap.size + 1, 0, none⟩ = some (.int .i64 0) := k.some (by simp); have c1 : w'.cell? ⟨w.heap.size + 1, 1, none⟩ = some (.int .i64 0) := k.some (by simp); have c2 : w'.cell? ⟨w.heap.size + 1, 2, none⟩ = some (.int .u64 0) := k.some (by simp); have c3 : w'.cell? ⟨w.heap.size + 1, 3, none⟩ = some (.int .u64 0) := k.some (by simp); have c4 : w'.cell? ⟨w.heap.size + 1, 4, none⟩ = some (.bool false) := k.some (by simp); have f0 : ∀ i, w'.frozen? ⟨w.heap.size + 1, i, none⟩ = false := fun i => by rw [k.froze]; simp))
  go_wp2
  refine bodyPost_ret (v := (.agg #[.int .i64 0, .int .i64 0, .int .u64 (0), .int .u64 (0), .bool false])) (by simp [results, Try.results38, go_sem, cell_set, *]) rfl ⟨rfl, ?_⟩
  (go_light; repeat (first | (with_reducible exact Kept.refl _) | (with_reducible assumption) | (with_reducible refine Kept.alloc ?_ _ _) | (with_reducible refine Kept.drew ?_) | (with_reducible refine Kept.drewN ?_ _) | ((with_reducible refine Kept.setCell ?_ ?_ _); rotate_left; focus (first | (simp; done) | (simp; omega))) | refine Kept.trans ?_ (by assumption)))
set_option maxHeartbeats 1000000 in
theorem add_at (b i : Nat) (x o n : Int) (w : World) (hc : w.cell? ⟨b, i, none⟩ = some (.int .u64 x)) (hf : w.frozen? ⟨b, i, none⟩ = false) : Calls Try.prog 38 #[.agg #[.pointer (some ⟨b, i, none⟩), .int .u64 o, .int .u64 n]] w fun e w' => e = .returned (.agg #[.int .i64 0, .int .i64 0, .int .u64 (x), .int .u64 ((IntKind.u64.wrap (x+n))), .bool true]) ∧ Wrote b i (IntKind.u64.wrap (x + n)) w w' := by
  have hb := lt_of_cell hc
  go_enter Try.func38, Try.ntmps38
  go_wp2_with fail
  go_region_held3 (fun w' => w'.cell? ⟨w.heap.size, 0, none⟩ = some (.pointer (some ⟨b, i, none⟩)) ∧ w'.cell? ⟨w.heap.size, 1, none⟩ = some (.int .u64 o) ∧ w'.cell? ⟨w.heap.size, 2, none⟩ = some (.int .u64 n)) (first | go_keep | assumption | exact ⟨k.some (by simp), k.some (by simp), k.some (by simp)⟩ | exact ⟨k.but.some (by simp) (by omega), k.but.some (by simp) (by omega), k.but.some (by simp) (by omega)⟩) (first | (go_at_call 40; refine (word_at b i x _ (Kept.some (w := w) (by (go_light; repeat (first | (with_reducible exact Kept.refl _) | (with_reducible assumption) | (with_reducible refine Kept.alloc ?_ _ _) | (with_reducible refine Kept.drew ?_) | (with_reducible refine Kept.drewN ?_ _) | ((with_reducible refine Kept.setCell ?_ ?_ _); rotate_left; focus (first | (simp; done) | (simp; omega))) | refine Kept.trans ?_ (by assumption)))) hc)).mono ?_; rintro e w' ⟨rfl, rfl⟩) | (go_at_call 42; refine (write_at b i x _ _ _ _ (Kept.some (w := w) (by (go_light; repeat (first | (with_reducible exact Kept.refl _) | (with_reducible assumption) | (with_reducible refine Kept.alloc ?_ _ _) | (with_reducible refine Kept.drew ?_) | (with_reducible refine Kept.drewN ?_ _) | ((with_reducible refine Kept.setCell ?_ ?_ _); rotate_left; focus (first | (simp; done) | (simp; omega))) | refine Kept.trans ?_ (by assumption)))) hc) (by rw [Kept.froze (w := w) (by (go_light; repeat (first | (with_reducible exact Kept.refl _) | (with_reducible assumption) | (with_reducible refine Kept.alloc ?_ _ _) | (with_reducible refine Kept.drew ?_) | (with_reducible refine Kept.drewN ?_ _) | ((with_reducible refine Kept.setCell ?_ ?_ _); rotate_left; focus (first | (simp; done) | (simp; omega))) | refine Kept.trans ?_ (by assumption))))]; exact hf)).mono ?_; rintro e w' ⟨rfl, k⟩; have c0 : w'.cell? ⟨w.heap.size + 1, 0, none⟩ = some (.int .i64 0) := k.but.some (by simp) (by omega); have c1 : w'.cell? ⟨w.heap.size + 1, 1, none⟩ = some (.int .i64 0) := k.but.some (by simp) (by omega); have c2 : w'.cell? ⟨w.heap.size + 1, 2, none⟩ = some (.int .u64 0) := k.but.some (by simp) (by omega); have c3 : w'.cell? ⟨w.heap.size + 1, 3, none⟩ = some (.int .u64 0) := k.but.some (by simp) (by omega); have c4 : w'.cell? ⟨w.heap.size + 1, 4, none⟩ = some (.bool false) := k.but.some (by simp) (by omega); have f0 : ∀ i, w'.frozen? ⟨w.heap.size + 1, i, none⟩ = false := fun i => by rw [k.but.froze]; simp))
  go_wp2
  refine bodyPost_ret (v := (.agg #[.int .i64 0, .int .i64 0, .int .u64 (x), .int .u64 ((IntKind.u64.wrap (x+n))), .bool true])) (by simp [results, Try.results38, go_sem, cell_set, *]) rfl ⟨rfl, ?_⟩
  go_light
  repeat ((with_reducible refine Wrote.set ?_ hb ?_ _); rotate_left; focus (simp; done))
  refine Wrote.after k ?_ hb
  (go_light; repeat (first | (with_reducible exact Kept.refl _) | (with_reducible assumption) | (with_reducible refine Kept.alloc ?_ _ _) | (with_reducible refine Kept.drew ?_) | (with_reducible refine Kept.drewN ?_ _) | ((with_reducible refine Kept.setCell ?_ ?_ _); rotate_left; focus (first | (simp; done) | (simp; omega))) | refine Kept.trans ?_ (by assumption)))
end Go.Proofs.Ytfndjklpjjcelaa
