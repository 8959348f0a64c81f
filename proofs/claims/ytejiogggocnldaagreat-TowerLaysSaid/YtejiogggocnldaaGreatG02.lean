/- The program's 'access': whatever it is called with, what comes to lie in the memory's cells. -/
import Derived.Test.YtejiogggocnldaaGreatG01
set_option linter.unusedVariables false
set_option linter.unusedSimpArgs false

namespace Go.Proofs.YtejiogggocnldaaGreat.Wo
set_option maxRecDepth 20000
open Go.RowKit

def Done (B : Nat) (f : Nat → Option Value) (o n : Int) (h : Bool) (w : World) (e : Ending) (w' : World) : Prop :=
  e = .returned (.agg #[.int .i64 0, .int .i64 0, .int .u64 (o), .int .u64 (n), .bool h]) ∧ But (fun k => k = B) w w' ∧ ∀ j, w'.cell? ⟨B, j, none⟩ = f j

def accCells (f : Nat → Option Value) (kind at_ o n : Int) (h : Bool) (c : Int) (j : Nat) : Option Value :=
  if j = 4102 then some (.int .i64 (c + 1)) else if j = 4101 then some (.bool h) else if j = 4100 then some (.int .u64 n) else if j = 4099 then some (.int .u64 o)
  else if j = 4098 then some (.int .i64 at_) else if j = 4097 then some (.int .i64 kind) else f j

set_option maxHeartbeats 2000000 in
theorem access_load (R : Value) (M B n : Nat) (s : St) (f : Nat → Option Value) (kind at_ o nw : Int) (h : Bool) (w : World) (hm : PMem w M B n s) (h0 : 0 ≤ s.cnt) (h1 : s.cnt ≤ 1000000)
    (hf : ∀ j, 4096 ≤ j → f j = w.cell? ⟨B, j, none⟩) (hcall : ∀ w1, Kept w w1 → Calls Tryz.prog 185 #[R] w1 (Done B f o nw h w1)) :
    Calls Tryz.prog 101 #[.pointer (some ⟨M, 0, none⟩), .int .i64 kind, .int .i64 at_, .func (.func 185) #[R] #[]] w
      fun e w' => e = .returned (.agg #[.int .i64 kind, .int .i64 at_, .int .u64 o, .int .u64 nw, .bool h]) ∧ But (fun k => k = B) w w' ∧ ∀ j, w'.cell? ⟨B, j, none⟩ = accCells f kind at_ o nw h s.cnt j := by
  obtain ⟨p, _, sz, c0, c1, c2, c3, c4, cn, fB, ne, _⟩ := hm
  have hM := lt_of_cell p
  have hB := lt_of_cell c0
  have HC := Lib.hid hcall
  have F0 := (hf 4097 (by decide)).trans c0
  have F1 := (hf 4098 (by decide)).trans c1
  have F2 := (hf 4099 (by decide)).trans c2
  have F3 := (hf 4100 (by decide)).trans c3
  have F4 := (hf 4101 (by decide)).trans c4
  have F5 := (hf 4102 (by decide)).trans cn
  have F0 := Lib.hid F0
  have F1 := Lib.hid F1
  have F2 := Lib.hid F2
  have F3 := Lib.hid F3
  have F4 := Lib.hid F4
  have F5 := Lib.hid F5
  have FB := Lib.hid fB
  clear hcall hf sz c0 c1 c2 c3 c4 cn fB
  go_enter Tryz.func101, Tryz.ntmps101
  go_wp2_with fail
  refine (valid_yes M _ _ (Kept.some (w := w) (by (go_light; repeat (first | (with_reducible exact Kept.refl _) | (with_reducible assumption) | (with_reducible refine Kept.alloc ?_ _ _) | (with_reducible refine Kept.drew ?_) | (with_reducible refine Kept.drewN ?_ _) | ((with_reducible refine Kept.setCell ?_ ?_ _); rotate_left; focus (first | (simp; done) | (simp; omega))) | refine Kept.trans ?_ (by assumption)))) p)).mono ?_
  rintro e w' ⟨rfl, rfl⟩
  go_wp2_with fail
  refine (HC.out _ (by (go_light; repeat (first | (with_reducible exact Kept.refl _) | (with_reducible assumption) | (with_reducible refine Kept.alloc ?_ _ _) | (with_reducible refine Kept.drew ?_) | (with_reducible refine Kept.drewN ?_ _) | ((with_reducible refine Kept.setCell ?_ ?_ _); rotate_left; focus (first | (simp; done) | (simp; omega))) | refine Kept.trans ?_ (by assumption))))).mono ?_
  rintro e w1 ⟨rfl, b1, q1⟩
  have r0 : w1.cell? ⟨w.heap.size, 0, none⟩ = some (.int .i64 0) := b1.some (by simp) (by omega)
  have r1 : w1.cell? ⟨w.heap.size, 1, none⟩ = some (.int .i64 0) := b1.some (by simp) (by omega)
  have r2 : w1.cell? ⟨w.heap.size, 2, none⟩ = some (.int .u64 0) := b1.some (by simp) (by omega)
  have r3 : w1.cell? ⟨w.heap.size, 3, none⟩ = some (.int .u64 0) := b1.some (by simp) (by omega)
  have r4 : w1.cell? ⟨w.heap.size, 4, none⟩ = some (.bool false) := b1.some (by simp) (by omega)
  have rf : ∀ i, w1.frozen? ⟨w.heap.size, i, none⟩ = false := fun i => by rw [b1.froze]; simp
  have hz := b1.size
  simp at hz
  have p1 : w1.cell? ⟨M, 0, none⟩ = some (.pointer (some ⟨B, 0, none⟩)) := b1.some (Kept.some (w := w) (by (go_light; repeat (first | (with_reducible exact Kept.refl _) | (with_reducible assumption) | (with_reducible refine Kept.alloc ?_ _ _) | (with_reducible refine Kept.drew ?_) | (with_reducible refine Kept.drewN ?_ _) | ((with_reducible refine Kept.setCell ?_ ?_ _); rotate_left; focus (first | (simp; done) | (simp; omega))) | refine Kept.trans ?_ (by assumption)))) p) ne
  have g0 := (q1 4097).trans F0.out
  have g1 := (q1 4098).trans F1.out
  have g2 := (q1 4099).trans F2.out
  have g3 := (q1 4100).trans F3.out
  have g4 := (q1 4101).trans F4.out
  have g5 := (q1 4102).trans F5.out
  have gf : ∀ i, w1.frozen? ⟨B, i, none⟩ = false := fun i => by rw [b1.froze, Kept.froze (w := w) (by (go_light; repeat (first | (with_reducible exact Kept.refl _) | (with_reducible assumption) | (with_reducible refine Kept.alloc ?_ _ _) | (with_reducible refine Kept.drew ?_) | (with_reducible refine Kept.drewN ?_ _) | ((with_reducible refine Kept.setCell ?_ ?_ _); rotate_left; focus (first | (simp; done) | (simp; omega))) | refine Kept.trans ?_ (by assumption))))]; exact FB.out i
  have Q1 := Lib.hid q1
  have B1 := Lib.hid b1
  have n1 : w.heap.size < w1.heap.size := by omega
  have n2 : M ≠ w.heap.size := by omega
  have n3 : B ≠ w.heap.size := by omega
  have n4 : w.heap.size ≠ B := by omega
  have n5 : w1.heap.size ≠ B := by omega
  have n6 : B ≠ w1.heap.size := by omega
  have n7 : M < w1.heap.size := by omega
  have n8 : B < w1.heap.size := by omega
  have n9 : w.heap.size < w1.heap.size + 1 := by omega
  have ne' : B ≠ M := Ne.symm ne
  clear q1 b1 hz p
  go_wp2_with fail
  go_region_held3 (fun w' => w'.cell? ⟨M, 0, none⟩ = some (.pointer (some ⟨B, 0, none⟩)) ∧ w'.cell? ⟨w1.heap.size, 0, none⟩ = some (.int .i64 kind) ∧ w'.cell? ⟨w1.heap.size, 1, none⟩ = some (.int .i64 at_) ∧ w'.cell? ⟨w1.heap.size, 2, none⟩ = some (.int .u64 o) ∧ w'.cell? ⟨w1.heap.size, 3, none⟩ = some (.int .u64 nw) ∧ w'.cell? ⟨w1.heap.size, 4, none⟩ = some (.bool h)) (refine ⟨?_, ?_, ?_, ?_, ?_, ?_⟩ <;> (first | (rw [World.cell?_drew, cell_new _ _ _ _ _ (by simp)]; rfl) | go_keep)) (fail)
  go_wp2
  refine bodyPost_ret (v := .agg #[.int .i64 kind, .int .i64 at_, .int .u64 o, .int .u64 nw, .bool h]) (by simp [results, Tryz.results101, go_sem, cell_set, cell_set_far, *]) rfl ⟨rfl, ?_, fun j => ?_⟩
  · (go_light; repeat (first | (with_reducible exact But.refl _ _) | (with_reducible assumption) | (with_reducible refine But.alloc ?_ _ _) | (with_reducible refine But.drew ?_) | (with_reducible refine But.drewN ?_ _) | (with_reducible refine But.here ?_ _ _) | ((with_reducible refine But.setCell ?_ (Or.inr ?_) _); rotate_left; focus (first | (simp; done) | (simp; omega)))))
    exact (((Kept.refl w).alloc _ _).but _).trans B1.out (fun _ _ h => h)
  · go_light
    clear r0 r1 r2 r3 r4 rf p1 B1
    have q := Q1.out j
    simp only [World.cell?_drew]
    rw [World.cell?_alloc_past _ _ _ (by simp; exact n8)]
    unfold accCells
    by_cases e0 : j = 4102
    · subst e0; simp [cell_set, cell_set_far, *]
    rw [if_neg e0]
    by_cases e1 : j = 4101
    · subst e1; simp [cell_set, cell_set_far, *]
    rw [if_neg e1]
    by_cases e2 : j = 4100
    · subst e2; simp [cell_set, cell_set_far, *]
    rw [if_neg e2]
    by_cases e3 : j = 4099
    · subst e3; simp [cell_set, cell_set_far, *]
    rw [if_neg e3]
    by_cases e4 : j = 4098
    · subst e4; simp [cell_set, cell_set_far, *]
    rw [if_neg e4]
    by_cases e5 : j = 4097
    · subst e5; simp [cell_set, cell_set_far, *]
    rw [if_neg e5, ← q]
    have d0 := Ne.symm e0
    have d1 := Ne.symm e1
    have d2 := Ne.symm e2
    have d3 := Ne.symm e3
    have d4 := Ne.symm e4
    have d5 := Ne.symm e5
    simp [cell_set, cell_set_far, n4, d0, d1, d2, d3, d4, d5]

set_option maxHeartbeats 2000000 in
theorem access_store (R : Value) (M B n : Nat) (s : St) (f : Nat → Option Value) (kind at_ o nw : Int) (h : Bool) (w : World) (hm : PMem w M B n s) (h0 : 0 ≤ s.cnt) (h1 : s.cnt ≤ 1000000)
    (hf : ∀ j, 4096 ≤ j → f j = w.cell? ⟨B, j, none⟩) (hcall : ∀ w1, Kept w w1 → Calls Tryz.prog 103 #[R] w1 (Done B f o nw h w1)) :
    Calls Tryz.prog 101 #[.pointer (some ⟨M, 0, none⟩), .int .i64 kind, .int .i64 at_, .func (.func 103) #[R] #[]] w
      fun e w' => e = .returned (.agg #[.int .i64 kind, .int .i64 at_, .int .u64 o, .int .u64 nw, .bool h]) ∧ But (fun k => k = B) w w' ∧ ∀ j, w'.cell? ⟨B, j, none⟩ = accCells f kind at_ o nw h s.cnt j := by
  obtain ⟨p, _, sz, c0, c1, c2, c3, c4, cn, fB, ne, _⟩ := hm
  have hM := lt_of_cell p
  have hB := lt_of_cell c0
  have HC := Lib.hid hcall
  have F0 := (hf 4097 (by decide)).trans c0
  have F1 := (hf 4098 (by decide)).trans c1
  have F2 := (hf 4099 (by decide)).trans c2
  have F3 := (hf 4100 (by decide)).trans c3
  have F4 := (hf 4101 (by decide)).trans c4
  have F5 := (hf 4102 (by decide)).trans cn
  have F0 := Lib.hid F0
  have F1 := Lib.hid F1
  have F2 := Lib.hid F2
  have F3 := Lib.hid F3
  have F4 := Lib.hid F4
  have F5 := Lib.hid F5
  have FB := Lib.hid fB
  clear hcall hf sz c0 c1 c2 c3 c4 cn fB
  go_enter Tryz.func101, Tryz.ntmps101
  go_wp2_with fail
  refine (valid_yes M _ _ (Kept.some (w := w) (by (go_light; repeat (first | (with_reducible exact Kept.refl _) | (with_reducible assumption) | (with_reducible refine Kept.alloc ?_ _ _) | (with_reducible refine Kept.drew ?_) | (with_reducible refine Kept.drewN ?_ _) | ((with_reducible refine Kept.setCell ?_ ?_ _); rotate_left; focus (first | (simp; done) | (simp; omega))) | refine Kept.trans ?_ (by assumption)))) p)).mono ?_
  rintro e w' ⟨rfl, rfl⟩
  go_wp2_with fail
  refine (HC.out _ (by (go_light; repeat (first | (with_reducible exact Kept.refl _) | (with_reducible assumption) | (with_reducible refine Kept.alloc ?_ _ _) | (with_reducible refine Kept.drew ?_) | (with_reducible refine Kept.drewN ?_ _) | ((with_reducible refine Kept.setCell ?_ ?_ _); rotate_left; focus (first | (simp; done) | (simp; omega))) | refine Kept.trans ?_ (by assumption))))).mono ?_
  rintro e w1 ⟨rfl, b1, q1⟩
  have r0 : w1.cell? ⟨w.heap.size, 0, none⟩ = some (.int .i64 0) := b1.some (by simp) (by omega)
  have r1 : w1.cell? ⟨w.heap.size, 1, none⟩ = some (.int .i64 0) := b1.some (by simp) (by omega)
  have r2 : w1.cell? ⟨w.heap.size, 2, none⟩ = some (.int .u64 0) := b1.some (by simp) (by omega)
  have r3 : w1.cell? ⟨w.heap.size, 3, none⟩ = some (.int .u64 0) := b1.some (by simp) (by omega)
  have r4 : w1.cell? ⟨w.heap.size, 4, none⟩ = some (.bool false) := b1.some (by simp) (by omega)
  have rf : ∀ i, w1.frozen? ⟨w.heap.size, i, none⟩ = false := fun i => by rw [b1.froze]; simp
  have hz := b1.size
  simp at hz
  have p1 : w1.cell? ⟨M, 0, none⟩ = some (.pointer (some ⟨B, 0, none⟩)) := b1.some (Kept.some (w := w) (by (go_light; repeat (first | (with_reducible exact Kept.refl _) | (with_reducible assumption) | (with_reducible refine Kept.alloc ?_ _ _) | (with_reducible refine Kept.drew ?_) | (with_reducible refine Kept.drewN ?_ _) | ((with_reducible refine Kept.setCell ?_ ?_ _); rotate_left; focus (first | (simp; done) | (simp; omega))) | refine Kept.trans ?_ (by assumption)))) p) ne
  have g0 := (q1 4097).trans F0.out
  have g1 := (q1 4098).trans F1.out
  have g2 := (q1 4099).trans F2.out
  have g3 := (q1 4100).trans F3.out
  have g4 := (q1 4101).trans F4.out
  have g5 := (q1 4102).trans F5.out
  have gf : ∀ i, w1.frozen? ⟨B, i, none⟩ = false := fun i => by rw [b1.froze, Kept.froze (w := w) (by (go_light; repeat (first | (with_reducible exact Kept.refl _) | (with_reducible assumption) | (with_reducible refine Kept.alloc ?_ _ _) | (with_reducible refine Kept.drew ?_) | (with_reducible refine Kept.drewN ?_ _) | ((with_reducible refine Kept.setCell ?_ ?_ _); rotate_left; focus (first | (simp; done) | (simp; omega))) | refine Kept.trans ?_ (by assumption))))]; exact FB.out i
  have Q1 := Lib.hid q1
  have B1 := Lib.hid b1
  have n1 : w.heap.size < w1.heap.size := by omega
  have n2 : M ≠ w.heap.size := by omega
  have n3 : B ≠ w.heap.size := by omega
  have n4 : w.heap.size ≠ B := by omega
  have n5 : w1.heap.size ≠ B := by omega
  have n6 : B ≠ w1.heap.size := by omega
  have n7 : M < w1.heap.size := by omega
  have n8 : B < w1.heap.size := by omega
  have n9 : w.heap.size < w1.heap.size + 1 := by omega
  have ne' : B ≠ M := Ne.symm ne
  clear q1 b1 hz p
  go_wp2_with fail
  go_region_held3 (fun w' => w'.cell? ⟨M, 0, none⟩ = some (.pointer (some ⟨B, 0, none⟩)) ∧ w'.cell? ⟨w1.heap.size, 0, none⟩ = some (.int .i64 kind) ∧ w'.cell? ⟨w1.heap.size, 1, none⟩ = some (.int .i64 at_) ∧ w'.cell? ⟨w1.heap.size, 2, none⟩ = some (.int .u64 o) ∧ w'.cell? ⟨w1.heap.size, 3, none⟩ = some (.int .u64 nw) ∧ w'.cell? ⟨w1.heap.size, 4, none⟩ = some (.bool h)) (refine ⟨?_, ?_, ?_, ?_, ?_, ?_⟩ <;> (first | (rw [World.cell?_drew, cell_new _ _ _ _ _ (by simp)]; rfl) | go_keep)) (fail)
  go_wp2
  refine bodyPost_ret (v := .agg #[.int .i64 kind, .int .i64 at_, .int .u64 o, .int .u64 nw, .bool h]) (by simp [results, Tryz.results101, go_sem, cell_set, cell_set_far, *]) rfl ⟨rfl, ?_, fun j => ?_⟩
  · (go_light; repeat (first | (with_reducible exact But.refl _ _) | (with_reducible assumption) | (with_reducible refine But.alloc ?_ _ _) | (with_reducible refine But.drew ?_) | (with_reducible refine But.drewN ?_ _) | (with_reducible refine But.here ?_ _ _) | ((with_reducible refine But.setCell ?_ (Or.inr ?_) _); rotate_left; focus (first | (simp; done) | (simp; omega)))))
    exact (((Kept.refl w).alloc _ _).but _).trans B1.out (fun _ _ h => h)
  · go_light
    clear r0 r1 r2 r3 r4 rf p1 B1
    have q := Q1.out j
    simp only [World.cell?_drew]
    rw [World.cell?_alloc_past _ _ _ (by simp; exact n8)]
    unfold accCells
    by_cases e0 : j = 4102
    · subst e0; simp [cell_set, cell_set_far, *]
    rw [if_neg e0]
    by_cases e1 : j = 4101
    · subst e1; simp [cell_set, cell_set_far, *]
    rw [if_neg e1]
    by_cases e2 : j = 4100
    · subst e2; simp [cell_set, cell_set_far, *]
    rw [if_neg e2]
    by_cases e3 : j = 4099
    · subst e3; simp [cell_set, cell_set_far, *]
    rw [if_neg e3]
    by_cases e4 : j = 4098
    · subst e4; simp [cell_set, cell_set_far, *]
    rw [if_neg e4]
    by_cases e5 : j = 4097
    · subst e5; simp [cell_set, cell_set_far, *]
    rw [if_neg e5, ← q]
    have d0 := Ne.symm e0
    have d1 := Ne.symm e1
    have d2 := Ne.symm e2
    have d3 := Ne.symm e3
    have d4 := Ne.symm e4
    have d5 := Ne.symm e5
    simp [cell_set, cell_set_far, n4, d0, d1, d2, d3, d4, d5]

set_option maxHeartbeats 2000000 in
theorem access_swap (R : Value) (M B n : Nat) (s : St) (f : Nat → Option Value) (kind at_ o nw : Int) (h : Bool) (w : World) (hm : PMem w M B n s) (h0 : 0 ≤ s.cnt) (h1 : s.cnt ≤ 1000000)
    (hf : ∀ j, 4096 ≤ j → f j = w.cell? ⟨B, j, none⟩) (hcall : ∀ w1, Kept w w1 → Calls Tryz.prog 224 #[R] w1 (Done B f o nw h w1)) :
    Calls Tryz.prog 101 #[.pointer (some ⟨M, 0, none⟩), .int .i64 kind, .int .i64 at_, .func (.func 224) #[R] #[]] w
      fun e w' => e = .returned (.agg #[.int .i64 kind, .int .i64 at_, .int .u64 o, .int .u64 nw, .bool h]) ∧ But (fun k => k = B) w w' ∧ ∀ j, w'.cell? ⟨B, j, none⟩ = accCells f kind at_ o nw h s.cnt j := by
  obtain ⟨p, _, sz, c0, c1, c2, c3, c4, cn, fB, ne, _⟩ := hm
  have hM := lt_of_cell p
  have hB := lt_of_cell c0
  have HC := Lib.hid hcall
  have F0 := (hf 4097 (by decide)).trans c0
  have F1 := (hf 4098 (by decide)).trans c1
  have F2 := (hf 4099 (by decide)).trans c2
  have F3 := (hf 4100 (by decide)).trans c3
  have F4 := (hf 4101 (by decide)).trans c4
  have F5 := (hf 4102 (by decide)).trans cn
  have F0 := Lib.hid F0
  have F1 := Lib.hid F1
  have F2 := Lib.hid F2
  have F3 := Lib.hid F3
  have F4 := Lib.hid F4
  have F5 := Lib.hid F5
  have FB := Lib.hid fB
  clear hcall hf sz c0 c1 c2 c3 c4 cn fB
  go_enter Tryz.func101, Tryz.ntmps101
  go_wp2_with fail
  refine (valid_yes M _ _ (Kept.some (w := w) (by (go_light; repeat (first | (with_reducible exact Kept.refl _) | (with_reducible assumption) | (with_reducible refine Kept.alloc ?_ _ _) | (with_reducible refine Kept.drew ?_) | (with_reducible refine Kept.drewN ?_ _) | ((with_reducible refine Kept.setCell ?_ ?_ _); rotate_left; focus (first | (simp; done) | (simp; omega))) | refine Kept.trans ?_ (by assumption)))) p)).mono ?_
  rintro e w' ⟨rfl, rfl⟩
  go_wp2_with fail
  refine (HC.out _ (by (go_light; repeat (first | (with_reducible exact Kept.refl _) | (with_reducible assumption) | (with_reducible refine Kept.alloc ?_ _ _) | (with_reducible refine Kept.drew ?_) | (with_reducible refine Kept.drewN ?_ _) | ((with_reducible refine Kept.setCell ?_ ?_ _); rotate_left; focus (first | (simp; done) | (simp; omega))) | refine Kept.trans ?_ (by assumption))))).mono ?_
  rintro e w1 ⟨rfl, b1, q1⟩
  have r0 : w1.cell? ⟨w.heap.size, 0, none⟩ = some (.int .i64 0) := b1.some (by simp) (by omega)
  have r1 : w1.cell? ⟨w.heap.size, 1, none⟩ = some (.int .i64 0) := b1.some (by simp) (by omega)
  have r2 : w1.cell? ⟨w.heap.size, 2, none⟩ = some (.int .u64 0) := b1.some (by simp) (by omega)
  have r3 : w1.cell? ⟨w.heap.size, 3, none⟩ = some (.int .u64 0) := b1.some (by simp) (by omega)
  have r4 : w1.cell? ⟨w.heap.size, 4, none⟩ = some (.bool false) := b1.some (by simp) (by omega)
  have rf : ∀ i, w1.frozen? ⟨w.heap.size, i, none⟩ = false := fun i => by rw [b1.froze]; simp
  have hz := b1.size
  simp at hz
  have p1 : w1.cell? ⟨M, 0, none⟩ = some (.pointer (some ⟨B, 0, none⟩)) := b1.some (Kept.some (w := w) (by (go_light; repeat (first | (with_reducible exact Kept.refl _) | (with_reducible assumption) | (with_reducible refine Kept.alloc ?_ _ _) | (with_reducible refine Kept.drew ?_) | (with_reducible refine Kept.drewN ?_ _) | ((with_reducible refine Kept.setCell ?_ ?_ _); rotate_left; focus (first | (simp; done) | (simp; omega))) | refine Kept.trans ?_ (by assumption)))) p) ne
  have g0 := (q1 4097).trans F0.out
  have g1 := (q1 4098).trans F1.out
  have g2 := (q1 4099).trans F2.out
  have g3 := (q1 4100).trans F3.out
  have g4 := (q1 4101).trans F4.out
  have g5 := (q1 4102).trans F5.out
  have gf : ∀ i, w1.frozen? ⟨B, i, none⟩ = false := fun i => by rw [b1.froze, Kept.froze (w := w) (by (go_light; repeat (first | (with_reducible exact Kept.refl _) | (with_reducible assumption) | (with_reducible refine Kept.alloc ?_ _ _) | (with_reducible refine Kept.drew ?_) | (with_reducible refine Kept.drewN ?_ _) | ((with_reducible refine Kept.setCell ?_ ?_ _); rotate_left; focus (first | (simp; done) | (simp; omega))) | refine Kept.trans ?_ (by assumption))))]; exact FB.out i
  have Q1 := Lib.hid q1
  have B1 := Lib.hid b1
  have n1 : w.heap.size < w1.heap.size := by omega
  have n2 : M ≠ w.heap.size := by omega
  have n3 : B ≠ w.heap.size := by omega
  have n4 : w.heap.size ≠ B := by omega
  have n5 : w1.heap.size ≠ B := by omega
  have n6 : B ≠ w1.heap.size := by omega
  have n7 : M < w1.heap.size := by omega
  have n8 : B < w1.heap.size := by omega
  have n9 : w.heap.size < w1.heap.size + 1 := by omega
  have ne' : B ≠ M := Ne.symm ne
  clear q1 b1 hz p
  go_wp2_with fail
  go_region_held3 (fun w' => w'.cell? ⟨M, 0, none⟩ = some (.pointer (some ⟨B, 0, none⟩)) ∧ w'.cell? ⟨w1.heap.size, 0, none⟩ = some (.int .i64 kind) ∧ w'.cell? ⟨w1.heap.size, 1, none⟩ = some (.int .i64 at_) ∧ w'.cell? ⟨w1.heap.size, 2, none⟩ = some (.int .u64 o) ∧ w'.cell? ⟨w1.heap.size, 3, none⟩ = some (.int .u64 nw) ∧ w'.cell? ⟨w1.heap.size, 4, none⟩ = some (.bool h)) (refine ⟨?_, ?_, ?_, ?_, ?_, ?_⟩ <;> (first | (rw [World.cell?_drew, cell_new _ _ _ _ _ (by simp)]; rfl) | go_keep)) (fail)
  go_wp2
  refine bodyPost_ret (v := .agg #[.int .i64 kind, .int .i64 at_, .int .u64 o, .int .u64 nw, .bool h]) (by simp [results, Tryz.results101, go_sem, cell_set, cell_set_far, *]) rfl ⟨rfl, ?_, fun j => ?_⟩
  · (go_light; repeat (first | (with_reducible exact But.refl _ _) | (with_reducible assumption) | (with_reducible refine But.alloc ?_ _ _) | (with_reducible refine But.drew ?_) | (with_reducible refine But.drewN ?_ _) | (with_reducible refine But.here ?_ _ _) | ((with_reducible refine But.setCell ?_ (Or.inr ?_) _); rotate_left; focus (first | (simp; done) | (simp; omega)))))
    exact (((Kept.refl w).alloc _ _).but _).trans B1.out (fun _ _ h => h)
  · go_light
    clear r0 r1 r2 r3 r4 rf p1 B1
    have q := Q1.out j
    simp only [World.cell?_drew]
    rw [World.cell?_alloc_past _ _ _ (by simp; exact n8)]
    unfold accCells
    by_cases e0 : j = 4102
    · subst e0; simp [cell_set, cell_set_far, *]
    rw [if_neg e0]
    by_cases e1 : j = 4101
    · subst e1; simp [cell_set, cell_set_far, *]
    rw [if_neg e1]
    by_cases e2 : j = 4100
    · subst e2; simp [cell_set, cell_set_far, *]
    rw [if_neg e2]
    by_cases e3 : j = 4099
    · subst e3; simp [cell_set, cell_set_far, *]
    rw [if_neg e3]
    by_cases e4 : j = 4098
    · subst e4; simp [cell_set, cell_set_far, *]
    rw [if_neg e4]
    by_cases e5 : j = 4097
    · subst e5; simp [cell_set, cell_set_far, *]
    rw [if_neg e5, ← q]
    have d0 := Ne.symm e0
    have d1 := Ne.symm e1
    have d2 := Ne.symm e2
    have d3 := Ne.symm e3
    have d4 := Ne.symm e4
    have d5 := Ne.symm e5
    simp [cell_set, cell_set_far, n4, d0, d1, d2, d3, d4, d5]

end Go.Proofs.YtejiogggocnldaaGreat.Wo

namespace Go.Proofs.YtejiogggocnldaaGreat.Wo
set_option maxRecDepth 20000
open Go.RowKit

theorem done_kept {w w1 w2 : World} {B : Nat} (k0 : Kept w w1) (k : Kept w1 w2) (hB : B < w.heap.size) (o n : Int) (h : Bool) : Done B (fun j => w.cell? ⟨B, j, none⟩) o n h w1 (.returned (.agg #[.int .i64 0, .int .i64 0, .int .u64 (o), .int .u64 (n), .bool h])) w2 :=
  ⟨rfl, k.but _, fun j => by rw [(k0.trans k).cell B j hB]⟩
theorem done_wrote {w w1 w2 : World} {B i : Nat} {v : Int} (k0 : Kept w w1) (k : Wrote B i v w1 w2) (hB : B < w.heap.size) (o n : Int) (h : Bool) : Done B (fun j => if j = i then some (.int .u64 v) else w.cell? ⟨B, j, none⟩) o n h w1 (.returned (.agg #[.int .i64 0, .int .i64 0, .int .u64 (o), .int .u64 (n), .bool h])) w2 :=
  ⟨rfl, k.but, fun j => by rw [k.cell, k0.cell B j hB]⟩

theorem PMem.read {w w' : World} {M B n : Nat} {s : St} {kind at_ o nw : Int} {h : Bool} (hm : PMem w M B n s) (hb : But (fun k => k = B) w w')
    (hc : ∀ j, w'.cell? ⟨B, j, none⟩ = accCells (fun j => w.cell? ⟨B, j, none⟩) kind at_ o nw h s.cnt j) :
    PMem w' M B n { ws := s.ws, kind := kind, at_ := at_, old := o, new := nw, held := h, cnt := s.cnt + 1 } := by
  refine ⟨hb.some hm.p hm.ne, fun i hi => ?_, ?_, ?_, ?_, ?_, ?_, ?_, ?_, fun i => (hb.froze _).trans (hm.fB i), hm.ne, hm.hn⟩
  · obtain ⟨x, h1, h2⟩ := hm.words i hi
    refine ⟨x, ?_, h2⟩
    rw [hc]; unfold accCells
    rw [if_neg (by omega), if_neg (by omega), if_neg (by omega), if_neg (by omega), if_neg (by omega), if_neg (by omega)]
    exact h1
  · rw [hc]; exact hm.size
  all_goals (rw [hc]; rfl)

theorem PMem.wrote {w w' : World} {M B n i : Nat} {s : St} {kind at_ o nw v : Int} {h : Bool} (hm : PMem w M B n s) (hb : But (fun k => k = B) w w') (hi : i < 4096)
    (hc : ∀ j, w'.cell? ⟨B, j, none⟩ = accCells (fun j => if j = i then some (.int .u64 v) else w.cell? ⟨B, j, none⟩) kind at_ o nw h s.cnt j) :
    PMem w' M B n { ws := fun j => if j = i then v else s.ws j, kind := kind, at_ := at_, old := o, new := nw, held := h, cnt := s.cnt + 1 } := by
  refine ⟨hb.some hm.p hm.ne, fun k hk => ?_, ?_, ?_, ?_, ?_, ?_, ?_, ?_, fun i => (hb.froze _).trans (hm.fB i), hm.ne, hm.hn⟩
  · obtain ⟨x, h1, h2⟩ := hm.words k hk
    rw [hc]; unfold accCells
    rw [if_neg (by omega), if_neg (by omega), if_neg (by omega), if_neg (by omega), if_neg (by omega), if_neg (by omega)]
    by_cases hki : k = i
    · exact ⟨v, if_pos hki, fun _ => (if_pos hki).symm⟩
    · exact ⟨x, (if_neg hki).trans h1, fun h => (h2 h).trans (if_neg hki).symm⟩
  · rw [hc]; unfold accCells
    rw [if_neg (by omega), if_neg (by omega), if_neg (by omega), if_neg (by omega), if_neg (by omega), if_neg (by omega)]
    exact (if_neg (by omega)).trans hm.size
  all_goals (rw [hc]; rfl)

theorem acc_out {n : Nat} {s : St} {kind at_ : Int} {wr : Bool} {v : Int} (h : ¬ (0 ≤ at_ ∧ at_ < n)) : acc n s kind at_ wr v = { ws := s.ws, kind := kind, at_ := at_, old := 0, new := 0, held := false, cnt := s.cnt + 1 } := by
  unfold acc; rw [if_neg h]
theorem acc_read {n : Nat} {s : St} {kind : Int} {a : Nat} {v : Int} (h : a < n) : acc n s kind (a : Int) false v = { ws := s.ws, kind := kind, at_ := a, old := s.ws a, new := s.ws a, held := false, cnt := s.cnt + 1 } := by
  unfold acc; rw [if_pos (by omega)]; rfl
theorem acc_write {n : Nat} {s : St} {kind : Int} {a : Nat} {v : Int} (h : a < n) : acc n s kind (a : Int) true v = { ws := fun j => if j = a then v else s.ws j, kind := kind, at_ := a, old := s.ws a, new := v, held := true, cnt := s.cnt + 1 } := by
  unfold acc; rw [if_pos (by omega)]; rfl
theorem wordAt_in {n : Nat} {s : St} {a : Nat} (h : a < n) : wordAt n s (a : Int) = s.ws a := by
  unfold wordAt; rw [if_pos (by omega)]; rfl

theorem field_new (k a o n : Int) (h : Bool) (w : World) : (Instr.field 58 (.agg #[.int .i64 k, .int .i64 a, .int .u64 o, .int .u64 n, .bool h]) 3).run Tryz.prog w = .ok (.int .u64 n) w := by kernel_rfl
theorem field_held (k a o n : Int) (h : Bool) (w : World) : (Instr.field 58 (.agg #[.int .i64 k, .int .i64 a, .int .u64 o, .int .u64 n, .bool h]) 4).run Tryz.prog w = .ok (.bool h) w := by kernel_rfl

set_option maxHeartbeats 1000000 in
theorem pLoad_out (M B n : Nat) (s : St) (at_ : Int) (w : World) (hm : PMem w M B n s) (h0 : 0 ≤ s.cnt) (h1 : s.cnt ≤ 1000000) (ha : ¬ (0 ≤ at_ ∧ at_ < n)) : Calls Tryz.prog 141 #[.pointer (some ⟨M, 0, none⟩), .int .i64 at_] w fun e w' => e = .returned (.int .u64 (acc n s 1 at_ false 0).new) ∧ PMem w' M B n (acc n s 1 at_ false 0) ∧ But (fun k => k = B) w w' := by
  have hp := hm.p
  have hs := hm.size
  have hB := hm.lt.2
  have HC : Hid (∀ w1, Kept w w1 → Calls Tryz.prog 185 #[(.agg #[.pointer none, .int .u64 0, .int .u64 0])] w1 (Done B (fun j => w.cell? ⟨B, j, none⟩) 0 0 false w1)) := Lib.hid (fun w1 k0 => (load_nil _ _ _).mono (by rintro e w2 ⟨rfl, k⟩; exact done_kept k0 k hB 0 0 false))
  rw [acc_out ha]
  have HM := Lib.hid hm
  have HA : Hid (at_ < 0 ∨ n ≤ at_) := Lib.hid (by omega)
  clear hm ha
  have hfn := field_new
  have hfh := field_held
  go_enter Tryz.func141, Tryz.ntmps141
  go_wp2_with fail
  refine (cell_out M B n at_ _ hp hs HA.out).mono ?_
  rintro e w' ⟨rfl, rfl⟩
  go_wp2_with fail
  refine (access_load (.agg #[.pointer none, .int .u64 0, .int .u64 0]) M B n s (fun j => w.cell? ⟨B, j, none⟩) 1 at_ (0) (0) false w HM.out h0 h1 (fun j hj => rfl) HC.out).mono ?_
  rintro e w' ⟨rfl, hb, hc⟩
  have HB := Lib.hid hb
  have HQ := Lib.hid hc
  clear hb hc
  go_wp2
  go_ret
  exact ⟨rfl, HM.out.read HB.out HQ.out, HB.out⟩
set_option maxHeartbeats 1000000 in
theorem pLoad_in (M B n : Nat) (s : St) (a : Nat) (w : World) (hm : PMem w M B n s) (h0 : 0 ≤ s.cnt) (h1 : s.cnt ≤ 1000000) (ha : a < n) : Calls Tryz.prog 141 #[.pointer (some ⟨M, 0, none⟩), .int .i64 a] w fun e w' => e = .returned (.int .u64 (acc n s 1 a false 0).new) ∧ PMem w' M B n (acc n s 1 a false 0) ∧ But (fun k => k = B) w w' := by
  have hp := hm.p
  have hs := hm.size
  have hB := hm.lt.2
  have hn := hm.hn.2
  obtain ⟨x, hx, hxs⟩ := hm.words a (by omega)
  obtain rfl := hxs ha
  have hf := hm.fB a
  have HC : Hid (∀ w1, Kept w w1 → Calls Tryz.prog 185 #[(.agg #[.pointer (some ⟨B, a, none⟩), .int .u64 0, .int .u64 0])] w1 (Done B (fun j => w.cell? ⟨B, j, none⟩) (s.ws a) (s.ws a) false w1)) := Lib.hid (fun w1 k0 => (load_at B a _ _ _ _ (k0.some hx)).mono (by rintro e w2 ⟨rfl, k⟩; exact done_kept k0 k hB _ _ _))
  rw [acc_read ha]
  have HM := Lib.hid hm
  clear hm hx hxs hf
  have hfn := field_new
  have hfh := field_held
  go_enter Tryz.func141, Tryz.ntmps141
  go_wp2_with fail
  refine (cell_in M B n a _ hp hs ha hn).mono ?_
  rintro e w' ⟨rfl, rfl⟩
  go_wp2_with fail
  refine (access_load (.agg #[.pointer (some ⟨B, a, none⟩), .int .u64 0, .int .u64 0]) M B n s (fun j => w.cell? ⟨B, j, none⟩) 1 (a : Int) (s.ws a) (s.ws a) false w HM.out h0 h1 (fun j hj => rfl) HC.out).mono ?_
  rintro e w' ⟨rfl, hb, hc⟩
  have HB := Lib.hid hb
  have HQ := Lib.hid hc
  clear hb hc
  go_wp2
  go_ret
  exact ⟨rfl, HM.out.read HB.out HQ.out, HB.out⟩
theorem pLoad (M B n : Nat) (s : St) (at_ : Int) (w : World) (hm : PMem w M B n s) (h0 : 0 ≤ s.cnt) (h1 : s.cnt ≤ 1000000) : Calls Tryz.prog 141 #[.pointer (some ⟨M, 0, none⟩), .int .i64 at_] w fun e w' => e = .returned (.int .u64 (acc n s 1 at_ false 0).new) ∧ PMem w' M B n (acc n s 1 at_ false 0) ∧ But (fun k => k = B) w w' := by
  by_cases ha : 0 ≤ at_ ∧ at_ < n
  · obtain ⟨a, rfl⟩ := Int.eq_ofNat_of_zero_le ha.1
    exact pLoad_in M B n s a w hm h0 h1 (by omega)
  · exact pLoad_out M B n s at_ w hm h0 h1 ha

set_option maxHeartbeats 1000000 in
theorem pStore_out (M B n : Nat) (s : St) (at_ v : Int) (w : World) (hm : PMem w M B n s) (h0 : 0 ≤ s.cnt) (h1 : s.cnt ≤ 1000000) (ha : ¬ (0 ≤ at_ ∧ at_ < n)) : Calls Tryz.prog 36 #[.pointer (some ⟨M, 0, none⟩), .int .i64 at_, .int .u64 v] w fun e w' => e = .returned (.tuple #[]) ∧ PMem w' M B n (acc n s 2 at_ true v) ∧ But (fun k => k = B) w w' := by
  have hp := hm.p
  have hs := hm.size
  have hB := hm.lt.2
  have HC : Hid (∀ w1, Kept w w1 → Calls Tryz.prog 103 #[(.agg #[.pointer none, .int .u64 0, .int .u64 v])] w1 (Done B (fun j => w.cell? ⟨B, j, none⟩) 0 0 false w1)) := Lib.hid (fun w1 k0 => (store_nil _ _ _).mono (by rintro e w2 ⟨rfl, k⟩; exact done_kept k0 k hB 0 0 false))
  rw [acc_out ha]
  have HM := Lib.hid hm
  have HA : Hid (at_ < 0 ∨ n ≤ at_) := Lib.hid (by omega)
  clear hm ha
  have hfn := field_new
  have hfh := field_held
  go_enter Tryz.func36, Tryz.ntmps36
  go_wp2_with fail
  refine (cell_out M B n at_ _ hp hs HA.out).mono ?_
  rintro e w' ⟨rfl, rfl⟩
  go_wp2_with fail
  refine (access_store (.agg #[.pointer none, .int .u64 0, .int .u64 v]) M B n s (fun j => w.cell? ⟨B, j, none⟩) 2 at_ (0) (0) false w HM.out h0 h1 (fun j hj => rfl) HC.out).mono ?_
  rintro e w' ⟨rfl, hb, hc⟩
  have HB := Lib.hid hb
  have HQ := Lib.hid hc
  clear hb hc
  go_wp2
  go_end0
  exact ⟨rfl, HM.out.read HB.out HQ.out, HB.out⟩
set_option maxHeartbeats 1000000 in
theorem pStore_in (M B n : Nat) (s : St) (a : Nat) (v : Int) (w : World) (hm : PMem w M B n s) (h0 : 0 ≤ s.cnt) (h1 : s.cnt ≤ 1000000) (ha : a < n) : Calls Tryz.prog 36 #[.pointer (some ⟨M, 0, none⟩), .int .i64 a, .int .u64 v] w fun e w' => e = .returned (.tuple #[]) ∧ PMem w' M B n (acc n s 2 a true v) ∧ But (fun k => k = B) w w' := by
  have hp := hm.p
  have hs := hm.size
  have hB := hm.lt.2
  have hn := hm.hn.2
  obtain ⟨x, hx, hxs⟩ := hm.words a (by omega)
  obtain rfl := hxs ha
  have hf := hm.fB a
  have HC : Hid (∀ w1, Kept w w1 → Calls Tryz.prog 103 #[(.agg #[.pointer (some ⟨B, a, none⟩), .int .u64 0, .int .u64 v])] w1 (Done B (fun j => if j = a then some (.int .u64 v) else w.cell? ⟨B, j, none⟩) (s.ws a) (v) true w1)) := Lib.hid (fun w1 k0 => (store_at B a _ _ _ _ (k0.some hx) ((k0.froze _).trans hf)).mono (by rintro e w2 ⟨rfl, k⟩; exact done_wrote k0 k hB _ _ _))
  rw [acc_write ha]
  have HM := Lib.hid hm
  clear hm hx hxs hf
  have hfn := field_new
  have hfh := field_held
  go_enter Tryz.func36, Tryz.ntmps36
  go_wp2_with fail
  refine (cell_in M B n a _ hp hs ha hn).mono ?_
  rintro e w' ⟨rfl, rfl⟩
  go_wp2_with fail
  refine (access_store (.agg #[.pointer (some ⟨B, a, none⟩), .int .u64 0, .int .u64 v]) M B n s (fun j => if j = a then some (.int .u64 v) else w.cell? ⟨B, j, none⟩) 2 (a : Int) (s.ws a) (v) true w HM.out h0 h1 (fun j hj => if_neg (by omega)) HC.out).mono ?_
  rintro e w' ⟨rfl, hb, hc⟩
  have HB := Lib.hid hb
  have HQ := Lib.hid hc
  clear hb hc
  go_wp2
  go_end0
  exact ⟨rfl, HM.out.wrote HB.out (by omega) HQ.out, HB.out⟩
theorem pStore (M B n : Nat) (s : St) (at_ v : Int) (w : World) (hm : PMem w M B n s) (h0 : 0 ≤ s.cnt) (h1 : s.cnt ≤ 1000000) : Calls Tryz.prog 36 #[.pointer (some ⟨M, 0, none⟩), .int .i64 at_, .int .u64 v] w fun e w' => e = .returned (.tuple #[]) ∧ PMem w' M B n (acc n s 2 at_ true v) ∧ But (fun k => k = B) w w' := by
  by_cases ha : 0 ≤ at_ ∧ at_ < n
  · obtain ⟨a, rfl⟩ := Int.eq_ofNat_of_zero_le ha.1
    exact pStore_in M B n s a v w hm h0 h1 (by omega)
  · exact pStore_out M B n s at_ v w hm h0 h1 ha

set_option maxHeartbeats 1000000 in
theorem pCAS_out (M B n : Nat) (s : St) (at_ o v : Int) (w : World) (hm : PMem w M B n s) (h0 : 0 ≤ s.cnt) (h1 : s.cnt ≤ 1000000) (ha : ¬ (0 ≤ at_ ∧ at_ < n)) : Calls Tryz.prog 210 #[.pointer (some ⟨M, 0, none⟩), .int .i64 at_, .int .u64 o, .int .u64 v] w fun e w' => e = .returned (.bool (acc n s 3 at_ (wordAt n s at_ == o) v).held) ∧ PMem w' M B n (acc n s 3 at_ (wordAt n s at_ == o) v) ∧ But (fun k => k = B) w w' := by
  have hp := hm.p
  have hs := hm.size
  have hB := hm.lt.2
  have HC : Hid (∀ w1, Kept w w1 → Calls Tryz.prog 224 #[(.agg #[.pointer none, .int .u64 o, .int .u64 v])] w1 (Done B (fun j => w.cell? ⟨B, j, none⟩) 0 0 false w1)) := Lib.hid (fun w1 k0 => (swap_nil _ _ _).mono (by rintro e w2 ⟨rfl, k⟩; exact done_kept k0 k hB 0 0 false))
  rw [acc_out ha]
  have HM := Lib.hid hm
  have HA : Hid (at_ < 0 ∨ n ≤ at_) := Lib.hid (by omega)
  clear hm ha
  have hfn := field_new
  have hfh := field_held
  go_enter Tryz.func210, Tryz.ntmps210
  go_wp2_with fail
  refine (cell_out M B n at_ _ hp hs HA.out).mono ?_
  rintro e w' ⟨rfl, rfl⟩
  go_wp2_with fail
  refine (access_swap (.agg #[.pointer none, .int .u64 o, .int .u64 v]) M B n s (fun j => w.cell? ⟨B, j, none⟩) 3 at_ (0) (0) false w HM.out h0 h1 (fun j hj => rfl) HC.out).mono ?_
  rintro e w' ⟨rfl, hb, hc⟩
  have HB := Lib.hid hb
  have HQ := Lib.hid hc
  clear hb hc
  go_wp2
  go_ret
  exact ⟨rfl, HM.out.read HB.out HQ.out, HB.out⟩
set_option maxHeartbeats 1000000 in
theorem pCAS_no (M B n : Nat) (s : St) (a : Nat) (o v : Int) (w : World) (hm : PMem w M B n s) (h0 : 0 ≤ s.cnt) (h1 : s.cnt ≤ 1000000) (ha : a < n) (hq : (s.ws a != o) = true) : Calls Tryz.prog 210 #[.pointer (some ⟨M, 0, none⟩), .int .i64 a, .int .u64 o, .int .u64 v] w fun e w' => e = .returned (.bool false) ∧ PMem w' M B n (acc n s 3 a false v) ∧ But (fun k => k = B) w w' := by
  have hp := hm.p
  have hs := hm.size
  have hB := hm.lt.2
  have hn := hm.hn.2
  obtain ⟨x, hx, hxs⟩ := hm.words a (by omega)
  obtain rfl := hxs ha
  have hf := hm.fB a
  have HC : Hid (∀ w1, Kept w w1 → Calls Tryz.prog 224 #[(.agg #[.pointer (some ⟨B, a, none⟩), .int .u64 o, .int .u64 v])] w1 (Done B (fun j => w.cell? ⟨B, j, none⟩) (s.ws a) (s.ws a) false w1)) := Lib.hid (fun w1 k0 => (swap_no B a _ _ _ _ (k0.some hx) hq).mono (by rintro e w2 ⟨rfl, k⟩; exact done_kept k0 k hB _ _ _))
  rw [acc_read ha]
  clear hq
  have HM := Lib.hid hm
  clear hm hx hxs hf
  have hfn := field_new
  have hfh := field_held
  go_enter Tryz.func210, Tryz.ntmps210
  go_wp2_with fail
  refine (cell_in M B n a _ hp hs ha hn).mono ?_
  rintro e w' ⟨rfl, rfl⟩
  go_wp2_with fail
  refine (access_swap (.agg #[.pointer (some ⟨B, a, none⟩), .int .u64 o, .int .u64 v]) M B n s (fun j => w.cell? ⟨B, j, none⟩) 3 (a : Int) (s.ws a) (s.ws a) false w HM.out h0 h1 (fun j hj => rfl) HC.out).mono ?_
  rintro e w' ⟨rfl, hb, hc⟩
  have HB := Lib.hid hb
  have HQ := Lib.hid hc
  clear hb hc
  go_wp2
  go_ret
  exact ⟨rfl, HM.out.read HB.out HQ.out, HB.out⟩
set_option maxHeartbeats 1000000 in
theorem pCAS_yes (M B n : Nat) (s : St) (a : Nat) (v : Int) (w : World) (hm : PMem w M B n s) (h0 : 0 ≤ s.cnt) (h1 : s.cnt ≤ 1000000) (ha : a < n) : Calls Tryz.prog 210 #[.pointer (some ⟨M, 0, none⟩), .int .i64 a, .int .u64 (s.ws a), .int .u64 v] w fun e w' => e = .returned (.bool true) ∧ PMem w' M B n (acc n s 3 a true v) ∧ But (fun k => k = B) w w' := by
  have hp := hm.p
  have hs := hm.size
  have hB := hm.lt.2
  have hn := hm.hn.2
  obtain ⟨x, hx, hxs⟩ := hm.words a (by omega)
  obtain rfl := hxs ha
  have hf := hm.fB a
  have HC : Hid (∀ w1, Kept w w1 → Calls Tryz.prog 224 #[(.agg #[.pointer (some ⟨B, a, none⟩), .int .u64 (s.ws a), .int .u64 v])] w1 (Done B (fun j => if j = a then some (.int .u64 v) else w.cell? ⟨B, j, none⟩) (s.ws a) (v) true w1)) := Lib.hid (fun w1 k0 => (swap_yes B a _ _ _ (k0.some hx) ((k0.froze _).trans hf)).mono (by rintro e w2 ⟨rfl, k⟩; exact done_wrote k0 k hB _ _ _))
  rw [acc_write ha]
  have HM := Lib.hid hm
  clear hm hx hxs hf
  have hfn := field_new
  have hfh := field_held
  go_enter Tryz.func210, Tryz.ntmps210
  go_wp2_with fail
  refine (cell_in M B n a _ hp hs ha hn).mono ?_
  rintro e w' ⟨rfl, rfl⟩
  go_wp2_with fail
  refine (access_swap (.agg #[.pointer (some ⟨B, a, none⟩), .int .u64 (s.ws a), .int .u64 v]) M B n s (fun j => if j = a then some (.int .u64 v) else w.cell? ⟨B, j, none⟩) 3 (a : Int) (s.ws a) (v) true w HM.out h0 h1 (fun j hj => if_neg (by omega)) HC.out).mono ?_
  rintro e w' ⟨rfl, hb, hc⟩
  have HB := Lib.hid hb
  have HQ := Lib.hid hc
  clear hb hc
  go_wp2
  go_ret
  exact ⟨rfl, HM.out.wrote HB.out (by omega) HQ.out, HB.out⟩
set_option maxHeartbeats 1000000 in
theorem pCAS (M B n : Nat) (s : St) (at_ o v : Int) (w : World) (hm : PMem w M B n s) (h0 : 0 ≤ s.cnt) (h1 : s.cnt ≤ 1000000) : Calls Tryz.prog 210 #[.pointer (some ⟨M, 0, none⟩), .int .i64 at_, .int .u64 o, .int .u64 v] w fun e w' => e = .returned (.bool (acc n s 3 at_ (wordAt n s at_ == o) v).held) ∧ PMem w' M B n (acc n s 3 at_ (wordAt n s at_ == o) v) ∧ But (fun k => k = B) w w' := by
  by_cases ha : 0 ≤ at_ ∧ at_ < n
  · obtain ⟨a, rfl⟩ := Int.eq_ofNat_of_zero_le ha.1
    have han : a < n := by omega
    rw [wordAt_in han]
    by_cases hq : s.ws a = o
    · rw [show (s.ws a == o) = true by simp [hq], acc_write han]
      subst hq
      have h := pCAS_yes M B n s a v w hm h0 h1 han
      rw [acc_write han] at h
      exact h
    · rw [show (s.ws a == o) = false by simp [hq], acc_read han]
      have h := pCAS_no M B n s a o v w hm h0 h1 han (by simp [hq])
      rw [acc_read han] at h
      exact h
  · exact pCAS_out M B n s at_ o v w hm h0 h1 ha

end Go.Proofs.YtejiogggocnldaaGreat.Wo
