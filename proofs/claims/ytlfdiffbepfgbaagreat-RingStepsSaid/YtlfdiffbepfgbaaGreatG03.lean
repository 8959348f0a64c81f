/- The program's memory: what it looks like, and the functions that only look at it. -/
import Derived.Test.YtlfdiffbepfgbaaGreatG02
set_option linter.unusedVariables false
set_option linter.unusedSimpArgs false

namespace Go.Proofs.YtlfdiffbepfgbaaGreat.Wo
set_option maxRecDepth 20000
open Go.RowKit

structure PMem (w : World) (M B n : Nat) (s : St) : Prop where
  p : w.cell? ⟨M, 0, none⟩ = some (.pointer (some ⟨B, 0, none⟩))
  words : ∀ i, i < 4096 → ∃ x, w.cell? ⟨B, i, none⟩ = some (.int .u64 x) ∧ (i < n → x = s.ws i)
  size : w.cell? ⟨B, 4096, none⟩ = some (.int .i64 n)
  c0 : w.cell? ⟨B, 4097, none⟩ = some (.int .i64 s.kind)
  c1 : w.cell? ⟨B, 4098, none⟩ = some (.int .i64 s.at_)
  c2 : w.cell? ⟨B, 4099, none⟩ = some (.int .u64 s.old)
  c3 : w.cell? ⟨B, 4100, none⟩ = some (.int .u64 s.new)
  c4 : w.cell? ⟨B, 4101, none⟩ = some (.bool s.held)
  cnt : w.cell? ⟨B, 4102, none⟩ = some (.int .i64 s.cnt)
  fB : ∀ i, w.frozen? ⟨B, i, none⟩ = false
  ne : M ≠ B
  hn : 1 ≤ n ∧ n ≤ 4096

theorem PMem.frame {w w' : World} {M B n : Nat} {s : St} (hm : PMem w M B n s) {T : Nat → Prop} (hb : But T w w') (hM : ¬ T M) (hB : ¬ T B) : PMem w' M B n s :=
  ⟨hb.some hm.p hM, fun i hi => by obtain ⟨x, h, h'⟩ := hm.words i hi; exact ⟨x, hb.some h hB, h'⟩, hb.some hm.size hB, hb.some hm.c0 hB, hb.some hm.c1 hB, hb.some hm.c2 hB, hb.some hm.c3 hB, hb.some hm.c4 hB, hb.some hm.cnt hB,
   fun i => (hb.froze _).trans (hm.fB i), hm.ne, hm.hn⟩
theorem PMem.kept {w w' : World} {M B n : Nat} {s : St} (hm : PMem w M B n s) (k : Kept w w') : PMem w' M B n s := hm.frame (k.but (fun _ => False)) id id
theorem PMem.lt {w : World} {M B n : Nat} {s : St} (hm : PMem w M B n s) : M < w.heap.size ∧ B < w.heap.size := ⟨lt_of_cell hm.p, lt_of_cell hm.size⟩

set_option maxHeartbeats 1000000 in
theorem valid_yes (M : Nat) (a : Addr) (w : World) (hp : w.cell? ⟨M, 0, none⟩ = some (.pointer (some a))) : Calls Tryz.prog 64 #[.pointer (some ⟨M, 0, none⟩)] w fun e w' => e = .returned (.bool true) ∧ w = w' := by
  go_enter Tryz.func64, Tryz.ntmps64
  go_wp2
  go_ret
  exact ⟨rfl, rfl⟩

set_option maxHeartbeats 1000000 in
theorem size_any (M B n : Nat) (w : World) (hp : w.cell? ⟨M, 0, none⟩ = some (.pointer (some ⟨B, 0, none⟩))) (hs : w.cell? ⟨B, 4096, none⟩ = some (.int .i64 n)) : Calls Tryz.prog 258 #[.pointer (some ⟨M, 0, none⟩)] w fun e w' => e = .returned (.int .i64 n) ∧ w = w' := by
  go_enter Tryz.func258, Tryz.ntmps258
  go_wp2_with fail
  refine (valid_yes M _ _ hp).mono ?_
  rintro e w' ⟨rfl, rfl⟩
  go_wp2
  go_ret
  exact ⟨rfl, rfl⟩

set_option maxHeartbeats 1000000 in
theorem count_any (M B : Nat) (c : Int) (w : World) (hp : w.cell? ⟨M, 0, none⟩ = some (.pointer (some ⟨B, 0, none⟩))) (hs : w.cell? ⟨B, 4102, none⟩ = some (.int .i64 c)) : Calls Tryz.prog 26 #[.pointer (some ⟨M, 0, none⟩)] w fun e w' => e = .returned (.int .i64 c) ∧ w = w' := by
  go_enter Tryz.func26, Tryz.ntmps26
  go_wp2_with fail
  refine (valid_yes M _ _ hp).mono ?_
  rintro e w' ⟨rfl, rfl⟩
  go_wp2
  go_ret
  exact ⟨rfl, rfl⟩

set_option maxHeartbeats 1000000 in
theorem cell_out (M B n : Nat) (a : Int) (w : World) (hp : w.cell? ⟨M, 0, none⟩ = some (.pointer (some ⟨B, 0, none⟩))) (hs : w.cell? ⟨B, 4096, none⟩ = some (.int .i64 n)) (ha : a < 0 ∨ n ≤ a) : Calls Tryz.prog 173 #[.pointer (some ⟨M, 0, none⟩), .int .i64 a] w fun e w' => e = .returned (.pointer none) ∧ w = w' := by
  rcases ha with ha | ha
  · go_enter Tryz.func173, Tryz.ntmps173
    go_wp2
    go_ret
    exact ⟨rfl, rfl⟩
  · go_enter Tryz.func173, Tryz.ntmps173
    go_wp2_with fail
    refine (size_any M B n _ hp hs).mono ?_
    rintro e w' ⟨rfl, rfl⟩
    go_wp2
    go_ret
    exact ⟨rfl, rfl⟩
set_option maxHeartbeats 1000000 in
theorem cell_in (M B n a : Nat) (w : World) (hp : w.cell? ⟨M, 0, none⟩ = some (.pointer (some ⟨B, 0, none⟩))) (hs : w.cell? ⟨B, 4096, none⟩ = some (.int .i64 n)) (ha : a < n) (hn : n ≤ 4096) : Calls Tryz.prog 173 #[.pointer (some ⟨M, 0, none⟩), .int .i64 a] w fun e w' => e = .returned (.pointer (some ⟨B, a, none⟩)) ∧ w = w' := by
  go_enter Tryz.func173, Tryz.ntmps173
  go_wp2_with fail
  refine (size_any M B n _ hp hs).mono ?_
  rintro e w' ⟨rfl, rfl⟩
  go_wp2
  go_ret
  exact ⟨rfl, rfl⟩
set_option maxHeartbeats 1000000 in
theorem last_any (M B n : Nat) (s : St) (w : World) (hm : PMem w M B n s) : Calls Tryz.prog 24 #[.pointer (some ⟨M, 0, none⟩)] w fun e w' => e = .returned (.agg #[.int .i64 s.kind, .int .i64 s.at_, .int .u64 s.old, .int .u64 s.new, .bool s.held]) ∧ Kept w w' := by
  obtain ⟨p, _, _, c0, c1, c2, c3, c4, _, _, _, _⟩ := hm
  have hM := lt_of_cell p
  have hB := lt_of_cell c0
  go_enter Tryz.func24, Tryz.ntmps24
  go_wp2_with fail
  refine (valid_yes M _ _ (Kept.some (w := w) (by (go_light; repeat (first | (with_reducible exact Kept.refl _) | (with_reducible assumption) | (with_reducible refine Kept.alloc ?_ _ _) | (with_reducible refine Kept.drew ?_) | (with_reducible refine Kept.drewN ?_ _) | ((with_reducible refine Kept.setCell ?_ ?_ _); rotate_left; focus (first | (simp; done) | (simp; omega))) | refine Kept.trans ?_ (by assumption)))) p)).mono ?_
  rintro e w' ⟨rfl, rfl⟩
  go_wp2
  refine bodyPost_ret (v := .agg #[.int .i64 s.kind, .int .i64 s.at_, .int .u64 s.old, .int .u64 s.new, .bool s.held]) (by simp [results, Tryz.results24, go_sem]) rfl ⟨rfl, ?_⟩
  (go_light; repeat (first | (with_reducible exact Kept.refl _) | (with_reducible assumption) | (with_reducible refine Kept.alloc ?_ _ _) | (with_reducible refine Kept.drew ?_) | (with_reducible refine Kept.drewN ?_ _) | ((with_reducible refine Kept.setCell ?_ ?_ _); rotate_left; focus (first | (simp; done) | (simp; omega))) | refine Kept.trans ?_ (by assumption)))
end Go.Proofs.YtlfdiffbepfgbaaGreat.Wo

namespace Go.Proofs.YtlfdiffbepfgbaaGreat.Wo
set_option maxRecDepth 20000
open Go.RowKit

def Done (B : Nat) (f : Nat → Option Value) (o n : Int) (h : Bool) (w : World) (e : Ending) (w' : World) : Prop :=
  e = .returned (.agg #[.int .i64 0, .int .i64 0, .int .u64 (o), .int .u64 (n), .bool h]) ∧ But (fun k => k = B) w w' ∧ ∀ j, w'.cell? ⟨B, j, none⟩ = f j

def accCells (f : Nat → Option Value) (kind at_ o n : Int) (h : Bool) (c : Int) (j : Nat) : Option Value :=
  if j = 4102 then some (.int .i64 (c + 1)) else if j = 4101 then some (.bool h) else if j = 4100 then some (.int .u64 n) else if j = 4099 then some (.int .u64 o)
  else if j = 4098 then some (.int .i64 at_) else if j = 4097 then some (.int .i64 kind) else f j

set_option maxHeartbeats 2000000 in
theorem access_load (R : Value) (M B n : Nat) (s : St) (f : Nat → Option Value) (kind at_ o nw : Int) (h : Bool) (w : World) (hm : PMem w M B n s) (h0 : 0 ≤ s.cnt) (h1 : s.cnt ≤ 1000000)
    (hf : ∀ j, 4096 ≤ j → f j = w.cell? ⟨B, j, none⟩) (hcall : ∀ w1, Kept w w1 → Calls Tryz.prog 238 #[R] w1 (Done B f o nw h w1)) :
    Calls Tryz.prog 172 #[.pointer (some ⟨M, 0, none⟩), .int .i64 kind, .int .i64 at_, .func (.func 238) #[R] #[]] w
      fun e w' => e = .returned (.agg #[.int .i64 kind, .int .i64 at_, .int .u64 o, .int .u64 nw, .bool h]) ∧ But (fun k => k = B) w w' ∧ ∀ j, w'.cell? ⟨B, j, none⟩ = accCells f kind at_ o nw h s.cnt j := by
  obtain ⟨p, _, sz, c0, c1, c2, c3, c4, cn, fB, ne, _⟩ := hm
  have hM := lt_of_cell p
  have hB := lt_of_cell c0
  have HC := Lib.hid hcall
  have F0 := (hf 4097 (by decide)).trans c0
  have F1 := (hf 4098 (by decide)).trans c1
  have F2 := (hf 4099 (by decide)).trans c2
  have F3 := (hf 4100 (by decide)).trans c3
  have F4 := (hf 4101 (by decide)).trans c4
  have F5 := (hf 4102 (by decide)).trans cn
  have F0 := Lib.hid F0
  have F1 := Lib.hid F1
  have F2 := Lib.hid F2
  have F3 := Lib.hid F3
  have F4 := Lib.hid F4
  have F5 := Lib.hid F5
  have FB := Lib.hid fB
  clear hcall hf sz c0 c1 c2 c3 c4 cn fB
  go_enter Tryz.func172, Tryz.ntmps172
  go_wp2_with fail
  refine (valid_yes M _ _ (Kept.some (w := w) (by (go_light; repeat (first | (with_reducible exact Kept.refl _) | (with_reducible assumption) | (with_reducible refine Kept.alloc ?_ _ _) | (with_reducible refine Kept.drew ?_) | (with_reducible refine Kept.drewN ?_ _) | ((with_reducible refine Kept.setCell ?_ ?_ _); rotate_left; focus (first | (simp; done) | (simp; omega))) | refine Kept.trans ?_ (by assumption)))) p)).mono ?_
  rintro e w' ⟨rfl, rfl⟩
  go_wp2_with fail
  refine (HC.out _ (by (go_light; repeat (first | (with_reducible exact Kept.refl _) | (with_reducible assumption) | (with_reducible refine Kept.alloc ?_ _ _) | (with_reducible refine Kept.drew ?_) | (with_reducible refine Kept.drewN ?_ _) | ((with_reducible refine Kept.setCell ?_ ?_ _); rotate_left; focus (first | (simp; done) | (simp; omega))) | refine Kept.trans ?_ (by assumption))))).mono ?_
  rintro e w1 ⟨rfl, b1, q1⟩
  have r0 : w1.cell? ⟨w.heap.size, 0, none⟩ = some (.int .i64 0) := b1.some (by simp) (by omega)
  have r1 : w1.cell? ⟨w.heap.size, 1, none⟩ = some (.int .i64 0) := b1.some (by simp) (by omega)
  have r2 : w1.cell? ⟨w.heap.size, 2, none⟩ = some (.int .u64 0) := b1.some (by simp) (by omega)
  have r3 : w1.cell? ⟨w.heap.size, 3, none⟩ = some (.int .u64 0) := b1.some (by simp) (by omega)
  have r4 : w1.cell? ⟨w.heap.size, 4, none⟩ = some (.bool false) := b1.some (by simp) (by omega)
  have rf : ∀ i, w1.frozen? ⟨w.heap.size, i, none⟩ = false := fun i => by rw [b1.froze]; simp
  have hz := b1.size
  simp at hz
  have p1 : w1.cell? ⟨M, 0, none⟩ = some (.pointer (some ⟨B, 0, none⟩)) := b1.some (Kept.some (w := w) (by (go_light; repeat (first | (with_reducible exact Kept.refl _) | (with_reducible assumption) | (with_reducible refine Kept.alloc ?_ _ _) | (with_reducible refine Kept.drew ?_) | (with_reducible refine Kept.drewN ?_ _) | ((with_reducible refine Kept.setCell ?_ ?_ _); rotate_left; focus (first | (simp; done) | (simp; omega))) | refine Kept.trans ?_ (by assumption)))) p) ne
  have g0 := (q1 4097).trans F0.out
  have g1 := (q1 4098).trans F1.out
  have g2 := (q1 4099).trans F2.out
  have g3 := (q1 4100).trans F3.out
  have g4 := (q1 4101).trans F4.out
  have g5 := (q1 4102).trans F5.out
  have gf : ∀ i, w1.frozen? ⟨B, i, none⟩ = false := fun i => by rw [b1.froze, Kept.froze (w := w) (by (go_light; repeat (first | (with_reducible exact Kept.refl _) | (with_reducible assumption) | (with_reducible refine Kept.alloc ?_ _ _) | (with_reducible refine Kept.drew ?_) | (with_reducible refine Kept.drewN ?_ _) | ((with_reducible refine Kept.setCell ?_ ?_ _); rotate_left; focus (first | (simp; done) | (simp; omega))) | refine Kept.trans ?_ (by assumption))))]; exact FB.out i
  have Q1 := Lib.hid q1
  have B1 := Lib.hid b1
  have n1 : w.heap.size < w1.heap.size := by omega
  have n2 : M ≠ w.heap.size := by omega
  have n3 : B ≠ w.heap.size := by omega
  have n4 : w.heap.size ≠ B := by omega
  have n5 : w1.heap.size ≠ B := by omega
  have n6 : B ≠ w1.heap.size := by omega
  have n7 : M < w1.heap.size := by omega
  have n8 : B < w1.heap.size := by omega
  have n9 : w.heap.size < w1.heap.size + 1 := by omega
  have ne' : B ≠ M := Ne.symm ne
  clear q1 b1 hz p
  go_wp2_with fail
  go_region_held3 (fun w' => w'.cell? ⟨M, 0, none⟩ = some (.pointer (some ⟨B, 0, none⟩)) ∧ w'.cell? ⟨w1.heap.size, 0, none⟩ = some (.int .i64 kind) ∧ w'.cell? ⟨w1.heap.size, 1, none⟩ = some (.int .i64 at_) ∧ w'.cell? ⟨w1.heap.size, 2, none⟩ = some (.int .u64 o) ∧ w'.cell? ⟨w1.heap.size, 3, none⟩ = some (.int .u64 nw) ∧ w'.cell? ⟨w1.heap.size, 4, none⟩ = some (.bool h)) (refine ⟨?_, ?_, ?_, ?_, ?_, ?_⟩ <;> (first | (rw [World.cell?_drew, cell_new _ _ _ _ _ (by simp)]; rfl) | go_keep)) (fail)
  go_wp2
  refine bodyPost_ret (v := .agg #[.int .i64 kind, .int .i64 at_, .int .u64 o, .int .u64 nw, .bool h]) (by simp [results, Tryz.results172, go_sem, cell_set, cell_set_far, *]) rfl ⟨rfl, ?_, fun j => ?_⟩
  · (go_light; repeat (first | (with_reducible exact But.refl _ _) | (with_reducible assumption) | (with_reducible refine But.alloc ?_ _ _) | (with_reducible refine But.drew ?_) | (with_reducible refine But.drewN ?_ _) | (with_reducible refine But.here ?_ _ _) | ((with_reducible refine But.setCell ?_ (Or.inr ?_) _); rotate_left; focus (first | (simp; done) | (simp; omega)))))
    exact (((Kept.refl w).alloc _ _).but _).trans B1.out (fun _ _ h => h)
  · go_light
    clear r0 r1 r2 r3 r4 rf p1 B1
    have q := Q1.out j
    simp only [World.cell?_drew]
    rw [World.cell?_alloc_past _ _ _ (by simp; exact n8)]
    unfold accCells
    by_cases e0 : j = 4102
    · subst e0; simp [cell_set, cell_set_far, *]
    rw [if_neg e0]
    by_cases e1 : j = 4101
    · subst e1; simp [cell_set, cell_set_far, *]
    rw [if_neg e1]
    by_cases e2 : j = 4100
    · subst e2; simp [cell_set, cell_set_far, *]
    rw [if_neg e2]
    by_cases e3 : j = 4099
    · subst e3; simp [cell_set, cell_set_far, *]
    rw [if_neg e3]
    by_cases e4 : j = 4098
    · subst e4; simp [cell_set, cell_set_far, *]
    rw [if_neg e4]
    by_cases e5 : j = 4097
    · subst e5; simp [cell_set, cell_set_far, *]
    rw [if_neg e5, ← q]
    have d0 := Ne.symm e0
    have d1 := Ne.symm e1
    have d2 := Ne.symm e2
    have d3 := Ne.symm e3
    have d4 := Ne.symm e4
    have d5 := Ne.symm e5
    simp [cell_set, cell_set_far, n4, d0, d1, d2, d3, d4, d5]

set_option maxHeartbeats 2000000 in
theorem access_store (R : Value) (M B n : Nat) (s : St) (f : Nat → Option Value) (kind at_ o nw : Int) (h : Bool) (w : World) (hm : PMem w M B n s) (h0 : 0 ≤ s.cnt) (h1 : s.cnt ≤ 1000000)
    (hf : ∀ j, 4096 ≤ j → f j = w.cell? ⟨B, j, none⟩) (hcall : ∀ w1, Kept w w1 → Calls Tryz.prog 174 #[R] w1 (Done B f o nw h w1)) :
    Calls Tryz.prog 172 #[.pointer (some ⟨M, 0, none⟩), .int .i64 kind, .int .i64 at_, .func (.func 174) #[R] #[]] w
      fun e w' => e = .returned (.agg #[.int .i64 kind, .int .i64 at_, .int .u64 o, .int .u64 nw, .bool h]) ∧ But (fun k => k = B) w w' ∧ ∀ j, w'.cell? ⟨B, j, none⟩ = accCells f kind at_ o nw h s.cnt j := by
  obtain ⟨p, _, sz, c0, c1, c2, c3, c4, cn, fB, ne, _⟩ := hm
  have hM := lt_of_cell p
  have hB := lt_of_cell c0
  have HC := Lib.hid hcall
  have F0 := (hf 4097 (by decide)).trans c0
  have F1 := (hf 4098 (by decide)).trans c1
  have F2 := (hf 4099 (by decide)).trans c2
  have F3 := (hf 4100 (by decide)).trans c3
  have F4 := (hf 4101 (by decide)).trans c4
  have F5 := (hf 4102 (by decide)).trans cn
  have F0 := Lib.hid F0
  have F1 := Lib.hid F1
  have F2 := Lib.hid F2
  have F3 := Lib.hid F3
  have F4 := Lib.hid F4
  have F5 := Lib.hid F5
  have FB := Lib.hid fB
  clear hcall hf sz c0 c1 c2 c3 c4 cn fB
  go_enter Tryz.func172, Tryz.ntmps172
  go_wp2_with fail
  refine (valid_yes M _ _ (Kept.some (w := w) (by (go_light; repeat (first | (with_reducible exact Kept.refl _) | (with_reducible assumption) | (with_reducible refine Kept.alloc ?_ _ _) | (with_reducible refine Kept.drew ?_) | (with_reducible refine Kept.drewN ?_ _) | ((with_reducible refine Kept.setCell ?_ ?_ _); rotate_left; focus (first | (simp; done) | (simp; omega))) | refine Kept.trans ?_ (by assumption)))) p)).mono ?_
  rintro e w' ⟨rfl, rfl⟩
  go_wp2_with fail
  refine (HC.out _ (by (go_light; repeat (first | (with_reducible exact Kept.refl _) | (with_reducible assumption) | (with_reducible refine Kept.alloc ?_ _ _) | (with_reducible refine Kept.drew ?_) | (with_reducible refine Kept.drewN ?_ _) | ((with_reducible refine Kept.setCell ?_ ?_ _); rotate_left; focus (first | (simp; done) | (simp; omega))) | refine Kept.trans ?_ (by assumption))))).mono ?_
  rintro e w1 ⟨rfl, b1, q1⟩
  have r0 : w1.cell? ⟨w.heap.size, 0, none⟩ = some (.int .i64 0) := b1.some (by simp) (by omega)
  have r1 : w1.cell? ⟨w.heap.size, 1, none⟩ = some (.int .i64 0) := b1.some (by simp) (by omega)
  have r2 : w1.cell? ⟨w.heap.size, 2, none⟩ = some (.int .u64 0) := b1.some (by simp) (by omega)
  have r3 : w1.cell? ⟨w.heap.size, 3, none⟩ = some (.int .u64 0) := b1.some (by simp) (by omega)
  have r4 : w1.cell? ⟨w.heap.size, 4, none⟩ = some (.bool false) := b1.some (by simp) (by omega)
  have rf : ∀ i, w1.frozen? ⟨w.heap.size, i, none⟩ = false := fun i => by rw [b1.froze]; simp
  have hz := b1.size
  simp at hz
  have p1 : w1.cell? ⟨M, 0, none⟩ = some (.pointer (some ⟨B, 0, none⟩)) := b1.some (Kept.some (w := w) (by (go_light; repeat (first | (with_reducible exact Kept.refl _) | (with_reducible assumption) | (with_reducible refine Kept.alloc ?_ _ _) | (with_reducible refine Kept.drew ?_) | (with_reducible refine Kept.drewN ?_ _) | ((with_reducible refine Kept.setCell ?_ ?_ _); rotate_left; focus (first | (simp; done) | (simp; omega))) | refine Kept.trans ?_ (by assumption)))) p) ne
  have g0 := (q1 4097).trans F0.out
  have g1 := (q1 4098).trans F1.out
  have g2 := (q1 4099).trans F2.out
  have g3 := (q1 4100).trans F3.out
  have g4 := (q1 4101).trans F4.out
  have g5 := (q1 4102).trans F5.out
  have gf : ∀ i, w1.frozen? ⟨B, i, none⟩ = false := fun i => by rw [b1.froze, Kept.froze (w := w) (by (go_light; repeat (first | (with_reducible exact Kept.refl _) | (with_reducible assumption) | (with_reducible refine Kept.alloc ?_ _ _) | (with_reducible refine Kept.drew ?_) | (with_reducible refine Kept.drewN ?_ _) | ((with_reducible refine Kept.setCell ?_ ?_ _); rotate_left; focus (first | (simp; done) | (simp; omega))) | refine Kept.trans ?_ (by assumption))))]; exact FB.out i
  have Q1 := Lib.hid q1
  have B1 := Lib.hid b1
  have n1 : w.heap.size < w1.heap.size := by omega
  have n2 : M ≠ w.heap.size := by omega
  have n3 : B ≠ w.heap.size := by omega
  have n4 : w.heap.size ≠ B := by omega
  have n5 : w1.heap.size ≠ B := by omega
  have n6 : B ≠ w1.heap.size := by omega
  have n7 : M < w1.heap.size := by omega
  have n8 : B < w1.heap.size := by omega
  have n9 : w.heap.size < w1.heap.size + 1 := by omega
  have ne' : B ≠ M := Ne.symm ne
  clear q1 b1 hz p
  go_wp2_with fail
  go_region_held3 (fun w' => w'.cell? ⟨M, 0, none⟩ = some (.pointer (some ⟨B, 0, none⟩)) ∧ w'.cell? ⟨w1.heap.size, 0, none⟩ = some (.int .i64 kind) ∧ w'.cell? ⟨w1.heap.size, 1, none⟩ = some (.int .i64 at_) ∧ w'.cell? ⟨w1.heap.size, 2, none⟩ = some (.int .u64 o) ∧ w'.cell? ⟨w1.heap.size, 3, none⟩ = some (.int .u64 nw) ∧ w'.cell? ⟨w1.heap.size, 4, none⟩ = some (.bool h)) (refine ⟨?_, ?_, ?_, ?_, ?_, ?_⟩ <;> (first | (rw [World.cell?_drew, cell_new _ _ _ _ _ (by simp)]; rfl) | go_keep)) (fail)
  go_wp2
  refine bodyPost_ret (v := .agg #[.int .i64 kind, .int .i64 at_, .int .u64 o, .int .u64 nw, .bool h]) (by simp [results, Tryz.results172, go_sem, cell_set, cell_set_far, *]) rfl ⟨rfl, ?_, fun j => ?_⟩
  · (go_light; repeat (first | (with_reducible exact But.refl _ _) | (with_reducible assumption) | (with_reducible refine But.alloc ?_ _ _) | (with_reducible refine But.drew ?_) | (with_reducible refine But.drewN ?_ _) | (with_reducible refine But.here ?_ _ _) | ((with_reducible refine But.setCell ?_ (Or.inr ?_) _); rotate_left; focus (first | (simp; done) | (simp; omega)))))
    exact (((Kept.refl w).alloc _ _).but _).trans B1.out (fun _ _ h => h)
  · go_light
    clear r0 r1 r2 r3 r4 rf p1 B1
    have q := Q1.out j
    simp only [World.cell?_drew]
    rw [World.cell?_alloc_past _ _ _ (by simp; exact n8)]
    unfold accCells
    by_cases e0 : j = 4102
    · subst e0; simp [cell_set, cell_set_far, *]
    rw [if_neg e0]
    by_cases e1 : j = 4101
    · subst e1; simp [cell_set, cell_set_far, *]
    rw [if_neg e1]
    by_cases e2 : j = 4100
    · subst e2; simp [cell_set, cell_set_far, *]
    rw [if_neg e2]
    by_cases e3 : j = 4099
    · subst e3; simp [cell_set, cell_set_far, *]
    rw [if_neg e3]
    by_cases e4 : j = 4098
    · subst e4; simp [cell_set, cell_set_far, *]
    rw [if_neg e4]
    by_cases e5 : j = 4097
    · subst e5; simp [cell_set, cell_set_far, *]
    rw [if_neg e5, ← q]
    have d0 := Ne.symm e0
    have d1 := Ne.symm e1
    have d2 := Ne.symm e2
    have d3 := Ne.symm e3
    have d4 := Ne.symm e4
    have d5 := Ne.symm e5
    simp [cell_set, cell_set_far, n4, d0, d1, d2, d3, d4, d5]

set_option maxHeartbeats 2000000 in
theorem access_swap (R : Value) (M B n : Nat) (s : St) (f : Nat → Option Value) (kind at_ o nw : Int) (h : Bool) (w : World) (hm : PMem w M B n s) (h0 : 0 ≤ s.cnt) (h1 : s.cnt ≤ 1000000)
    (hf : ∀ j, 4096 ≤ j → f j = w.cell? ⟨B, j, none⟩) (hcall : ∀ w1, Kept w w1 → Calls Tryz.prog 312 #[R] w1 (Done B f o nw h w1)) :
    Calls Tryz.prog 172 #[.pointer (some ⟨M, 0, none⟩), .int .i64 kind, .int .i64 at_, .func (.func 312) #[R] #[]] w
      fun e w' => e = .returned (.agg #[.int .i64 kind, .int .i64 at_, .int .u64 o, .int .u64 nw, .bool h]) ∧ But (fun k => k = B) w w' ∧ ∀ j, w'.cell? ⟨B, j, none⟩ = accCells f kind at_ o nw h s.cnt j := by
  obtain ⟨p, _, sz, c0, c1, c2, c3, c4, cn, fB, ne, _⟩ := hm
  have hM := lt_of_cell p
  have hB := lt_of_cell c0
  have HC := Lib.hid hcall
  have F0 := (hf 4097 (by decide)).trans c0
  have F1 := (hf 4098 (by decide)).trans c1
  have F2 := (hf 4099 (by decide)).trans c2
  have F3 := (hf 4100 (by decide)).trans c3
  have F4 := (hf 4101 (by decide)).trans c4
  have F5 := (hf 4102 (by decide)).trans cn
  have F0 := Lib.hid F0
  have F1 := Lib.hid F1
  have F2 := Lib.hid F2
  have F3 := Lib.hid F3
  have F4 := Lib.hid F4
  have F5 := Lib.hid F5
  have FB := Lib.hid fB
  clear hcall hf sz c0 c1 c2 c3 c4 cn fB
  go_enter Tryz.func172, Tryz.ntmps172
  go_wp2_with fail
  refine (valid_yes M _ _ (Kept.some (w := w) (by (go_light; repeat (first | (with_reducible exact Kept.refl _) | (with_reducible assumption) | (with_reducible refine Kept.alloc ?_ _ _) | (with_reducible refine Kept.drew ?_) | (with_reducible refine Kept.drewN ?_ _) | ((with_reducible refine Kept.setCell ?_ ?_ _); rotate_left; focus (first | (simp; done) | (simp; omega))) | refine Kept.trans ?_ (by assumption)))) p)).mono ?_
  rintro e w' ⟨rfl, rfl⟩
  go_wp2_with fail
  refine (HC.out _ (by (go_light; repeat (first | (with_reducible exact Kept.refl _) | (with_reducible assumption) | (with_reducible refine Kept.alloc ?_ _ _) | (with_reducible refine Kept.drew ?_) | (with_reducible refine Kept.drewN ?_ _) | ((with_reducible refine Kept.setCell ?_ ?_ _); rotate_left; focus (first | (simp; done) | (simp; omega))) | refine Kept.trans ?_ (by assumption))))).mono ?_
  rintro e w1 ⟨rfl, b1, q1⟩
  have r0 : w1.cell? ⟨w.heap.size, 0, none⟩ = some (.int .i64 0) := b1.some (by simp) (by omega)
  have r1 : w1.cell? ⟨w.heap.size, 1, none⟩ = some (.int .i64 0) := b1.some (by simp) (by omega)
  have r2 : w1.cell? ⟨w.heap.size, 2, none⟩ = some (.int .u64 0) := b1.some (by simp) (by omega)
  have r3 : w1.cell? ⟨w.heap.size, 3, none⟩ = some (.int .u64 0) := b1.some (by simp) (by omega)
  have r4 : w1.cell? ⟨w.heap.size, 4, none⟩ = some (.bool false) := b1.some (by simp) (by omega)
  have rf : ∀ i, w1.frozen? ⟨w.heap.size, i, none⟩ = false := fun i => by rw [b1.froze]; simp
  have hz := b1.size
  simp at hz
  have p1 : w1.cell? ⟨M, 0, none⟩ = some (.pointer (some ⟨B, 0, none⟩)) := b1.some (Kept.some (w := w) (by (go_light; repeat (first | (with_reducible exact Kept.refl _) | (with_reducible assumption) | (with_reducible refine Kept.alloc ?_ _ _) | (with_reducible refine Kept.drew ?_) | (with_reducible refine Kept.drewN ?_ _) | ((with_reducible refine Kept.setCell ?_ ?_ _); rotate_left; focus (first | (simp; done) | (simp; omega))) | refine Kept.trans ?_ (by assumption)))) p) ne
  have g0 := (q1 4097).trans F0.out
  have g1 := (q1 4098).trans F1.out
  have g2 := (q1 4099).trans F2.out
  have g3 := (q1 4100).trans F3.out
  have g4 := (q1 4101).trans F4.out
  have g5 := (q1 4102).trans F5.out
  have gf : ∀ i, w1.frozen? ⟨B, i, none⟩ = false := fun i => by rw [b1.froze, Kept.froze (w := w) (by (go_light; repeat (first | (with_reducible exact Kept.refl _) | (with_reducible assumption) | (with_reducible refine Kept.alloc ?_ _ _) | (with_reducible refine Kept.drew ?_) | (with_reducible refine Kept.drewN ?_ _) | ((with_reducible refine Kept.setCell ?_ ?_ _); rotate_left; focus (first | (simp; done) | (simp; omega))) | refine Kept.trans ?_ (by assumption))))]; exact FB.out i
  have Q1 := Lib.hid q1
  have B1 := Lib.hid b1
  have n1 : w.heap.size < w1.heap.size := by omega
  have n2 : M ≠ w.heap.size := by omega
  have n3 : B ≠ w.heap.size := by omega
  have n4 : w.heap.size ≠ B := by omega
  have n5 : w1.heap.size ≠ B := by omega
  have n6 : B ≠ w1.heap.size := by omega
  have n7 : M < w1.heap.size := by omega
  have n8 : B < w1.heap.size := by omega
  have n9 : w.heap.size < w1.heap.size + 1 := by omega
  have ne' : B ≠ M := Ne.symm ne
  clear q1 b1 hz p
  go_wp2_with fail
  go_region_held3 (fun w' => w'.cell? ⟨M, 0, none⟩ = some (.pointer (some ⟨B, 0, none⟩)) ∧ w'.cell? ⟨w1.heap.size, 0, none⟩ = some (.int .i64 kind) ∧ w'.cell? ⟨w1.heap.size, 1, none⟩ = some (.int .i64 at_) ∧ w'.cell? ⟨w1.heap.size, 2, none⟩ = some (.int .u64 o) ∧ w'.cell? ⟨w1.heap.size, 3, none⟩ = some (.int .u64 nw) ∧ w'.cell? ⟨w1.heap.size, 4, none⟩ = some (.bool h)) (refine ⟨?_, ?_, ?_, ?_, ?_, ?_⟩ <;> (first | (rw [World.cell?_drew, cell_new _ _ _ _ _ (by simp)]; rfl) | go_keep)) (fail)
  go_wp2
  refine bodyPost_ret (v := .agg #[.int .i64 kind, .int .i64 at_, .int .u64 o, .int .u64 nw, .bool h]) (by simp [results, Tryz.results172, go_sem, cell_set, cell_set_far, *]) rfl ⟨rfl, ?_, fun j => ?_⟩
  · (go_light; repeat (first | (with_reducible exact But.refl _ _) | (with_reducible assumption) | (with_reducible refine But.alloc ?_ _ _) | (with_reducible refine But.drew ?_) | (with_reducible refine But.drewN ?_ _) | (with_reducible refine But.here ?_ _ _) | ((with_reducible refine But.setCell ?_ (Or.inr ?_) _); rotate_left; focus (first | (simp; done) | (simp; omega)))))
    exact (((Kept.refl w).alloc _ _).but _).trans B1.out (fun _ _ h => h)
  · go_light
    clear r0 r1 r2 r3 r4 rf p1 B1
    have q := Q1.out j
    simp only [World.cell?_drew]
    rw [World.cell?_alloc_past _ _ _ (by simp; exact n8)]
    unfold accCells
    by_cases e0 : j = 4102
    · subst e0; simp [cell_set, cell_set_far, *]
    rw [if_neg e0]
    by_cases e1 : j = 4101
    · subst e1; simp [cell_set, cell_set_far, *]
    rw [if_neg e1]
    by_cases e2 : j = 4100
    · subst e2; simp [cell_set, cell_set_far, *]
    rw [if_neg e2]
    by_cases e3 : j = 4099
    · subst e3; simp [cell_set, cell_set_far, *]
    rw [if_neg e3]
    by_cases e4 : j = 4098
    · subst e4; simp [cell_set, cell_set_far, *]
    rw [if_neg e4]
    by_cases e5 : j = 4097
    · subst e5; simp [cell_set, cell_set_far, *]
    rw [if_neg e5, ← q]
    have d0 := Ne.symm e0
    have d1 := Ne.symm e1
    have d2 := Ne.symm e2
    have d3 := Ne.symm e3
    have d4 := Ne.symm e4
    have d5 := Ne.symm e5
    simp [cell_set, cell_set_far, n4, d0, d1, d2, d3, d4, d5]

set_option maxHeartbeats 2000000 in
theorem access_add (R : Value) (M B n : Nat) (s : St) (f : Nat → Option Value) (kind at_ o nw : Int) (h : Bool) (w : World) (hm : PMem w M B n s) (h0 : 0 ≤ s.cnt) (h1 : s.cnt ≤ 1000000)
    (hf : ∀ j, 4096 ≤ j → f j = w.cell? ⟨B, j, none⟩) (hcall : ∀ w1, Kept w w1 → Calls Tryz.prog 330 #[R] w1 (Done B f o nw h w1)) :
    Calls Tryz.prog 172 #[.pointer (some ⟨M, 0, none⟩), .int .i64 kind, .int .i64 at_, .func (.func 330) #[R] #[]] w
      fun e w' => e = .returned (.agg #[.int .i64 kind, .int .i64 at_, .int .u64 o, .int .u64 nw, .bool h]) ∧ But (fun k => k = B) w w' ∧ ∀ j, w'.cell? ⟨B, j, none⟩ = accCells f kind at_ o nw h s.cnt j := by
  obtain ⟨p, _, sz, c0, c1, c2, c3, c4, cn, fB, ne, _⟩ := hm
  have hM := lt_of_cell p
  have hB := lt_of_cell c0
  have HC := Lib.hid hcall
  have F0 := (hf 4097 (by decide)).trans c0
  have F1 := (hf 4098 (by decide)).trans c1
  have F2 := (hf 4099 (by decide)).trans c2
  have F3 := (hf 4100 (by decide)).trans c3
  have F4 := (hf 4101 (by decide)).trans c4
  have F5 := (hf 4102 (by decide)).trans cn
  have F0 := Lib.hid F0
  have F1 := Lib.hid F1
  have F2 := Lib.hid F2
  have F3 := Lib.hid F3
  have F4 := Lib.hid F4
  have F5 := Lib.hid F5
  have FB := Lib.hid fB
  clear hcall hf sz c0 c1 c2 c3 c4 cn fB
  go_enter Tryz.func172, Tryz.ntmps172
  go_wp2_with fail
  refine (valid_yes M _ _ (Kept.some (w := w) (by (go_light; repeat (first | (with_reducible exact Kept.refl _) | (with_reducible assumption) | (with_reducible refine Kept.alloc ?_ _ _) | (with_reducible refine Kept.drew ?_) | (with_reducible refine Kept.drewN ?_ _) | ((with_reducible refine Kept.setCell ?_ ?_ _); rotate_left; focus (first | (simp; done) | (simp; omega))) | refine Kept.trans ?_ (by assumption)))) p)).mono ?_
  rintro e w' ⟨rfl, rfl⟩
  go_wp2_with fail
  refine (HC.out _ (by (go_light; repeat (first | (with_reducible exact Kept.refl _) | (with_reducible assumption) | (with_reducible refine Kept.alloc ?_ _ _) | (with_reducible refine Kept.drew ?_) | (with_reducible refine Kept.drewN ?_ _) | ((with_reducible refine Kept.setCell ?_ ?_ _); rotate_left; focus (first | (simp; done) | (simp; omega))) | refine Kept.trans ?_ (by assumption))))).mono ?_
  rintro e w1 ⟨rfl, b1, q1⟩
  have r0 : w1.cell? ⟨w.heap.size, 0, none⟩ = some (.int .i64 0) := b1.some (by simp) (by omega)
  have r1 : w1.cell? ⟨w.heap.size, 1, none⟩ = some (.int .i64 0) := b1.some (by simp) (by omega)
  have r2 : w1.cell? ⟨w.heap.size, 2, none⟩ = some (.int .u64 0) := b1.some (by simp) (by omega)
  have r3 : w1.cell? ⟨w.heap.size, 3, none⟩ = some (.int .u64 0) := b1.some (by simp) (by omega)
  have r4 : w1.cell? ⟨w.heap.size, 4, none⟩ = some (.bool false) := b1.some (by simp) (by omega)
  have rf : ∀ i, w1.frozen? ⟨w.heap.size, i, none⟩ = false := fun i => by rw [b1.froze]; simp
  have hz := b1.size
  simp at hz
  have p1 : w1.cell? ⟨M, 0, none⟩ = some (.pointer (some ⟨B, 0, none⟩)) := b1.some (Kept.some (w := w) (by (go_light; repeat (first | (with_reducible exact Kept.refl _) | (with_reducible assumption) | (with_reducible refine Kept.alloc ?_ _ _) | (with_reducible refine Kept.drew ?_) | (with_reducible refine Kept.drewN ?_ _) | ((with_reducible refine Kept.setCell ?_ ?_ _); rotate_left; focus (first | (simp; done) | (simp; omega))) | refine Kept.trans ?_ (by assumption)))) p) ne
  have g0 := (q1 4097).trans F0.out
  have g1 := (q1 4098).trans F1.out
  have g2 := (q1 4099).trans F2.out
  have g3 := (q1 4100).trans F3.out
  have g4 := (q1 4101).trans F4.out
  have g5 := (q1 4102).trans F5.out
  have gf : ∀ i, w1.frozen? ⟨B, i, none⟩ = false := fun i => by rw [b1.froze, Kept.froze (w := w) (by (go_light; repeat (first | (with_reducible exact Kept.refl _) | (with_reducible assumption) | (with_reducible refine Kept.alloc ?_ _ _) | (with_reducible refine Kept.drew ?_) | (with_reducible refine Kept.drewN ?_ _) | ((with_reducible refine Kept.setCell ?_ ?_ _); rotate_left; focus (first | (simp; done) | (simp; omega))) | refine Kept.trans ?_ (by assumption))))]; exact FB.out i
  have Q1 := Lib.hid q1
  have B1 := Lib.hid b1
  have n1 : w.heap.size < w1.heap.size := by omega
  have n2 : M ≠ w.heap.size := by omega
  have n3 : B ≠ w.heap.size := by omega
  have n4 : w.heap.size ≠ B := by omega
  have n5 : w1.heap.size ≠ B := by omega
  have n6 : B ≠ w1.heap.size := by omega
  have n7 : M < w1.heap.size := by omega
  have n8 : B < w1.heap.size := by omega
  have n9 : w.heap.size < w1.heap.size + 1 := by omega
  have ne' : B ≠ M := Ne.symm ne
  clear q1 b1 hz p
  go_wp2_with fail
  go_region_held3 (fun w' => w'.cell? ⟨M, 0, none⟩ = some (.pointer (some ⟨B, 0, none⟩)) ∧ w'.cell? ⟨w1.heap.size, 0, none⟩ = some (.int .i64 kind) ∧ w'.cell? ⟨w1.heap.size, 1, none⟩ = some (.int .i64 at_) ∧ w'.cell? ⟨w1.heap.size, 2, none⟩ = some (.int .u64 o) ∧ w'.cell? ⟨w1.heap.size, 3, none⟩ = some (.int .u64 nw) ∧ w'.cell? ⟨w1.heap.size, 4, none⟩ = some (.bool h)) (refine ⟨?_, ?_, ?_, ?_, ?_, ?_⟩ <;> (first | (rw [World.cell?_drew, cell_new _ _ _ _ _ (by simp)]; rfl) | go_keep)) (fail)
  go_wp2
  refine bodyPost_ret (v := .agg #[.int .i64 kind, .int .i64 at_, .int .u64 o, .int .u64 nw, .bool h]) (by simp [results, Tryz.results172, go_sem, cell_set, cell_set_far, *]) rfl ⟨rfl, ?_, fun j => ?_⟩
  · (go_light; repeat (first | (with_reducible exact But.refl _ _) | (with_reducible assumption) | (with_reducible refine But.alloc ?_ _ _) | (with_reducible refine But.drew ?_) | (with_reducible refine But.drewN ?_ _) | (with_reducible refine But.here ?_ _ _) | ((with_reducible refine But.setCell ?_ (Or.inr ?_) _); rotate_left; focus (first | (simp; done) | (simp; omega)))))
    exact (((Kept.refl w).alloc _ _).but _).trans B1.out (fun _ _ h => h)
  · go_light
    clear r0 r1 r2 r3 r4 rf p1 B1
    have q := Q1.out j
    simp only [World.cell?_drew]
    rw [World.cell?_alloc_past _ _ _ (by simp; exact n8)]
    unfold accCells
    by_cases e0 : j = 4102
    · subst e0; simp [cell_set, cell_set_far, *]
    rw [if_neg e0]
    by_cases e1 : j = 4101
    · subst e1; simp [cell_set, cell_set_far, *]
    rw [if_neg e1]
    by_cases e2 : j = 4100
    · subst e2; simp [cell_set, cell_set_far, *]
    rw [if_neg e2]
    by_cases e3 : j = 4099
    · subst e3; simp [cell_set, cell_set_far, *]
    rw [if_neg e3]
    by_cases e4 : j = 4098
    · subst e4; simp [cell_set, cell_set_far, *]
    rw [if_neg e4]
    by_cases e5 : j = 4097
    · subst e5; simp [cell_set, cell_set_far, *]
    rw [if_neg e5, ← q]
    have d0 := Ne.symm e0
    have d1 := Ne.symm e1
    have d2 := Ne.symm e2
    have d3 := Ne.symm e3
    have d4 := Ne.symm e4
    have d5 := Ne.symm e5
    simp [cell_set, cell_set_far, n4, d0, d1, d2, d3, d4, d5]

end Go.Proofs.YtlfdiffbepfgbaaGreat.Wo
