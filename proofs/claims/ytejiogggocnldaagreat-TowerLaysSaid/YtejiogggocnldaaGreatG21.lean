/- A Lay, the program's: how it is made, its steps, what it tells. Written by gen15f.py. -/
import Derived.Test.YtejiogggocnldaaGreatG20
set_option linter.unusedVariables false
set_option linter.unusedSimpArgs false

namespace Go.Proofs.YtejiogggocnldaaGreat.Tw
set_option maxRecDepth 20000
open Go.RowKit
open Wo (St acc wordAt PMem RefIs)
open Sk (Stk Arn idx Wd p_store pmem_lt pmem_kept pmem_frame kept_of)

theorem ix_0 (x0 x1 x2 x3 : Value) (w : World) : (Instr.index 144 (.agg #[x0, x1, x2, x3]) (.int .i64 0)).run Tryz.prog w = .ok x0 w := by
  kernel_rfl
theorem ix_1 (x0 x1 x2 x3 : Value) (w : World) : (Instr.index 144 (.agg #[x0, x1, x2, x3]) (.int .i64 1)).run Tryz.prog w = .ok x1 w := by
  kernel_rfl
theorem ix_2 (x0 x1 x2 x3 : Value) (w : World) : (Instr.index 144 (.agg #[x0, x1, x2, x3]) (.int .i64 2)).run Tryz.prog w = .ok x2 w := by
  kernel_rfl
theorem ix_3 (x0 x1 x2 x3 : Value) (w : World) : (Instr.index 144 (.agg #[x0, x1, x2, x3]) (.int .i64 3)).run Tryz.prog w = .ok x3 w := by
  kernel_rfl

structure StoreAt (w : World) (lo hi : Nat) (at_ v : Int) (f : Value) : Prop where
  ex : ∃ a b, f = .func (.func 88) #[] #[.pointer (some ⟨a, 0, none⟩), .pointer (some ⟨b, 0, none⟩)] ∧ lo ≤ a ∧ a < hi ∧ lo ≤ b ∧ b < hi ∧ w.cell? ⟨a, 0, none⟩ = some (.int .i64 at_) ∧ w.cell? ⟨b, 0, none⟩ = some (.int .u64 v)
theorem StoreAt.but {w w' : World} {lo hi : Nat} {at_ v : Int} {f : Value} (h : StoreAt w lo hi at_ v f) {T : Nat → Prop} (k : But T w w') (hT : ∀ j, lo ≤ j → j < hi → ¬ T j) : StoreAt w' lo hi at_ v f := by
  obtain ⟨a, b, rfl, h1, h2, h3, h4, h5, h6⟩ := h.ex
  exact ⟨a, b, rfl, h1, h2, h3, h4, k.some h5 (hT a h1 h2), k.some h6 (hT b h3 h4)⟩
structure LayAt (w : World) (lo hi P : Nat) (t : Twr) (x : LOp) : Prop where
  c0 : w.cell? ⟨P, 0, none⟩ = some (.bool true)
  st : ∀ k, k < 4 → x.line ≤ k → ∃ f, w.cell? ⟨P, 1 + k, none⟩ = some f ∧ StoreAt w lo hi (atI t x.i k) (LOp.val { x with line := k }) f
  nl : ∀ k, k < 4 → k < x.line → w.cell? ⟨P, 1 + k, none⟩ = some .nilFunc
  c5 : w.cell? ⟨P, 5, none⟩ = some (.int .u64 x.r)
  c6 : w.cell? ⟨P, 6, none⟩ = some (.int .u64 x.by_)
  c7 : w.cell? ⟨P, 7, none⟩ = some (.int .i64 x.er)
  f : ∀ i, w.frozen? ⟨P, i, none⟩ = false
  p : P < lo ∨ hi ≤ P
theorem LayAt.but {w w' : World} {lo hi P : Nat} {t : Twr} {x : LOp} (h : LayAt w lo hi P t x) {T : Nat → Prop} (k : But T w w') (hP : ¬ T P) (hT : ∀ j, lo ≤ j → j < hi → ¬ T j) : LayAt w' lo hi P t x :=
  ⟨k.some h.c0 hP, fun j h1 h2 => by obtain ⟨f, h3, h4⟩ := h.st j h1 h2; exact ⟨f, k.some h3 hP, h4.but k hT⟩, fun j h1 h2 => k.some (h.nl j h1 h2) hP, k.some h.c5 hP, k.some h.c6 hP, k.some h.c7 hP, fun i => k.soft (lt_of_cell h.c0) (h.f i), h.p⟩
theorem LayAt.kept {w w' : World} {lo hi P : Nat} {t : Twr} {x : LOp} (h : LayAt w lo hi P t x) (k : Kept w w') : LayAt w' lo hi P t x := h.but (k.but (fun _ => False)) id (fun _ _ _ => id)

set_option maxHeartbeats 400000 in
theorem err_nil (w : World) : Calls Tryz.prog 20 #[.pointer none] w fun e w' => e = .returned (.int .i64 1) ∧ w = w' := by
  go_enter Tryz.func20, Tryz.ntmps20
  go_wp2
  go_ret
  exact ⟨rfl, rfl⟩
set_option maxHeartbeats 400000 in
theorem by_nil (w : World) : Calls Tryz.prog 22 #[.pointer none] w fun e w' => e = .returned (.int .u64 0) ∧ w = w' := by
  go_enter Tryz.func22, Tryz.ntmps22
  go_wp2
  go_ret
  exact ⟨rfl, rfl⟩
set_option maxHeartbeats 400000 in
theorem step_nil (m : Value) (w : World) : Calls Tryz.prog 18 #[.pointer none, m] w fun e w' => e = .returned (.bool true) ∧ w = w' := by
  go_enter Tryz.func18, Tryz.ntmps18
  go_wp2
  go_ret
  exact ⟨rfl, rfl⟩
set_option maxHeartbeats 400000 in
theorem err_made (P : Nat) (er : Int) (w : World) (c0 : w.cell? ⟨P, 0, none⟩ = some (.bool true)) (c7 : w.cell? ⟨P, 7, none⟩ = some (.int .i64 er)) : Calls Tryz.prog 20 #[.pointer (some ⟨P, 0, none⟩)] w fun e w' => e = .returned (.int .i64 er) ∧ w = w' := by
  go_enter Tryz.func20, Tryz.ntmps20
  go_wp2
  go_ret
  exact ⟨rfl, rfl⟩
set_option maxHeartbeats 400000 in
theorem err_none (P : Nat) (w : World) (c0 : w.cell? ⟨P, 0, none⟩ = some (.bool false)) : Calls Tryz.prog 20 #[.pointer (some ⟨P, 0, none⟩)] w fun e w' => e = .returned (.int .i64 1) ∧ w = w' := by
  go_enter Tryz.func20, Tryz.ntmps20
  go_wp2
  go_ret
  exact ⟨rfl, rfl⟩
set_option maxHeartbeats 400000 in
theorem by_made (P : Nat) (v : Int) (w : World) (c6 : w.cell? ⟨P, 6, none⟩ = some (.int .u64 v)) : Calls Tryz.prog 22 #[.pointer (some ⟨P, 0, none⟩)] w fun e w' => e = .returned (.int .u64 v) ∧ w = w' := by
  go_enter Tryz.func22, Tryz.ntmps22
  go_wp2
  go_ret
  exact ⟨rfl, rfl⟩
theorem lay_store (M B n a b : Nat) (s : St) (at_ v : Int) (w : World) (hm : PMem w M B n s) (h0 : 0 ≤ s.cnt) (h1 : s.cnt ≤ 1000000) (ca : w.cell? ⟨a, 0, none⟩ = some (.int .i64 at_)) (cb : w.cell? ⟨b, 0, none⟩ = some (.int .u64 v)) :
    Calls Tryz.prog 88 #[.pointer (some ⟨M, 0, none⟩), .pointer (some ⟨a, 0, none⟩), .pointer (some ⟨b, 0, none⟩)] w fun e w' => e = .returned (.tuple #[]) ∧ PMem w' M B n (acc n s 2 at_ true v) ∧ But (fun k => k = B) w w' := by
  have HM := Lib.hid hm
  clear hm
  go_enter Tryz.func88, Tryz.ntmps88
  go_wp2_with fail
  refine (p_store M B n s at_ v _ HM.out h0 h1).mono ?_
  rintro e w1 ⟨rfl, m1, b1⟩
  go_wp2
  go_end0
  exact ⟨rfl, m1, b1⟩
theorem lay_next {w w1 W : World} {lo hi P M B n k c : Nat} {t : Twr} {x : LOp} {s' : St} (h : LayAt w lo hi P t x) (hx : x.line = k) (hk : k < 4) (hc : c = 1 + k) (hPM : P ≠ M) (hPB : P ≠ B) (hB : ∀ j, lo ≤ j → j < hi → j ≠ B) (m1 : PMem w1 M B n s') (b1 : But (fun j => j = B) w w1)
    (e : W = (((w1.setCell ⟨P, c, none⟩ .nilFunc).setCell ⟨P, 6, none⟩ (.int .u64 x.r)).drew)) (er : Int) (he : er = (layOp x).er) (e7 : er = 14 → x.er = 14) :
    LayAt (if er = 0 then W.setCell ⟨P, 7, none⟩ (.int .i64 0) else W) lo hi P t (layOp x) ∧ PMem (if er = 0 then W.setCell ⟨P, 7, none⟩ (.int .i64 0) else W) M B n s' ∧ But (fun j => j = P ∨ j = B) w (if er = 0 then W.setCell ⟨P, 7, none⟩ (.int .i64 0) else W) := by
  have bP : But (fun j => j = P) w1 (if er = 0 then W.setCell ⟨P, 7, none⟩ (.int .i64 0) else W) := by
    rw [e]
    split
    · exact (((((But.refl _ w1).here _ _).here _ _).drew).here _ _)
    · exact ((((But.refl _ w1).here _ _).here _ _).drew)
  have ee : layOp x = ⟨k + 1, x.r, x.i, x.k, x.j, x.h, er⟩ := by rw [he]; unfold layOp; rw [hx, if_pos hk]
  have er' : er = 0 ∨ er = 14 := by rw [he]; unfold layOp; rw [hx, if_pos hk]; dsimp only; split <;> simp
  have cell : ∀ o, (if er = 0 then W.setCell ⟨P, 7, none⟩ (.int .i64 0) else W).cell? ⟨P, o, none⟩ = if o = 7 ∧ er = 0 then (w.cell? ⟨P, o, none⟩).map (fun _ => .int .i64 0) else if o = 6 then (w.cell? ⟨P, o, none⟩).map (fun _ => .int .u64 x.r) else if o = c then (w.cell? ⟨P, o, none⟩).map (fun _ => .nilFunc) else w.cell? ⟨P, o, none⟩ := by
    intro o
    have h1 : w1.cell? ⟨P, o, none⟩ = w.cell? ⟨P, o, none⟩ := b1.cell P o (lt_of_cell h.c0) hPB
    have hd : W.cell? ⟨P, o, none⟩ = ((w1.setCell ⟨P, c, none⟩ .nilFunc).setCell ⟨P, 6, none⟩ (.int .u64 x.r)).cell? ⟨P, o, none⟩ := by rw [e]; simp
    have n1 : ¬ 6 = c := by omega
    have n2 : ¬ 7 = c := by omega
    have n3 : ¬ c = 6 := by omega
    have n4 : ¬ c = 7 := by omega
    by_cases h0 : er = 0
    · rw [if_pos h0, cell_set, hd, cell_set, cell_set, h1]
      by_cases o7 : o = 7
      · subst o7; simp [h0, n4]
      · have o7' : ¬ 7 = o := fun x => o7 x.symm
        by_cases o6 : o = 6
        · subst o6; simp [n3]
        · have o6' : ¬ 6 = o := fun x => o6 x.symm
          by_cases oc : o = c
          · subst oc; simp [o7, o6, o7', o6']
          · have oc' : ¬ c = o := fun x => oc x.symm
            simp [o7, o6, o7', o6', oc, oc']
    · rw [if_neg h0, hd, cell_set, cell_set, h1]
      by_cases o6 : o = 6
      · subst o6; simp [n3, h0]
      · have o6' : ¬ 6 = o := fun x => o6 x.symm
        by_cases oc : o = c
        · subst oc; simp [o6, o6', h0]
        · have oc' : ¬ c = o := fun x => oc x.symm
          simp [o6, o6', oc, oc', h0]
  have bb : But (fun j => j = P ∨ j = B) w (if er = 0 then W.setCell ⟨P, 7, none⟩ (.int .i64 0) else W) := (b1.mono (fun _ _ h => .inr h)).trans bP (fun _ _ h => .inl h)
  have nT : ∀ j, lo ≤ j → j < hi → ¬ (j = P ∨ j = B) := fun j h1 h2 h3 => h3.elim (fun h4 => by have := h.p; omega) (fun h4 => hB j h1 h2 h4)
  refine ⟨?_, pmem_frame m1 bP (fun h => hPM h.symm) (fun h => hPB h.symm), bb⟩
  rw [ee]
  refine ⟨?_, ?_, ?_, ?_, ?_, ?_, fun i => bb.soft (lt_of_cell h.c0) (h.f i), h.p⟩
  · rw [cell, if_neg (by omega), if_neg (by omega), if_neg (by omega)]; exact h.c0
  · intro j h1 h2
    have h2 : k + 1 ≤ j := h2
    obtain ⟨f, h3, h4⟩ := h.st j h1 (by omega)
    exact ⟨f, by rw [cell, if_neg (by omega), if_neg (by omega), if_neg (by omega)]; exact h3, (StoreAt.but h4 bb nT)⟩
  · intro j h1 h2
    have h2 : j < k + 1 := h2
    rw [cell, if_neg (by omega), if_neg (by omega)]
    by_cases hj : j = k
    · rw [if_pos (by omega)]
      obtain ⟨f, h3, h4⟩ := h.st k hk (by omega)
      rw [hj, h3]; rfl
    · rw [if_neg (by omega)]; exact h.nl j h1 (by omega)
  · rw [cell, if_neg (by omega), if_neg (by omega), if_neg (by omega)]; exact h.c5
  · rw [cell, if_neg (by omega), if_pos rfl, h.c6]; rfl
  · rcases er' with h0 | h0
    · rw [cell, if_pos ⟨rfl, h0⟩, h.c7, h0]; rfl
    · rw [cell, if_neg (by omega), if_neg (by omega), if_neg (by omega), h.c7, e7 h0, h0]
set_option maxHeartbeats 4000000 in
theorem step_0 (M B n lo hi P : Nat) (t : Twr) (s : St) (x : LOp) (w : World) (hm : PMem w M B n s) (h0 : 0 ≤ s.cnt) (h1 : s.cnt ≤ 1000000) (h : LayAt w lo hi P t x) (hx : x.line = 0) (hw : x.er = 14) (hPM : P ≠ M) (hPB : P ≠ B) (hB : ∀ j, lo ≤ j → j < hi → j ≠ B) :
    Calls Tryz.prog 91 #[.pointer (some ⟨P, 0, none⟩), .pointer (some ⟨M, 0, none⟩)] w fun e w' => e = .returned (.bool false) ∧ LayAt w' lo hi P t (layOp x) ∧ PMem w' M B n (laySt n t s x) ∧ But (fun k => k = P ∨ k = B) w w' := by
  obtain ⟨F0, f0, s0⟩ := h.st 0 (by decide) (by omega)
  have f0 : w.cell? ⟨P, 1, none⟩ = some F0 := f0
  obtain ⟨a0, b0, rfl, la0, lb0, lc0, ld0, ca0, cb0⟩ := s0.ex
  obtain ⟨F1, f1, s1⟩ := h.st 1 (by decide) (by omega)
  have f1 : w.cell? ⟨P, 2, none⟩ = some F1 := f1
  obtain ⟨a1, b1, rfl, la1, lb1, lc1, ld1, ca1, cb1⟩ := s1.ex
  obtain ⟨F2, f2, s2⟩ := h.st 2 (by decide) (by omega)
  have f2 : w.cell? ⟨P, 3, none⟩ = some F2 := f2
  obtain ⟨a2, b2, rfl, la2, lb2, lc2, ld2, ca2, cb2⟩ := s2.ex
  obtain ⟨F3, f3, s3⟩ := h.st 3 (by decide) (by omega)
  have f3 : w.cell? ⟨P, 4, none⟩ = some F3 := f3
  obtain ⟨a3, b3, rfl, la3, lb3, lc3, ld3, ca3, cb3⟩ := s3.ex
  have c5 := h.c5
  have c6 := h.c6
  have c7 := h.c7
  have c0 := h.c0
  have fP := h.f
  have hP := lt_of_cell c0
  have hMB := pmem_lt hm
  have e : LOp.val { x with line := 0 } = x.val := by rw [← hx]
  rw [e] at cb0
  have ev : laySt n t s x = acc n s 2 (atI t x.i 0) true x.val := by unfold laySt; rw [hx, if_pos (by decide)]; rfl
  have HS : ∀ W, Kept w W → Hid (Calls Tryz.prog 88 #[.pointer (some ⟨M, 0, none⟩), .pointer (some ⟨a0, 0, none⟩), .pointer (some ⟨b0, 0, none⟩)] W fun e w' => e = .returned (.tuple #[]) ∧ PMem w' M B n (laySt n t s x) ∧ But (fun k => k = B) W w') := fun W kk => Lib.hid (by rw [ev]; exact lay_store M B n a0 b0 s _ _ W (pmem_kept hm kk) h0 h1 (kk.some ca0) (kk.some cb0))
  have HH := Lib.hid h
  have HX := Lib.hid hx
  have HB := Lib.hid hB
  have HE : Hid ((14 : Int) = (layOp x).er) := Lib.hid (by unfold layOp; rw [hx, if_pos (by decide)]; rfl)
  have q1 := nx_nil
  have q2 := nx_func
  have i0 := ix_0
  have i1 := ix_1
  have i2 := ix_2
  have i3 := ix_3
  have nP : ¬ P = B := hPB
  clear h hx e ev hm hB ca0 cb0 la0 lb0 lc0 ld0 s0 ca1 cb1 la1 lb1 lc1 ld1 s1 ca2 cb2 la2 lb2 lc2 ld2 s2 ca3 cb3 la3 lb3 lc3 ld3 s3
  go_enter Tryz.func91, Tryz.ntmps91
  go_wp2_with fail
  refine wp_loop_rounds 5 ?_
  rw [rounds_succ]
  go_wp2_with fail
  refine (HS _ (by first | exact Kept.refl _ | (go_light; repeat (first | (with_reducible exact Kept.refl _) | (with_reducible assumption) | (with_reducible refine Kept.alloc ?_ _ _) | (with_reducible refine Kept.drew ?_) | (with_reducible refine Kept.drewN ?_ _) | ((with_reducible refine Kept.setCell ?_ ?_ _); rotate_left; focus (first | (simp; done) | (simp; omega))) | refine Kept.trans ?_ (by assumption))))).out.mono ?_
  rintro e w1 ⟨rfl, m1, b1⟩
  have f0 := b1.some f0 nP
  have f1 := b1.some f1 nP
  have f2 := b1.some f2 nP
  have f3 := b1.some f3 nP
  have c5 := b1.some c5 nP
  have c6 := b1.some c6 nP
  have c7 := b1.some c7 nP
  have fP : ∀ i, w1.frozen? ⟨P, i, none⟩ = false := fun i => b1.soft hP (fP i)
  have M1 := Lib.hid m1
  have B1 := Lib.hid b1
  clear m1 b1
  go_wp2_with fail
  go_region_law (fail)
  go_wp2
  have L := lay_next HH.out HX.out (by decide) rfl hPM hPB HB.out M1.out B1.out rfl 14 HE.out (fun _ => hw)
  rw [if_neg (by decide)] at L
  exact bodyPost_ret (v := .bool false) (by simp [results, Tryz.results91, go_sem]) rfl ⟨rfl, L⟩
set_option maxHeartbeats 4000000 in
theorem step_1 (M B n lo hi P : Nat) (t : Twr) (s : St) (x : LOp) (w : World) (hm : PMem w M B n s) (h0 : 0 ≤ s.cnt) (h1 : s.cnt ≤ 1000000) (h : LayAt w lo hi P t x) (hx : x.line = 1) (hw : x.er = 14) (hPM : P ≠ M) (hPB : P ≠ B) (hB : ∀ j, lo ≤ j → j < hi → j ≠ B) :
    Calls Tryz.prog 91 #[.pointer (some ⟨P, 0, none⟩), .pointer (some ⟨M, 0, none⟩)] w fun e w' => e = .returned (.bool false) ∧ LayAt w' lo hi P t (layOp x) ∧ PMem w' M B n (laySt n t s x) ∧ But (fun k => k = P ∨ k = B) w w' := by
  have f0 : w.cell? ⟨P, 1, none⟩ = some .nilFunc := h.nl 0 (by decide) (by omega)
  obtain ⟨F1, f1, s1⟩ := h.st 1 (by decide) (by omega)
  have f1 : w.cell? ⟨P, 2, none⟩ = some F1 := f1
  obtain ⟨a1, b1, rfl, la1, lb1, lc1, ld1, ca1, cb1⟩ := s1.ex
  obtain ⟨F2, f2, s2⟩ := h.st 2 (by decide) (by omega)
  have f2 : w.cell? ⟨P, 3, none⟩ = some F2 := f2
  obtain ⟨a2, b2, rfl, la2, lb2, lc2, ld2, ca2, cb2⟩ := s2.ex
  obtain ⟨F3, f3, s3⟩ := h.st 3 (by decide) (by omega)
  have f3 : w.cell? ⟨P, 4, none⟩ = some F3 := f3
  obtain ⟨a3, b3, rfl, la3, lb3, lc3, ld3, ca3, cb3⟩ := s3.ex
  have c5 := h.c5
  have c6 := h.c6
  have c7 := h.c7
  have c0 := h.c0
  have fP := h.f
  have hP := lt_of_cell c0
  have hMB := pmem_lt hm
  have e : LOp.val { x with line := 1 } = x.val := by rw [← hx]
  rw [e] at cb1
  have ev : laySt n t s x = acc n s 2 (atI t x.i 1) true x.val := by unfold laySt; rw [hx, if_pos (by decide)]; rfl
  have HS : ∀ W, Kept w W → Hid (Calls Tryz.prog 88 #[.pointer (some ⟨M, 0, none⟩), .pointer (some ⟨a1, 0, none⟩), .pointer (some ⟨b1, 0, none⟩)] W fun e w' => e = .returned (.tuple #[]) ∧ PMem w' M B n (laySt n t s x) ∧ But (fun k => k = B) W w') := fun W kk => Lib.hid (by rw [ev]; exact lay_store M B n a1 b1 s _ _ W (pmem_kept hm kk) h0 h1 (kk.some ca1) (kk.some cb1))
  have HH := Lib.hid h
  have HX := Lib.hid hx
  have HB := Lib.hid hB
  have HE : Hid ((14 : Int) = (layOp x).er) := Lib.hid (by unfold layOp; rw [hx, if_pos (by decide)]; rfl)
  have q1 := nx_nil
  have q2 := nx_func
  have i0 := ix_0
  have i1 := ix_1
  have i2 := ix_2
  have i3 := ix_3
  have nP : ¬ P = B := hPB
  clear h hx e ev hm hB ca1 cb1 la1 lb1 lc1 ld1 s1 ca2 cb2 la2 lb2 lc2 ld2 s2 ca3 cb3 la3 lb3 lc3 ld3 s3
  go_enter Tryz.func91, Tryz.ntmps91
  go_wp2_with fail
  refine wp_loop_rounds 5 ?_
  rw [rounds_succ]
  go_wp2_with fail
  rw [rounds_succ]
  go_wp2_with fail
  refine (HS _ (by first | exact Kept.refl _ | (go_light; repeat (first | (with_reducible exact Kept.refl _) | (with_reducible assumption) | (with_reducible refine Kept.alloc ?_ _ _) | (with_reducible refine Kept.drew ?_) | (with_reducible refine Kept.drewN ?_ _) | ((with_reducible refine Kept.setCell ?_ ?_ _); rotate_left; focus (first | (simp; done) | (simp; omega))) | refine Kept.trans ?_ (by assumption))))).out.mono ?_
  rintro e w1 ⟨rfl, m1, b1⟩
  have f0 := b1.some f0 nP
  have f1 := b1.some f1 nP
  have f2 := b1.some f2 nP
  have f3 := b1.some f3 nP
  have c5 := b1.some c5 nP
  have c6 := b1.some c6 nP
  have c7 := b1.some c7 nP
  have fP : ∀ i, w1.frozen? ⟨P, i, none⟩ = false := fun i => b1.soft hP (fP i)
  have M1 := Lib.hid m1
  have B1 := Lib.hid b1
  clear m1 b1
  go_wp2_with fail
  go_region_law (fail)
  go_wp2
  have L := lay_next HH.out HX.out (by decide) rfl hPM hPB HB.out M1.out B1.out rfl 14 HE.out (fun _ => hw)
  rw [if_neg (by decide)] at L
  exact bodyPost_ret (v := .bool false) (by simp [results, Tryz.results91, go_sem]) rfl ⟨rfl, L⟩
set_option maxHeartbeats 4000000 in
theorem step_2 (M B n lo hi P : Nat) (t : Twr) (s : St) (x : LOp) (w : World) (hm : PMem w M B n s) (h0 : 0 ≤ s.cnt) (h1 : s.cnt ≤ 1000000) (h : LayAt w lo hi P t x) (hx : x.line = 2) (hw : x.er = 14) (hPM : P ≠ M) (hPB : P ≠ B) (hB : ∀ j, lo ≤ j → j < hi → j ≠ B) :
    Calls Tryz.prog 91 #[.pointer (some ⟨P, 0, none⟩), .pointer (some ⟨M, 0, none⟩)] w fun e w' => e = .returned (.bool false) ∧ LayAt w' lo hi P t (layOp x) ∧ PMem w' M B n (laySt n t s x) ∧ But (fun k => k = P ∨ k = B) w w' := by
  have f0 : w.cell? ⟨P, 1, none⟩ = some .nilFunc := h.nl 0 (by decide) (by omega)
  have f1 : w.cell? ⟨P, 2, none⟩ = some .nilFunc := h.nl 1 (by decide) (by omega)
  obtain ⟨F2, f2, s2⟩ := h.st 2 (by decide) (by omega)
  have f2 : w.cell? ⟨P, 3, none⟩ = some F2 := f2
  obtain ⟨a2, b2, rfl, la2, lb2, lc2, ld2, ca2, cb2⟩ := s2.ex
  obtain ⟨F3, f3, s3⟩ := h.st 3 (by decide) (by omega)
  have f3 : w.cell? ⟨P, 4, none⟩ = some F3 := f3
  obtain ⟨a3, b3, rfl, la3, lb3, lc3, ld3, ca3, cb3⟩ := s3.ex
  have c5 := h.c5
  have c6 := h.c6
  have c7 := h.c7
  have c0 := h.c0
  have fP := h.f
  have hP := lt_of_cell c0
  have hMB := pmem_lt hm
  have e : LOp.val { x with line := 2 } = x.val := by rw [← hx]
  rw [e] at cb2
  have ev : laySt n t s x = acc n s 2 (atI t x.i 2) true x.val := by unfold laySt; rw [hx, if_pos (by decide)]; rfl
  have HS : ∀ W, Kept w W → Hid (Calls Tryz.prog 88 #[.pointer (some ⟨M, 0, none⟩), .pointer (some ⟨a2, 0, none⟩), .pointer (some ⟨b2, 0, none⟩)] W fun e w' => e = .returned (.tuple #[]) ∧ PMem w' M B n (laySt n t s x) ∧ But (fun k => k = B) W w') := fun W kk => Lib.hid (by rw [ev]; exact lay_store M B n a2 b2 s _ _ W (pmem_kept hm kk) h0 h1 (kk.some ca2) (kk.some cb2))
  have HH := Lib.hid h
  have HX := Lib.hid hx
  have HB := Lib.hid hB
  have HE : Hid ((14 : Int) = (layOp x).er) := Lib.hid (by unfold layOp; rw [hx, if_pos (by decide)]; rfl)
  have q1 := nx_nil
  have q2 := nx_func
  have i0 := ix_0
  have i1 := ix_1
  have i2 := ix_2
  have i3 := ix_3
  have nP : ¬ P = B := hPB
  clear h hx e ev hm hB ca2 cb2 la2 lb2 lc2 ld2 s2 ca3 cb3 la3 lb3 lc3 ld3 s3
  go_enter Tryz.func91, Tryz.ntmps91
  go_wp2_with fail
  refine wp_loop_rounds 5 ?_
  rw [rounds_succ]
  go_wp2_with fail
  rw [rounds_succ]
  go_wp2_with fail
  rw [rounds_succ]
  go_wp2_with fail
  refine (HS _ (by first | exact Kept.refl _ | (go_light; repeat (first | (with_reducible exact Kept.refl _) | (with_reducible assumption) | (with_reducible refine Kept.alloc ?_ _ _) | (with_reducible refine Kept.drew ?_) | (with_reducible refine Kept.drewN ?_ _) | ((with_reducible refine Kept.setCell ?_ ?_ _); rotate_left; focus (first | (simp; done) | (simp; omega))) | refine Kept.trans ?_ (by assumption))))).out.mono ?_
  rintro e w1 ⟨rfl, m1, b1⟩
  have f0 := b1.some f0 nP
  have f1 := b1.some f1 nP
  have f2 := b1.some f2 nP
  have f3 := b1.some f3 nP
  have c5 := b1.some c5 nP
  have c6 := b1.some c6 nP
  have c7 := b1.some c7 nP
  have fP : ∀ i, w1.frozen? ⟨P, i, none⟩ = false := fun i => b1.soft hP (fP i)
  have M1 := Lib.hid m1
  have B1 := Lib.hid b1
  clear m1 b1
  go_wp2_with fail
  go_region_law (fail)
  go_wp2
  have L := lay_next HH.out HX.out (by decide) rfl hPM hPB HB.out M1.out B1.out rfl 14 HE.out (fun _ => hw)
  rw [if_neg (by decide)] at L
  exact bodyPost_ret (v := .bool false) (by simp [results, Tryz.results91, go_sem]) rfl ⟨rfl, L⟩
set_option maxHeartbeats 4000000 in
theorem step_3 (M B n lo hi P : Nat) (t : Twr) (s : St) (x : LOp) (w : World) (hm : PMem w M B n s) (h0 : 0 ≤ s.cnt) (h1 : s.cnt ≤ 1000000) (h : LayAt w lo hi P t x) (hx : x.line = 3) (hw : x.er = 14) (hPM : P ≠ M) (hPB : P ≠ B) (hB : ∀ j, lo ≤ j → j < hi → j ≠ B) :
    Calls Tryz.prog 91 #[.pointer (some ⟨P, 0, none⟩), .pointer (some ⟨M, 0, none⟩)] w fun e w' => e = .returned (.bool true) ∧ LayAt w' lo hi P t (layOp x) ∧ PMem w' M B n (laySt n t s x) ∧ But (fun k => k = P ∨ k = B) w w' := by
  have f0 : w.cell? ⟨P, 1, none⟩ = some .nilFunc := h.nl 0 (by decide) (by omega)
  have f1 : w.cell? ⟨P, 2, none⟩ = some .nilFunc := h.nl 1 (by decide) (by omega)
  have f2 : w.cell? ⟨P, 3, none⟩ = some .nilFunc := h.nl 2 (by decide) (by omega)
  obtain ⟨F3, f3, s3⟩ := h.st 3 (by decide) (by omega)
  have f3 : w.cell? ⟨P, 4, none⟩ = some F3 := f3
  obtain ⟨a3, b3, rfl, la3, lb3, lc3, ld3, ca3, cb3⟩ := s3.ex
  have c5 := h.c5
  have c6 := h.c6
  have c7 := h.c7
  have c0 := h.c0
  have fP := h.f
  have hP := lt_of_cell c0
  have hMB := pmem_lt hm
  have e : LOp.val { x with line := 3 } = x.val := by rw [← hx]
  rw [e] at cb3
  have ev : laySt n t s x = acc n s 2 (atI t x.i 3) true x.val := by unfold laySt; rw [hx, if_pos (by decide)]; rfl
  have HS : ∀ W, Kept w W → Hid (Calls Tryz.prog 88 #[.pointer (some ⟨M, 0, none⟩), .pointer (some ⟨a3, 0, none⟩), .pointer (some ⟨b3, 0, none⟩)] W fun e w' => e = .returned (.tuple #[]) ∧ PMem w' M B n (laySt n t s x) ∧ But (fun k => k = B) W w') := fun W kk => Lib.hid (by rw [ev]; exact lay_store M B n a3 b3 s _ _ W (pmem_kept hm kk) h0 h1 (kk.some ca3) (kk.some cb3))
  have HH := Lib.hid h
  have HX := Lib.hid hx
  have HB := Lib.hid hB
  have HE : Hid ((0 : Int) = (layOp x).er) := Lib.hid (by unfold layOp; rw [hx, if_pos (by decide)]; rfl)
  have q1 := nx_nil
  have q2 := nx_func
  have i0 := ix_0
  have i1 := ix_1
  have i2 := ix_2
  have i3 := ix_3
  have nP : ¬ P = B := hPB
  clear h hx e ev hm hB ca3 cb3 la3 lb3 lc3 ld3 s3
  go_enter Tryz.func91, Tryz.ntmps91
  go_wp2_with fail
  refine wp_loop_rounds 5 ?_
  rw [rounds_succ]
  go_wp2_with fail
  rw [rounds_succ]
  go_wp2_with fail
  rw [rounds_succ]
  go_wp2_with fail
  rw [rounds_succ]
  go_wp2_with fail
  refine (HS _ (by first | exact Kept.refl _ | (go_light; repeat (first | (with_reducible exact Kept.refl _) | (with_reducible assumption) | (with_reducible refine Kept.alloc ?_ _ _) | (with_reducible refine Kept.drew ?_) | (with_reducible refine Kept.drewN ?_ _) | ((with_reducible refine Kept.setCell ?_ ?_ _); rotate_left; focus (first | (simp; done) | (simp; omega))) | refine Kept.trans ?_ (by assumption))))).out.mono ?_
  rintro e w1 ⟨rfl, m1, b1⟩
  have f0 := b1.some f0 nP
  have f1 := b1.some f1 nP
  have f2 := b1.some f2 nP
  have f3 := b1.some f3 nP
  have c5 := b1.some c5 nP
  have c6 := b1.some c6 nP
  have c7 := b1.some c7 nP
  have fP : ∀ i, w1.frozen? ⟨P, i, none⟩ = false := fun i => b1.soft hP (fP i)
  have M1 := Lib.hid m1
  have B1 := Lib.hid b1
  clear m1 b1
  go_wp2_with fail
  go_region_law (fail)
  go_wp2_with fail
  rw [rounds_succ]
  go_wp2
  have L := lay_next HH.out HX.out (by decide) rfl hPM hPB HB.out M1.out B1.out rfl 0 HE.out (fun h => absurd h (by decide))
  rw [if_pos rfl] at L
  exact bodyPost_ret (v := .bool true) (by simp [results, Tryz.results91, go_sem]) rfl ⟨rfl, L⟩
end Go.Proofs.YtejiogggocnldaaGreat.Tw

namespace Go.Proofs.YtejiogggocnldaaGreat.Tw
set_option maxRecDepth 20000
open Go.RowKit
open Wo (St acc wordAt PMem RefIs)
open Sk (Stk Arn idx Wd p_store pmem_lt pmem_kept pmem_frame)

theorem StoreAt.grow {w w' : World} {lo hi lo' hi' : Nat} {at_ v : Int} {f : Value} (h : StoreAt w lo hi at_ v f) (k : Kept w w') (h1 : lo' ≤ lo) (h2 : hi ≤ hi') : StoreAt w' lo' hi' at_ v f := by
  obtain ⟨a, b, rfl, g1, g2, g3, g4, g5, g6⟩ := h.ex
  exact ⟨a, b, rfl, by omega, by omega, by omega, by omega, k.some g5, k.some g6⟩
set_option maxHeartbeats 1000000 in
theorem put_any (t : Twr) (i p v : Int) (hp : I64 p) (tb ib : Nat) (w : World) (ht : TB w tb t) (hi : w.cell? ⟨ib, 0, none⟩ = some (.int .i64 i)) : Calls Tryz.prog 87 #[.int .i64 p, .int .u64 v, .pointer (some ⟨tb, 0, none⟩), .pointer (some ⟨ib, 0, none⟩)] w fun e w' => ∃ f, e = .returned f ∧ StoreAt w' w.heap.size w'.heap.size (atI t i p) v f ∧ Kept w w' := by
  have HA := fun W => Lib.hid (at_any t i p hp W)
  obtain ⟨a0, a1, a2, a3, a4, a5, a6, a7, a8, a9, a10, a11, a12⟩ := ht
  have lt := lt_of_cell a0
  have li := lt_of_cell hi
  go_enter Tryz.func87, Tryz.ntmps87
  go_wp2_with fail
  refine (HA _).out.mono ?_
  rintro e w1 ⟨rfl, k1⟩
  have z1 := k1.size
  simp at z1
  go_wp2
  go_ret
  have kk : Kept w (w1.alloc (.cells #[.int .i64 (atI t i p)] 3)) := (Kept.trans (b := _) (by (go_light; repeat (first | (with_reducible exact Kept.refl _) | (with_reducible assumption) | (with_reducible refine Kept.alloc ?_ _ _) | (with_reducible refine Kept.drew ?_) | (with_reducible refine Kept.drewN ?_ _) | ((with_reducible refine Kept.setCell ?_ ?_ _); rotate_left; focus (first | (simp; done) | (simp; omega))) | refine Kept.trans ?_ (by assumption)))) k1).alloc _ _
  exact ⟨_, rfl, ⟨w1.heap.size, w.heap.size, rfl, by omega, by simp, by omega, by simp; omega, cell_new _ _ _ _ 0 rfl, ((Kept.refl w1).alloc _ _).some (k1.some (cell_new _ _ _ _ 0 rfl))⟩, kk⟩
def MadePost (w : World) (t : Twr) (x : LOp) (e : Ending) (w' : World) : Prop :=
  ∃ P lo hi, e = .returned (.pointer (some ⟨P, 0, none⟩)) ∧ LayAt w' lo hi P t x ∧ w.heap.size ≤ lo ∧ lo ≤ hi ∧ hi ≤ w'.heap.size ∧ w.heap.size ≤ P ∧ P < w'.heap.size ∧ Kept w w'
def newL (t : Twr) (r k j h : Int) : LOp := if laidE t r j h = 0 then ⟨0, r, gri r, k, j, h, 14⟩ else ⟨4, 0, -1, 0, 0, 0, laidE t r j h⟩
set_option maxHeartbeats 1000000 in
theorem new_bad (t : Twr) (r k j h : Int) (er : Int) (he : er ≠ 0) (hl : ∀ W, Calls Tryz.prog 86 #[towV t, .int .u64 r, .int .i64 j, .int .i64 h] W fun e w' => e = .returned (.tuple #[.int .i64 (-1), .int .i64 er]) ∧ Kept W w') (w : World) : Calls Tryz.prog 16 #[towV t, .int .u64 r, .int .u64 k, .int .i64 j, .int .i64 h] w (MadePost w t ⟨4, 0, -1, 0, 0, 0, er⟩) := by
  have HL := fun W => Lib.hid (hl W)
  have hb : (er != 0) = true := by simpa using he
  clear hl he
  go_enter Tryz.func16, Tryz.ntmps16
  go_wp2_with fail
  refine (HL _).out.mono ?_
  rintro e w1 ⟨rfl, k1⟩
  have K1 : Kept w w1 := Kept.trans (b := _) (by (go_light; repeat (first | (with_reducible exact Kept.refl _) | (with_reducible assumption) | (with_reducible refine Kept.alloc ?_ _ _) | (with_reducible refine Kept.drew ?_) | (with_reducible refine Kept.drewN ?_ _) | ((with_reducible refine Kept.setCell ?_ ?_ _); rotate_left; focus (first | (simp; done) | (simp; omega))) | refine Kept.trans ?_ (by assumption)))) k1
  have z1 := K1.size
  clear k1
  go_wp2
  go_ret
  refine ⟨w1.heap.size + 1, w.heap.size, w.heap.size, rfl, ?_, by omega, by omega, by simp; omega, by omega, by simp, by (go_light; repeat (first | (with_reducible exact Kept.refl _) | (with_reducible assumption) | (with_reducible refine Kept.alloc ?_ _ _) | (with_reducible refine Kept.drew ?_) | (with_reducible refine Kept.drewN ?_ _) | ((with_reducible refine Kept.setCell ?_ ?_ _); rotate_left; focus (first | (simp; done) | (simp; omega))) | refine Kept.trans ?_ (by assumption)))⟩
  refine ⟨cell_new _ _ _ _ 0 (by simp), fun k h1 h2 => absurd h2 (by show ¬ 4 ≤ k; omega), fun k h1 _ => ?_, cell_new _ _ _ _ 5 (by simp), cell_new _ _ _ _ 6 (by simp), cell_new _ _ _ _ 7 (by simp), fun i => ?_, by omega⟩
  · have : k = 0 ∨ k = 1 ∨ k = 2 ∨ k = 3 := by omega
    rcases this with rfl | rfl | rfl | rfl
    · exact cell_new _ _ _ _ 1 (by simp)
    · exact cell_new _ _ _ _ 2 (by simp)
    · exact cell_new _ _ _ _ 3 (by simp)
    · exact cell_new _ _ _ _ 4 (by simp)
  · rw [show w1.heap.size + 1 = (w1.alloc (.cells #[.int .i64 (-1)] 3)).heap.size from by simp]; simp
set_option maxHeartbeats 2000000 in
theorem new_yes (t : Twr) (r k j h i : Int) (j0 : 0 ≤ j) (j1 : j ≤ 65534) (h0 : 1 ≤ h) (h1 : h ≤ 100) (hl : ∀ W, Calls Tryz.prog 86 #[towV t, .int .u64 r, .int .i64 j, .int .i64 h] W fun e w' => e = .returned (.tuple #[.int .i64 i, .int .i64 0]) ∧ Kept W w') (w : World) : Calls Tryz.prog 16 #[towV t, .int .u64 r, .int .u64 k, .int .i64 j, .int .i64 h] w (MadePost w t ⟨0, r, i, k, j, h, 14⟩) := by
  have HL := fun W => Lib.hid (hl W)
  have HP0 := fun v tb ib W ht hi => Lib.hid (put_any t i 0 v (by unfold I64; omega) tb ib W ht hi)
  have HP1 := fun v tb ib W ht hi => Lib.hid (put_any t i 1 v (by unfold I64; omega) tb ib W ht hi)
  have HP2 := fun v tb ib W ht hi => Lib.hid (put_any t i 2 v (by unfold I64; omega) tb ib W ht hi)
  have HP3 := fun v tb ib W ht hi => Lib.hid (put_any t i 3 v (by unfold I64; omega) tb ib W ht hi)
  clear hl
  go_enter Tryz.func16, Tryz.ntmps16
  go_wp2_with fail
  refine (HL _).out.mono ?_
  rintro e w1 ⟨rfl, k1⟩
  have T1 := TB.kept (TB.new w w.heap.size 31 rfl t) k1
  have K1 : Kept w w1 := Kept.trans (b := _) (by (go_light; repeat (first | (with_reducible exact Kept.refl _) | (with_reducible assumption) | (with_reducible refine Kept.alloc ?_ _ _) | (with_reducible refine Kept.drew ?_) | (with_reducible refine Kept.drewN ?_ _) | ((with_reducible refine Kept.setCell ?_ ?_ _); rotate_left; focus (first | (simp; done) | (simp; omega))) | refine Kept.trans ?_ (by assumption)))) k1
  have z1 := K1.size
  have T2 := TB.kept T1 ((Kept.refl w1).alloc #[.int .i64 i] 3)
  have I2 : (w1.alloc (.cells #[.int .i64 i] 3)).cell? ⟨w1.heap.size, 0, none⟩ = some (.int .i64 i) := cell_new _ _ _ _ 0 rfl
  have K2 : Kept w (w1.alloc (.cells #[.int .i64 i] 3)) := K1.alloc _ _
  have KK := Lib.hid K2
  have TT := Lib.hid T2
  have II := Lib.hid I2
  clear k1 T1 T2 I2 K1 K2
  go_wp2_with fail
  refine (HP0 _ _ _ _ TT.out II.out).out.mono ?_
  rintro e u0 ⟨f0, rfl, s0, k0⟩
  have S0 := Lib.hid s0
  have TT := Lib.hid (TB.kept TT.out k0)
  have II := Lib.hid (k0.some II.out)
  have Z0 : Hid (w.heap.size ≤ _) := Lib.hid KK.out.size
  have KK := Lib.hid (KK.out.trans k0)
  have G0 := Lib.hid k0
  obtain ⟨a0, b0, rfl, -, -, -, -, -, -⟩ := s0.ex
  clear k0 s0
  go_wp2_with fail
  refine (HP1 _ _ _ _ TT.out II.out).out.mono ?_
  rintro e u1 ⟨f1, rfl, s1, k1⟩
  have S1 := Lib.hid s1
  have TT := Lib.hid (TB.kept TT.out k1)
  have II := Lib.hid (k1.some II.out)
  have Z1 : Hid (w.heap.size ≤ _) := Lib.hid KK.out.size
  have KK := Lib.hid (KK.out.trans k1)
  have G1 := Lib.hid k1
  obtain ⟨a1, b1, rfl, -, -, -, -, -, -⟩ := s1.ex
  clear k1 s1
  go_wp2_with fail
  refine (HP2 _ _ _ _ TT.out II.out).out.mono ?_
  rintro e u2 ⟨f2, rfl, s2, k2⟩
  have S2 := Lib.hid s2
  have TT := Lib.hid (TB.kept TT.out k2)
  have II := Lib.hid (k2.some II.out)
  have Z2 : Hid (w.heap.size ≤ _) := Lib.hid KK.out.size
  have KK := Lib.hid (KK.out.trans k2)
  have G2 := Lib.hid k2
  obtain ⟨a2, b2, rfl, -, -, -, -, -, -⟩ := s2.ex
  clear k2 s2
  go_wp2_with fail
  refine (HP3 _ _ _ _ TT.out II.out).out.mono ?_
  rintro e u3 ⟨f3, rfl, s3, k3⟩
  have S3 := Lib.hid s3
  have TT := Lib.hid (TB.kept TT.out k3)
  have II := Lib.hid (k3.some II.out)
  have Z3 : Hid (w.heap.size ≤ _) := Lib.hid KK.out.size
  have KK := Lib.hid (KK.out.trans k3)
  have G3 := Lib.hid k3
  obtain ⟨a3, b3, rfl, -, -, -, -, -, -⟩ := s3.ex
  clear k3 s3
  have X3 := Lib.hid ((Kept.refl u3).alloc #[.bool true, .func (.func 88) #[] #[.pointer (some ⟨a0, 0, none⟩), .pointer (some ⟨b0, 0, none⟩)], .func (.func 88) #[] #[.pointer (some ⟨a1, 0, none⟩), .pointer (some ⟨b1, 0, none⟩)], .func (.func 88) #[] #[.pointer (some ⟨a2, 0, none⟩), .pointer (some ⟨b2, 0, none⟩)], .func (.func 88) #[] #[.pointer (some ⟨a3, 0, none⟩), .pointer (some ⟨b3, 0, none⟩)], .int .u64 r, .int .u64 0, .int .i64 14] 146)
  have X2 := Lib.hid (G3.out.trans X3.out)
  have X1 := Lib.hid (G2.out.trans X2.out)
  have X0 := Lib.hid (G1.out.trans X1.out)
  go_wp2
  go_ret
  have z0 := Z0.out
  have z1' := Z1.out
  have z2 := Z2.out
  have z3 := Z3.out
  have y1 := G1.out.size
  have y2 := G2.out.size
  have y3 := G3.out.size
  have y4 := KK.out.size
  refine ⟨u3.heap.size, w.heap.size, u3.heap.size, rfl, ?_, Nat.le_refl _, y4, by simp, y4, by simp, KK.out.alloc _ _⟩
  refine ⟨cell_new _ _ _ _ 0 rfl, fun k h1 _ => ?_, fun k h1 h2 => absurd h2 (by show ¬ k < 0; omega), cell_new _ _ _ _ 5 rfl, cell_new _ _ _ _ 6 rfl, cell_new _ _ _ _ 7 rfl, fun i => by simp, .inr (Nat.le_refl _)⟩
  have : k = 0 ∨ k = 1 ∨ k = 2 ∨ k = 3 := by omega
  rcases this with rfl | rfl | rfl | rfl
  · exact ⟨_, cell_new _ _ _ _ 1 rfl, S0.out.grow X0.out z0 (by omega)⟩
  · exact ⟨_, cell_new _ _ _ _ 2 rfl, S1.out.grow X1.out z1' (by omega)⟩
  · exact ⟨_, cell_new _ _ _ _ 3 rfl, S2.out.grow X2.out z2 (by omega)⟩
  · exact ⟨_, cell_new _ _ _ _ 4 rfl, S3.out.grow X3.out z3 (by omega)⟩
theorem new_any (t : Twr) (r k j h : Int) (r0 : 0 ≤ r) (r1 : r < 18446744073709551616) (w : World) : Calls Tryz.prog 16 #[towV t, .int .u64 r, .int .u64 k, .int .i64 j, .int .i64 h] w (MadePost w t (newL t r k j h)) := by
  unfold newL
  have L := fun W => laid_any t r j h r0 r1 W
  by_cases e : laidE t r j h = 0
  · rw [if_pos e]
    have hS : t.Sound ∧ ¬ (j < 0 ∨ 65534 < j) ∧ ¬ (h < 1 ∨ t.G < h) := by
      unfold laidE at e
      split at e
      · omega
      · rename_i h0
        split at e
        · rename_i h1; exact absurd e h1
        · split at e
          · omega
          · split at e
            · omega
            · split at e
              · omega
              · exact ⟨by simpa using h0, by assumption, by assumption⟩
    have g2 := hS.1.G2
    have hI : laidI t r j h = gri r := by unfold laidI; rw [if_pos e]
    exact new_yes t r k j h (gri r) (by omega) (by omega) (by omega) (by omega) (fun W => by have := L W; rwa [e, hI] at this) w
  · rw [if_neg e]
    have hI : laidI t r j h = -1 := by unfold laidI; rw [if_neg e]
    exact new_bad t r k j h _ e (fun W => by have := L W; rwa [hI] at this) w
theorem newL_ok (t : Twr) (r k j h : Int) : (newL t r k j h).line ≤ 4 ∧ ((newL t r k j h).line < 4 → (newL t r k j h).er = 14) := by
  unfold newL
  split
  · exact ⟨Nat.zero_le _, fun _ => rfl⟩
  · exact ⟨Nat.le_refl _, fun h => absurd h (by show ¬ 4 < 4; decide)⟩
theorem layOp_ok {x : LOp} (h : x.line ≤ 4 ∧ (x.line < 4 → x.er = 14)) : (layOp x).line ≤ 4 ∧ ((layOp x).line < 4 → (layOp x).er = 14) := by
  unfold layOp
  split
  · refine ⟨by show x.line + 1 ≤ 4; omega, fun h' => ?_⟩
    have h' : x.line + 1 < 4 := h'
    show (if x.line = 3 then (0 : Int) else 14) = 14
    rw [if_neg (by omega)]
  · exact h
set_option maxHeartbeats 1000000 in
theorem step_over (P lo hi : Nat) (t : Twr) (x : LOp) (m : Value) (w : World) (h : LayAt w lo hi P t x) (hx : x.line = 4) : Calls Tryz.prog 91 #[.pointer (some ⟨P, 0, none⟩), m] w fun e w' => e = .returned (.bool true) ∧ w = w' := by
  have f0 : w.cell? ⟨P, 1, none⟩ = some .nilFunc := h.nl 0 (by decide) (by omega)
  have f1 : w.cell? ⟨P, 2, none⟩ = some .nilFunc := h.nl 1 (by decide) (by omega)
  have f2 : w.cell? ⟨P, 3, none⟩ = some .nilFunc := h.nl 2 (by decide) (by omega)
  have f3 : w.cell? ⟨P, 4, none⟩ = some .nilFunc := h.nl 3 (by decide) (by omega)
  have q1 := nx_nil
  have i0 := ix_0
  have i1 := ix_1
  have i2 := ix_2
  have i3 := ix_3
  clear h hx
  go_enter Tryz.func91, Tryz.ntmps91
  go_wp2_with fail
  refine wp_loop_rounds 5 ?_
  rw [rounds_succ]
  go_wp2_with fail
  rw [rounds_succ]
  go_wp2_with fail
  rw [rounds_succ]
  go_wp2_with fail
  rw [rounds_succ]
  go_wp2_with fail
  rw [rounds_succ]
  go_wp2
  go_ret
  exact ⟨rfl, rfl⟩
def LayStepped (w : World) (lo hi P M B n : Nat) (t : Twr) (s : St) (x : LOp) (e : Ending) (w' : World) : Prop :=
  e = .returned (.bool ((layOp x).line == 4)) ∧ LayAt w' lo hi P t (layOp x) ∧ PMem w' M B n (laySt n t s x) ∧ But (fun k => k = P ∨ k = B) w w'
theorem step_in (M B n lo hi P : Nat) (t : Twr) (s : St) (x : LOp) (w : World) (hm : PMem w M B n s) (h0 : 0 ≤ s.cnt) (h1 : s.cnt ≤ 1000000) (h : LayAt w lo hi P t x) (hx : x.line ≤ 4 ∧ (x.line < 4 → x.er = 14)) (hPM : P ≠ M) (hPB : P ≠ B) (hB : ∀ j, lo ≤ j → j < hi → j ≠ B) :
    Calls Tryz.prog 91 #[.pointer (some ⟨P, 0, none⟩), .pointer (some ⟨M, 0, none⟩)] w (LayStepped w lo hi P M B n t s x) := by
  have hl : x.line = 0 ∨ x.line = 1 ∨ x.line = 2 ∨ x.line = 3 ∨ x.line = 4 := by omega
  unfold LayStepped
  rcases hl with e | e | e | e | e
  · refine (step_0 M B n lo hi P t s x w hm h0 h1 h e (hx.2 (by omega)) hPM hPB hB).mono fun _ _ ⟨a, b⟩ => ⟨?_, b⟩
    rw [a]; unfold layOp; rw [e]; rfl
  · refine (step_1 M B n lo hi P t s x w hm h0 h1 h e (hx.2 (by omega)) hPM hPB hB).mono fun _ _ ⟨a, b⟩ => ⟨?_, b⟩
    rw [a]; unfold layOp; rw [e]; rfl
  · refine (step_2 M B n lo hi P t s x w hm h0 h1 h e (hx.2 (by omega)) hPM hPB hB).mono fun _ _ ⟨a, b⟩ => ⟨?_, b⟩
    rw [a]; unfold layOp; rw [e]; rfl
  · refine (step_3 M B n lo hi P t s x w hm h0 h1 h e (hx.2 (by omega)) hPM hPB hB).mono fun _ _ ⟨a, b⟩ => ⟨?_, b⟩
    rw [a]; unfold layOp; rw [e]; rfl
  · have e1 : layOp x = x := by unfold layOp; rw [if_neg (by omega)]
    have e2 : laySt n t s x = s := by unfold laySt; rw [if_neg (by omega)]
    rw [e1, e2]
    exact (step_over P lo hi t x _ w h e).mono fun _ _ ⟨a, b⟩ => ⟨by rw [a, e]; rfl, b ▸ h, b ▸ hm, b ▸ But.refl _ _⟩
theorem step_any (M B n lo hi P : Nat) (t : Twr) (s : St) (x : LOp) (w : World) (hm : PMem w M B n s) (h0 : 0 ≤ s.cnt) (h1 : s.cnt ≤ 1000000) (h : LayAt w lo hi P t x) (hx : x.line ≤ 4 ∧ (x.line < 4 → x.er = 14)) (hPM : P ≠ M) (hPB : P ≠ B) (hB : ∀ j, lo ≤ j → j < hi → j ≠ B) :
    Calls Tryz.prog 18 #[.pointer (some ⟨P, 0, none⟩), .pointer (some ⟨M, 0, none⟩)] w (LayStepped w lo hi P M B n t s x) := by
  have HS := Lib.hid (step_in M B n lo hi P t s x w hm h0 h1 h hx hPM hPB hB)
  obtain ⟨b, hb⟩ : ∃ b, b = ((layOp x).line == 4) := ⟨_, rfl⟩
  unfold LayStepped at HS ⊢
  rw [← hb] at HS ⊢
  clear hm h hb
  go_enter Tryz.func18, Tryz.ntmps18
  go_wp2_with fail
  refine HS.out.mono ?_
  rintro e w1 ⟨rfl, rest⟩
  cases b
  · go_wp2
    go_ret
    exact ⟨rfl, rest⟩
  · go_wp2
    go_ret
    exact ⟨rfl, rest⟩
theorem err_any (lo hi P : Nat) (t : Twr) (x : LOp) (w : World) (h : LayAt w lo hi P t x) : Calls Tryz.prog 20 #[.pointer (some ⟨P, 0, none⟩)] w fun e w' => e = .returned (.int .i64 x.er) ∧ w = w' := err_made P x.er w h.c0 h.c7
theorem by_any (lo hi P : Nat) (t : Twr) (x : LOp) (w : World) (h : LayAt w lo hi P t x) : Calls Tryz.prog 22 #[.pointer (some ⟨P, 0, none⟩)] w fun e w' => e = .returned (.int .u64 x.by_) ∧ w = w' := by_made P x.by_ w h.c6
end Go.Proofs.YtejiogggocnldaaGreat.Tw
