/- The program's rules of a history: what each of them says of an event; what they say together; what an event adds. -/
import Derived.Test.YtjbplbfedndjpaaEvMap
import Derived.WalkMore
import Derived.BigQuiet
import Derived.Deep.QuietTactic
import Derived.LoopN
namespace Go.Proofs.Ytjbplbfedndjpaa
open Go.RowKit Go.Maps

theorem pending_any (a b : Int) (w : World) :
    Calls Try.prog 37 #[.agg #[.int .i64 a, .int .i64 b]] w fun e w' => e = .returned (.bool (decide (b < 0))) ∧ Kept w w' := by
  go_enter Try.func37, Try.ntmps37
  go_wp2
  go_ret
  exact ⟨rfl, (Kept.refl w).alloc _ _⟩

theorem pending_at (a b : Int) (q : Bool) (h : decide (b < 0) = q) (w : World) :
    Calls Try.prog 37 #[.agg #[.int .i64 a, .int .i64 b]] w fun e w' => e = .returned (.bool q) ∧ Kept w w' := by
  subst h; exact pending_any a b w

set_option maxHeartbeats 1000000 in
theorem calledTwice_any {w : World} {b n : Nat} {m : Int → Option (Int × Int)} (h : Seen w b n m) (e : Ev) (we : Wf e) :
    Calls Try.prog 46 #[.map (some b), .agg #[.int .i64 e.id, .bool e.ans, .int .i64 e.k, .int .i64 e.x, .int .i64 e.y, .int .u64 e.u, .int .i64 e.er, .int .i64 e.n, .int .u64 e.v]] w fun ed w' => ed = .returned (.int .i64 (r1 m e)) ∧ Kept w w' := by
  have lk := (h.kept ((Kept.refl w).alloc #[.int .i64 e.id, .bool e.ans, .int .i64 e.k, .int .i64 e.x, .int .i64 e.y, .int .u64 e.u, .int .i64 e.er, .int .i64 e.n, .int .u64 e.v] 51)).look_ok (wf_back we)
  clear h we
  obtain ⟨i0, i1, i2, i3, i4, i5, i6, i7, i8⟩ := e
  dsimp only [r1] at lk ⊢
  generalize m i0 = o at lk ⊢
  rcases o with _ | ⟨x, y⟩ <;> cases i1 <;> simp only [Option.isSome_none, Option.isSome_some, Option.getD_none, Option.getD_some] at lk <;>
    (go_enter Try.func46, Try.ntmps46
     go_wp2
     go_ret
     exact ⟨rfl, ((Kept.refl w).alloc _ _).alloc _ _⟩)

set_option maxHeartbeats 1000000 in
theorem neverCalled_any {w : World} {b n : Nat} {m : Int → Option (Int × Int)} (h : Seen w b n m) (e : Ev) (we : Wf e) :
    Calls Try.prog 48 #[.map (some b), .agg #[.int .i64 e.id, .bool e.ans, .int .i64 e.k, .int .i64 e.x, .int .i64 e.y, .int .u64 e.u, .int .i64 e.er, .int .i64 e.n, .int .u64 e.v]] w fun ed w' => ed = .returned (.int .i64 (r3 m e)) ∧ Kept w w' := by
  have lk := (h.kept ((Kept.refl w).alloc #[.int .i64 e.id, .bool e.ans, .int .i64 e.k, .int .i64 e.x, .int .i64 e.y, .int .u64 e.u, .int .i64 e.er, .int .i64 e.n, .int .u64 e.v] 51)).look_ok (wf_back we)
  clear h we
  obtain ⟨i0, i1, i2, i3, i4, i5, i6, i7, i8⟩ := e
  dsimp only [r3] at lk ⊢
  generalize m i0 = o at lk ⊢
  rcases o with _ | ⟨x, y⟩ <;> cases i1 <;> simp only [Option.isSome_none, Option.isSome_some, Option.getD_none, Option.getD_some] at lk <;>
    (go_enter Try.func48, Try.ntmps48
     go_wp2
     go_ret
     exact ⟨rfl, ((Kept.refl w).alloc _ _).alloc _ _⟩)

set_option maxHeartbeats 2000000 in
theorem answeredTwice_any {w : World} {b n : Nat} {m : Int → Option (Int × Int)} (h : Seen w b n m) (e : Ev) (we : Wf e) :
    Calls Try.prog 47 #[.map (some b), .agg #[.int .i64 e.id, .bool e.ans, .int .i64 e.k, .int .i64 e.x, .int .i64 e.y, .int .u64 e.u, .int .i64 e.er, .int .i64 e.n, .int .u64 e.v]] w fun ed w' => ed = .returned (.int .i64 (r2 m e)) ∧ Kept w w' := by
  have lk := (h.kept ((Kept.refl w).alloc #[.int .i64 e.id, .bool e.ans, .int .i64 e.k, .int .i64 e.x, .int .i64 e.y, .int .u64 e.u, .int .i64 e.er, .int .i64 e.n, .int .u64 e.v] 51)).look_ok (wf_back we)
  clear h we
  obtain ⟨i0, i1, i2, i3, i4, i5, i6, i7, i8⟩ := e
  dsimp only [r2] at lk ⊢
  generalize m i0 = o at lk ⊢
  rcases o with _ | ⟨x, y⟩
  · cases i1 <;> simp only [Option.isSome_none, Option.getD_none] at lk <;>
    (go_enter Try.func47, Try.ntmps47
     go_wp2_with fail
     go_ret
     exact ⟨rfl, ((Kept.refl w).alloc _ _).alloc _ _⟩)
  · simp only [Option.isSome_some, Option.getD_some] at lk ⊢
    obtain ⟨q, hy⟩ : ∃ q, decide (y < 0) = q := ⟨_, rfl⟩
    simp only [hy]
    have HP := fun W => pending_at x y q hy W
    clear hy
    cases q <;> cases i1 <;>
    (go_enter Try.func47, Try.ntmps47
     go_wp2_with fail
     refine (HP _).mono ?_
     rintro ed w1 ⟨rfl, k1⟩
     have c1 := k1.some (b := w.heap.size) (o := 1) (((Kept.refl _).alloc _ _).some (cell_new w _ _ _ 1 rfl))
     clear HP
     go_wp2
     go_ret
     exact ⟨rfl, (((Kept.refl w).alloc _ _).alloc _ _).trans k1⟩)

theorem rules_any (b : Nat) (w : World) :
    Calls Try.prog 42 #[.map (some b)] w fun e w' => e = .returned (.slice (some ⟨w.heap.size, 0, none⟩) 3 3) ∧
      w' = w.alloc (.cells #[.func (.func 46) #[.map (some b)] #[], .func (.func 47) #[.map (some b)] #[], .func (.func 48) #[.map (some b)] #[]] 84) := by
  go_enter Try.func42, Try.ntmps42
  go_wp2
  go_ret
  exact ⟨rfl, rfl⟩

/-- The three rules lie in block g. -/
structure Rules (w : World) (g b : Nat) : Prop where
  c0 : w.cell? ⟨g, 0, none⟩ = some (.func (.func 46) #[.map (some b)] #[])
  c1 : w.cell? ⟨g, 1, none⟩ = some (.func (.func 47) #[.map (some b)] #[])
  c2 : w.cell? ⟨g, 2, none⟩ = some (.func (.func 48) #[.map (some b)] #[])
theorem Rules.kept {w w' : World} {g b : Nat} (h : Rules w g b) (k : Kept w w') : Rules w' g b := ⟨k.some h.c0, k.some h.c1, k.some h.c2⟩
theorem Rules.but {S : Nat → Prop} {w w' : World} {g b : Nat} (h : Rules w g b) (k : But S w w') (hS : ¬ S g) : Rules w' g b := ⟨k.some h.c0 hS, k.some h.c1 hS, k.some h.c2 hS⟩

set_option maxHeartbeats 4000000 in
theorem broken_any {w : World} {b n g : Nat} {m : Int → Option (Int × Int)} (h : Seen w b n m) (hr : Rules w g b) (e : Ev) (we : Wf e) :
    Calls Try.prog 43 #[.slice (some ⟨g, 0, none⟩) 3 3, .agg #[.int .i64 e.id, .bool e.ans, .int .i64 e.k, .int .i64 e.x, .int .i64 e.y, .int .u64 e.u, .int .i64 e.er, .int .i64 e.n, .int .u64 e.v]] w fun ed w' => ed = .returned (.int .i64 (brk m e)) ∧ Kept w w' := by
  have H := Lib.hid h
  have WE := Lib.hid we
  have c0 := hr.c0
  have hg := lt_of_cell c0
  have R0 := Lib.hid (hr.kept ((Kept.refl w).alloc #[.int .i64 e.id, .bool e.ans, .int .i64 e.k, .int .i64 e.x, .int .i64 e.y, .int .u64 e.u, .int .i64 e.er, .int .i64 e.n, .int .u64 e.v] 51))
  clear h we hr
  unfold brk
  obtain ⟨v1, hv1⟩ : ∃ v, v = r1 m e := ⟨_, rfl⟩
  obtain ⟨v2, hv2⟩ : ∃ v, v = r2 m e := ⟨_, rfl⟩
  obtain ⟨v3, hv3⟩ : ∃ v, v = r3 m e := ⟨_, rfl⟩
  rw [← hv1, ← hv2, ← hv3]
  have V1 := Lib.hid hv1
  have V2 := Lib.hid hv2
  have V3 := Lib.hid hv3
  clear hv1 hv2 hv3
  have K0 : Kept w (w.alloc (.cells #[.int .i64 e.id, .bool e.ans, .int .i64 e.k, .int .i64 e.x, .int .i64 e.y, .int .u64 e.u, .int .i64 e.er, .int .i64 e.n, .int .u64 e.v] 51)) := (Kept.refl w).alloc _ _
  have G := Lib.hid (EvBox.new w e 51)
  by_cases z1 : v1 = 0
  · rw [if_pos z1]
    have b1 : (v1 != 0) = false := by simp [z1]
    clear z1
    by_cases z2 : v2 = 0
    · rw [if_pos z2]
      have b2 : (v2 != 0) = false := by simp [z2]
      clear z2
      by_cases z3 : v3 = 0
      · have b3 : (v3 != 0) = false := by simp [z3]
        have Z3 := Lib.hid z3
        clear z3
        go_enter Try.func43, Try.ntmps43
        go_wp2_with fail
        refine wp_loop_rounds 4 ?_
        rw [rounds_succ]
        go_wp2_with fail; refine (calledTwice_any (H.out.kept K0) e WE.out).mono ?_; rintro ed w1 ⟨rfl, k1⟩
        rw [← V1.out]
        obtain ⟨g0, g1, g2, g3, g4, g5, g6, g7, g8⟩ := G.out.kept k1
        have d1 := (R0.out.kept k1).c1
        have e1 := Nat.le_trans K0.size k1.size
        go_wp2_with fail
        rw [rounds_succ]
        go_wp2_with fail; refine (answeredTwice_any (H.out.kept (K0.trans k1)) e WE.out).mono ?_; rintro ed w2 ⟨rfl, k2⟩
        rw [← V2.out]
        clear g0 g1 g2 g3 g4 g5 g6 g7 g8 d1 e1
        obtain ⟨g0, g1, g2, g3, g4, g5, g6, g7, g8⟩ := G.out.kept (k1.trans k2)
        have d2 := (R0.out.kept (k1.trans k2)).c2
        go_wp2_with fail
        rw [rounds_succ]
        go_wp2_with fail; refine (neverCalled_any (H.out.kept ((K0.trans k1).trans k2)) e WE.out).mono ?_; rintro ed w3 ⟨rfl, k3⟩
        rw [← V3.out]
        clear g0 g1 g2 g3 g4 g5 g6 g7 g8 d2
        go_wp2_with fail
        rw [rounds_succ]
        go_wp2
        go_ret
        exact ⟨by rw [Z3.out]; rfl, ((K0.trans k1).trans k2).trans k3⟩
      · have b3 : (v3 != 0) = true := by simpa using z3
        clear z3
        go_enter Try.func43, Try.ntmps43
        go_wp2_with fail
        refine wp_loop_rounds 4 ?_
        rw [rounds_succ]
        go_wp2_with fail; refine (calledTwice_any (H.out.kept K0) e WE.out).mono ?_; rintro ed w1 ⟨rfl, k1⟩
        rw [← V1.out]
        obtain ⟨g0, g1, g2, g3, g4, g5, g6, g7, g8⟩ := G.out.kept k1
        have d1 := (R0.out.kept k1).c1
        have e1 := Nat.le_trans K0.size k1.size
        go_wp2_with fail
        rw [rounds_succ]
        go_wp2_with fail; refine (answeredTwice_any (H.out.kept (K0.trans k1)) e WE.out).mono ?_; rintro ed w2 ⟨rfl, k2⟩
        rw [← V2.out]
        clear g0 g1 g2 g3 g4 g5 g6 g7 g8 d1 e1
        obtain ⟨g0, g1, g2, g3, g4, g5, g6, g7, g8⟩ := G.out.kept (k1.trans k2)
        have d2 := (R0.out.kept (k1.trans k2)).c2
        go_wp2_with fail
        rw [rounds_succ]
        go_wp2_with fail; refine (neverCalled_any (H.out.kept ((K0.trans k1).trans k2)) e WE.out).mono ?_; rintro ed w3 ⟨rfl, k3⟩
        rw [← V3.out]
        clear g0 g1 g2 g3 g4 g5 g6 g7 g8 d2
        go_wp2_with fail
        go_ret
        exact ⟨rfl, ((K0.trans k1).trans k2).trans k3⟩
    · rw [if_neg z2]
      have b2 : (v2 != 0) = true := by simpa using z2
      clear z2
      go_enter Try.func43, Try.ntmps43
      go_wp2_with fail
      refine wp_loop_rounds 4 ?_
      rw [rounds_succ]
      go_wp2_with fail; refine (calledTwice_any (H.out.kept K0) e WE.out).mono ?_; rintro ed w1 ⟨rfl, k1⟩
      rw [← V1.out]
      obtain ⟨g0, g1, g2, g3, g4, g5, g6, g7, g8⟩ := G.out.kept k1
      have d1 := (R0.out.kept k1).c1
      have e1 := Nat.le_trans K0.size k1.size
      go_wp2_with fail
      rw [rounds_succ]
      go_wp2_with fail; refine (answeredTwice_any (H.out.kept (K0.trans k1)) e WE.out).mono ?_; rintro ed w2 ⟨rfl, k2⟩
      rw [← V2.out]
      clear g0 g1 g2 g3 g4 g5 g6 g7 g8 d1 e1
      go_wp2_with fail
      go_ret
      exact ⟨rfl, (K0.trans k1).trans k2⟩
  · rw [if_neg z1]
    have b1 : (v1 != 0) = true := by simpa using z1
    clear z1
    go_enter Try.func43, Try.ntmps43
    go_wp2_with fail
    refine wp_loop_rounds 4 ?_
    rw [rounds_succ]
    go_wp2_with fail; refine (calledTwice_any (H.out.kept K0) e WE.out).mono ?_; rintro ed w1 ⟨rfl, k1⟩
    rw [← V1.out]
    go_wp2_with fail
    go_ret
    exact ⟨rfl, K0.trans k1⟩
end Go.Proofs.Ytjbplbfedndjpaa
