/- TowerKnown. Written by gen16m.py. -/
import Derived.Test.YtejiogggocnldaaGreatG24
import Derived.Test.YtejiogggocnldaaGreatG26
import Derived.Test.YtejiogggocnldaaGreatG27
set_option linter.unusedVariables false
set_option linter.unusedSimpArgs false

namespace Go.Proofs.YtejiogggocnldaaGreat.Tw
set_option maxRecDepth 20000
open Go.RowKit
open Wo (St acc wordAt PMem RefIs)
open Sk (Stk Arn idx Wd fitsA p_store p_new pmem_lt pmem_kept pmem_frame kept_of)

structure T3 (w : World) (b : Nat) : Prop where
  a : TB w b T0
  o : TB w (b + 1) T1
  h : TB w (b + 1 + 1) T2
theorem T3.kept {w w' : World} {b : Nat} (h : T3 w b) (k : Kept w w') : T3 w' b := ⟨h.a.kept k, h.o.kept k, h.h.kept k⟩
theorem T3.but {w w' : World} {b : Nat} (h : T3 w b) {S : Nat → Prop} (k : But S w w') (h0 : ¬ S b) (h1 : ¬ S (b + 1)) (h2 : ¬ S (b + 1 + 1)) : T3 w' b := ⟨h.a.but k h0, h.o.but k h1, h.h.but k h2⟩
theorem f34 (w : World) : Calls Tryz.prog 10 #[towV T0, .int .i64 34] w fun e w' => e = .returned (.int .i64 0) ∧ Kept w w' := by have := tfits_any T0 34 w; rwa [fit34] at this
theorem f33 (w : World) : Calls Tryz.prog 10 #[towV T0, .int .i64 33] w fun e w' => e = .returned (.int .i64 2) ∧ Kept w w' := by have := tfits_any T0 33 w; rwa [fit33] at this
theorem f0 (w : World) : Calls Tryz.prog 10 #[towV T0, .int .i64 0] w fun e w' => e = .returned (.int .i64 3) ∧ Kept w w' := by have := tfits_any T0 0 w; rwa [fit0] at this
theorem f1 (w : World) : Calls Tryz.prog 10 #[towV T1, .int .i64 34] w fun e w' => e = .returned (.int .i64 2) ∧ Kept w w' := by have := tfits_any T1 34 w; rwa [fit1] at this
theorem f2 (w : World) : Calls Tryz.prog 10 #[towV T2, .int .i64 100] w fun e w' => e = .returned (.int .i64 2) ∧ Kept w w' := by have := tfits_any T2 100 w; rwa [fit2] at this
theorem at0 (i p v : Int) (hp : I64 p) (h : atI T0 i p = v) (w : World) : Calls Tryz.prog 32 #[towV T0, .int .i64 i, .int .i64 p] w fun e w' => e = .returned (.int .i64 v) ∧ Kept w w' := by have := at_any T0 i p hp w; rwa [h] at this
theorem nx0 (i p v : Int) (hp : I64 p) (h : nextI T0 i p = v) (w : World) : Calls Tryz.prog 33 #[towV T0, .int .i64 i, .int .i64 p] w fun e w' => e = .returned (.int .i64 v) ∧ Kept w w' := by have := next_any T0 i p hp w; rwa [h] at this
theorem wh0 (a : Int) (h : (whoI T0 a).1 = 0 ∧ (whoI T0 a).2.1 = 0 ∧ (whoI T0 a).2.2 = false) (w : World) : Calls Tryz.prog 34 #[towV T0, .int .i64 a] w fun e w' => e = .returned (.tuple #[.int .i64 0, .int .i64 0, .bool false]) ∧ Kept w w' := by have := who_any T0 a w; rwa [h.1, h.2.1, h.2.2] at this
def sM : St := litS (acc 34 sL 2 14 true 65538) [1, 2, 3, 0, 1, 1, 1, 0, 0, 0, 0, 0, 0, 0, 65538, 0, 0, 0, 0, 0, 0, 0, 7, 5, 2, 2, 0, 0, 0, 0, 0, 0, 0, 0]
theorem worM : (List.range 34).map (acc 34 sL 2 14 true 65538).ws = [1, 2, 3, 0, 1, 1, 1, 0, 0, 0, 0, 0, 0, 0, 65538, 0, 0, 0, 0, 0, 0, 0, 7, 5, 2, 2, 0, 0, 0, 0, 0, 0, 0, 0] := by decide +kernel
def sN : St := litS (acc 34 sM 2 26 true 9223372036854775808) [1, 2, 3, 0, 1, 1, 1, 0, 0, 0, 0, 0, 0, 0, 65538, 0, 0, 0, 0, 0, 0, 0, 7, 5, 2, 2, 9223372036854775808, 0, 0, 0, 0, 0, 0, 0]
theorem worN : (List.range 34).map (acc 34 sM 2 26 true 9223372036854775808).ws = [1, 2, 3, 0, 1, 1, 1, 0, 0, 0, 0, 0, 0, 0, 65538, 0, 0, 0, 0, 0, 0, 0, 7, 5, 2, 2, 9223372036854775808, 0, 0, 0, 0, 0, 0, 0] := by decide +kernel
theorem cntM : sM.cnt = 21 := by decide +kernel
theorem wfM : Wf 34 sM.ws := by
  have : ∀ j : Fin 34, 0 ≤ sM.ws j.val ∧ sM.ws j.val < 18446744073709551616 := by decide +kernel
  exact fun i hi => this ⟨i, hi⟩
theorem wfN : Wf 34 sN.ws := by
  have : ∀ j : Fin 34, 0 ≤ sN.ws j.val ∧ sN.ws j.val < 18446744073709551616 := by decide +kernel
  exact fun i hi => this ⟨i, hi⟩
theorem toldM : (levelL 34 sM.ws T0 0).filter (fun _ => true) = [1] ∧ liveM 34 sM.ws T0 = [1] ∧ (levelL 34 sM.ws T0 1).filter (fun _ => true) = [] := by decide +kernel
theorem toldN : (levelL 34 sN.ws T0 0).filter (fun _ => true) = [1] ∧ liveM 34 sN.ws T0 = [] := by decide +kernel
theorem lev0 {w0 w : World} {M B : Nat} {s : St} (h : In w0 M B s w) (hf : Wf 34 s.ws) (l : Int) (hl : I64 l) (r : List Int) (hr : (levelL 34 s.ws T0 l).filter (fun _ => true) = r) : Calls Tryz.prog 38 #[towV T0, .int .i64 l, .pointer (some ⟨M, 0, none⟩)] w (RetI w r) := by
  have := level_told T0 (by decide) l hl _ 34 s.ws hf (by decide) w (gives_words h.mem)
  rwa [hr] at this
theorem liv0 {w0 w : World} {M B : Nat} {s : St} (h : In w0 M B s w) (hf : Wf 34 s.ws) (r : List Int) (hr : liveM 34 s.ws T0 = r) : Calls Tryz.prog 39 #[towV T0, .pointer (some ⟨M, 0, none⟩)] w (RetI w r) := by
  have := live_told T0 (by decide) _ 34 s.ws hf (by decide) w (gives_words h.mem)
  rwa [hr] at this
theorem same_one {w : World} {base P c : Nat} {a : Option Addr} {p : Int} (own : w.ownsRow base 3 1 (.slice a 1 c) 1 (ints [p])) (h0 : w.cell? ⟨P, 0, none⟩ = some (.int .i64 p)) : Calls Tryz.prog 37 #[.slice a 1 c, .slice (some ⟨P, 0, none⟩) 1 1] w fun e w' => e = .returned (.bool true) ∧ Kept w w' := by
  rcases own_lies own with ⟨_, e2, _⟩ | ⟨g, o, c', e1, _, _, hc⟩
  · cases e2
  · injection e1 with e1 _ _
    subst e1
    refine (sameInts_yes _ (some ⟨P, 0, none⟩) 1 c 1 (fun _ => p) w (by decide) (.inr ⟨g, o, rfl, fun i hi => ?_⟩) (.inr ⟨P, 0, rfl, fun i hi => ?_⟩))
    · have : i = 0 := by omega
      subst this
      exact hc 0 _ rfl
    · have : i = 0 := by omega
      subst this
      exact h0
set_option maxHeartbeats 8000000 in
theorem known_any (w : World) : Calls Tryz.prog 4 #[] w fun e w' => e = .returned (.bool true) ∧ Kept w w' := by
  have q := eqn
  go_enter Tryz.func4, Tryz.ntmps4
  go_wp2_with fail
  refine (chapter_any _).mono ?_
  rintro e w1 ⟨rfl, k1⟩
  go_wp2_with fail
  refine (chapter_any _).mono ?_
  rintro e w2 ⟨rfl, k2⟩
  go_wp2_with fail
  refine (chapter_any _).mono ?_
  rintro e w3 ⟨rfl, k3⟩
  have K3 := Lib.hid ((k1.trans k2).trans k3)
  clear k1 k2 k3
  go_wp2_with fail
  obtain ⟨b, hb⟩ : ∃ b, b = w3.heap.size := ⟨_, rfl⟩
  obtain ⟨W1, hW1⟩ : ∃ W1, W1 = (((w3.alloc (.cells #[.int .i64 T0.D, .int .i64 T0.H, .int .i64 T0.G, .int .i64 T0.A.F.T, .int .i64 T0.A.F.K, .int .i64 T0.A.F.N, .int .i64 T0.A.G, .int .i64 T0.A.V, .int .i64 T0.A.L, .int .i64 T0.E.T, .int .i64 T0.E.K, .int .i64 T0.E.N, .int .i64 T0.P] 31)).alloc (.cells #[.int .i64 T0.D, .int .i64 13, .int .i64 T0.G, .int .i64 T0.A.F.T, .int .i64 T0.A.F.K, .int .i64 T0.A.F.N, .int .i64 T0.A.G, .int .i64 T0.A.V, .int .i64 T0.A.L, .int .i64 T0.E.T, .int .i64 T0.E.K, .int .i64 T0.E.N, .int .i64 T0.P] 31)).alloc (.cells #[.int .i64 T0.D, .int .i64 T0.H, .int .i64 5, .int .i64 T0.A.F.T, .int .i64 T0.A.F.K, .int .i64 T0.A.F.N, .int .i64 T0.A.G, .int .i64 T0.A.V, .int .i64 T0.A.L, .int .i64 T0.E.T, .int .i64 T0.E.K, .int .i64 T0.E.N, .int .i64 T0.P] 31)) := ⟨_, rfl⟩
  have TT : Hid (T3 W1 b) := Lib.hid (by
    rw [hW1, hb]
    have ka : Kept (w3.alloc (.cells #[.int .i64 T0.D, .int .i64 T0.H, .int .i64 T0.G, .int .i64 T0.A.F.T, .int .i64 T0.A.F.K, .int .i64 T0.A.F.N, .int .i64 T0.A.G, .int .i64 T0.A.V, .int .i64 T0.A.L, .int .i64 T0.E.T, .int .i64 T0.E.K, .int .i64 T0.E.N, .int .i64 T0.P] 31)) ((w3.alloc (.cells #[.int .i64 T0.D, .int .i64 T0.H, .int .i64 T0.G, .int .i64 T0.A.F.T, .int .i64 T0.A.F.K, .int .i64 T0.A.F.N, .int .i64 T0.A.G, .int .i64 T0.A.V, .int .i64 T0.A.L, .int .i64 T0.E.T, .int .i64 T0.E.K, .int .i64 T0.E.N, .int .i64 T0.P] 31)).alloc (.cells #[.int .i64 T0.D, .int .i64 13, .int .i64 T0.G, .int .i64 T0.A.F.T, .int .i64 T0.A.F.K, .int .i64 T0.A.F.N, .int .i64 T0.A.G, .int .i64 T0.A.V, .int .i64 T0.A.L, .int .i64 T0.E.T, .int .i64 T0.E.K, .int .i64 T0.E.N, .int .i64 T0.P] 31)) := (Kept.refl _).alloc _ _
    exact ⟨((TB.new w3 _ _ rfl T0).kept ka).kept ((Kept.refl _).alloc _ _), (show TB ((w3.alloc (.cells #[.int .i64 T0.D, .int .i64 T0.H, .int .i64 T0.G, .int .i64 T0.A.F.T, .int .i64 T0.A.F.K, .int .i64 T0.A.F.N, .int .i64 T0.A.G, .int .i64 T0.A.V, .int .i64 T0.A.L, .int .i64 T0.E.T, .int .i64 T0.E.K, .int .i64 T0.E.N, .int .i64 T0.P] 31)).alloc (.cells #[.int .i64 T0.D, .int .i64 13, .int .i64 T0.G, .int .i64 T0.A.F.T, .int .i64 T0.A.F.K, .int .i64 T0.A.F.N, .int .i64 T0.A.G, .int .i64 T0.A.V, .int .i64 T0.A.L, .int .i64 T0.E.T, .int .i64 T0.E.K, .int .i64 T0.E.N, .int .i64 T0.P] 31)) (w3.heap.size + 1) T1 from TB.new _ _ _ (by simp) T1).kept ((Kept.refl _).alloc _ _), TB.new _ _ _ (by simp) T2⟩)
  have KK : Hid (Kept w W1) := Lib.hid (by rw [hW1]; exact ((K3.out.alloc _ _).alloc _ _).alloc _ _)
  rw [← hW1, ← hb]
  have hbw : w.heap.size ≤ b := by have := K3.out.size; omega
  clear hW1 hb K3
  obtain ⟨a0, a1, a2, a3, a4, a5, a6, a7, a8, a9, a10, a11, a12⟩ := TT.out.a
  have lz := lt_of_cell a0
  refine (f34 _).mono ?_
  rintro e v11 ⟨rfl, k⟩
  have TT := Lib.hid (TT.out.kept (Kept.trans (b := _) (by first | exact Kept.refl _ | (go_light; repeat (first | (with_reducible exact Kept.refl _) | (with_reducible assumption) | (with_reducible refine Kept.alloc ?_ _ _) | (with_reducible refine Kept.drew ?_) | (with_reducible refine Kept.drewN ?_ _) | ((with_reducible refine Kept.setCell ?_ ?_ _); rotate_left; focus (first | (simp; done) | (simp; omega))) | refine Kept.trans ?_ (by assumption)))) k))
  have KK := Lib.hid (KK.out.trans (Kept.trans (b := _) (by first | exact Kept.refl _ | (go_light; repeat (first | (with_reducible exact Kept.refl _) | (with_reducible assumption) | (with_reducible refine Kept.alloc ?_ _ _) | (with_reducible refine Kept.drew ?_) | (with_reducible refine Kept.drewN ?_ _) | ((with_reducible refine Kept.setCell ?_ ?_ _); rotate_left; focus (first | (simp; done) | (simp; omega))) | refine Kept.trans ?_ (by assumption)))) k))
  clear k a0 a1 a2 a3 a4 a5 a6 a7 a8 a9 a10 a11 a12 lz
  obtain ⟨a0, a1, a2, a3, a4, a5, a6, a7, a8, a9, a10, a11, a12⟩ := TT.out.a
  have lz := lt_of_cell a0
  go_wp2_with fail
  refine (f33 _).mono ?_
  rintro e v12 ⟨rfl, k⟩
  have TT := Lib.hid (TT.out.kept (Kept.trans (b := _) (by first | exact Kept.refl _ | (go_light; repeat (first | (with_reducible exact Kept.refl _) | (with_reducible assumption) | (with_reducible refine Kept.alloc ?_ _ _) | (with_reducible refine Kept.drew ?_) | (with_reducible refine Kept.drewN ?_ _) | ((with_reducible refine Kept.setCell ?_ ?_ _); rotate_left; focus (first | (simp; done) | (simp; omega))) | refine Kept.trans ?_ (by assumption)))) k))
  have KK := Lib.hid (KK.out.trans (Kept.trans (b := _) (by first | exact Kept.refl _ | (go_light; repeat (first | (with_reducible exact Kept.refl _) | (with_reducible assumption) | (with_reducible refine Kept.alloc ?_ _ _) | (with_reducible refine Kept.drew ?_) | (with_reducible refine Kept.drewN ?_ _) | ((with_reducible refine Kept.setCell ?_ ?_ _); rotate_left; focus (first | (simp; done) | (simp; omega))) | refine Kept.trans ?_ (by assumption)))) k))
  clear k a0 a1 a2 a3 a4 a5 a6 a7 a8 a9 a10 a11 a12 lz
  obtain ⟨a0, a1, a2, a3, a4, a5, a6, a7, a8, a9, a10, a11, a12⟩ := TT.out.a
  have lz := lt_of_cell a0
  go_wp2_with fail
  refine (f0 _).mono ?_
  rintro e v13 ⟨rfl, k⟩
  have TT := Lib.hid (TT.out.kept (Kept.trans (b := _) (by first | exact Kept.refl _ | (go_light; repeat (first | (with_reducible exact Kept.refl _) | (with_reducible assumption) | (with_reducible refine Kept.alloc ?_ _ _) | (with_reducible refine Kept.drew ?_) | (with_reducible refine Kept.drewN ?_ _) | ((with_reducible refine Kept.setCell ?_ ?_ _); rotate_left; focus (first | (simp; done) | (simp; omega))) | refine Kept.trans ?_ (by assumption)))) k))
  have KK := Lib.hid (KK.out.trans (Kept.trans (b := _) (by first | exact Kept.refl _ | (go_light; repeat (first | (with_reducible exact Kept.refl _) | (with_reducible assumption) | (with_reducible refine Kept.alloc ?_ _ _) | (with_reducible refine Kept.drew ?_) | (with_reducible refine Kept.drewN ?_ _) | ((with_reducible refine Kept.setCell ?_ ?_ _); rotate_left; focus (first | (simp; done) | (simp; omega))) | refine Kept.trans ?_ (by assumption)))) k))
  clear k a0 a1 a2 a3 a4 a5 a6 a7 a8 a9 a10 a11 a12 lz
  obtain ⟨a0, a1, a2, a3, a4, a5, a6, a7, a8, a9, a10, a11, a12⟩ := TT.out.a
  have lz := lt_of_cell a0
  obtain ⟨o0, o1, o2, o3, o4, o5, o6, o7, o8, o9, o10, o11, o12⟩ := TT.out.o
  go_wp2_with fail
  refine (f1 _).mono ?_
  rintro e v14 ⟨rfl, k⟩
  have TT := Lib.hid (TT.out.kept (Kept.trans (b := _) (by first | exact Kept.refl _ | (go_light; repeat (first | (with_reducible exact Kept.refl _) | (with_reducible assumption) | (with_reducible refine Kept.alloc ?_ _ _) | (with_reducible refine Kept.drew ?_) | (with_reducible refine Kept.drewN ?_ _) | ((with_reducible refine Kept.setCell ?_ ?_ _); rotate_left; focus (first | (simp; done) | (simp; omega))) | refine Kept.trans ?_ (by assumption)))) k))
  have KK := Lib.hid (KK.out.trans (Kept.trans (b := _) (by first | exact Kept.refl _ | (go_light; repeat (first | (with_reducible exact Kept.refl _) | (with_reducible assumption) | (with_reducible refine Kept.alloc ?_ _ _) | (with_reducible refine Kept.drew ?_) | (with_reducible refine Kept.drewN ?_ _) | ((with_reducible refine Kept.setCell ?_ ?_ _); rotate_left; focus (first | (simp; done) | (simp; omega))) | refine Kept.trans ?_ (by assumption)))) k))
  clear k a0 a1 a2 a3 a4 a5 a6 a7 a8 a9 a10 a11 a12 lz
  obtain ⟨a0, a1, a2, a3, a4, a5, a6, a7, a8, a9, a10, a11, a12⟩ := TT.out.a
  have lz := lt_of_cell a0
  clear o0 o1 o2 o3 o4 o5 o6 o7 o8 o9 o10 o11 o12
  obtain ⟨h0, h1, h2, h3, h4, h5, h6, h7, h8, h9, h10, h11, h12⟩ := TT.out.h
  go_wp2_with fail
  refine (f2 _).mono ?_
  rintro e v15 ⟨rfl, k⟩
  have TT := Lib.hid (TT.out.kept (Kept.trans (b := _) (by first | exact Kept.refl _ | (go_light; repeat (first | (with_reducible exact Kept.refl _) | (with_reducible assumption) | (with_reducible refine Kept.alloc ?_ _ _) | (with_reducible refine Kept.drew ?_) | (with_reducible refine Kept.drewN ?_ _) | ((with_reducible refine Kept.setCell ?_ ?_ _); rotate_left; focus (first | (simp; done) | (simp; omega))) | refine Kept.trans ?_ (by assumption)))) k))
  have KK := Lib.hid (KK.out.trans (Kept.trans (b := _) (by first | exact Kept.refl _ | (go_light; repeat (first | (with_reducible exact Kept.refl _) | (with_reducible assumption) | (with_reducible refine Kept.alloc ?_ _ _) | (with_reducible refine Kept.drew ?_) | (with_reducible refine Kept.drewN ?_ _) | ((with_reducible refine Kept.setCell ?_ ?_ _); rotate_left; focus (first | (simp; done) | (simp; omega))) | refine Kept.trans ?_ (by assumption)))) k))
  clear k a0 a1 a2 a3 a4 a5 a6 a7 a8 a9 a10 a11 a12 lz
  obtain ⟨a0, a1, a2, a3, a4, a5, a6, a7, a8, a9, a10, a11, a12⟩ := TT.out.a
  have lz := lt_of_cell a0
  clear h0 h1 h2 h3 h4 h5 h6 h7 h8 h9 h10 h11 h12
  go_wp2_with fail
  refine (at0 2 5 33 (by unfold I64; omega) (by decide +kernel) _).mono ?_
  rintro e v16 ⟨rfl, k⟩
  have TT := Lib.hid (TT.out.kept (Kept.trans (b := _) (by first | exact Kept.refl _ | (go_light; repeat (first | (with_reducible exact Kept.refl _) | (with_reducible assumption) | (with_reducible refine Kept.alloc ?_ _ _) | (with_reducible refine Kept.drew ?_) | (with_reducible refine Kept.drewN ?_ _) | ((with_reducible refine Kept.setCell ?_ ?_ _); rotate_left; focus (first | (simp; done) | (simp; omega))) | refine Kept.trans ?_ (by assumption)))) k))
  have KK := Lib.hid (KK.out.trans (Kept.trans (b := _) (by first | exact Kept.refl _ | (go_light; repeat (first | (with_reducible exact Kept.refl _) | (with_reducible assumption) | (with_reducible refine Kept.alloc ?_ _ _) | (with_reducible refine Kept.drew ?_) | (with_reducible refine Kept.drewN ?_ _) | ((with_reducible refine Kept.setCell ?_ ?_ _); rotate_left; focus (first | (simp; done) | (simp; omega))) | refine Kept.trans ?_ (by assumption)))) k))
  clear k a0 a1 a2 a3 a4 a5 a6 a7 a8 a9 a10 a11 a12 lz
  obtain ⟨a0, a1, a2, a3, a4, a5, a6, a7, a8, a9, a10, a11, a12⟩ := TT.out.a
  have lz := lt_of_cell a0
  go_wp2_with fail
  refine (at0 2 6 (-1) (by unfold I64; omega) (by decide +kernel) _).mono ?_
  rintro e v17 ⟨rfl, k⟩
  have TT := Lib.hid (TT.out.kept (Kept.trans (b := _) (by first | exact Kept.refl _ | (go_light; repeat (first | (with_reducible exact Kept.refl _) | (with_reducible assumption) | (with_reducible refine Kept.alloc ?_ _ _) | (with_reducible refine Kept.drew ?_) | (with_reducible refine Kept.drewN ?_ _) | ((with_reducible refine Kept.setCell ?_ ?_ _); rotate_left; focus (first | (simp; done) | (simp; omega))) | refine Kept.trans ?_ (by assumption)))) k))
  have KK := Lib.hid (KK.out.trans (Kept.trans (b := _) (by first | exact Kept.refl _ | (go_light; repeat (first | (with_reducible exact Kept.refl _) | (with_reducible assumption) | (with_reducible refine Kept.alloc ?_ _ _) | (with_reducible refine Kept.drew ?_) | (with_reducible refine Kept.drewN ?_ _) | ((with_reducible refine Kept.setCell ?_ ?_ _); rotate_left; focus (first | (simp; done) | (simp; omega))) | refine Kept.trans ?_ (by assumption)))) k))
  clear k a0 a1 a2 a3 a4 a5 a6 a7 a8 a9 a10 a11 a12 lz
  obtain ⟨a0, a1, a2, a3, a4, a5, a6, a7, a8, a9, a10, a11, a12⟩ := TT.out.a
  have lz := lt_of_cell a0
  go_wp2_with fail
  refine (at0 3 0 (-1) (by unfold I64; omega) (by decide +kernel) _).mono ?_
  rintro e v18 ⟨rfl, k⟩
  have TT := Lib.hid (TT.out.kept (Kept.trans (b := _) (by first | exact Kept.refl _ | (go_light; repeat (first | (with_reducible exact Kept.refl _) | (with_reducible assumption) | (with_reducible refine Kept.alloc ?_ _ _) | (with_reducible refine Kept.drew ?_) | (with_reducible refine Kept.drewN ?_ _) | ((with_reducible refine Kept.setCell ?_ ?_ _); rotate_left; focus (first | (simp; done) | (simp; omega))) | refine Kept.trans ?_ (by assumption)))) k))
  have KK := Lib.hid (KK.out.trans (Kept.trans (b := _) (by first | exact Kept.refl _ | (go_light; repeat (first | (with_reducible exact Kept.refl _) | (with_reducible assumption) | (with_reducible refine Kept.alloc ?_ _ _) | (with_reducible refine Kept.drew ?_) | (with_reducible refine Kept.drewN ?_ _) | ((with_reducible refine Kept.setCell ?_ ?_ _); rotate_left; focus (first | (simp; done) | (simp; omega))) | refine Kept.trans ?_ (by assumption)))) k))
  clear k a0 a1 a2 a3 a4 a5 a6 a7 a8 a9 a10 a11 a12 lz
  obtain ⟨a0, a1, a2, a3, a4, a5, a6, a7, a8, a9, a10, a11, a12⟩ := TT.out.a
  have lz := lt_of_cell a0
  go_wp2_with fail
  refine (at0 (-1) 0 (-1) (by unfold I64; omega) (by decide +kernel) _).mono ?_
  rintro e v19 ⟨rfl, k⟩
  have TT := Lib.hid (TT.out.kept (Kept.trans (b := _) (by first | exact Kept.refl _ | (go_light; repeat (first | (with_reducible exact Kept.refl _) | (with_reducible assumption) | (with_reducible refine Kept.alloc ?_ _ _) | (with_reducible refine Kept.drew ?_) | (with_reducible refine Kept.drewN ?_ _) | ((with_reducible refine Kept.setCell ?_ ?_ _); rotate_left; focus (first | (simp; done) | (simp; omega))) | refine Kept.trans ?_ (by assumption)))) k))
  have KK := Lib.hid (KK.out.trans (Kept.trans (b := _) (by first | exact Kept.refl _ | (go_light; repeat (first | (with_reducible exact Kept.refl _) | (with_reducible assumption) | (with_reducible refine Kept.alloc ?_ _ _) | (with_reducible refine Kept.drew ?_) | (with_reducible refine Kept.drewN ?_ _) | ((with_reducible refine Kept.setCell ?_ ?_ _); rotate_left; focus (first | (simp; done) | (simp; omega))) | refine Kept.trans ?_ (by assumption)))) k))
  clear k a0 a1 a2 a3 a4 a5 a6 a7 a8 a9 a10 a11 a12 lz
  obtain ⟨a0, a1, a2, a3, a4, a5, a6, a7, a8, a9, a10, a11, a12⟩ := TT.out.a
  have lz := lt_of_cell a0
  go_wp2_with fail
  refine (nx0 (-1) 1 15 (by unfold I64; omega) (by decide +kernel) _).mono ?_
  rintro e v20 ⟨rfl, k⟩
  have TT := Lib.hid (TT.out.kept (Kept.trans (b := _) (by first | exact Kept.refl _ | (go_light; repeat (first | (with_reducible exact Kept.refl _) | (with_reducible assumption) | (with_reducible refine Kept.alloc ?_ _ _) | (with_reducible refine Kept.drew ?_) | (with_reducible refine Kept.drewN ?_ _) | ((with_reducible refine Kept.setCell ?_ ?_ _); rotate_left; focus (first | (simp; done) | (simp; omega))) | refine Kept.trans ?_ (by assumption)))) k))
  have KK := Lib.hid (KK.out.trans (Kept.trans (b := _) (by first | exact Kept.refl _ | (go_light; repeat (first | (with_reducible exact Kept.refl _) | (with_reducible assumption) | (with_reducible refine Kept.alloc ?_ _ _) | (with_reducible refine Kept.drew ?_) | (with_reducible refine Kept.drewN ?_ _) | ((with_reducible refine Kept.setCell ?_ ?_ _); rotate_left; focus (first | (simp; done) | (simp; omega))) | refine Kept.trans ?_ (by assumption)))) k))
  clear k a0 a1 a2 a3 a4 a5 a6 a7 a8 a9 a10 a11 a12 lz
  obtain ⟨a0, a1, a2, a3, a4, a5, a6, a7, a8, a9, a10, a11, a12⟩ := TT.out.a
  have lz := lt_of_cell a0
  go_wp2_with fail
  refine (nx0 0 2 (-1) (by unfold I64; omega) (by decide +kernel) _).mono ?_
  rintro e v21 ⟨rfl, k⟩
  have TT := Lib.hid (TT.out.kept (Kept.trans (b := _) (by first | exact Kept.refl _ | (go_light; repeat (first | (with_reducible exact Kept.refl _) | (with_reducible assumption) | (with_reducible refine Kept.alloc ?_ _ _) | (with_reducible refine Kept.drew ?_) | (with_reducible refine Kept.drewN ?_ _) | ((with_reducible refine Kept.setCell ?_ ?_ _); rotate_left; focus (first | (simp; done) | (simp; omega))) | refine Kept.trans ?_ (by assumption)))) k))
  have KK := Lib.hid (KK.out.trans (Kept.trans (b := _) (by first | exact Kept.refl _ | (go_light; repeat (first | (with_reducible exact Kept.refl _) | (with_reducible assumption) | (with_reducible refine Kept.alloc ?_ _ _) | (with_reducible refine Kept.drew ?_) | (with_reducible refine Kept.drewN ?_ _) | ((with_reducible refine Kept.setCell ?_ ?_ _); rotate_left; focus (first | (simp; done) | (simp; omega))) | refine Kept.trans ?_ (by assumption)))) k))
  clear k a0 a1 a2 a3 a4 a5 a6 a7 a8 a9 a10 a11 a12 lz
  obtain ⟨a0, a1, a2, a3, a4, a5, a6, a7, a8, a9, a10, a11, a12⟩ := TT.out.a
  have lz := lt_of_cell a0
  go_wp2_with fail
  refine (wh0 13 (by decide +kernel) _).mono ?_
  rintro e v22 ⟨rfl, k⟩
  have TT := Lib.hid (TT.out.kept (Kept.trans (b := _) (by first | exact Kept.refl _ | (go_light; repeat (first | (with_reducible exact Kept.refl _) | (with_reducible assumption) | (with_reducible refine Kept.alloc ?_ _ _) | (with_reducible refine Kept.drew ?_) | (with_reducible refine Kept.drewN ?_ _) | ((with_reducible refine Kept.setCell ?_ ?_ _); rotate_left; focus (first | (simp; done) | (simp; omega))) | refine Kept.trans ?_ (by assumption)))) k))
  have KK := Lib.hid (KK.out.trans (Kept.trans (b := _) (by first | exact Kept.refl _ | (go_light; repeat (first | (with_reducible exact Kept.refl _) | (with_reducible assumption) | (with_reducible refine Kept.alloc ?_ _ _) | (with_reducible refine Kept.drew ?_) | (with_reducible refine Kept.drewN ?_ _) | ((with_reducible refine Kept.setCell ?_ ?_ _); rotate_left; focus (first | (simp; done) | (simp; omega))) | refine Kept.trans ?_ (by assumption)))) k))
  clear k a0 a1 a2 a3 a4 a5 a6 a7 a8 a9 a10 a11 a12 lz
  obtain ⟨a0, a1, a2, a3, a4, a5, a6, a7, a8, a9, a10, a11, a12⟩ := TT.out.a
  have lz := lt_of_cell a0
  go_wp2_with fail
  refine (wh0 34 (by decide +kernel) _).mono ?_
  rintro e v23 ⟨rfl, k⟩
  have TT := Lib.hid (TT.out.kept (Kept.trans (b := _) (by first | exact Kept.refl _ | (go_light; repeat (first | (with_reducible exact Kept.refl _) | (with_reducible assumption) | (with_reducible refine Kept.alloc ?_ _ _) | (with_reducible refine Kept.drew ?_) | (with_reducible refine Kept.drewN ?_ _) | ((with_reducible refine Kept.setCell ?_ ?_ _); rotate_left; focus (first | (simp; done) | (simp; omega))) | refine Kept.trans ?_ (by assumption)))) k))
  have KK := Lib.hid (KK.out.trans (Kept.trans (b := _) (by first | exact Kept.refl _ | (go_light; repeat (first | (with_reducible exact Kept.refl _) | (with_reducible assumption) | (with_reducible refine Kept.alloc ?_ _ _) | (with_reducible refine Kept.drew ?_) | (with_reducible refine Kept.drewN ?_ _) | ((with_reducible refine Kept.setCell ?_ ?_ _); rotate_left; focus (first | (simp; done) | (simp; omega))) | refine Kept.trans ?_ (by assumption)))) k))
  clear k a0 a1 a2 a3 a4 a5 a6 a7 a8 a9 a10 a11 a12 lz
  obtain ⟨a0, a1, a2, a3, a4, a5, a6, a7, a8, a9, a10, a11, a12⟩ := TT.out.a
  have lz := lt_of_cell a0
  go_wp2_with fail
  refine (laid2_any _).mono ?_
  rintro e v24 ⟨M, B, rfl, im⟩
  have IM := Lib.hid im
  have k := im.kept
  have lB := im.lB
  have lzB := lt_of_cell TT.out.h.c0
  clear im
  have TT := Lib.hid (TT.out.kept (Kept.trans (b := _) (by first | exact Kept.refl _ | (go_light; repeat (first | (with_reducible exact Kept.refl _) | (with_reducible assumption) | (with_reducible refine Kept.alloc ?_ _ _) | (with_reducible refine Kept.drew ?_) | (with_reducible refine Kept.drewN ?_ _) | ((with_reducible refine Kept.setCell ?_ ?_ _); rotate_left; focus (first | (simp; done) | (simp; omega))) | refine Kept.trans ?_ (by assumption)))) k))
  have KK := Lib.hid (KK.out.trans (Kept.trans (b := _) (by first | exact Kept.refl _ | (go_light; repeat (first | (with_reducible exact Kept.refl _) | (with_reducible assumption) | (with_reducible refine Kept.alloc ?_ _ _) | (with_reducible refine Kept.drew ?_) | (with_reducible refine Kept.drewN ?_ _) | ((with_reducible refine Kept.setCell ?_ ?_ _); rotate_left; focus (first | (simp; done) | (simp; omega))) | refine Kept.trans ?_ (by assumption)))) k))
  clear k a0 a1 a2 a3 a4 a5 a6 a7 a8 a9 a10 a11 a12 lz
  obtain ⟨a0, a1, a2, a3, a4, a5, a6, a7, a8, a9, a10, a11, a12⟩ := TT.out.a
  have lz := lt_of_cell a0
  go_wp2_with fail
  refine (p_store M B 34 sL 14 65538 _ IM.out.mem (by first | decide | (rw [cntL]; decide)) (by first | decide | (rw [cntL]; decide))).mono ?_
  rintro e v25 ⟨rfl, pm, pb⟩
  have hbB : b ≠ B ∧ b + 1 ≠ B ∧ b + 1 + 1 ≠ B ∧ w.heap.size ≤ B := by omega
  have TT := Lib.hid (TT.out.but pb hbB.1 hbB.2.1 hbB.2.2.1)
  have KK := Lib.hid (((KK.out.but _).trans pb (fun _ _ h => h)).kept (fun i hi e => by have e : i = B := e; omega))
  have IM : Hid (In _ M B sM v25) := Lib.hid ((IM.out.put (P := B) pm (pb.mono fun _ _ h => .inr h) IM.out.lB).lit worM)
  clear pm pb hbB a0 a1 a2 a3 a4 a5 a6 a7 a8 a9 a10 a11 a12 lz
  obtain ⟨a0, a1, a2, a3, a4, a5, a6, a7, a8, a9, a10, a11, a12⟩ := TT.out.a
  have lz := lt_of_cell a0
  go_wp2_with fail
  refine (lev0 IM.out wfM 0 (by unfold I64; omega) [1] toldM.1).mono ?_
  rintro e v26 ⟨aa, cc, rfl, k, own⟩
  have OW := Lib.hid own
  clear own
  have TT := Lib.hid (TT.out.kept (Kept.trans (b := _) (by first | exact Kept.refl _ | (go_light; repeat (first | (with_reducible exact Kept.refl _) | (with_reducible assumption) | (with_reducible refine Kept.alloc ?_ _ _) | (with_reducible refine Kept.drew ?_) | (with_reducible refine Kept.drewN ?_ _) | ((with_reducible refine Kept.setCell ?_ ?_ _); rotate_left; focus (first | (simp; done) | (simp; omega))) | refine Kept.trans ?_ (by assumption)))) k))
  have KK := Lib.hid (KK.out.trans (Kept.trans (b := _) (by first | exact Kept.refl _ | (go_light; repeat (first | (with_reducible exact Kept.refl _) | (with_reducible assumption) | (with_reducible refine Kept.alloc ?_ _ _) | (with_reducible refine Kept.drew ?_) | (with_reducible refine Kept.drewN ?_ _) | ((with_reducible refine Kept.setCell ?_ ?_ _); rotate_left; focus (first | (simp; done) | (simp; omega))) | refine Kept.trans ?_ (by assumption)))) k))
  have IM := Lib.hid (IM.out.grow (Kept.trans (b := _) (by first | exact Kept.refl _ | (go_light; repeat (first | (with_reducible exact Kept.refl _) | (with_reducible assumption) | (with_reducible refine Kept.alloc ?_ _ _) | (with_reducible refine Kept.drew ?_) | (with_reducible refine Kept.drewN ?_ _) | ((with_reducible refine Kept.setCell ?_ ?_ _); rotate_left; focus (first | (simp; done) | (simp; omega))) | refine Kept.trans ?_ (by assumption)))) k))
  clear k a0 a1 a2 a3 a4 a5 a6 a7 a8 a9 a10 a11 a12 lz
  obtain ⟨a0, a1, a2, a3, a4, a5, a6, a7, a8, a9, a10, a11, a12⟩ := TT.out.a
  have lz := lt_of_cell a0
  go_wp2_with fail
  refine (same_one (own_keep OW.out ((Kept.refl _).alloc _ _)) (cell_new _ _ _ _ 0 rfl)).mono ?_
  rintro e v27 ⟨rfl, k⟩
  clear OW
  have TT := Lib.hid (TT.out.kept (Kept.trans (b := _) (by first | exact Kept.refl _ | (go_light; repeat (first | (with_reducible exact Kept.refl _) | (with_reducible assumption) | (with_reducible refine Kept.alloc ?_ _ _) | (with_reducible refine Kept.drew ?_) | (with_reducible refine Kept.drewN ?_ _) | ((with_reducible refine Kept.setCell ?_ ?_ _); rotate_left; focus (first | (simp; done) | (simp; omega))) | refine Kept.trans ?_ (by assumption)))) k))
  have KK := Lib.hid (KK.out.trans (Kept.trans (b := _) (by first | exact Kept.refl _ | (go_light; repeat (first | (with_reducible exact Kept.refl _) | (with_reducible assumption) | (with_reducible refine Kept.alloc ?_ _ _) | (with_reducible refine Kept.drew ?_) | (with_reducible refine Kept.drewN ?_ _) | ((with_reducible refine Kept.setCell ?_ ?_ _); rotate_left; focus (first | (simp; done) | (simp; omega))) | refine Kept.trans ?_ (by assumption)))) k))
  have IM := Lib.hid (IM.out.grow (Kept.trans (b := _) (by first | exact Kept.refl _ | (go_light; repeat (first | (with_reducible exact Kept.refl _) | (with_reducible assumption) | (with_reducible refine Kept.alloc ?_ _ _) | (with_reducible refine Kept.drew ?_) | (with_reducible refine Kept.drewN ?_ _) | ((with_reducible refine Kept.setCell ?_ ?_ _); rotate_left; focus (first | (simp; done) | (simp; omega))) | refine Kept.trans ?_ (by assumption)))) k))
  clear k a0 a1 a2 a3 a4 a5 a6 a7 a8 a9 a10 a11 a12 lz
  obtain ⟨a0, a1, a2, a3, a4, a5, a6, a7, a8, a9, a10, a11, a12⟩ := TT.out.a
  have lz := lt_of_cell a0
  go_wp2_with fail
  refine (liv0 IM.out wfM [1] toldM.2.1).mono ?_
  rintro e v28 ⟨aa, cc, rfl, k, own⟩
  have OW := Lib.hid own
  clear own
  have TT := Lib.hid (TT.out.kept (Kept.trans (b := _) (by first | exact Kept.refl _ | (go_light; repeat (first | (with_reducible exact Kept.refl _) | (with_reducible assumption) | (with_reducible refine Kept.alloc ?_ _ _) | (with_reducible refine Kept.drew ?_) | (with_reducible refine Kept.drewN ?_ _) | ((with_reducible refine Kept.setCell ?_ ?_ _); rotate_left; focus (first | (simp; done) | (simp; omega))) | refine Kept.trans ?_ (by assumption)))) k))
  have KK := Lib.hid (KK.out.trans (Kept.trans (b := _) (by first | exact Kept.refl _ | (go_light; repeat (first | (with_reducible exact Kept.refl _) | (with_reducible assumption) | (with_reducible refine Kept.alloc ?_ _ _) | (with_reducible refine Kept.drew ?_) | (with_reducible refine Kept.drewN ?_ _) | ((with_reducible refine Kept.setCell ?_ ?_ _); rotate_left; focus (first | (simp; done) | (simp; omega))) | refine Kept.trans ?_ (by assumption)))) k))
  have IM := Lib.hid (IM.out.grow (Kept.trans (b := _) (by first | exact Kept.refl _ | (go_light; repeat (first | (with_reducible exact Kept.refl _) | (with_reducible assumption) | (with_reducible refine Kept.alloc ?_ _ _) | (with_reducible refine Kept.drew ?_) | (with_reducible refine Kept.drewN ?_ _) | ((with_reducible refine Kept.setCell ?_ ?_ _); rotate_left; focus (first | (simp; done) | (simp; omega))) | refine Kept.trans ?_ (by assumption)))) k))
  clear k a0 a1 a2 a3 a4 a5 a6 a7 a8 a9 a10 a11 a12 lz
  obtain ⟨a0, a1, a2, a3, a4, a5, a6, a7, a8, a9, a10, a11, a12⟩ := TT.out.a
  have lz := lt_of_cell a0
  go_wp2_with fail
  refine (same_one (own_keep OW.out ((Kept.refl _).alloc _ _)) (cell_new _ _ _ _ 0 rfl)).mono ?_
  rintro e v29 ⟨rfl, k⟩
  clear OW
  have TT := Lib.hid (TT.out.kept (Kept.trans (b := _) (by first | exact Kept.refl _ | (go_light; repeat (first | (with_reducible exact Kept.refl _) | (with_reducible assumption) | (with_reducible refine Kept.alloc ?_ _ _) | (with_reducible refine Kept.drew ?_) | (with_reducible refine Kept.drewN ?_ _) | ((with_reducible refine Kept.setCell ?_ ?_ _); rotate_left; focus (first | (simp; done) | (simp; omega))) | refine Kept.trans ?_ (by assumption)))) k))
  have KK := Lib.hid (KK.out.trans (Kept.trans (b := _) (by first | exact Kept.refl _ | (go_light; repeat (first | (with_reducible exact Kept.refl _) | (with_reducible assumption) | (with_reducible refine Kept.alloc ?_ _ _) | (with_reducible refine Kept.drew ?_) | (with_reducible refine Kept.drewN ?_ _) | ((with_reducible refine Kept.setCell ?_ ?_ _); rotate_left; focus (first | (simp; done) | (simp; omega))) | refine Kept.trans ?_ (by assumption)))) k))
  have IM := Lib.hid (IM.out.grow (Kept.trans (b := _) (by first | exact Kept.refl _ | (go_light; repeat (first | (with_reducible exact Kept.refl _) | (with_reducible assumption) | (with_reducible refine Kept.alloc ?_ _ _) | (with_reducible refine Kept.drew ?_) | (with_reducible refine Kept.drewN ?_ _) | ((with_reducible refine Kept.setCell ?_ ?_ _); rotate_left; focus (first | (simp; done) | (simp; omega))) | refine Kept.trans ?_ (by assumption)))) k))
  clear k a0 a1 a2 a3 a4 a5 a6 a7 a8 a9 a10 a11 a12 lz
  obtain ⟨a0, a1, a2, a3, a4, a5, a6, a7, a8, a9, a10, a11, a12⟩ := TT.out.a
  have lz := lt_of_cell a0
  go_wp2_with fail
  refine (lev0 IM.out wfM 1 (by unfold I64; omega) [] toldM.2.2).mono ?_
  rintro e v30 ⟨aa, cc, rfl, k, -⟩
  have TT := Lib.hid (TT.out.kept (Kept.trans (b := _) (by first | exact Kept.refl _ | (go_light; repeat (first | (with_reducible exact Kept.refl _) | (with_reducible assumption) | (with_reducible refine Kept.alloc ?_ _ _) | (with_reducible refine Kept.drew ?_) | (with_reducible refine Kept.drewN ?_ _) | ((with_reducible refine Kept.setCell ?_ ?_ _); rotate_left; focus (first | (simp; done) | (simp; omega))) | refine Kept.trans ?_ (by assumption)))) k))
  have KK := Lib.hid (KK.out.trans (Kept.trans (b := _) (by first | exact Kept.refl _ | (go_light; repeat (first | (with_reducible exact Kept.refl _) | (with_reducible assumption) | (with_reducible refine Kept.alloc ?_ _ _) | (with_reducible refine Kept.drew ?_) | (with_reducible refine Kept.drewN ?_ _) | ((with_reducible refine Kept.setCell ?_ ?_ _); rotate_left; focus (first | (simp; done) | (simp; omega))) | refine Kept.trans ?_ (by assumption)))) k))
  have IM := Lib.hid (IM.out.grow (Kept.trans (b := _) (by first | exact Kept.refl _ | (go_light; repeat (first | (with_reducible exact Kept.refl _) | (with_reducible assumption) | (with_reducible refine Kept.alloc ?_ _ _) | (with_reducible refine Kept.drew ?_) | (with_reducible refine Kept.drewN ?_ _) | ((with_reducible refine Kept.setCell ?_ ?_ _); rotate_left; focus (first | (simp; done) | (simp; omega))) | refine Kept.trans ?_ (by assumption)))) k))
  clear k a0 a1 a2 a3 a4 a5 a6 a7 a8 a9 a10 a11 a12 lz
  obtain ⟨a0, a1, a2, a3, a4, a5, a6, a7, a8, a9, a10, a11, a12⟩ := TT.out.a
  have lz := lt_of_cell a0
  go_wp2_with fail
  refine (p_store M B 34 sM 26 9223372036854775808 _ IM.out.mem (by first | decide | (rw [cntM]; decide)) (by first | decide | (rw [cntM]; decide))).mono ?_
  rintro e v31 ⟨rfl, pm, pb⟩
  have hbB : b ≠ B ∧ b + 1 ≠ B ∧ b + 1 + 1 ≠ B ∧ w.heap.size ≤ B := by omega
  have TT := Lib.hid (TT.out.but pb hbB.1 hbB.2.1 hbB.2.2.1)
  have KK := Lib.hid (((KK.out.but _).trans pb (fun _ _ h => h)).kept (fun i hi e => by have e : i = B := e; omega))
  have IM : Hid (In _ M B sN v31) := Lib.hid ((IM.out.put (P := B) pm (pb.mono fun _ _ h => .inr h) IM.out.lB).lit worN)
  clear pm pb hbB a0 a1 a2 a3 a4 a5 a6 a7 a8 a9 a10 a11 a12 lz
  obtain ⟨a0, a1, a2, a3, a4, a5, a6, a7, a8, a9, a10, a11, a12⟩ := TT.out.a
  have lz := lt_of_cell a0
  go_wp2_with fail
  refine (lev0 IM.out wfN 0 (by unfold I64; omega) [1] toldN.1).mono ?_
  rintro e v32 ⟨aa, cc, rfl, k, own⟩
  have OW := Lib.hid own
  clear own
  have TT := Lib.hid (TT.out.kept (Kept.trans (b := _) (by first | exact Kept.refl _ | (go_light; repeat (first | (with_reducible exact Kept.refl _) | (with_reducible assumption) | (with_reducible refine Kept.alloc ?_ _ _) | (with_reducible refine Kept.drew ?_) | (with_reducible refine Kept.drewN ?_ _) | ((with_reducible refine Kept.setCell ?_ ?_ _); rotate_left; focus (first | (simp; done) | (simp; omega))) | refine Kept.trans ?_ (by assumption)))) k))
  have KK := Lib.hid (KK.out.trans (Kept.trans (b := _) (by first | exact Kept.refl _ | (go_light; repeat (first | (with_reducible exact Kept.refl _) | (with_reducible assumption) | (with_reducible refine Kept.alloc ?_ _ _) | (with_reducible refine Kept.drew ?_) | (with_reducible refine Kept.drewN ?_ _) | ((with_reducible refine Kept.setCell ?_ ?_ _); rotate_left; focus (first | (simp; done) | (simp; omega))) | refine Kept.trans ?_ (by assumption)))) k))
  have IM := Lib.hid (IM.out.grow (Kept.trans (b := _) (by first | exact Kept.refl _ | (go_light; repeat (first | (with_reducible exact Kept.refl _) | (with_reducible assumption) | (with_reducible refine Kept.alloc ?_ _ _) | (with_reducible refine Kept.drew ?_) | (with_reducible refine Kept.drewN ?_ _) | ((with_reducible refine Kept.setCell ?_ ?_ _); rotate_left; focus (first | (simp; done) | (simp; omega))) | refine Kept.trans ?_ (by assumption)))) k))
  clear k a0 a1 a2 a3 a4 a5 a6 a7 a8 a9 a10 a11 a12 lz
  obtain ⟨a0, a1, a2, a3, a4, a5, a6, a7, a8, a9, a10, a11, a12⟩ := TT.out.a
  have lz := lt_of_cell a0
  go_wp2_with fail
  refine (same_one (own_keep OW.out ((Kept.refl _).alloc _ _)) (cell_new _ _ _ _ 0 rfl)).mono ?_
  rintro e v33 ⟨rfl, k⟩
  clear OW
  have TT := Lib.hid (TT.out.kept (Kept.trans (b := _) (by first | exact Kept.refl _ | (go_light; repeat (first | (with_reducible exact Kept.refl _) | (with_reducible assumption) | (with_reducible refine Kept.alloc ?_ _ _) | (with_reducible refine Kept.drew ?_) | (with_reducible refine Kept.drewN ?_ _) | ((with_reducible refine Kept.setCell ?_ ?_ _); rotate_left; focus (first | (simp; done) | (simp; omega))) | refine Kept.trans ?_ (by assumption)))) k))
  have KK := Lib.hid (KK.out.trans (Kept.trans (b := _) (by first | exact Kept.refl _ | (go_light; repeat (first | (with_reducible exact Kept.refl _) | (with_reducible assumption) | (with_reducible refine Kept.alloc ?_ _ _) | (with_reducible refine Kept.drew ?_) | (with_reducible refine Kept.drewN ?_ _) | ((with_reducible refine Kept.setCell ?_ ?_ _); rotate_left; focus (first | (simp; done) | (simp; omega))) | refine Kept.trans ?_ (by assumption)))) k))
  have IM := Lib.hid (IM.out.grow (Kept.trans (b := _) (by first | exact Kept.refl _ | (go_light; repeat (first | (with_reducible exact Kept.refl _) | (with_reducible assumption) | (with_reducible refine Kept.alloc ?_ _ _) | (with_reducible refine Kept.drew ?_) | (with_reducible refine Kept.drewN ?_ _) | ((with_reducible refine Kept.setCell ?_ ?_ _); rotate_left; focus (first | (simp; done) | (simp; omega))) | refine Kept.trans ?_ (by assumption)))) k))
  clear k a0 a1 a2 a3 a4 a5 a6 a7 a8 a9 a10 a11 a12 lz
  obtain ⟨a0, a1, a2, a3, a4, a5, a6, a7, a8, a9, a10, a11, a12⟩ := TT.out.a
  have lz := lt_of_cell a0
  go_wp2_with fail
  refine (liv0 IM.out wfN [] toldN.2).mono ?_
  rintro e v34 ⟨aa, cc, rfl, k, -⟩
  have TT := Lib.hid (TT.out.kept (Kept.trans (b := _) (by first | exact Kept.refl _ | (go_light; repeat (first | (with_reducible exact Kept.refl _) | (with_reducible assumption) | (with_reducible refine Kept.alloc ?_ _ _) | (with_reducible refine Kept.drew ?_) | (with_reducible refine Kept.drewN ?_ _) | ((with_reducible refine Kept.setCell ?_ ?_ _); rotate_left; focus (first | (simp; done) | (simp; omega))) | refine Kept.trans ?_ (by assumption)))) k))
  have KK := Lib.hid (KK.out.trans (Kept.trans (b := _) (by first | exact Kept.refl _ | (go_light; repeat (first | (with_reducible exact Kept.refl _) | (with_reducible assumption) | (with_reducible refine Kept.alloc ?_ _ _) | (with_reducible refine Kept.drew ?_) | (with_reducible refine Kept.drewN ?_ _) | ((with_reducible refine Kept.setCell ?_ ?_ _); rotate_left; focus (first | (simp; done) | (simp; omega))) | refine Kept.trans ?_ (by assumption)))) k))
  have IM := Lib.hid (IM.out.grow (Kept.trans (b := _) (by first | exact Kept.refl _ | (go_light; repeat (first | (with_reducible exact Kept.refl _) | (with_reducible assumption) | (with_reducible refine Kept.alloc ?_ _ _) | (with_reducible refine Kept.drew ?_) | (with_reducible refine Kept.drewN ?_ _) | ((with_reducible refine Kept.setCell ?_ ?_ _); rotate_left; focus (first | (simp; done) | (simp; omega))) | refine Kept.trans ?_ (by assumption)))) k))
  clear k a0 a1 a2 a3 a4 a5 a6 a7 a8 a9 a10 a11 a12 lz
  obtain ⟨a0, a1, a2, a3, a4, a5, a6, a7, a8, a9, a10, a11, a12⟩ := TT.out.a
  have lz := lt_of_cell a0
  go_wp2_with fail
  refine (awake_any _).mono ?_
  rintro e v35 ⟨rfl, k⟩
  have TT := Lib.hid (TT.out.kept (Kept.trans (b := _) (by first | exact Kept.refl _ | (go_light; repeat (first | (with_reducible exact Kept.refl _) | (with_reducible assumption) | (with_reducible refine Kept.alloc ?_ _ _) | (with_reducible refine Kept.drew ?_) | (with_reducible refine Kept.drewN ?_ _) | ((with_reducible refine Kept.setCell ?_ ?_ _); rotate_left; focus (first | (simp; done) | (simp; omega))) | refine Kept.trans ?_ (by assumption)))) k))
  have KK := Lib.hid (KK.out.trans (Kept.trans (b := _) (by first | exact Kept.refl _ | (go_light; repeat (first | (with_reducible exact Kept.refl _) | (with_reducible assumption) | (with_reducible refine Kept.alloc ?_ _ _) | (with_reducible refine Kept.drew ?_) | (with_reducible refine Kept.drewN ?_ _) | ((with_reducible refine Kept.setCell ?_ ?_ _); rotate_left; focus (first | (simp; done) | (simp; omega))) | refine Kept.trans ?_ (by assumption)))) k))
  clear k a0 a1 a2 a3 a4 a5 a6 a7 a8 a9 a10 a11 a12 lz
  obtain ⟨a0, a1, a2, a3, a4, a5, a6, a7, a8, a9, a10, a11, a12⟩ := TT.out.a
  have lz := lt_of_cell a0
  go_wp2_with fail
  refine (whose_any 27 1 5 (by decide +kernel) _).mono ?_
  rintro e v36 ⟨rfl, k⟩
  have TT := Lib.hid (TT.out.kept (Kept.trans (b := _) (by first | exact Kept.refl _ | (go_light; repeat (first | (with_reducible exact Kept.refl _) | (with_reducible assumption) | (with_reducible refine Kept.alloc ?_ _ _) | (with_reducible refine Kept.drew ?_) | (with_reducible refine Kept.drewN ?_ _) | ((with_reducible refine Kept.setCell ?_ ?_ _); rotate_left; focus (first | (simp; done) | (simp; omega))) | refine Kept.trans ?_ (by assumption)))) k))
  have KK := Lib.hid (KK.out.trans (Kept.trans (b := _) (by first | exact Kept.refl _ | (go_light; repeat (first | (with_reducible exact Kept.refl _) | (with_reducible assumption) | (with_reducible refine Kept.alloc ?_ _ _) | (with_reducible refine Kept.drew ?_) | (with_reducible refine Kept.drewN ?_ _) | ((with_reducible refine Kept.setCell ?_ ?_ _); rotate_left; focus (first | (simp; done) | (simp; omega))) | refine Kept.trans ?_ (by assumption)))) k))
  clear k a0 a1 a2 a3 a4 a5 a6 a7 a8 a9 a10 a11 a12 lz
  obtain ⟨a0, a1, a2, a3, a4, a5, a6, a7, a8, a9, a10, a11, a12⟩ := TT.out.a
  have lz := lt_of_cell a0
  go_wp2_with fail
  refine (whose_any 14 (-1) 4 (by decide +kernel) _).mono ?_
  rintro e v37 ⟨rfl, k⟩
  have TT := Lib.hid (TT.out.kept (Kept.trans (b := _) (by first | exact Kept.refl _ | (go_light; repeat (first | (with_reducible exact Kept.refl _) | (with_reducible assumption) | (with_reducible refine Kept.alloc ?_ _ _) | (with_reducible refine Kept.drew ?_) | (with_reducible refine Kept.drewN ?_ _) | ((with_reducible refine Kept.setCell ?_ ?_ _); rotate_left; focus (first | (simp; done) | (simp; omega))) | refine Kept.trans ?_ (by assumption)))) k))
  have KK := Lib.hid (KK.out.trans (Kept.trans (b := _) (by first | exact Kept.refl _ | (go_light; repeat (first | (with_reducible exact Kept.refl _) | (with_reducible assumption) | (with_reducible refine Kept.alloc ?_ _ _) | (with_reducible refine Kept.drew ?_) | (with_reducible refine Kept.drewN ?_ _) | ((with_reducible refine Kept.setCell ?_ ?_ _); rotate_left; focus (first | (simp; done) | (simp; omega))) | refine Kept.trans ?_ (by assumption)))) k))
  clear k a0 a1 a2 a3 a4 a5 a6 a7 a8 a9 a10 a11 a12 lz
  obtain ⟨a0, a1, a2, a3, a4, a5, a6, a7, a8, a9, a10, a11, a12⟩ := TT.out.a
  have lz := lt_of_cell a0
  go_wp2_with fail
  refine (refused_any _).mono ?_
  rintro e v38 ⟨rfl, k⟩
  have TT := Lib.hid (TT.out.kept (Kept.trans (b := _) (by first | exact Kept.refl _ | (go_light; repeat (first | (with_reducible exact Kept.refl _) | (with_reducible assumption) | (with_reducible refine Kept.alloc ?_ _ _) | (with_reducible refine Kept.drew ?_) | (with_reducible refine Kept.drewN ?_ _) | ((with_reducible refine Kept.setCell ?_ ?_ _); rotate_left; focus (first | (simp; done) | (simp; omega))) | refine Kept.trans ?_ (by assumption)))) k))
  have KK := Lib.hid (KK.out.trans (Kept.trans (b := _) (by first | exact Kept.refl _ | (go_light; repeat (first | (with_reducible exact Kept.refl _) | (with_reducible assumption) | (with_reducible refine Kept.alloc ?_ _ _) | (with_reducible refine Kept.drew ?_) | (with_reducible refine Kept.drewN ?_ _) | ((with_reducible refine Kept.setCell ?_ ?_ _); rotate_left; focus (first | (simp; done) | (simp; omega))) | refine Kept.trans ?_ (by assumption)))) k))
  clear k a0 a1 a2 a3 a4 a5 a6 a7 a8 a9 a10 a11 a12 lz
  obtain ⟨a0, a1, a2, a3, a4, a5, a6, a7, a8, a9, a10, a11, a12⟩ := TT.out.a
  have lz := lt_of_cell a0
  go_wp2
  go_ret
  exact ⟨rfl, KK.out⟩
end Go.Proofs.YtejiogggocnldaaGreat.Tw
