/- limbo's parts and Fits, the program's. Written by gen15r.py. -/
import Derived.Test.YtejiogggocnldaaGreatG10
import Derived.Test.YtejiogggocnldaaGreatG15
import Derived.Test.YtejiogggocnldaaGreatG16
import Derived.Deep.AppendSrc
import Derived.Deep.RegionLaw
import Derived.Deep.RegionHeld3
import Derived.WalkKit
set_option linter.unusedVariables false
set_option linter.unusedSimpArgs false

namespace Go.Proofs.YtejiogggocnldaaGreat.Tw
set_option maxRecDepth 20000
open Go.RowKit
open Wo (St acc wordAt PMem RefIs)
open Sk (Stk Arn idx Wd fitsA fitsA_ok pfitsA_any)

def lparts (t : Twr) : List Spn := [(t.A.F.T, 1), (t.A.F.K, t.A.F.N), (t.A.G, t.A.F.N), (t.A.V, 1), (t.E.T, 1), (t.E.K, t.E.N), (t.P, 3)]
theorem lparts_len (t : Twr) : (lparts t).length = 7 := rfl
theorem spat_new (w : World) (g : Nat) (ty : TypeId) (hg : g = w.heap.size) (t : Twr) : SpAt (w.alloc (.cells #[.int .i64 t.A.F.T, .int .i64 1, .int .i64 t.A.F.K, .int .i64 t.A.F.N, .int .i64 t.A.G, .int .i64 t.A.F.N, .int .i64 t.A.V, .int .i64 1, .int .i64 t.E.T, .int .i64 1, .int .i64 t.E.K, .int .i64 t.E.N, .int .i64 t.P, .int .i64 3] ty)) g (lparts t) := by
  refine ⟨fun i hi => ?_, fun i hi => ?_⟩
  · rw [cell_new _ _ _ _ _ hg]
    have : i = 0 ∨ i = 1 ∨ i = 2 ∨ i = 3 ∨ i = 4 ∨ i = 5 ∨ i = 6 := by have : i < 7 := hi; omega
    rcases this with rfl | rfl | rfl | rfl | rfl | rfl | rfl <;> rfl
  · rw [cell_new _ _ _ _ _ hg]
    have : i = 0 ∨ i = 1 ∨ i = 2 ∨ i = 3 ∨ i = 4 ∨ i = 5 ∨ i = 6 := by have : i < 7 := hi; omega
    rcases this with rfl | rfl | rfl | rfl | rfl | rfl | rfl <;> rfl
set_option maxHeartbeats 2000000 in
theorem lparts_any (t : Twr) (w : World) : Calls Tryz.prog 148 #[limV t] w fun e w' => ∃ g, e = .returned (.slice (some ⟨g, 0, none⟩) 7 7) ∧ SpAt w' g (lparts t) ∧ Kept w w' := by
  go_enter Tryz.func148, Tryz.ntmps148
  go_wp2
  go_ret
  exact ⟨_, rfl, spat_new _ _ _ (by simp) t, by (go_light; repeat (first | (with_reducible exact Kept.refl _) | (with_reducible assumption) | (with_reducible refine Kept.alloc ?_ _ _) | (with_reducible refine Kept.drew ?_) | (with_reducible refine Kept.drewN ?_ _) | ((with_reducible refine Kept.setCell ?_ ?_ _); rotate_left; focus (first | (simp; done) | (simp; omega))) | refine Kept.trans ?_ (by assumption)))⟩
set_option maxHeartbeats 400000 in
theorem lwithin_yes (f m n : Int) (m0 : 0 ≤ m) (m1 : m ≤ 10000) (n0 : 1 ≤ n) (n1 : n ≤ 4096) (h0 : 0 ≤ f) (h1 : f ≤ n - m) (w : World) : Calls Tryz.prog 146 #[.agg #[.int .i64 f, .int .i64 m], .int .i64 n] w fun e w' => e = .returned (.bool true) ∧ Kept w w' := by
  go_enter Tryz.func146, Tryz.ntmps146
  go_wp2
  go_ret
  exact ⟨rfl, by (go_light; repeat (first | (with_reducible exact Kept.refl _) | (with_reducible assumption) | (with_reducible refine Kept.alloc ?_ _ _) | (with_reducible refine Kept.drew ?_) | (with_reducible refine Kept.drewN ?_ _) | ((with_reducible refine Kept.setCell ?_ ?_ _); rotate_left; focus (first | (simp; done) | (simp; omega))) | refine Kept.trans ?_ (by assumption)))⟩
set_option maxHeartbeats 400000 in
theorem lwithin_lo (f m n : Int) (m0 : 0 ≤ m) (m1 : m ≤ 10000) (n0 : 1 ≤ n) (n1 : n ≤ 4096) (h0 : f < 0) (w : World) : Calls Tryz.prog 146 #[.agg #[.int .i64 f, .int .i64 m], .int .i64 n] w fun e w' => e = .returned (.bool false) ∧ Kept w w' := by
  go_enter Tryz.func146, Tryz.ntmps146
  go_wp2
  go_ret
  exact ⟨rfl, by (go_light; repeat (first | (with_reducible exact Kept.refl _) | (with_reducible assumption) | (with_reducible refine Kept.alloc ?_ _ _) | (with_reducible refine Kept.drew ?_) | (with_reducible refine Kept.drewN ?_ _) | ((with_reducible refine Kept.setCell ?_ ?_ _); rotate_left; focus (first | (simp; done) | (simp; omega))) | refine Kept.trans ?_ (by assumption)))⟩
set_option maxHeartbeats 400000 in
theorem lwithin_hi (f m n : Int) (m0 : 0 ≤ m) (m1 : m ≤ 10000) (n0 : 1 ≤ n) (n1 : n ≤ 4096) (h0 : 0 ≤ f) (h1 : n - m < f) (w : World) : Calls Tryz.prog 146 #[.agg #[.int .i64 f, .int .i64 m], .int .i64 n] w fun e w' => e = .returned (.bool false) ∧ Kept w w' := by
  have d : decide (f ≤ n - m) = false := by simp; omega
  go_enter Tryz.func146, Tryz.ntmps146
  go_wp2
  go_ret
  exact ⟨rfl, by (go_light; repeat (first | (with_reducible exact Kept.refl _) | (with_reducible assumption) | (with_reducible refine Kept.alloc ?_ _ _) | (with_reducible refine Kept.drew ?_) | (with_reducible refine Kept.drewN ?_ _) | ((with_reducible refine Kept.setCell ?_ ?_ _); rotate_left; focus (first | (simp; done) | (simp; omega))) | refine Kept.trans ?_ (by assumption)))⟩
theorem lwithin_no (f m n : Int) (m0 : 0 ≤ m) (m1 : m ≤ 10000) (n0 : 1 ≤ n) (n1 : n ≤ 4096) (h : f < 0 ∨ n - m < f) (w : World) : Calls Tryz.prog 146 #[.agg #[.int .i64 f, .int .i64 m], .int .i64 n] w fun e w' => e = .returned (.bool false) ∧ Kept w w' := by
  by_cases h0 : f < 0
  · exact lwithin_lo f m n m0 m1 n0 n1 h0 w
  · exact lwithin_hi f m n m0 m1 n0 n1 (by omega) (by omega) w
noncomputable def apD (l : List Spn) : Bool := @decide (apB l) (Classical.propDecidable _)
theorem apD_iff (l : List Spn) : apD l = true ↔ apB l := by unfold apD; simp
theorem aparts_is {l : List Spn} {w : World} {e : Ending} {w' : World} (h : Aparts l w e w') : e = .returned (.bool (apD l)) ∧ Kept w w' := by
  obtain ⟨b, h1, h2, h3⟩ := h
  refine ⟨?_, h3⟩
  rw [h1]
  have : b = apD l := by rw [Bool.eq_iff_iff, h2, apD_iff]
  rw [this]
structure LFit (t : Twr) (n : Int) : Prop where
  a : fitsA t.A n = 0
  e : Ep.fitsE t.E n = 0
  p0 : 0 ≤ t.P
  p1 : t.P ≤ n - 3
  ap : apB (lparts t)
theorem lparts_ok {t : Twr} {n : Int} (ha : fitsA t.A n = 0) (he : Ep.fitsE t.E n = 0) (p0 : 0 ≤ t.P) (p1 : t.P ≤ n - 3) : ∀ s ∈ lparts t, Spn.Ok s := by
  obtain ⟨hA, n1, n2, _⟩ := fitsA_ok ha
  obtain ⟨hE, e1, _, _⟩ := Ep.fitsE_ok he
  have h1 := hA.F.N1
  have h2 := hA.F.K1
  have h3 := hA.F.K2
  have h4 := hA.F.T1
  have h5 := hA.F.T2
  have h6 := hA.G1
  have h7 := hA.G2
  have h8 := hA.V1
  have h9 := hA.V2
  have g1 := hE.N1
  have g2 := hE.K1
  have g3 := hE.K2
  have g4 := hE.T1
  have g5 := hE.T2
  intro s hs
  simp only [lparts, List.mem_cons, List.not_mem_nil, or_false] at hs
  unfold Spn.Ok
  rcases hs with rfl | rfl | rfl | rfl | rfl | rfl | rfl <;> (dsimp only; omega)
set_option maxHeartbeats 2000000 in
theorem lfits_a (t : Twr) (n : Int) (er : Int) (h : er ≠ 0) (ha : fitsA t.A n = er) (w : World) : Calls Tryz.prog 65 #[limV t, .int .i64 n] w fun e w' => e = .returned (.int .i64 er) ∧ Kept w w' := by
  have AF := fun W => Lib.hid (show Calls Tryz.prog 144 #[.agg #[.int .i64 t.A.F.T, .int .i64 t.A.F.K, .int .i64 t.A.F.N, .int .i64 t.A.G, .int .i64 t.A.V, .int .i64 t.A.L], .int .i64 n] W fun e w' => e = .returned (.int .i64 er) ∧ Kept W w' from by have := pfitsA_any t.A n W; rwa [ha] at this)
  have hb : (er != 0) = true := by simpa using h
  clear ha h
  go_enter Tryz.func65, Tryz.ntmps65
  go_wp2_with fail
  refine ((AF _).out).mono ?_
  rintro e w1 ⟨rfl, k1⟩
  have KK : Hid (Kept w w1) := Lib.hid (((Kept.refl w).alloc _ _).trans k1)
  have LL := Lib.hid (LB.kept (LB.new w w.heap.size 29 rfl t) k1)
  clear k1
  obtain ⟨l0, l1, l2, l3, l4, l5, l6, l7, l8, l9⟩ := LL.out
  have lz := lt_of_cell l0
  go_wp2
  go_ret
  exact ⟨rfl, KK.out⟩
set_option maxHeartbeats 2000000 in
theorem lfits_e (t : Twr) (n : Int) (ha : fitsA t.A n = 0) (er : Int) (h : er ≠ 0) (he : Ep.fitsE t.E n = er) (w : World) : Calls Tryz.prog 65 #[limV t, .int .i64 n] w fun e w' => e = .returned (.int .i64 er) ∧ Kept w w' := by
  have AF := fun W => Lib.hid (show Calls Tryz.prog 144 #[.agg #[.int .i64 t.A.F.T, .int .i64 t.A.F.K, .int .i64 t.A.F.N, .int .i64 t.A.G, .int .i64 t.A.V, .int .i64 t.A.L], .int .i64 n] W fun e w' => e = .returned (.int .i64 0) ∧ Kept W w' from by have := pfitsA_any t.A n W; rwa [ha] at this)
  have EF := fun W => Lib.hid (show Calls Tryz.prog 145 #[.agg #[.int .i64 t.E.T, .int .i64 t.E.K, .int .i64 t.E.N], .int .i64 n] W fun e w' => e = .returned (.int .i64 er) ∧ Kept W w' from by have := Ep.pfits_any t.E n W; rwa [he] at this)
  have hb : (er != 0) = true := by simpa using h
  clear ha he h
  go_enter Tryz.func65, Tryz.ntmps65
  go_wp2_with fail
  refine ((AF _).out).mono ?_
  rintro e w1 ⟨rfl, k1⟩
  have KK : Hid (Kept w w1) := Lib.hid (((Kept.refl w).alloc _ _).trans k1)
  have LL := Lib.hid (LB.kept (LB.new w w.heap.size 29 rfl t) k1)
  clear k1
  obtain ⟨l0, l1, l2, l3, l4, l5, l6, l7, l8, l9⟩ := LL.out
  have lz := lt_of_cell l0
  go_wp2_with fail
  refine ((EF _).out).mono ?_
  rintro e w2 ⟨rfl, k2⟩
  have LL := Lib.hid (LL.out.kept (Kept.trans (b := _) (by first | exact Kept.refl _ | (go_light; repeat (first | (with_reducible exact Kept.refl _) | (with_reducible assumption) | (with_reducible refine Kept.alloc ?_ _ _) | (with_reducible refine Kept.drew ?_) | (with_reducible refine Kept.drewN ?_ _) | ((with_reducible refine Kept.setCell ?_ ?_ _); rotate_left; focus (first | (simp; done) | (simp; omega))) | refine Kept.trans ?_ (by assumption)))) k2))
  have KK : Hid (Kept w w2) := Lib.hid (KK.out.trans (Kept.trans (b := _) (by first | exact Kept.refl _ | (go_light; repeat (first | (with_reducible exact Kept.refl _) | (with_reducible assumption) | (with_reducible refine Kept.alloc ?_ _ _) | (with_reducible refine Kept.drew ?_) | (with_reducible refine Kept.drewN ?_ _) | ((with_reducible refine Kept.setCell ?_ ?_ _); rotate_left; focus (first | (simp; done) | (simp; omega))) | refine Kept.trans ?_ (by assumption)))) k2))
  clear k2 l0 l1 l2 l3 l4 l5 l6 l7 l8 l9 lz
  obtain ⟨l0, l1, l2, l3, l4, l5, l6, l7, l8, l9⟩ := LL.out
  have lz := lt_of_cell l0
  go_wp2
  go_ret
  exact ⟨rfl, KK.out⟩
set_option maxHeartbeats 2000000 in
theorem lfits_p (t : Twr) (n : Int) (ha : fitsA t.A n = 0) (he : Ep.fitsE t.E n = 0) (hp : t.P < 0 ∨ n - 3 < t.P) (w : World) : Calls Tryz.prog 65 #[limV t, .int .i64 n] w fun e w' => e = .returned (.int .i64 2) ∧ Kept w w' := by
  obtain ⟨_, n0, n1, _⟩ := fitsA_ok ha
  have AF := fun W => Lib.hid (show Calls Tryz.prog 144 #[.agg #[.int .i64 t.A.F.T, .int .i64 t.A.F.K, .int .i64 t.A.F.N, .int .i64 t.A.G, .int .i64 t.A.V, .int .i64 t.A.L], .int .i64 n] W fun e w' => e = .returned (.int .i64 0) ∧ Kept W w' from by have := pfitsA_any t.A n W; rwa [ha] at this)
  have EF := fun W => Lib.hid (show Calls Tryz.prog 145 #[.agg #[.int .i64 t.E.T, .int .i64 t.E.K, .int .i64 t.E.N], .int .i64 n] W fun e w' => e = .returned (.int .i64 0) ∧ Kept W w' from by have := Ep.pfits_any t.E n W; rwa [he] at this)
  have WN := fun W => Lib.hid (lwithin_no t.P 3 n (by decide) (by decide) n0 n1 hp W)
  clear ha he hp
  go_enter Tryz.func65, Tryz.ntmps65
  go_wp2_with fail
  refine ((AF _).out).mono ?_
  rintro e w1 ⟨rfl, k1⟩
  have KK : Hid (Kept w w1) := Lib.hid (((Kept.refl w).alloc _ _).trans k1)
  have LL := Lib.hid (LB.kept (LB.new w w.heap.size 29 rfl t) k1)
  clear k1
  obtain ⟨l0, l1, l2, l3, l4, l5, l6, l7, l8, l9⟩ := LL.out
  have lz := lt_of_cell l0
  go_wp2_with fail
  refine ((EF _).out).mono ?_
  rintro e w2 ⟨rfl, k2⟩
  have LL := Lib.hid (LL.out.kept (Kept.trans (b := _) (by first | exact Kept.refl _ | (go_light; repeat (first | (with_reducible exact Kept.refl _) | (with_reducible assumption) | (with_reducible refine Kept.alloc ?_ _ _) | (with_reducible refine Kept.drew ?_) | (with_reducible refine Kept.drewN ?_ _) | ((with_reducible refine Kept.setCell ?_ ?_ _); rotate_left; focus (first | (simp; done) | (simp; omega))) | refine Kept.trans ?_ (by assumption)))) k2))
  have KK : Hid (Kept w w2) := Lib.hid (KK.out.trans (Kept.trans (b := _) (by first | exact Kept.refl _ | (go_light; repeat (first | (with_reducible exact Kept.refl _) | (with_reducible assumption) | (with_reducible refine Kept.alloc ?_ _ _) | (with_reducible refine Kept.drew ?_) | (with_reducible refine Kept.drewN ?_ _) | ((with_reducible refine Kept.setCell ?_ ?_ _); rotate_left; focus (first | (simp; done) | (simp; omega))) | refine Kept.trans ?_ (by assumption)))) k2))
  clear k2 l0 l1 l2 l3 l4 l5 l6 l7 l8 l9 lz
  obtain ⟨l0, l1, l2, l3, l4, l5, l6, l7, l8, l9⟩ := LL.out
  have lz := lt_of_cell l0
  go_wp2_with fail
  refine ((WN _).out).mono ?_
  rintro e w3 ⟨rfl, k3⟩
  have LL := Lib.hid (LL.out.kept (Kept.trans (b := _) (by first | exact Kept.refl _ | (go_light; repeat (first | (with_reducible exact Kept.refl _) | (with_reducible assumption) | (with_reducible refine Kept.alloc ?_ _ _) | (with_reducible refine Kept.drew ?_) | (with_reducible refine Kept.drewN ?_ _) | ((with_reducible refine Kept.setCell ?_ ?_ _); rotate_left; focus (first | (simp; done) | (simp; omega))) | refine Kept.trans ?_ (by assumption)))) k3))
  have KK : Hid (Kept w w3) := Lib.hid (KK.out.trans (Kept.trans (b := _) (by first | exact Kept.refl _ | (go_light; repeat (first | (with_reducible exact Kept.refl _) | (with_reducible assumption) | (with_reducible refine Kept.alloc ?_ _ _) | (with_reducible refine Kept.drew ?_) | (with_reducible refine Kept.drewN ?_ _) | ((with_reducible refine Kept.setCell ?_ ?_ _); rotate_left; focus (first | (simp; done) | (simp; omega))) | refine Kept.trans ?_ (by assumption)))) k3))
  clear k3 l0 l1 l2 l3 l4 l5 l6 l7 l8 l9 lz
  obtain ⟨l0, l1, l2, l3, l4, l5, l6, l7, l8, l9⟩ := LL.out
  have lz := lt_of_cell l0
  go_wp2
  go_ret
  exact ⟨rfl, KK.out⟩
set_option maxHeartbeats 2000000 in
theorem lfits_no (t : Twr) (n : Int) (ha : fitsA t.A n = 0) (he : Ep.fitsE t.E n = 0) (p0 : 0 ≤ t.P) (p1 : t.P ≤ n - 3) (hap : ¬ apB (lparts t)) (w : World) : Calls Tryz.prog 65 #[limV t, .int .i64 n] w fun e w' => e = .returned (.int .i64 2) ∧ Kept w w' := by
  obtain ⟨_, n0, n1, _⟩ := fitsA_ok ha
  have AF := fun W => Lib.hid (show Calls Tryz.prog 144 #[.agg #[.int .i64 t.A.F.T, .int .i64 t.A.F.K, .int .i64 t.A.F.N, .int .i64 t.A.G, .int .i64 t.A.V, .int .i64 t.A.L], .int .i64 n] W fun e w' => e = .returned (.int .i64 0) ∧ Kept W w' from by have := pfitsA_any t.A n W; rwa [ha] at this)
  have EF := fun W => Lib.hid (show Calls Tryz.prog 145 #[.agg #[.int .i64 t.E.T, .int .i64 t.E.K, .int .i64 t.E.N], .int .i64 n] W fun e w' => e = .returned (.int .i64 0) ∧ Kept W w' from by have := Ep.pfits_any t.E n W; rwa [he] at this)
  have WY := fun W => Lib.hid (lwithin_yes t.P 3 n (by decide) (by decide) n0 n1 p0 p1 W)
  have AP := fun W g (h : SpAt W g (lparts t)) => Lib.hid (show Calls Tryz.prog 147 #[.slice (some ⟨g, 0, none⟩) 7 7] W fun e w' => e = .returned (.bool false) ∧ Kept W w' from by
    have k := (lapart_any g 7 (lparts t) (by rw [lparts_len]; decide) (by rw [lparts_len]; decide) (lparts_ok ha he p0 p1) W h).mono fun _ _ h => aparts_is h
    rwa [lparts_len, show apD (lparts t) = false from by rw [Bool.eq_false_iff]; exact fun h => hap ((apD_iff _).1 h)] at k)
  clear ha he hap
  go_enter Tryz.func65, Tryz.ntmps65
  go_wp2_with fail
  refine ((AF _).out).mono ?_
  rintro e w1 ⟨rfl, k1⟩
  have KK : Hid (Kept w w1) := Lib.hid (((Kept.refl w).alloc _ _).trans k1)
  have LL := Lib.hid (LB.kept (LB.new w w.heap.size 29 rfl t) k1)
  clear k1
  obtain ⟨l0, l1, l2, l3, l4, l5, l6, l7, l8, l9⟩ := LL.out
  have lz := lt_of_cell l0
  go_wp2_with fail
  refine ((EF _).out).mono ?_
  rintro e w2 ⟨rfl, k2⟩
  have LL := Lib.hid (LL.out.kept (Kept.trans (b := _) (by first | exact Kept.refl _ | (go_light; repeat (first | (with_reducible exact Kept.refl _) | (with_reducible assumption) | (with_reducible refine Kept.alloc ?_ _ _) | (with_reducible refine Kept.drew ?_) | (with_reducible refine Kept.drewN ?_ _) | ((with_reducible refine Kept.setCell ?_ ?_ _); rotate_left; focus (first | (simp; done) | (simp; omega))) | refine Kept.trans ?_ (by assumption)))) k2))
  have KK : Hid (Kept w w2) := Lib.hid (KK.out.trans (Kept.trans (b := _) (by first | exact Kept.refl _ | (go_light; repeat (first | (with_reducible exact Kept.refl _) | (with_reducible assumption) | (with_reducible refine Kept.alloc ?_ _ _) | (with_reducible refine Kept.drew ?_) | (with_reducible refine Kept.drewN ?_ _) | ((with_reducible refine Kept.setCell ?_ ?_ _); rotate_left; focus (first | (simp; done) | (simp; omega))) | refine Kept.trans ?_ (by assumption)))) k2))
  clear k2 l0 l1 l2 l3 l4 l5 l6 l7 l8 l9 lz
  obtain ⟨l0, l1, l2, l3, l4, l5, l6, l7, l8, l9⟩ := LL.out
  have lz := lt_of_cell l0
  go_wp2_with fail
  refine ((WY _).out).mono ?_
  rintro e w3 ⟨rfl, k3⟩
  have LL := Lib.hid (LL.out.kept (Kept.trans (b := _) (by first | exact Kept.refl _ | (go_light; repeat (first | (with_reducible exact Kept.refl _) | (with_reducible assumption) | (with_reducible refine Kept.alloc ?_ _ _) | (with_reducible refine Kept.drew ?_) | (with_reducible refine Kept.drewN ?_ _) | ((with_reducible refine Kept.setCell ?_ ?_ _); rotate_left; focus (first | (simp; done) | (simp; omega))) | refine Kept.trans ?_ (by assumption)))) k3))
  have KK : Hid (Kept w w3) := Lib.hid (KK.out.trans (Kept.trans (b := _) (by first | exact Kept.refl _ | (go_light; repeat (first | (with_reducible exact Kept.refl _) | (with_reducible assumption) | (with_reducible refine Kept.alloc ?_ _ _) | (with_reducible refine Kept.drew ?_) | (with_reducible refine Kept.drewN ?_ _) | ((with_reducible refine Kept.setCell ?_ ?_ _); rotate_left; focus (first | (simp; done) | (simp; omega))) | refine Kept.trans ?_ (by assumption)))) k3))
  clear k3 l0 l1 l2 l3 l4 l5 l6 l7 l8 l9 lz
  obtain ⟨l0, l1, l2, l3, l4, l5, l6, l7, l8, l9⟩ := LL.out
  have lz := lt_of_cell l0
  go_wp2_with fail
  refine (lparts_any t _).mono ?_
  rintro e w4 ⟨g, rfl, sp, k4⟩
  have LL := Lib.hid (LL.out.kept (Kept.trans (b := _) (by first | exact Kept.refl _ | (go_light; repeat (first | (with_reducible exact Kept.refl _) | (with_reducible assumption) | (with_reducible refine Kept.alloc ?_ _ _) | (with_reducible refine Kept.drew ?_) | (with_reducible refine Kept.drewN ?_ _) | ((with_reducible refine Kept.setCell ?_ ?_ _); rotate_left; focus (first | (simp; done) | (simp; omega))) | refine Kept.trans ?_ (by assumption)))) k4))
  have KK : Hid (Kept w w4) := Lib.hid (KK.out.trans (Kept.trans (b := _) (by first | exact Kept.refl _ | (go_light; repeat (first | (with_reducible exact Kept.refl _) | (with_reducible assumption) | (with_reducible refine Kept.alloc ?_ _ _) | (with_reducible refine Kept.drew ?_) | (with_reducible refine Kept.drewN ?_ _) | ((with_reducible refine Kept.setCell ?_ ?_ _); rotate_left; focus (first | (simp; done) | (simp; omega))) | refine Kept.trans ?_ (by assumption)))) k4))
  have SP := Lib.hid sp
  clear sp k4 l0 l1 l2 l3 l4 l5 l6 l7 l8 l9 lz
  obtain ⟨l0, l1, l2, l3, l4, l5, l6, l7, l8, l9⟩ := LL.out
  have lz := lt_of_cell l0
  go_wp2_with fail
  refine ((AP _ g SP.out).out).mono ?_
  rintro e w5 ⟨rfl, k5⟩
  have LL := Lib.hid (LL.out.kept (Kept.trans (b := _) (by first | exact Kept.refl _ | (go_light; repeat (first | (with_reducible exact Kept.refl _) | (with_reducible assumption) | (with_reducible refine Kept.alloc ?_ _ _) | (with_reducible refine Kept.drew ?_) | (with_reducible refine Kept.drewN ?_ _) | ((with_reducible refine Kept.setCell ?_ ?_ _); rotate_left; focus (first | (simp; done) | (simp; omega))) | refine Kept.trans ?_ (by assumption)))) k5))
  have KK : Hid (Kept w w5) := Lib.hid (KK.out.trans (Kept.trans (b := _) (by first | exact Kept.refl _ | (go_light; repeat (first | (with_reducible exact Kept.refl _) | (with_reducible assumption) | (with_reducible refine Kept.alloc ?_ _ _) | (with_reducible refine Kept.drew ?_) | (with_reducible refine Kept.drewN ?_ _) | ((with_reducible refine Kept.setCell ?_ ?_ _); rotate_left; focus (first | (simp; done) | (simp; omega))) | refine Kept.trans ?_ (by assumption)))) k5))
  clear k5 l0 l1 l2 l3 l4 l5 l6 l7 l8 l9 lz
  obtain ⟨l0, l1, l2, l3, l4, l5, l6, l7, l8, l9⟩ := LL.out
  have lz := lt_of_cell l0
  go_wp2
  go_ret
  exact ⟨rfl, KK.out⟩
set_option maxHeartbeats 2000000 in
theorem lfits_yes (t : Twr) (n : Int) (ha : fitsA t.A n = 0) (he : Ep.fitsE t.E n = 0) (p0 : 0 ≤ t.P) (p1 : t.P ≤ n - 3) (hap : apB (lparts t)) (w : World) : Calls Tryz.prog 65 #[limV t, .int .i64 n] w fun e w' => e = .returned (.int .i64 0) ∧ Kept w w' := by
  obtain ⟨_, n0, n1, _⟩ := fitsA_ok ha
  have AF := fun W => Lib.hid (show Calls Tryz.prog 144 #[.agg #[.int .i64 t.A.F.T, .int .i64 t.A.F.K, .int .i64 t.A.F.N, .int .i64 t.A.G, .int .i64 t.A.V, .int .i64 t.A.L], .int .i64 n] W fun e w' => e = .returned (.int .i64 0) ∧ Kept W w' from by have := pfitsA_any t.A n W; rwa [ha] at this)
  have EF := fun W => Lib.hid (show Calls Tryz.prog 145 #[.agg #[.int .i64 t.E.T, .int .i64 t.E.K, .int .i64 t.E.N], .int .i64 n] W fun e w' => e = .returned (.int .i64 0) ∧ Kept W w' from by have := Ep.pfits_any t.E n W; rwa [he] at this)
  have WY := fun W => Lib.hid (lwithin_yes t.P 3 n (by decide) (by decide) n0 n1 p0 p1 W)
  have AP := fun W g (h : SpAt W g (lparts t)) => Lib.hid (show Calls Tryz.prog 147 #[.slice (some ⟨g, 0, none⟩) 7 7] W fun e w' => e = .returned (.bool true) ∧ Kept W w' from by
    have k := (lapart_any g 7 (lparts t) (by rw [lparts_len]; decide) (by rw [lparts_len]; decide) (lparts_ok ha he p0 p1) W h).mono fun _ _ h => aparts_is h
    rwa [lparts_len, (apD_iff _).2 hap] at k)
  clear ha he hap
  go_enter Tryz.func65, Tryz.ntmps65
  go_wp2_with fail
  refine ((AF _).out).mono ?_
  rintro e w1 ⟨rfl, k1⟩
  have KK : Hid (Kept w w1) := Lib.hid (((Kept.refl w).alloc _ _).trans k1)
  have LL := Lib.hid (LB.kept (LB.new w w.heap.size 29 rfl t) k1)
  clear k1
  obtain ⟨l0, l1, l2, l3, l4, l5, l6, l7, l8, l9⟩ := LL.out
  have lz := lt_of_cell l0
  go_wp2_with fail
  refine ((EF _).out).mono ?_
  rintro e w2 ⟨rfl, k2⟩
  have LL := Lib.hid (LL.out.kept (Kept.trans (b := _) (by first | exact Kept.refl _ | (go_light; repeat (first | (with_reducible exact Kept.refl _) | (with_reducible assumption) | (with_reducible refine Kept.alloc ?_ _ _) | (with_reducible refine Kept.drew ?_) | (with_reducible refine Kept.drewN ?_ _) | ((with_reducible refine Kept.setCell ?_ ?_ _); rotate_left; focus (first | (simp; done) | (simp; omega))) | refine Kept.trans ?_ (by assumption)))) k2))
  have KK : Hid (Kept w w2) := Lib.hid (KK.out.trans (Kept.trans (b := _) (by first | exact Kept.refl _ | (go_light; repeat (first | (with_reducible exact Kept.refl _) | (with_reducible assumption) | (with_reducible refine Kept.alloc ?_ _ _) | (with_reducible refine Kept.drew ?_) | (with_reducible refine Kept.drewN ?_ _) | ((with_reducible refine Kept.setCell ?_ ?_ _); rotate_left; focus (first | (simp; done) | (simp; omega))) | refine Kept.trans ?_ (by assumption)))) k2))
  clear k2 l0 l1 l2 l3 l4 l5 l6 l7 l8 l9 lz
  obtain ⟨l0, l1, l2, l3, l4, l5, l6, l7, l8, l9⟩ := LL.out
  have lz := lt_of_cell l0
  go_wp2_with fail
  refine ((WY _).out).mono ?_
  rintro e w3 ⟨rfl, k3⟩
  have LL := Lib.hid (LL.out.kept (Kept.trans (b := _) (by first | exact Kept.refl _ | (go_light; repeat (first | (with_reducible exact Kept.refl _) | (with_reducible assumption) | (with_reducible refine Kept.alloc ?_ _ _) | (with_reducible refine Kept.drew ?_) | (with_reducible refine Kept.drewN ?_ _) | ((with_reducible refine Kept.setCell ?_ ?_ _); rotate_left; focus (first | (simp; done) | (simp; omega))) | refine Kept.trans ?_ (by assumption)))) k3))
  have KK : Hid (Kept w w3) := Lib.hid (KK.out.trans (Kept.trans (b := _) (by first | exact Kept.refl _ | (go_light; repeat (first | (with_reducible exact Kept.refl _) | (with_reducible assumption) | (with_reducible refine Kept.alloc ?_ _ _) | (with_reducible refine Kept.drew ?_) | (with_reducible refine Kept.drewN ?_ _) | ((with_reducible refine Kept.setCell ?_ ?_ _); rotate_left; focus (first | (simp; done) | (simp; omega))) | refine Kept.trans ?_ (by assumption)))) k3))
  clear k3 l0 l1 l2 l3 l4 l5 l6 l7 l8 l9 lz
  obtain ⟨l0, l1, l2, l3, l4, l5, l6, l7, l8, l9⟩ := LL.out
  have lz := lt_of_cell l0
  go_wp2_with fail
  refine (lparts_any t _).mono ?_
  rintro e w4 ⟨g, rfl, sp, k4⟩
  have LL := Lib.hid (LL.out.kept (Kept.trans (b := _) (by first | exact Kept.refl _ | (go_light; repeat (first | (with_reducible exact Kept.refl _) | (with_reducible assumption) | (with_reducible refine Kept.alloc ?_ _ _) | (with_reducible refine Kept.drew ?_) | (with_reducible refine Kept.drewN ?_ _) | ((with_reducible refine Kept.setCell ?_ ?_ _); rotate_left; focus (first | (simp; done) | (simp; omega))) | refine Kept.trans ?_ (by assumption)))) k4))
  have KK : Hid (Kept w w4) := Lib.hid (KK.out.trans (Kept.trans (b := _) (by first | exact Kept.refl _ | (go_light; repeat (first | (with_reducible exact Kept.refl _) | (with_reducible assumption) | (with_reducible refine Kept.alloc ?_ _ _) | (with_reducible refine Kept.drew ?_) | (with_reducible refine Kept.drewN ?_ _) | ((with_reducible refine Kept.setCell ?_ ?_ _); rotate_left; focus (first | (simp; done) | (simp; omega))) | refine Kept.trans ?_ (by assumption)))) k4))
  have SP := Lib.hid sp
  clear sp k4 l0 l1 l2 l3 l4 l5 l6 l7 l8 l9 lz
  obtain ⟨l0, l1, l2, l3, l4, l5, l6, l7, l8, l9⟩ := LL.out
  have lz := lt_of_cell l0
  go_wp2_with fail
  refine ((AP _ g SP.out).out).mono ?_
  rintro e w5 ⟨rfl, k5⟩
  have LL := Lib.hid (LL.out.kept (Kept.trans (b := _) (by first | exact Kept.refl _ | (go_light; repeat (first | (with_reducible exact Kept.refl _) | (with_reducible assumption) | (with_reducible refine Kept.alloc ?_ _ _) | (with_reducible refine Kept.drew ?_) | (with_reducible refine Kept.drewN ?_ _) | ((with_reducible refine Kept.setCell ?_ ?_ _); rotate_left; focus (first | (simp; done) | (simp; omega))) | refine Kept.trans ?_ (by assumption)))) k5))
  have KK : Hid (Kept w w5) := Lib.hid (KK.out.trans (Kept.trans (b := _) (by first | exact Kept.refl _ | (go_light; repeat (first | (with_reducible exact Kept.refl _) | (with_reducible assumption) | (with_reducible refine Kept.alloc ?_ _ _) | (with_reducible refine Kept.drew ?_) | (with_reducible refine Kept.drewN ?_ _) | ((with_reducible refine Kept.setCell ?_ ?_ _); rotate_left; focus (first | (simp; done) | (simp; omega))) | refine Kept.trans ?_ (by assumption)))) k5))
  clear k5 l0 l1 l2 l3 l4 l5 l6 l7 l8 l9 lz
  obtain ⟨l0, l1, l2, l3, l4, l5, l6, l7, l8, l9⟩ := LL.out
  have lz := lt_of_cell l0
  go_wp2
  go_ret
  exact ⟨rfl, KK.out⟩
noncomputable def fitsL (t : Twr) (n : Int) : Int := if fitsA t.A n ≠ 0 then fitsA t.A n else if Ep.fitsE t.E n ≠ 0 then Ep.fitsE t.E n else @ite _ (0 ≤ t.P ∧ t.P ≤ n - 3 ∧ apB (lparts t)) (Classical.propDecidable _) 0 2
theorem fitsL_ok {t : Twr} {n : Int} (h : fitsL t n = 0) : LFit t n := by
  unfold fitsL at h
  by_cases ha : fitsA t.A n ≠ 0
  · rw [if_pos ha] at h; exact absurd h ha
  · rw [if_neg ha] at h
    by_cases he : Ep.fitsE t.E n ≠ 0
    · rw [if_pos he] at h; exact absurd h he
    · rw [if_neg he] at h
      by_cases hp : 0 ≤ t.P ∧ t.P ≤ n - 3 ∧ apB (lparts t)
      · exact ⟨by simpa using ha, by simpa using he, hp.1, hp.2.1, hp.2.2⟩
      · rw [if_neg hp] at h; omega
theorem lfits_any (t : Twr) (n : Int) (w : World) : Calls Tryz.prog 65 #[limV t, .int .i64 n] w fun e w' => e = .returned (.int .i64 (fitsL t n)) ∧ Kept w w' := by
  unfold fitsL
  by_cases ha : fitsA t.A n ≠ 0
  · rw [if_pos ha]; exact lfits_a t n _ ha rfl w
  · rw [if_neg ha]
    have ha : fitsA t.A n = 0 := by simpa using ha
    by_cases he : Ep.fitsE t.E n ≠ 0
    · rw [if_pos he]; exact lfits_e t n ha _ he rfl w
    · rw [if_neg he]
      have he : Ep.fitsE t.E n = 0 := by simpa using he
      by_cases hp : 0 ≤ t.P ∧ t.P ≤ n - 3 ∧ apB (lparts t)
      · rw [if_pos hp]; exact lfits_yes t n ha he hp.1 hp.2.1 hp.2.2 w
      · rw [if_neg hp]
        by_cases h1 : t.P < 0 ∨ n - 3 < t.P
        · exact lfits_p t n ha he h1 w
        · exact lfits_no t n ha he (by omega) (by omega) (fun h => hp ⟨by omega, by omega, h⟩) w
end Go.Proofs.YtejiogggocnldaaGreat.Tw

namespace Go.Proofs.YtejiogggocnldaaGreat.Tw
set_option maxRecDepth 20000
open Go.RowKit

section
variable {P : Program} (w : World)
theorem tsrc_of_lay {size : Nat} {tx e' : TypeId} (hk : P.underlying tx = some (.slice e')) {x : Value} {m : Nat} {news : List Value} (hl : news.length = m * size) (hx : Lay w x m news) (h1 : ∀ u ∈ news, u.oneCell' = true) : Src P size tx x m news w := by
  rcases hx with (⟨rfl, rfl, rfl⟩ | ⟨g, o, c, rfl, _, _, hc⟩) | ⟨y, c, rfl, rfl, rfl, _⟩
  · exact Src.ofNil w hk 0
  · exact Src.ofSlice w hk ⟨g, o, none⟩ m c news hl (fun j u hu => by rw [add_none]; exact hc j u hu) h1
  · exact Src.ofSlice w hk y 0 c [] (by simp) (by simp) h1
theorem tappend_full (t ty e : TypeId) (i : TypeInfo) (z : Value) (size bytes : Nat) (ht : P.underlying t = some (.slice e)) (hi : P.info? e = some i) (hz : i.zero = some z)
    (hsize : i.size = size) (hby : i.bytes = bytes) (hzs : z.cells.size = size)
    (a : Option Addr) (n c : Nat) (olds : List Value) (hlo : olds.length = n * size) (hold : Lay w (.slice a n c) n olds)
    (x : Value) (m : Nat) (news : List Value) (hl : news.length = m * size) (hx : Lay w x m news) (h1 : ∀ u ∈ news, u.oneCell' = true)
    (hg : c < n + m) (h63 : n + m ≤ maxLen) (hbytes : (n + m) * bytes ≤ 140737488355328) :
    ∃ cap w', (Builtin.append_ #[t, t] ty #[.slice a n c, x]).run P w = .ok (.slice (some ⟨w.heap.size, 0, none⟩) (n + m) cap) w' ∧ w'.ownsRow w.heap.size e size (.slice (some ⟨w.heap.size, 0, none⟩) (n + m) cap) (n + m) (olds ++ news) ∧ Kept w w' := by
  subst hsize
  subst hby
  have hf : (Builtin.firstCells i.size n (.slice a n c)).run P w.drew = .ok olds.toArray w.drew := by
    rcases hold with (⟨e, rfl, rfl⟩ | ⟨g, o, c', e, _, _, hc⟩) | ⟨y, c', e, rfl, rfl, _⟩
    · cases e
      exact run_firstCells_none w.drew i.size 0 0 0
    · cases e
      exact run_firstCells_some w.drew i.size n ⟨g, o, none⟩ n c olds hlo (fun j u hu => by rw [add_none]; exact hc j u hu)
    · cases e
      exact run_firstCells_some w.drew i.size 0 y 0 c [] (by simp) (by simp)
  have hr := run_append_grow_src (P := P) w t t ty e i z ht hi hz a n c olds hf x m news (tsrc_of_lay w ht hl hx h1) hg (by unfold maxLen at h63; omega) (growslice_fits (by omega) hbytes)
  have hge := grownCap_ge w (n + m) c e
  have hcm : grownCap w (n + m) c e ≤ maxLen := grownCap_le_maxLen w (n + m) c e h63
  have hlen : (olds ++ news).length = (n + m) * i.size := by rw [List.length_append, hlo, hl, Nat.add_mul]
  refine ⟨_, _, hr, ⟨hlen, .inr ⟨w.heap.size, _, _, rfl, Nat.le_refl _, heap_alloc_new w.drew _, hge, hcm, ?_, ?_⟩⟩, ((Kept.refl w).drew).alloc _ _⟩
  · simp only [Array.size_append, List.size_toArray, size_zeroCells, hzs, hlen, ← Nat.add_mul]
    congr 1
    omega
  · simp only [Array.toList_append]
    rw [← hlen]
    exact List.take_left
theorem twpList_append_full {ops : Array Oper} {rest : List Oper} {o : Oper} {A : Act} {Q : Exit → Act → World → Prop} (hgd : o.guard = none) (s y : Operand) (t : TypeId)
    (ho : o.op = .call { callee := .builtin .append, args := #[s, y], argTypes := #[t, t] })
    (e : TypeId) (i : TypeInfo) (z : Value) (size bytes : Nat) (ht : P.underlying t = some (.slice e)) (hi : P.info? e = some i) (hz : i.zero = some z)
    (hsize : i.size = size) (hby : i.bytes = bytes) (hzs : z.cells.size = size)
    (a : Option Addr) (n c : Nat) (olds : List Value) (hs : A.eval s = .slice a n c) (hlo : olds.length = n * size) (hold : Lay w (.slice a n c) n olds)
    (x : Value) (m : Nat) (news : List Value) (hy : A.eval y = x) (hl : news.length = m * size) (hx : Lay w x m news) (h1 : ∀ u ∈ news, u.oneCell' = true)
    (hg : c < n + m) (h63 : n + m ≤ maxLen) (hbytes : (n + m) * bytes ≤ 140737488355328)
    (h : ∀ b cap w', w'.ownsRow w.heap.size e size (.slice (some ⟨b, 0, none⟩) (n + m) cap) (n + m) (olds ++ news) → Kept w w' → wpList P ops Q rest (A.put o.dst (.slice (some ⟨b, 0, none⟩) (n + m) cap)) w') : wpList P ops Q (o :: rest) A w := by
  obtain ⟨cap, w', hr, h2, h3⟩ := tappend_full (P := P) w t o.type e i z size bytes ht hi hz hsize hby hzs a n c olds hlo hold x m news hl hx h1 hg h63 hbytes
  refine wpList_plain hgd fun K hK => ?_
  unfold Oper.wp execOp
  simp only [ho, resolve, invoke, builtin, Sem.run_bind, Sem.run_pure, Result.andThen_ok, List.map_toArray, List.map_cons, List.map_nil, hs, hy, hr]
  exact hK _ _ (h _ _ _ h2 h3)
end

def flatS (l : List Spn) : List Value := l.flatMap fun s => [.int .i64 s.1, .int .i64 s.2]
theorem flatS_length (l : List Spn) : (flatS l).length = l.length * 2 := wide_length (m := 2) (f := fun s : Spn => [.int .i64 s.1, .int .i64 s.2]) (fun _ => rfl) l
theorem flatS_append (l m : List Spn) : flatS (l ++ m) = flatS l ++ flatS m := by simp [flatS]
theorem flatS_one (l : List Spn) : ∀ u ∈ flatS l, u.oneCell' = true := wide_one (f := fun s : Spn => [.int .i64 s.1, .int .i64 s.2]) (fun s u h => by
  simp only [List.mem_cons, List.not_mem_nil, or_false] at h
  rcases h with rfl | rfl <;> rfl) l
theorem flatS_at : ∀ (l : List Spn) (o : Nat) (f : Nat → Option Value), (∀ i (h : i < l.length), f (o + i * 2) = some (.int .i64 l[i].1)) → (∀ i (h : i < l.length), f (o + i * 2 + 1) = some (.int .i64 l[i].2)) → ∀ j u, (flatS l)[j]? = some u → f (o + j) = some u := by
  intro l
  induction l with
  | nil => intro o f _ _ j u h; simp [flatS] at h
  | cons s l ih =>
    intro o f ha hb j u h
    have e : flatS (s :: l) = .int .i64 s.1 :: .int .i64 s.2 :: flatS l := rfl
    rw [e] at h
    have a0 := ha 0 (by simp)
    have b0 := hb 0 (by simp)
    match j with
    | 0 => simp at h; subst h; simpa using a0
    | 1 => simp at h; subst h; simpa using b0
    | j + 2 =>
      have k := ih (o + 2) f (fun i hi => by have := ha (i + 1) (by simpa using hi); rw [show o + (i + 1) * 2 = o + 2 + i * 2 by omega] at this; simpa using this) (fun i hi => by have := hb (i + 1) (by simpa using hi); rw [show o + (i + 1) * 2 + 1 = o + 2 + i * 2 + 1 by omega] at this; simpa using this) j u (by simpa using h)
      rwa [show o + 2 + j = o + (j + 2) by omega] at k
theorem SpAt.pre {w : World} {g : Nat} {l : List Spn} (h : SpAt w g l) (k : Nat) : SpAt w g (l.take k) := by
  refine ⟨fun i hi => ?_, fun i hi => ?_⟩
  · rw [List.length_take] at hi; rw [List.getElem_take]; exact h.a i (by omega)
  · rw [List.length_take] at hi; rw [List.getElem_take]; exact h.b i (by omega)
theorem SpAt.lay {w : World} {g n c : Nat} {l : List Spn} (h : SpAt w g l) (hn : n = l.length) (hc : n ≤ c) (hm : c ≤ 100000) : Lay w (.slice (some ⟨g, 0, none⟩) n c) n (flatS l) := by
  subst hn
  refine .inl (.inr ⟨g, 0, c, rfl, hc, by unfold maxLen; omega, fun j u hu => ?_⟩)
  exact flatS_at l 0 (fun j => w.cell? ⟨g, j, none⟩) (fun i hi => by simpa using h.a i hi) (fun i hi => by simpa using h.b i hi) j u hu
theorem spat_own {w : World} {base g n c : Nat} {e : TypeId} {l : List Spn} (h : w.ownsRow base e 2 (.slice (some ⟨g, 0, none⟩) n c) n (flatS l)) (hn : n = l.length) : SpAt w g l := by
  subst hn
  by_cases hz : l.length = 0
  · exact ⟨fun i hi => by omega, fun i hi => by omega⟩
  · obtain ⟨g', o, c', e, _, _, hc⟩ := (own_lies h).lay.at (by omega)
    cases e
    have e1 : ∀ (s : Spn), ([.int .i64 s.1, .int .i64 s.2] : List Value).length = 2 := fun _ => rfl
    refine ⟨fun i hi => ?_, fun i hi => ?_⟩
    · have := hc (i * 2 + 0) (.int .i64 l[i].1) (by unfold flatS; rw [wide_get (m := 2) e1 l i 0 l[i] (List.getElem?_eq_getElem hi) (by decide)]; rfl)
      simpa using this
    · have := hc (i * 2 + 1) (.int .i64 l[i].2) (by unfold flatS; rw [wide_get (m := 2) e1 l i 1 l[i] (List.getElem?_eq_getElem hi) (by decide)]; rfl)
      simpa [Nat.add_assoc] using this
theorem infoSp : (Tryz.prog.info? 118).map (fun i => (i.zero, i.size, i.bytes)) = some (some (.agg #[.int .i64 0, .int .i64 0]), 2, 16) := by kernel_rfl
theorem elemSp : Tryz.prog.elem 129 = 118 := by kernel_rfl
theorem run_head_sp (a : Option Addr) (n c m : Nat) (hm : m ≤ c) (w : World) : (Instr.slice 129 (.slice a n c) none (some (.int .i64 m)) (some (.int .i64 m))).run Tryz.prog w = .ok (.slice a m m) w := by
  obtain ⟨i0, hi, hz0, hz1, hz2⟩ := info_parts infoSp
  rw [run_slice_any (w := w) 129 a n c (by rw [elemSp]; exact Tryz.underlying129)]
  by_cases h0 : m = 0
  · subst h0
    simp [Instr.sliceBounds, Instr.sliceBound, asIntOf, elemSp, sizeOf, typeInfo, hi, sliced, Result.andThen]
  · simp [Instr.sliceBounds, Instr.sliceBound, asIntOf, hm, elemSp, sizeOf, typeInfo, hi, sliced, Result.andThen, h0, Addr.add]
end Go.Proofs.YtejiogggocnldaaGreat.Tw
