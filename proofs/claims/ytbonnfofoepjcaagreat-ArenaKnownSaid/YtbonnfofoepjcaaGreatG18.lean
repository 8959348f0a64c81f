/- ArenaKnown: the chapter's examples. -/
import Derived.Test.YtbonnfofoepjcaaGreatG16
import Derived.Test.YtbonnfofoepjcaaGreatG17
import Derived.Test.YtbonnfofoepjcaaGreatG00
import Derived.WalkKit
import Derived.WalkLawsBesides
import Derived.Maps.AppendAt
import Derived.Deep.AppendLies
import Derived.RegionTactic
import Derived.OwnWalk
set_option linter.unusedVariables false
set_option linter.unusedSimpArgs false

namespace Go.Proofs.YtbonnfofoepjcaaGreat.Sk
set_option maxRecDepth 20000
open Go.RowKit
open Wo (St acc wordAt PMem RefIs)
theorem pasta {w : World} {b o : Nat} {v : Value} (h : w.cell? ⟨b, o, none⟩ = some v) (c : Array Value) (t : TypeId) : (w.alloc (.cells c t)).cell? ⟨b, o, none⟩ = some v := ((Kept.refl w).alloc c t).some h
theorem fStep_ended (P : Nat) (A : Arn) (i : Int) (V : Value) (w : World) (ha : FreeAt w P A i FOp.bad) :
    Calls Tryz.prog 27 #[.pointer (some ⟨P, 0, none⟩), V] w fun e w' => e = .returned (.bool true) ∧ w = w' := by
  obtain ⟨v, e0, ha, _⟩ := ha
  have HE : Hid (Calls Tryz.prog 84 #[.pointer (some ⟨P, 9, none⟩)] w fun e w' => e = .returned (.bool true) ∧ w = w') := Lib.hid (ended_Free P 3 w ha.c9 ha.c17)
  clear ha
  go_enter Tryz.func27, Tryz.ntmps27
  go_wp2_with fail
  refine HE.out.mono ?_
  rintro e u1 ⟨rfl, rfl⟩
  go_wp2
  go_ret
  exact ⟨rfl, rfl⟩
theorem aFitsAt (T K N G V L n v : Int) (h : fitsA ⟨⟨T, K, N⟩, G, V, L⟩ n = v) (w : World) : Calls Tryz.prog 11 #[.agg #[.int .i64 T, .int .i64 K, .int .i64 N, .int .i64 G, .int .i64 V, .int .i64 L], .int .i64 n] w fun e w' => e = .returned (.int .i64 v) ∧ Kept w w' := by
  have := pfitsA_any ⟨⟨T, K, N⟩, G, V, L⟩ n w
  rwa [h] at this
theorem aNewBad (w : World) : Calls Tryz.prog 26 #[.agg #[.int .i64 0, .int .i64 1, .int .i64 3, .int .i64 4, .int .i64 7, .int .i64 2], .int .i64 3] w (Made (fun w P => FreeAt w P A3 3 FOp.bad) w) := newFree_out A3 3 (.inr (by decide)) w
set_option maxHeartbeats 4000000 in
theorem aknown_any (w : World) : Calls Tryz.prog 4 #[] w fun e w' => e = .returned (.bool true) ∧ Kept w w' := by
  go_enter Tryz.func4, Tryz.ntmps4
  go_wp2_with fail
  refine (athree_any _).mono ?_
  rintro e w1 ⟨rfl, k1⟩
  go_wp2_with fail
  refine (athree_any _).mono ?_
  rintro e w2 ⟨rfl, k2⟩
  go_wp2_with fail
  refine (athree_any _).mono ?_
  rintro e w3 ⟨rfl, k3⟩
  go_wp2_with fail
  obtain ⟨v0, hv0⟩ : ∃ v0, v0 = (((w3.alloc (.cells #[.int .i64 0, .int .i64 1, .int .i64 3, .int .i64 4, .int .i64 7, .int .i64 0] 25)).alloc (.cells #[.int .i64 0, .int .i64 1, .int .i64 3, .int .i64 4, .int .i64 7, .int .i64 1] 25)).alloc (.cells #[.int .i64 0, .int .i64 1, .int .i64 3, .int .i64 4, .int .i64 5, .int .i64 2] 25)) := ⟨_, rfl⟩
  rw [← hv0]
  have c0_0 : v0.cell? ⟨w3.heap.size, 0, none⟩ = some (.int .i64 0) := by
    rw [hv0]
    refine pasta (pasta ?_ _ _) _ _; exact cell_new _ _ _ _ _ rfl
  have c0_1 : v0.cell? ⟨w3.heap.size, 1, none⟩ = some (.int .i64 1) := by
    rw [hv0]
    refine pasta (pasta ?_ _ _) _ _; exact cell_new _ _ _ _ _ rfl
  have c0_2 : v0.cell? ⟨w3.heap.size, 2, none⟩ = some (.int .i64 3) := by
    rw [hv0]
    refine pasta (pasta ?_ _ _) _ _; exact cell_new _ _ _ _ _ rfl
  have c0_3 : v0.cell? ⟨w3.heap.size, 3, none⟩ = some (.int .i64 4) := by
    rw [hv0]
    refine pasta (pasta ?_ _ _) _ _; exact cell_new _ _ _ _ _ rfl
  have c0_4 : v0.cell? ⟨w3.heap.size, 4, none⟩ = some (.int .i64 7) := by
    rw [hv0]
    refine pasta (pasta ?_ _ _) _ _; exact cell_new _ _ _ _ _ rfl
  have c0_5 : v0.cell? ⟨w3.heap.size, 5, none⟩ = some (.int .i64 0) := by
    rw [hv0]
    refine pasta (pasta ?_ _ _) _ _; exact cell_new _ _ _ _ _ rfl
  have c1_0 : v0.cell? ⟨w3.heap.size + 1, 0, none⟩ = some (.int .i64 0) := by
    rw [hv0]
    refine pasta ?_ _ _; rw [cell_new _ _ _ _ _ (by simp)]; rfl
  have c1_1 : v0.cell? ⟨w3.heap.size + 1, 1, none⟩ = some (.int .i64 1) := by
    rw [hv0]
    refine pasta ?_ _ _; rw [cell_new _ _ _ _ _ (by simp)]; rfl
  have c1_2 : v0.cell? ⟨w3.heap.size + 1, 2, none⟩ = some (.int .i64 3) := by
    rw [hv0]
    refine pasta ?_ _ _; rw [cell_new _ _ _ _ _ (by simp)]; rfl
  have c1_3 : v0.cell? ⟨w3.heap.size + 1, 3, none⟩ = some (.int .i64 4) := by
    rw [hv0]
    refine pasta ?_ _ _; rw [cell_new _ _ _ _ _ (by simp)]; rfl
  have c1_4 : v0.cell? ⟨w3.heap.size + 1, 4, none⟩ = some (.int .i64 7) := by
    rw [hv0]
    refine pasta ?_ _ _; rw [cell_new _ _ _ _ _ (by simp)]; rfl
  have c1_5 : v0.cell? ⟨w3.heap.size + 1, 5, none⟩ = some (.int .i64 1) := by
    rw [hv0]
    refine pasta ?_ _ _; rw [cell_new _ _ _ _ _ (by simp)]; rfl
  have c2_0 : v0.cell? ⟨w3.heap.size + 2, 0, none⟩ = some (.int .i64 0) := by
    rw [hv0]
    rw [cell_new _ _ _ _ _ (by simp)]; rfl
  have c2_1 : v0.cell? ⟨w3.heap.size + 2, 1, none⟩ = some (.int .i64 1) := by
    rw [hv0]
    rw [cell_new _ _ _ _ _ (by simp)]; rfl
  have c2_2 : v0.cell? ⟨w3.heap.size + 2, 2, none⟩ = some (.int .i64 3) := by
    rw [hv0]
    rw [cell_new _ _ _ _ _ (by simp)]; rfl
  have c2_3 : v0.cell? ⟨w3.heap.size + 2, 3, none⟩ = some (.int .i64 4) := by
    rw [hv0]
    rw [cell_new _ _ _ _ _ (by simp)]; rfl
  have c2_4 : v0.cell? ⟨w3.heap.size + 2, 4, none⟩ = some (.int .i64 5) := by
    rw [hv0]
    rw [cell_new _ _ _ _ _ (by simp)]; rfl
  have c2_5 : v0.cell? ⟨w3.heap.size + 2, 5, none⟩ = some (.int .i64 2) := by
    rw [hv0]
    rw [cell_new _ _ _ _ _ (by simp)]; rfl
  have K0 : Hid (Kept w v0) := Lib.hid (by rw [hv0]; exact ((((k1.trans k2).trans k3).alloc _ _).alloc _ _).alloc _ _)
  clear hv0 k1 k2 k3
  have e1 : w3.heap.size + 1 = w3.heap.size + 1 := rfl
  generalize w3.heap.size = b0 at *
  clear e1
  go_wp2_with fail
  refine (athree_any _).mono ?_
  rintro e w4 ⟨rfl, k4⟩
  have c0_0 := k4.some c0_0
  have c0_1 := k4.some c0_1
  have c0_2 := k4.some c0_2
  have c0_3 := k4.some c0_3
  have c0_4 := k4.some c0_4
  have c0_5 := k4.some c0_5
  have c1_0 := k4.some c1_0
  have c1_1 := k4.some c1_1
  have c1_2 := k4.some c1_2
  have c1_3 := k4.some c1_3
  have c1_4 := k4.some c1_4
  have c1_5 := k4.some c1_5
  have c2_0 := k4.some c2_0
  have c2_1 := k4.some c2_1
  have c2_2 := k4.some c2_2
  have c2_3 := k4.some c2_3
  have c2_4 := k4.some c2_4
  have c2_5 := k4.some c2_5
  have K4 := Lib.hid (K0.out.trans k4)
  clear k4
  go_wp2_with fail
  refine (aNewBad _).mono ?_
  rintro e w5 ⟨P, rfl, hP1, hP2, a5, k5⟩
  have c0_0 := k5.some c0_0
  have c0_1 := k5.some c0_1
  have c0_2 := k5.some c0_2
  have c0_3 := k5.some c0_3
  have c0_4 := k5.some c0_4
  have c0_5 := k5.some c0_5
  have c1_0 := k5.some c1_0
  have c1_1 := k5.some c1_1
  have c1_2 := k5.some c1_2
  have c1_3 := k5.some c1_3
  have c1_4 := k5.some c1_4
  have c1_5 := k5.some c1_5
  have c2_0 := k5.some c2_0
  have c2_1 := k5.some c2_1
  have c2_2 := k5.some c2_2
  have c2_3 := k5.some c2_3
  have c2_4 := k5.some c2_4
  have c2_5 := k5.some c2_5
  have K5 := Lib.hid (K4.out.trans k5)
  have A5 := Lib.hid a5
  clear k5 a5
  go_wp2_with fail
  refine (aawake_any _).mono ?_
  rintro e w6 ⟨rfl, k6⟩
  have c0_0 := k6.some c0_0
  have c0_1 := k6.some c0_1
  have c0_2 := k6.some c0_2
  have c0_3 := k6.some c0_3
  have c0_4 := k6.some c0_4
  have c0_5 := k6.some c0_5
  have c1_0 := k6.some c1_0
  have c1_1 := k6.some c1_1
  have c1_2 := k6.some c1_2
  have c1_3 := k6.some c1_3
  have c1_4 := k6.some c1_4
  have c1_5 := k6.some c1_5
  have c2_0 := k6.some c2_0
  have c2_1 := k6.some c2_1
  have c2_2 := k6.some c2_2
  have c2_3 := k6.some c2_3
  have c2_4 := k6.some c2_4
  have c2_5 := k6.some c2_5
  have K6 := Lib.hid (K5.out.trans k6)
  have A6 := Lib.hid (A5.out.kept k6)
  clear k6
  go_wp2_with fail
  refine (fStep_ended P A3 3 _ _ A6.out).mono ?_
  rintro e w7 ⟨rfl, rfl⟩
  have HT : Hid (Calls Tryz.prog 28 #[.pointer (some ⟨P, 0, none⟩)] w6 fun e w' => e = .returned (.int .i64 3) ∧ w6 = w') := Lib.hid (free_told P A3 3 FOp.bad w6 A6.out)
  go_wp2_with fail
  refine (HT.out).mono ?_
  rintro e w8 ⟨rfl, rfl⟩
  go_wp2_with fail
  refine (athree_any _).mono ?_
  rintro e w9 ⟨rfl, k9⟩
  have c0_0 := k9.some c0_0
  have c0_1 := k9.some c0_1
  have c0_2 := k9.some c0_2
  have c0_3 := k9.some c0_3
  have c0_4 := k9.some c0_4
  have c0_5 := k9.some c0_5
  have c1_0 := k9.some c1_0
  have c1_1 := k9.some c1_1
  have c1_2 := k9.some c1_2
  have c1_3 := k9.some c1_3
  have c1_4 := k9.some c1_4
  have c1_5 := k9.some c1_5
  have c2_0 := k9.some c2_0
  have c2_1 := k9.some c2_1
  have c2_2 := k9.some c2_2
  have c2_3 := k9.some c2_3
  have c2_4 := k9.some c2_4
  have c2_5 := k9.some c2_5
  have K9 := Lib.hid (K6.out.trans k9)
  clear k9
  go_wp2_with fail
  refine (aFitsAt 0 1 3 4 7 2 11 0 (by decide +kernel) _).mono ?_
  rintro e w10 ⟨rfl, k10⟩
  have c0_0 := k10.some c0_0
  have c0_1 := k10.some c0_1
  have c0_2 := k10.some c0_2
  have c0_3 := k10.some c0_3
  have c0_4 := k10.some c0_4
  have c0_5 := k10.some c0_5
  have c1_0 := k10.some c1_0
  have c1_1 := k10.some c1_1
  have c1_2 := k10.some c1_2
  have c1_3 := k10.some c1_3
  have c1_4 := k10.some c1_4
  have c1_5 := k10.some c1_5
  have c2_0 := k10.some c2_0
  have c2_1 := k10.some c2_1
  have c2_2 := k10.some c2_2
  have c2_3 := k10.some c2_3
  have c2_4 := k10.some c2_4
  have c2_5 := k10.some c2_5
  have K10 := Lib.hid (K9.out.trans k10)
  clear k10
  go_wp2_with fail
  refine (aFitsAt 0 1 3 4 7 0 11 2 (by decide +kernel) _).mono ?_
  rintro e w11 ⟨rfl, k11⟩
  have c0_0 := k11.some c0_0
  have c0_1 := k11.some c0_1
  have c0_2 := k11.some c0_2
  have c0_3 := k11.some c0_3
  have c0_4 := k11.some c0_4
  have c0_5 := k11.some c0_5
  have c1_0 := k11.some c1_0
  have c1_1 := k11.some c1_1
  have c1_2 := k11.some c1_2
  have c1_3 := k11.some c1_3
  have c1_4 := k11.some c1_4
  have c1_5 := k11.some c1_5
  have c2_0 := k11.some c2_0
  have c2_1 := k11.some c2_1
  have c2_2 := k11.some c2_2
  have c2_3 := k11.some c2_3
  have c2_4 := k11.some c2_4
  have c2_5 := k11.some c2_5
  have K11 := Lib.hid (K10.out.trans k11)
  clear k11
  go_wp2_with fail
  refine (aFitsAt 0 1 3 4 5 2 11 2 (by decide +kernel) _).mono ?_
  rintro e w12 ⟨rfl, k12⟩
  have c0_0 := k12.some c0_0
  have c0_1 := k12.some c0_1
  have c0_2 := k12.some c0_2
  have c0_3 := k12.some c0_3
  have c0_4 := k12.some c0_4
  have c0_5 := k12.some c0_5
  have c1_0 := k12.some c1_0
  have c1_1 := k12.some c1_1
  have c1_2 := k12.some c1_2
  have c1_3 := k12.some c1_3
  have c1_4 := k12.some c1_4
  have c1_5 := k12.some c1_5
  have c2_0 := k12.some c2_0
  have c2_1 := k12.some c2_1
  have c2_2 := k12.some c2_2
  have c2_3 := k12.some c2_3
  have c2_4 := k12.some c2_4
  have c2_5 := k12.some c2_5
  have K12 := Lib.hid (K11.out.trans k12)
  clear k12
  go_wp2_with fail
  refine (aFitsAt 0 1 3 4 7 1 7 2 (by decide +kernel) _).mono ?_
  rintro e w13 ⟨rfl, k13⟩
  have c0_0 := k13.some c0_0
  have c0_1 := k13.some c0_1
  have c0_2 := k13.some c0_2
  have c0_3 := k13.some c0_3
  have c0_4 := k13.some c0_4
  have c0_5 := k13.some c0_5
  have c1_0 := k13.some c1_0
  have c1_1 := k13.some c1_1
  have c1_2 := k13.some c1_2
  have c1_3 := k13.some c1_3
  have c1_4 := k13.some c1_4
  have c1_5 := k13.some c1_5
  have c2_0 := k13.some c2_0
  have c2_1 := k13.some c2_1
  have c2_2 := k13.some c2_2
  have c2_3 := k13.some c2_3
  have c2_4 := k13.some c2_4
  have c2_5 := k13.some c2_5
  have K13 := Lib.hid (K12.out.trans k13)
  clear k13
  go_wp2_with fail
  refine (aFitsAt 0 1 3 4 7 1 8 0 (by decide +kernel) _).mono ?_
  rintro e w14 ⟨rfl, k14⟩
  have c0_0 := k14.some c0_0
  have c0_1 := k14.some c0_1
  have c0_2 := k14.some c0_2
  have c0_3 := k14.some c0_3
  have c0_4 := k14.some c0_4
  have c0_5 := k14.some c0_5
  have c1_0 := k14.some c1_0
  have c1_1 := k14.some c1_1
  have c1_2 := k14.some c1_2
  have c1_3 := k14.some c1_3
  have c1_4 := k14.some c1_4
  have c1_5 := k14.some c1_5
  have c2_0 := k14.some c2_0
  have c2_1 := k14.some c2_1
  have c2_2 := k14.some c2_2
  have c2_3 := k14.some c2_3
  have c2_4 := k14.some c2_4
  have c2_5 := k14.some c2_5
  have K14 := Lib.hid (K13.out.trans k14)
  clear k14
  go_wp2_with fail
  refine (aFitsAt 0 1 3 4 7 1 0 3 (by decide +kernel) _).mono ?_
  rintro e w15 ⟨rfl, k15⟩
  have c0_0 := k15.some c0_0
  have c0_1 := k15.some c0_1
  have c0_2 := k15.some c0_2
  have c0_3 := k15.some c0_3
  have c0_4 := k15.some c0_4
  have c0_5 := k15.some c0_5
  have c1_0 := k15.some c1_0
  have c1_1 := k15.some c1_1
  have c1_2 := k15.some c1_2
  have c1_3 := k15.some c1_3
  have c1_4 := k15.some c1_4
  have c1_5 := k15.some c1_5
  have c2_0 := k15.some c2_0
  have c2_1 := k15.some c2_1
  have c2_2 := k15.some c2_2
  have c2_3 := k15.some c2_3
  have c2_4 := k15.some c2_4
  have c2_5 := k15.some c2_5
  have K15 := Lib.hid (K14.out.trans k15)
  clear k15
  go_wp2
  go_ret
  have kk := K15.out
  exact ⟨rfl, Kept.trans kk (by (go_light; repeat (first | (with_reducible exact Kept.refl _) | (with_reducible assumption) | (with_reducible refine Kept.alloc ?_ _ _) | (with_reducible refine Kept.drew ?_) | (with_reducible refine Kept.drewN ?_ _) | ((with_reducible refine Kept.setCell ?_ ?_ _); rotate_left; focus (first | (simp; done) | (simp; omega))) | refine Kept.trans ?_ (by assumption))))⟩
end Go.Proofs.YtbonnfofoepjcaaGreat.Sk

namespace Go.Proofs.YtbonnfofoepjcaaGreat
open Go.RowKit

def ints (l : List Int) : List Value := l.map (Value.int .i64)
def flat (l : List (Int × Int × Int)) : List Value := l.flatMap fun d => [.int .i64 d.1, .int .i64 d.2.1, .int .i64 d.2.2]
theorem ints_length (l : List Int) : (ints l).length = l.length * 1 := by simp [ints]
theorem ints_get (l : List Int) (i : Nat) (x : Int) (h : l[i]? = some x) : (ints l)[i]? = some (.int .i64 x) := by simp [ints, h]
theorem ints_append (l m : List Int) : ints (l ++ m) = ints l ++ ints m := by simp [ints]
theorem flat_append (l m : List (Int × Int × Int)) : flat (l ++ m) = flat l ++ flat m := by simp [flat]
theorem flat_cons (d : Int × Int × Int) (l : List (Int × Int × Int)) : flat (d :: l) = .int .i64 d.1 :: .int .i64 d.2.1 :: .int .i64 d.2.2 :: flat l := by simp [flat]
theorem flat_length (l : List (Int × Int × Int)) : (flat l).length = l.length * 3 := by
  induction l with
  | nil => rfl
  | cons d l ih => rw [flat_cons]; simp [ih]; omega
theorem flat_get (l : List (Int × Int × Int)) : ∀ (i : Nat) (d : Int × Int × Int), l[i]? = some d → (flat l)[i * 3]? = some (.int .i64 d.1) ∧ (flat l)[i * 3 + 1]? = some (.int .i64 d.2.1) ∧ (flat l)[i * 3 + 2]? = some (.int .i64 d.2.2) := by
  induction l with
  | nil => intro i d h; simp at h
  | cons c l ih =>
    intro i d h
    rw [flat_cons]
    cases i with
    | zero => simp at h; subst h; simp
    | succ i =>
      have h' : l[i]? = some d := by simpa using h
      obtain ⟨h1, h2, h3⟩ := ih i d h'
      have e1 : (i + 1) * 3 = i * 3 + 1 + 1 + 1 := by omega
      refine ⟨?_, ?_, ?_⟩
      · rw [e1]; simpa using h1
      · rw [show (i + 1) * 3 + 1 = (i * 3 + 1) + 1 + 1 + 1 by omega]; simpa using h2
      · rw [show (i + 1) * 3 + 2 = (i * 3 + 2) + 1 + 1 + 1 by omega]; simpa using h3
theorem flat_take (l : List (Int × Int × Int)) : ∀ k, (flat l).take (k * 3) = flat (l.take k) := by
  induction l with
  | nil => intro k; simp [flat]
  | cons c l ih =>
    intro k
    cases k with
    | zero => simp [flat]
    | succ k =>
      rw [show (k + 1) * 3 = k * 3 + 1 + 1 + 1 by omega, flat_cons, List.take_succ_cons, List.take_succ_cons, List.take_succ_cons, List.take_succ_cons, flat_cons, ih]
theorem flat_one (l : List (Int × Int × Int)) : ∀ u ∈ flat l, u.oneCell' = true := by
  induction l with
  | nil => intro u h; cases h
  | cons c l ih =>
    intro u h
    rw [flat_cons] at h
    simp only [List.mem_cons] at h
    rcases h with rfl | rfl | rfl | h
    · rfl
    · rfl
    · rfl
    · exact ih u h
theorem ints_one (l : List Int) : ∀ u ∈ ints l, u.oneCell' = true := by
  intro u h
  obtain ⟨x, _, rfl⟩ := List.mem_map.1 h
  rfl

def Lies (w : World) (v : Value) (n : Nat) (xs : List Value) : Prop :=
  (v = .slice none 0 0 ∧ n = 0 ∧ xs = []) ∨ ∃ g o c, v = .slice (some ⟨g, o, none⟩) n c ∧ n ≤ c ∧ c ≤ maxLen ∧ ∀ j u, xs[j]? = some u → w.cell? ⟨g, o + j, none⟩ = some u

theorem Lies.form {w : World} {v : Value} {n : Nat} {xs : List Value} (h : Lies w v n xs) : ∃ a c, v = .slice a n c ∧ n ≤ c ∧ c ≤ maxLen := by
  rcases h with ⟨rfl, rfl, _⟩ | ⟨g, o, c, rfl, h1, h2, _⟩
  · exact ⟨_, _, rfl, Nat.le_refl _, Nat.zero_le _⟩
  · exact ⟨_, _, rfl, h1, h2⟩
theorem add_none (b o j : Nat) : (Addr.add ⟨b, o, none⟩ j) = ⟨b, o + j, none⟩ := by
  unfold Addr.add
  split <;> simp_all
theorem Lies.kept {w w' : World} {v : Value} {n : Nat} {xs : List Value} (h : Lies w v n xs) (k : Kept w w') : Lies w' v n xs := by
  rcases h with h | ⟨g, o, c, h1, h2, h3, h4⟩
  · exact .inl h
  · exact .inr ⟨g, o, c, h1, h2, h3, fun j u hu => k.some (h4 j u hu)⟩
theorem Lies.but {S : Nat → Prop} {w w' : World} {v : Value} {n : Nat} {xs : List Value} (h : Lies w v n xs) (k : But S w w') (hS : ∀ g, v.ownBlock = some g → ¬ S g) : Lies w' v n xs := by
  rcases h with h | ⟨g, o, c, rfl, h2, h3, h4⟩
  · exact .inl h
  · exact .inr ⟨g, o, c, rfl, h2, h3, fun j u hu => k.some (h4 j u hu) (hS g rfl)⟩

section
variable {w : World} {base : Nat} {e : TypeId} {size : Nat} {v : Value} {n : Nat} {xs : List Value}
theorem own_form (h : w.ownsRow base e size v n xs) : ∃ a c, v = .slice a n c := by
  rcases h.2 with ⟨rfl, rfl⟩ | ⟨g, cap, cur, rfl, _⟩
  · exact ⟨_, _, rfl⟩
  · exact ⟨_, _, rfl⟩
theorem own_lies (h : w.ownsRow base e size v n xs) : Lies w v n xs := by
  rcases h.2 with ⟨rfl, rfl⟩ | ⟨g, cap, cur, rfl, hb, hg, h1, h2, h3, h4⟩
  · have : xs = [] := List.eq_nil_of_length_eq_zero (by simpa using h.1)
    exact .inl ⟨rfl, rfl, this⟩
  · refine .inr ⟨g, 0, cap, rfl, h1, h2, fun j u hu => ?_⟩
    rw [Nat.zero_add, cell_of_row w g j cur e _ hg]
    rw [← h4] at hu
    have hj : j < n * size := by
      have := (List.getElem?_eq_some_iff.1 hu).1
      rw [List.length_take] at this
      omega
    rw [List.getElem?_take_of_lt hj] at hu
    simpa using hu
theorem own_soft (h : w.ownsRow base e size v n xs) (g : Nat) (hg : v.ownBlock = some g) (i : Nat) : w.frozen? ⟨g, i, none⟩ = false := by
  rcases h.2 with ⟨rfl, _⟩ | ⟨g', cap, cur, rfl, _, hh, _⟩
  · cases hg
  · have e' : g' = g := by simpa [Value.ownBlock] using hg
    subst e'
    exact frozen_of_row w g' i cur e hh
theorem own_same {w' : World} (h : w.ownsRow base e size v n xs) (hs : ∀ g, v.ownBlock = some g → w'.heap[g]? = w.heap[g]?) : w'.ownsRow base e size v n xs := by
  refine ⟨h.1, ?_⟩
  rcases h.2 with hn | ⟨g, cap, cur, rfl, hb, hg, rest⟩
  · exact .inl hn
  · exact .inr ⟨g, cap, cur, rfl, hb, (hs g rfl).trans hg, rest⟩
theorem own_mono {base' : Nat} (h : w.ownsRow base e size v n xs) (hb : base' ≤ base) : w.ownsRow base' e size v n xs := by
  refine ⟨h.1, ?_⟩
  rcases h.2 with hn | ⟨g, cap, cur, rfl, hb', rest⟩
  · exact .inl hn
  · exact .inr ⟨g, cap, cur, rfl, Nat.le_trans hb hb', rest⟩
end

theorem but_of_grown {w w' : World} {row : Option Nat} (h : w.grownBy w' row) (hf : ∀ g, row = some g → g < w.heap.size → ∀ i, w'.frozen? ⟨g, i, none⟩ = w.frozen? ⟨g, i, none⟩) : But (fun k => row = some k) w w' :=
  ⟨h.os, h.tape, h.output, h.size, fun k hk hS => h.block k hk (fun e => hS e.symm), fun a ha => by
    by_cases e : row = some a.block
    · obtain ⟨b, i, s⟩ := a
      cases s with
      | none => exact hf b e ha i
      | some s =>
        have := hf b e ha i
        simpa [World.frozen?] using this
    · exact World.frozen?_of_block (h.block a.block ha (fun h => e h.symm))⟩

section
variable {P : Program} (w : World)
theorem append_any (base : Nat) (t ty e : TypeId) (i : TypeInfo) (z : Value) (size bytes : Nat) (ht : P.underlying t = some (.slice e)) (hi : P.info? e = some i) (hz : i.zero = some z)
    (hsize : i.size = size) (hby : i.bytes = bytes) (hzs : z.cells.size = size) (hsz : 0 < size)
    (v : Value) (n : Nat) (xs : List Value) (hown : w.ownsRow base e size v n xs)
    (x : Value) (m : Nat) (news : List Value) (hl : news.length = m * size) (hx : Lies w x m news) (h1 : ∀ u ∈ news, u.oneCell' = true)
    (h63 : n + m ≤ maxLen) (hbytes : (n + m) * bytes ≤ 140737488355328) (hbase : base ≤ w.heap.size) :
    ∃ a c w', (Builtin.append_ #[t, t] ty #[v, x]).run P w = .ok (.slice a (n + m) c) w' ∧ w'.ownsRow base e size (.slice a (n + m) c) (n + m) (xs ++ news) ∧ But (fun k => v.ownBlock = some k) w w' ∧
      ((Value.slice a (n + m) c).ownBlock = v.ownBlock ∨ (Value.slice a (n + m) c).ownBlock = some w.heap.size) := by
  rcases hx with ⟨rfl, rfl, rfl⟩ | ⟨g, o, c, rfl, _, _, hc⟩
  · obtain ⟨a, c, rfl⟩ := own_form hown
    refine ⟨a, c, w, ?_, by simpa using hown, But.refl _ _, Or.inl rfl⟩
    rcases hown.2 with ⟨hv, rfl⟩ | ⟨g', cap, cur, hv, _, _, hnc, _⟩
    · cases hv
      simp [Builtin.append_, run_underlying ht, sizeOf, typeInfo, hi, Builtin.lenOf, Builtin.firstCells]
    · cases hv
      simp [Builtin.append_, run_underlying ht, sizeOf, typeInfo, hi, Builtin.lenOf, Builtin.firstCells, hnc, storeCells]
  · obtain ⟨v', w', hr, h2, h3, _, h5⟩ := run_append_own_at (P := P) w base t ty e i z size bytes ht hi hz hsize hby hzs hsz v n xs hown ⟨g, o, none⟩ m c news hl (fun j u hu => by rw [add_none]; exact hc j u hu) h1 h63 hbytes hbase
    obtain ⟨a, c', rfl⟩ := own_form h2
    refine ⟨a, c', w', hr, h2, but_of_grown h3 fun g' hg' _ k => ?_, h5⟩
    have hnews : ∀ j u, news[j]? = some u → w.cell? ((⟨g, o, none⟩ : Addr).add j) = some u := fun j u hu => by rw [add_none]; exact hc j u hu
    subst hsize
    subst hby
    rcases hown.2 with ⟨rfl, _⟩ | ⟨g2, cap, cur, rfl, _, hg2, hnc, hcm, hcs, htake⟩
    · cases hg'
    · have e' : g2 = g' := by simpa [Value.ownBlock] using hg'
      subst e'
      by_cases hroom : n + m ≤ cap
      · have hr2 := run_append_room (P := P) w t ty e i ht hi g2 n cap cur hg2 ⟨g, o, none⟩ m c news hl hnews h1 hroom (by rw [hl, hcs, ← Nat.add_mul]; exact Nat.mul_le_mul_right _ hroom)
        rw [hr] at hr2
        injection hr2 with _ hw
        rw [hw, frozen_of_row _ g2 k _ e (setRow_heap w g2 cur _ e _ hg2), frozen_of_row _ g2 k _ e hg2]
      · have hr2 := run_append_grow (P := P) w t ty e i z ht hi hz ⟨g2, 0, none⟩ n cap xs hown.1 (hown.cells (g := g2) rfl) ⟨g, o, none⟩ m c news hl hnews (by omega) (by unfold maxLen at h63; omega) (growslice_fits (by omega) hbytes)
        rw [hr] at hr2
        injection hr2 with _ hw
        rw [hw]
        exact (((Kept.refl w).drew).alloc _ _).froze ⟨g2, k, none⟩ (Array.getElem?_eq_some_iff.1 hg2).1

theorem wp_append_any {o : Oper} {A : Act} {K : Act → World → Prop} {Q : Exit → Act → World → Prop} (s x : Operand) (t : TypeId)
    (ho : o.op = .call { callee := .builtin .append, args := #[s, x], argTypes := #[t, t] })
    (base : Nat) (e : TypeId) (i : TypeInfo) (z : Value) (size bytes : Nat) (ht : P.underlying t = some (.slice e)) (hi : P.info? e = some i) (hz : i.zero = some z)
    (hsize : i.size = size) (hby : i.bytes = bytes) (hzs : z.cells.size = size) (hsz : 0 < size)
    (v : Value) (n : Nat) (xs : List Value) (hs : A.eval s = v) (hown : w.ownsRow base e size v n xs)
    (y : Value) (m : Nat) (news : List Value) (hy : A.eval x = y) (hl : news.length = m * size) (hx : Lies w y m news) (h1 : ∀ u ∈ news, u.oneCell' = true)
    (h63 : n + m ≤ maxLen) (hbytes : (n + m) * bytes ≤ 140737488355328) (hbase : base ≤ w.heap.size)
    (h : ∀ a c w', w'.ownsRow base e size (.slice a (n + m) c) (n + m) (xs ++ news) → But (fun k => v.ownBlock = some k) w w' →
      ((Value.slice a (n + m) c).ownBlock = v.ownBlock ∨ (Value.slice a (n + m) c).ownBlock = some w.heap.size) → K (A.put o.dst (.slice a (n + m) c)) w') : o.wp P A w K Q := by
  obtain ⟨a, c, w', hr, h2, h3, h4⟩ := append_any (P := P) w base t o.type e i z size bytes ht hi hz hsize hby hzs hsz v n xs hown y m news hl hx h1 h63 hbytes hbase
  unfold Oper.wp execOp
  simp only [ho, resolve, invoke, builtin, Sem.run_bind, Sem.run_pure, Result.andThen_ok, List.map_toArray, List.map_cons, List.map_nil, hs, hy, hr]
  exact h a c w' h2 h3 h4

theorem wpList_append_any {ops : Array Oper} {rest : List Oper} {o : Oper} {A : Act} {Q : Exit → Act → World → Prop} (hgd : o.guard = none) (s x : Operand) (t : TypeId)
    (ho : o.op = .call { callee := .builtin .append, args := #[s, x], argTypes := #[t, t] })
    (base : Nat) (e : TypeId) (i : TypeInfo) (z : Value) (size bytes : Nat) (ht : P.underlying t = some (.slice e)) (hi : P.info? e = some i) (hz : i.zero = some z)
    (hsize : i.size = size) (hby : i.bytes = bytes) (hzs : z.cells.size = size) (hsz : 0 < size)
    (v : Value) (n : Nat) (xs : List Value) (hs : A.eval s = v) (hown : w.ownsRow base e size v n xs)
    (y : Value) (m : Nat) (news : List Value) (hy : A.eval x = y) (hl : news.length = m * size) (hx : Lies w y m news) (h1 : ∀ u ∈ news, u.oneCell' = true)
    (h63 : n + m ≤ maxLen) (hbytes : (n + m) * bytes ≤ 140737488355328) (hbase : base ≤ w.heap.size)
    (h : ∀ a c w', w'.ownsRow base e size (.slice a (n + m) c) (n + m) (xs ++ news) → But (fun k => v.ownBlock = some k) w w' →
      ((Value.slice a (n + m) c).ownBlock = v.ownBlock ∨ (Value.slice a (n + m) c).ownBlock = some w.heap.size) → wpList P ops Q rest (A.put o.dst (.slice a (n + m) c)) w') : wpList P ops Q (o :: rest) A w :=
  wpList_plain hgd fun _ hK => wp_append_any w s x t ho base e i z size bytes ht hi hz hsize hby hzs hsz v n xs hs hown y m news hy hl hx h1 h63 hbytes hbase fun a c w' h2 h3 h4 => hK _ _ (h a c w' h2 h3 h4)

theorem step_append_any {ops : Array Oper} {o : Oper} {A : Act} {K : Act → World → Prop} {Q : Exit → Act → World → Prop} {E : Prop} (hgd : o.guard = none) (s x : Operand) (t : TypeId)
    (ho : o.op = .call { callee := .builtin .append, args := #[s, x], argTypes := #[t, t] })
    (base : Nat) (e : TypeId) (i : TypeInfo) (z : Value) (size bytes : Nat) (ht : P.underlying t = some (.slice e)) (hi : P.info? e = some i) (hz : i.zero = some z)
    (hsize : i.size = size) (hby : i.bytes = bytes) (hzs : z.cells.size = size) (hsz : 0 < size)
    (v : Value) (n : Nat) (xs : List Value) (hs : A.eval s = v) (hown : w.ownsRow base e size v n xs)
    (y : Value) (m : Nat) (news : List Value) (hy : A.eval x = y) (hl : news.length = m * size) (hx : Lies w y m news) (h1 : ∀ u ∈ news, u.oneCell' = true)
    (h63 : n + m ≤ maxLen) (hbytes : (n + m) * bytes ≤ 140737488355328) (hbase : base ≤ w.heap.size)
    (h : ∀ a c w', w'.ownsRow base e size (.slice a (n + m) c) (n + m) (xs ++ news) → But (fun k => v.ownBlock = some k) w w' →
      ((Value.slice a (n + m) c).ownBlock = v.ownBlock ∨ (Value.slice a (n + m) c).ownBlock = some w.heap.size) → K (A.put o.dst (.slice a (n + m) c)) w') :
    if Region.wanted o (yielded ops A.tmps) = true then Oper.wp P o A w K Q else E := by
  have hw : Region.wanted o (yielded ops A.tmps) = true := by simp [Region.wanted, hgd]
  rw [if_pos hw]
  exact wp_append_any w s x t ho base e i z size bytes ht hi hz hsize hby hzs hsz v n xs hs hown y m news hy hl hx h1 h63 hbytes hbase h
end
end Go.Proofs.YtbonnfofoepjcaaGreat

namespace Go.Proofs.YtbonnfofoepjcaaGreat
open Go.RowKit

section
variable {α : Type} {m : Nat} {f : α → List Value}
theorem wide_length (hf : ∀ a, (f a).length = m) (l : List α) : (l.flatMap f).length = l.length * m := by
  induction l with
  | nil => simp
  | cons a l ih => simp only [List.flatMap_cons, List.length_append, hf, ih, List.length_cons, Nat.add_mul, Nat.one_mul]; omega
theorem wide_get (hf : ∀ a, (f a).length = m) (l : List α) : ∀ (i j : Nat) (a : α), l[i]? = some a → j < m → (l.flatMap f)[i * m + j]? = (f a)[j]? := by
  induction l with
  | nil => intro i j a h; simp at h
  | cons b l ih =>
    intro i j a h hj
    rw [List.flatMap_cons]
    cases i with
    | zero =>
      simp at h
      subst h
      rw [List.getElem?_append_left (by rw [hf]; omega)]
      simp
    | succ i =>
      rw [List.getElem?_append_right (by rw [hf, Nat.add_mul]; omega), hf, show (i + 1) * m + j - m = i * m + j by rw [Nat.add_mul]; omega]
      exact ih i j a (by simpa using h) hj
theorem wide_snoc (l : List α) (a : α) : (l ++ [a]).flatMap f = l.flatMap f ++ f a := by simp
theorem wide_one (h1 : ∀ a, ∀ u ∈ f a, u.oneCell' = true) (l : List α) : ∀ u ∈ l.flatMap f, u.oneCell' = true := by
  intro u h
  obtain ⟨a, _, ha⟩ := List.mem_flatMap.1 h
  exact h1 a u ha
end

def Lay (w : World) (v : Value) (n : Nat) (xs : List Value) : Prop := Lies w v n xs ∨ ∃ x c, v = .slice (some x) 0 c ∧ n = 0 ∧ xs = [] ∧ c ≤ maxLen
theorem Lies.lay {w : World} {v : Value} {n : Nat} {xs : List Value} (h : Lies w v n xs) : Lay w v n xs := .inl h
theorem Lay.form {w : World} {v : Value} {n : Nat} {xs : List Value} (h : Lay w v n xs) : ∃ a c, v = .slice a n c ∧ n ≤ c ∧ c ≤ maxLen := by
  rcases h with h | ⟨x, c, rfl, rfl, _, hc⟩
  · exact h.form
  · exact ⟨_, _, rfl, Nat.zero_le _, hc⟩
theorem Lay.kept {w w' : World} {v : Value} {n : Nat} {xs : List Value} (h : Lay w v n xs) (k : Kept w w') : Lay w' v n xs := h.imp (fun h => h.kept k) id
theorem Lay.but {S : Nat → Prop} {w w' : World} {v : Value} {n : Nat} {xs : List Value} (h : Lay w v n xs) (k : But S w w') (hS : ∀ g, v.ownBlock = some g → ¬ S g) : Lay w' v n xs := h.imp (fun h => h.but k hS) id
theorem Lay.at {w : World} {v : Value} {n : Nat} {xs : List Value} (h : Lay w v n xs) (hn : 0 < n) : ∃ g o c, v = .slice (some ⟨g, o, none⟩) n c ∧ n ≤ c ∧ c ≤ maxLen ∧ ∀ j u, xs[j]? = some u → w.cell? ⟨g, o + j, none⟩ = some u := by
  rcases h with (⟨_, h, _⟩ | h) | ⟨_, _, _, h, _⟩
  · omega
  · exact h
  · omega
theorem Lay.pre {w : World} {a : Option Addr} {n c m : Nat} {xs ys : List Value} (h : Lay w (.slice a n c) n xs) (hm : m ≤ n) (h0 : m = 0 → ys = []) (hx : ∀ (j : Nat) u, ys[j]? = some u → xs[j]? = some u) : Lay w (.slice a m c) m ys := by
  obtain ⟨a', c', e, hc1, hc2⟩ := h.form
  cases e
  by_cases hz : m = 0
  · subst hz
    rw [h0 rfl]
    cases a with
    | none =>
      rcases h with (⟨e, _, _⟩ | ⟨g, o, c', e, _⟩) | ⟨x, c', e, _⟩
      · cases e; exact .inl (.inl ⟨rfl, rfl, rfl⟩)
      · cases e
      · cases e
    | some x => exact .inr ⟨x, c, rfl, rfl, rfl, hc2⟩
  · obtain ⟨g, o, c', e, h1, h2, h3⟩ := h.at (by omega)
    cases e
    exact .inl (.inr ⟨g, o, c, rfl, by omega, h2, fun j u hu => h3 j u (hx j u hu)⟩)

section
variable {P : Program} (w : World)
theorem append_lay (base : Nat) (t ty e : TypeId) (i : TypeInfo) (z : Value) (size bytes : Nat) (ht : P.underlying t = some (.slice e)) (hi : P.info? e = some i) (hz : i.zero = some z)
    (hsize : i.size = size) (hby : i.bytes = bytes) (hzs : z.cells.size = size) (hsz : 0 < size)
    (v : Value) (n : Nat) (xs : List Value) (hown : w.ownsRow base e size v n xs)
    (x : Value) (m : Nat) (news : List Value) (hl : news.length = m * size) (hx : Lay w x m news) (h1 : ∀ u ∈ news, u.oneCell' = true)
    (h63 : n + m ≤ maxLen) (hbytes : (n + m) * bytes ≤ 140737488355328) (hbase : base ≤ w.heap.size) :
    ∃ a c w', (Builtin.append_ #[t, t] ty #[v, x]).run P w = .ok (.slice a (n + m) c) w' ∧ w'.ownsRow base e size (.slice a (n + m) c) (n + m) (xs ++ news) ∧ But (fun k => v.ownBlock = some k) w w' ∧
      ((Value.slice a (n + m) c).ownBlock = v.ownBlock ∨ (Value.slice a (n + m) c).ownBlock = some w.heap.size) := by
  rcases hx with hx | ⟨x, c, rfl, rfl, rfl, hc⟩
  · exact append_any w base t ty e i z size bytes ht hi hz hsize hby hzs hsz v n xs hown x m news hl hx h1 h63 hbytes hbase
  · obtain ⟨v', w', hr, h2, h3, _, h5⟩ := run_append_own_at (P := P) w base t ty e i z size bytes ht hi hz hsize hby hzs hsz v n xs hown x 0 c [] (by simp) (fun j u hu => by simp at hu) h1 h63 hbytes hbase
    obtain ⟨a, c', rfl⟩ := own_form h2
    refine ⟨a, c', w', hr, h2, but_of_grown h3 fun g hg _ k => ?_, h5⟩
    subst hsize
    rcases hown.2 with ⟨rfl, _⟩ | ⟨g2, cap, cur, rfl, _, hg2, hnc, hcm, hcs, htake⟩
    · cases hg
    · have e' : g2 = g := by simpa [Value.ownBlock] using hg
      subst e'
      have hr2 := run_append_room (P := P) w t ty e i ht hi g2 n cap cur hg2 x 0 c [] (by simp) (fun j u hu => by simp at hu) h1 (by omega) (by simp [hcs]; exact Nat.mul_le_mul_right _ hnc)
      rw [hr] at hr2
      injection hr2 with _ hw
      rw [hw, frozen_of_row _ g2 k _ e (setRow_heap w g2 cur _ e _ hg2), frozen_of_row _ g2 k _ e hg2]

theorem wp_append_lay {o : Oper} {A : Act} {K : Act → World → Prop} {Q : Exit → Act → World → Prop} (s x : Operand) (t : TypeId)
    (ho : o.op = .call { callee := .builtin .append, args := #[s, x], argTypes := #[t, t] })
    (base : Nat) (e : TypeId) (i : TypeInfo) (z : Value) (size bytes : Nat) (ht : P.underlying t = some (.slice e)) (hi : P.info? e = some i) (hz : i.zero = some z)
    (hsize : i.size = size) (hby : i.bytes = bytes) (hzs : z.cells.size = size) (hsz : 0 < size)
    (v : Value) (n : Nat) (xs : List Value) (hs : A.eval s = v) (hown : w.ownsRow base e size v n xs)
    (y : Value) (m : Nat) (news : List Value) (hy : A.eval x = y) (hl : news.length = m * size) (hx : Lay w y m news) (h1 : ∀ u ∈ news, u.oneCell' = true)
    (h63 : n + m ≤ maxLen) (hbytes : (n + m) * bytes ≤ 140737488355328) (hbase : base ≤ w.heap.size)
    (h : ∀ a c w', w'.ownsRow base e size (.slice a (n + m) c) (n + m) (xs ++ news) → But (fun k => v.ownBlock = some k) w w' →
      ((Value.slice a (n + m) c).ownBlock = v.ownBlock ∨ (Value.slice a (n + m) c).ownBlock = some w.heap.size) → K (A.put o.dst (.slice a (n + m) c)) w') : o.wp P A w K Q := by
  obtain ⟨a, c, w', hr, h2, h3, h4⟩ := append_lay (P := P) w base t o.type e i z size bytes ht hi hz hsize hby hzs hsz v n xs hown y m news hl hx h1 h63 hbytes hbase
  unfold Oper.wp execOp
  simp only [ho, resolve, invoke, builtin, Sem.run_bind, Sem.run_pure, Result.andThen_ok, List.map_toArray, List.map_cons, List.map_nil, hs, hy, hr]
  exact h a c w' h2 h3 h4
theorem wpList_append_lay {ops : Array Oper} {rest : List Oper} {o : Oper} {A : Act} {Q : Exit → Act → World → Prop} (hgd : o.guard = none) (s x : Operand) (t : TypeId)
    (ho : o.op = .call { callee := .builtin .append, args := #[s, x], argTypes := #[t, t] })
    (base : Nat) (e : TypeId) (i : TypeInfo) (z : Value) (size bytes : Nat) (ht : P.underlying t = some (.slice e)) (hi : P.info? e = some i) (hz : i.zero = some z)
    (hsize : i.size = size) (hby : i.bytes = bytes) (hzs : z.cells.size = size) (hsz : 0 < size)
    (v : Value) (n : Nat) (xs : List Value) (hs : A.eval s = v) (hown : w.ownsRow base e size v n xs)
    (y : Value) (m : Nat) (news : List Value) (hy : A.eval x = y) (hl : news.length = m * size) (hx : Lay w y m news) (h1 : ∀ u ∈ news, u.oneCell' = true)
    (h63 : n + m ≤ maxLen) (hbytes : (n + m) * bytes ≤ 140737488355328) (hbase : base ≤ w.heap.size)
    (h : ∀ a c w', w'.ownsRow base e size (.slice a (n + m) c) (n + m) (xs ++ news) → But (fun k => v.ownBlock = some k) w w' →
      ((Value.slice a (n + m) c).ownBlock = v.ownBlock ∨ (Value.slice a (n + m) c).ownBlock = some w.heap.size) → wpList P ops Q rest (A.put o.dst (.slice a (n + m) c)) w') : wpList P ops Q (o :: rest) A w :=
  wpList_plain hgd fun _ hK => wp_append_lay w s x t ho base e i z size bytes ht hi hz hsize hby hzs hsz v n xs hs hown y m news hy hl hx h1 h63 hbytes hbase fun a c w' h2 h3 h4 => hK _ _ (h a c w' h2 h3 h4)
end
end Go.Proofs.YtbonnfofoepjcaaGreat
