/- The chapter's examples: EventKnown. -/
import Derived.Test.YtjbplbfedndjpaaEvGen
import Derived.Deep.Cut
import Derived.Deep.CutBlock
import Derived.Deep.DeepCutAuto
namespace Go.Proofs.Ytjbplbfedndjpaa
open Go.RowKit Go.Maps

def exW : List Ev := [⟨1, false, 0, 0, 0, 0, 0, 0, 0⟩, ⟨1, true, 0, 0, 0, 0, 0, 0, 0⟩, ⟨3, false, 0, 0, 0, 0, 0, 0, 0⟩, ⟨3, true, 0, 0, 0, 0, 0, 0, 0⟩]
def exO : List Ev := [⟨1, false, 0, 0, 0, 0, 0, 0, 0⟩, ⟨1, true, 0, 0, 0, 0, 0, 0, 0⟩]
theorem exW_keep : keep exH = exW := by rfl
theorem exW_of : ofL [1, -1, 3, -3] = exW := by rfl
theorem exO_of : ofL [1, -1] = exO := by rfl
theorem exO_onl : onl exH [1, 9] = exO := by rfl
theorem exH_pend : pend exH = [2] := by rfl
theorem ExAt.whole {w' : World} {g : Nat} (h : ExAt w' g) : w'.cell? ⟨g, 0, none⟩ = some (.int .i64 1) ∧ w'.cell? ⟨g, 1, none⟩ = some (.int .i64 0) ∧ w'.cell? ⟨g, 2, none⟩ = some (.int .i64 2) ∧ w'.cell? ⟨g, 3, none⟩ = some (.int .i64 0) ∧ w'.cell? ⟨g, 4, none⟩ = some (.int .i64 0) ∧ w'.cell? ⟨g, 5, none⟩ = some (.int .i64 0) ∧ w'.cell? ⟨g, 6, none⟩ = some (.int .u64 0) ∧ w'.cell? ⟨g, 7, none⟩ = some (.int .i64 0) ∧ w'.cell? ⟨g, 8, none⟩ = some (.int .i64 0) ∧ w'.cell? ⟨g, 9, none⟩ = some (.int .u64 0) ∧ w'.cell? ⟨g, 10, none⟩ = some (.int .i64 2) ∧ w'.cell? ⟨g, 11, none⟩ = some (.int .i64 1) ∧ w'.cell? ⟨g, 12, none⟩ = some (.int .i64 (-1)) ∧ w'.cell? ⟨g, 13, none⟩ = some (.int .i64 0) ∧ w'.cell? ⟨g, 14, none⟩ = some (.int .i64 0) ∧ w'.cell? ⟨g, 15, none⟩ = some (.int .i64 0) ∧ w'.cell? ⟨g, 16, none⟩ = some (.int .u64 0) ∧ w'.cell? ⟨g, 17, none⟩ = some (.int .i64 0) ∧ w'.cell? ⟨g, 18, none⟩ = some (.int .i64 0) ∧ w'.cell? ⟨g, 19, none⟩ = some (.int .u64 0) ∧ w'.cell? ⟨g, 20, none⟩ = some (.int .i64 3) ∧ w'.cell? ⟨g, 21, none⟩ = some (.int .i64 3) ∧ w'.cell? ⟨g, 22, none⟩ = some (.int .i64 4) ∧ w'.cell? ⟨g, 23, none⟩ = some (.int .i64 0) ∧ w'.cell? ⟨g, 24, none⟩ = some (.int .i64 0) ∧ w'.cell? ⟨g, 25, none⟩ = some (.int .i64 0) ∧ w'.cell? ⟨g, 26, none⟩ = some (.int .u64 0) ∧ w'.cell? ⟨g, 27, none⟩ = some (.int .i64 0) ∧ w'.cell? ⟨g, 28, none⟩ = some (.int .i64 0) ∧ w'.cell? ⟨g, 29, none⟩ = some (.int .u64 0) :=
  ⟨h.c0, h.c1, h.c2, h.c3, h.c4, h.c5, h.c6, h.c7, h.c8, h.c9, h.c10, h.c11, h.c12, h.c13, h.c14, h.c15, h.c16, h.c17, h.c18, h.c19, h.c20, h.c21, h.c22, h.c23, h.c24, h.c25, h.c26, h.c27, h.c28, h.c29⟩
theorem sameInts_one {w : World} {v v' : Value} (h : Lay w v 1 (ints [2])) (h' : Lay w v' 1 (ints [2])) : Calls Try.prog 17 #[v, v'] w fun e w' => e = .returned (.bool true) ∧ Kept w w' := sameInts_yes (l := [2]) h h' (by decide)
theorem lay2 (x y : Int) (W : World) (g : Nat) (hg : g = W.heap.size) : Lay (W.alloc (.cells #[.int .i64 x, .int .i64 y] 3)) (.slice (some ⟨g, 0, none⟩) 2 2) 2 (ints [x, y]) := by
  subst hg; exact lay_new (heap_alloc_new _ _) (by decide)
theorem of_two {w : World} {v : Value} (h : Lay w v 2 (ints [1, -1])) : Calls Try.prog 31 #[v] w (RetE w exO) := of_at [1, -1] exO exO_of h (by decide) (by decide) (by decide)
theorem wf_ids {l : List Ev} (h : l.all (fun e => decide (-9223372036854775808 ≤ e.id) && decide (e.id ≤ 9223372036854775807)) = true) : ∀ e ∈ l, Wf e := by
  intro e he
  have := List.all_eq_true.1 h e he
  simpa [Wf] using this
theorem lay_nil (w : World) : Lay w (.slice none ([] : List Ev).length 0) ([] : List Ev).length (flatE []) := .inl (.inl ⟨rfl, rfl, rfl⟩)
theorem check_nil (w : World) : Calls Try.prog 15 #[.slice none 0 0] w fun ed w' => ed = .returned (.int .i64 0) ∧ Kept w w' := check_at (lay_nil w) (by simp) (by decide) 0 (by decide +kernel)
theorem most_nil (w : World) : Calls Try.prog 19 #[.slice none 0 0] w fun ed w' => ed = .returned (.int .i64 0) ∧ Kept w w' := (show mos [] = 0 by decide +kernel) ▸ most_of (lay_nil w) (by simp) (by decide)
theorem twoH_pnd : pnd twoH = [] := by rfl
theorem twoH_mos : mos twoH = 0 := by decide +kernel
theorem lay1_kept {W W' : World} (k : Kept (W.alloc (.cells #[.int .i64 2] 3)) W') : Lay W' (.slice (some ⟨W.heap.size, 0, none⟩) 1 1) 1 (ints [2]) := Lay.kept (lay_new (heap_alloc_new _ _) (by decide)) k
theorem lay1_drew {W W' : World} (k : Kept (W.alloc (.cells #[.int .i64 2] 3)).drew W') : Lay W' (.slice (some ⟨W.heap.size, 0, none⟩) 1 1) 1 (ints [2]) := lay1_kept (W := W) ((Kept.refl _).drew.trans k)
def KnAt (w3 : World) (v : Value) (W : World) : Prop := v = .bool true ∧ Kept w3 W

set_option maxRecDepth 100000 in
set_option maxHeartbeats 16000000 in
theorem known_any (w : World) : Calls Try.prog 6 #[] w fun e w' => e = .returned (.bool true) ∧ Kept w w' := by
  go_enter Try.func6, Try.ntmps6
  go_wp2_with fail; refine (of_at [1, 2, -1, 3, -3] exH exH_of (lay_new (heap_alloc_new _ _) (by decide)) (by decide) (by decide) (by decide)).mono ?_; rintro ed w1 ⟨a1, c1, rfl, k1, own1⟩
  have K1 := Lib.hid (((Kept.refl w).alloc _ _).trans k1)
  have L1 := Lib.hid (own_lies own1).lay
  clear k1 own1
  have CO := Lib.hid (exS_of ▸ calls_ok L1.out exH_wf (by decide) exH_chk)
  go_wp2_with fail; refine CO.out.mono ?_; rintro ed w2 ⟨a2, c2, rfl, k2, own2⟩
  obtain ⟨g, c, hv, hex⟩ := exAt own2
  rw [hv]
  have K2 := Lib.hid k2
  have E2 := Lib.hid hex
  clear k2 own2 hv hex
  have WO := Lib.hid (exW_keep ▸ whole_ok (L1.out.kept K2.out) exH_wf (by decide) exH_chk)
  go_wp2_with fail; refine WO.out.mono ?_; rintro ed w3 ⟨a3, c3, rfl, k3, own3⟩
  have KK := Lib.hid ((K1.out.trans K2.out).trans k3)
  have E3 := Lib.hid (E2.out.kept k3)
  have M3 := Lib.hid (own_lies own3).lay
  have L3 := Lib.hid ((L1.out.kept K2.out).kept k3)
  clear k3 own3
  have PE := Lib.hid (fun (W : World) (k : Kept w3 W) => exH_pend ▸ pending_ok (L3.out.kept k) exH_wf (by decide) exH_chk)
  have ON := Lib.hid (fun (W : World) (v : Value) (k : Kept w3 W) (M : Lay W v 2 (ints [1, 9])) => exO_onl ▸ only_any (l := [1, 9]) (L3.out.kept k) exH_wf (by decide) M (by decide) (by decide))
  have K3 : Kept w3 w3 := Kept.refl _
  have tok8 : True := trivial
  go_upto_region 6 with fail
  go_cut [6] (KnAt w3)
  case first =>
    go_upto_region 6 with fail
    go_region_held3 (fun w' => w'.cell? ⟨g, 0, none⟩ = some (.int .i64 1) ∧ w'.cell? ⟨g, 1, none⟩ = some (.int .i64 0) ∧ w'.cell? ⟨g, 2, none⟩ = some (.int .i64 2) ∧ w'.cell? ⟨g, 3, none⟩ = some (.int .i64 0) ∧ w'.cell? ⟨g, 4, none⟩ = some (.int .i64 0) ∧ w'.cell? ⟨g, 5, none⟩ = some (.int .i64 0) ∧ w'.cell? ⟨g, 6, none⟩ = some (.int .u64 0) ∧ w'.cell? ⟨g, 7, none⟩ = some (.int .i64 0) ∧ w'.cell? ⟨g, 8, none⟩ = some (.int .i64 0) ∧ w'.cell? ⟨g, 9, none⟩ = some (.int .u64 0) ∧ w'.cell? ⟨g, 10, none⟩ = some (.int .i64 2) ∧ w'.cell? ⟨g, 11, none⟩ = some (.int .i64 1) ∧ w'.cell? ⟨g, 12, none⟩ = some (.int .i64 (-1)) ∧ w'.cell? ⟨g, 13, none⟩ = some (.int .i64 0) ∧ w'.cell? ⟨g, 14, none⟩ = some (.int .i64 0) ∧ w'.cell? ⟨g, 15, none⟩ = some (.int .i64 0) ∧ w'.cell? ⟨g, 16, none⟩ = some (.int .u64 0) ∧ w'.cell? ⟨g, 17, none⟩ = some (.int .i64 0) ∧ w'.cell? ⟨g, 18, none⟩ = some (.int .i64 0) ∧ w'.cell? ⟨g, 19, none⟩ = some (.int .u64 0) ∧ w'.cell? ⟨g, 20, none⟩ = some (.int .i64 3) ∧ w'.cell? ⟨g, 21, none⟩ = some (.int .i64 3) ∧ w'.cell? ⟨g, 22, none⟩ = some (.int .i64 4) ∧ w'.cell? ⟨g, 23, none⟩ = some (.int .i64 0) ∧ w'.cell? ⟨g, 24, none⟩ = some (.int .i64 0) ∧ w'.cell? ⟨g, 25, none⟩ = some (.int .i64 0) ∧ w'.cell? ⟨g, 26, none⟩ = some (.int .u64 0) ∧ w'.cell? ⟨g, 27, none⟩ = some (.int .i64 0) ∧ w'.cell? ⟨g, 28, none⟩ = some (.int .i64 0) ∧ w'.cell? ⟨g, 29, none⟩ = some (.int .u64 0))
      (first | with_reducible exact E3.out.whole | exact (E3.out.kept (by repeat (first | with_reducible exact K11 | with_reducible exact K10 | with_reducible exact K9 | with_reducible exact K12 | with_reducible exact K8 | with_reducible exact K7 | with_reducible exact K6 | with_reducible exact K5 | with_reducible exact K4 | with_reducible exact K3 | with_reducible refine Kept.alloc ?_ _ _ | with_reducible refine Kept.drew ?_ | with_reducible refine Kept.drewN ?_ _))).whole)
      (first
        | (go_at_call 13; refine (PE.out _ (by repeat (first | with_reducible exact K3 | with_reducible refine Kept.alloc ?_ _ _ | with_reducible refine Kept.drew ?_ | with_reducible refine Kept.drewN ?_ _))).mono ?_; rintro ed w4 ⟨a4, c4, rfl, k4, own4⟩; have K4 : Kept w3 w4 := Kept.trans (by repeat (first | with_reducible exact K3 | with_reducible refine Kept.alloc ?_ _ _ | with_reducible refine Kept.drew ?_ | with_reducible refine Kept.drewN ?_ _)) k4; have L4 := Lib.hid (show Lay w4 (.slice a4 1 c4) 1 (ints [2]) from (own_lies own4).lay); clear own4)
        | (go_at_call 17; (first | (have _t : Kept w3.drew w4 := (by with_reducible exact k4); refine (sameInts_one (L4.out.kept ((Kept.refl w4).alloc _ _)) (lay_new (heap_alloc_new _ _) (by decide))).mono ?_) | (refine (sameInts_one L4.out (lay1_kept k4)).mono ?_) | (refine (sameInts_one L4.out (lay1_drew k4)).mono ?_)); rintro ed w5 ⟨rfl, k5⟩; have K5 : Kept w3 w5 := Kept.trans (by repeat (first | with_reducible exact K4 | with_reducible exact K3 | with_reducible refine Kept.alloc ?_ _ _ | with_reducible refine Kept.drew ?_ | with_reducible refine Kept.drewN ?_ _)) k5)
        | (go_at_call 32; with_reducible refine (ahead_at ⟨1, 0, 2, 0, 0, 0, 0, 0, 0, 0⟩ ⟨2, 1, -1, 0, 0, 0, 0, 0, 0, 0⟩ false rfl _).mono ?_; rintro ed w6 ⟨rfl, k6⟩; have K6 : Kept w3 w6 := Kept.trans (by repeat (first | with_reducible exact K5 | with_reducible exact K4 | with_reducible exact K3 | with_reducible refine Kept.alloc ?_ _ _ | with_reducible refine Kept.drew ?_ | with_reducible refine Kept.drewN ?_ _)) k6)
        | (go_at_call 32; with_reducible refine (ahead_at ⟨2, 1, -1, 0, 0, 0, 0, 0, 0, 0⟩ ⟨3, 3, 4, 0, 0, 0, 0, 0, 0, 0⟩ false rfl _).mono ?_; rintro ed w7 ⟨rfl, k7⟩; have K7 : Kept w3 w7 := Kept.trans (by repeat (first | with_reducible exact K6 | with_reducible exact K5 | with_reducible exact K4 | with_reducible exact K3 | with_reducible refine Kept.alloc ?_ _ _ | with_reducible refine Kept.drew ?_ | with_reducible refine Kept.drewN ?_ _)) k7)
        | (go_at_call 31; have _t := tok8; clear tok8; refine (of_at [1, -1, 3, -3] exW exW_of (lay_new (heap_alloc_new _ _) (by decide)) (by decide) (by decide) (by decide)).mono ?_; rintro ed w8 ⟨a8, c8, rfl, k8, own8⟩; have K8 : Kept w3 w8 := Kept.trans (by repeat (first | with_reducible exact K7 | with_reducible exact K6 | with_reducible exact K5 | with_reducible exact K4 | with_reducible exact K3 | with_reducible refine Kept.alloc ?_ _ _ | with_reducible refine Kept.drew ?_ | with_reducible refine Kept.drewN ?_ _)) k8; have L8 := Lib.hid (own_lies own8).lay; clear own8)
        | (go_at_call 23; refine (sameEvents_yes (l := exW) (M3.out.kept K8) L8.out (by decide)).mono ?_; rintro ed w12 ⟨rfl, k12⟩; have K12 : Kept w3 w12 := Kept.trans (by repeat (first | with_reducible exact K8 | with_reducible exact K7 | with_reducible exact K6 | with_reducible exact K5 | with_reducible exact K4 | with_reducible exact K3 | with_reducible refine Kept.alloc ?_ _ _ | with_reducible refine Kept.drew ?_ | with_reducible refine Kept.drewN ?_ _)) k12; clear L8)
        | (go_at_call 27; refine (ON.out _ _ ?_ ?_).mono ?_; exact (by repeat (first | with_reducible exact K10 | with_reducible exact K9 | with_reducible exact K12 | with_reducible exact K8 | with_reducible refine Kept.alloc ?_ _ _ | with_reducible refine Kept.drew ?_ | with_reducible refine Kept.drewN ?_ _)); ((first | exact lay2 _ _ _ _ (by first | rfl | simp) | exact (lay2 _ _ _ _ (by first | rfl | simp)).kept ((Kept.refl _).alloc _ _) | exact (lay2 _ _ _ _ (by first | rfl | simp)).kept k10 | exact (lay2 _ _ _ _ (by first | rfl | simp)).kept k9 | exact ((lay2 _ _ _ _ (by first | rfl | simp)).kept ((Kept.refl _).alloc _ _)).kept k10 | exact ((lay2 _ _ _ _ (by first | rfl | simp)).kept ((Kept.refl _).alloc _ _)).kept k9 | exact ((lay2 _ _ _ _ (by first | rfl | simp)).kept k10).kept ((Kept.refl _).alloc _ _) | exact ((lay2 _ _ _ _ (by first | rfl | simp)).kept k9).kept ((Kept.refl _).alloc _ _))); rintro ed w9 ⟨a9, c9, rfl, k9, own9⟩; have K9 : Kept w3 w9 := Kept.trans (by repeat (first | with_reducible exact K10 | with_reducible exact K9 | with_reducible exact K12 | with_reducible exact K8 | with_reducible refine Kept.alloc ?_ _ _ | with_reducible refine Kept.drew ?_ | with_reducible refine Kept.drewN ?_ _)) k9; have O9 := Lib.hid own9; clear own9)
        | (go_at_call 31; refine (of_two ?_).mono ?_; ((first | exact lay2 _ _ _ _ (by first | rfl | simp) | exact (lay2 _ _ _ _ (by first | rfl | simp)).kept ((Kept.refl _).alloc _ _) | exact (lay2 _ _ _ _ (by first | rfl | simp)).kept k10 | exact (lay2 _ _ _ _ (by first | rfl | simp)).kept k9 | exact ((lay2 _ _ _ _ (by first | rfl | simp)).kept ((Kept.refl _).alloc _ _)).kept k10 | exact ((lay2 _ _ _ _ (by first | rfl | simp)).kept ((Kept.refl _).alloc _ _)).kept k9 | exact ((lay2 _ _ _ _ (by first | rfl | simp)).kept k10).kept ((Kept.refl _).alloc _ _) | exact ((lay2 _ _ _ _ (by first | rfl | simp)).kept k9).kept ((Kept.refl _).alloc _ _))); rintro ed w10 ⟨a10, c10, rfl, k10, own10⟩; have K10 : Kept w3 w10 := Kept.trans (by repeat (first | with_reducible exact K10 | with_reducible exact K9 | with_reducible exact K12 | with_reducible exact K8 | with_reducible refine Kept.alloc ?_ _ _ | with_reducible refine Kept.drew ?_ | with_reducible refine Kept.drewN ?_ _)) k10; have O10 := Lib.hid own10; clear own10)
        | (go_at_call 23; refine (sameEvents_yes (l := exO) (own_lies (own_kept O9.out (by repeat (first | with_reducible exact k10 | with_reducible exact Kept.refl _ | with_reducible refine Kept.trans ?_ k10 | with_reducible refine Kept.alloc ?_ _ _ | with_reducible refine Kept.drew ?_ | with_reducible refine Kept.drewN ?_ _)))).lay (own_lies (own_kept O10.out (by repeat (first | with_reducible exact k9 | with_reducible exact Kept.refl _ | with_reducible refine Kept.trans ?_ k9 | with_reducible refine Kept.alloc ?_ _ _ | with_reducible refine Kept.drew ?_ | with_reducible refine Kept.drewN ?_ _)))).lay (by decide)).mono ?_; rintro ed w11 ⟨rfl, k11⟩; have K11 : Kept w3 w11 := Kept.trans (by repeat (first | with_reducible exact K10 | with_reducible exact K9 | with_reducible exact K12 | with_reducible exact K8 | with_reducible refine Kept.alloc ?_ _ _ | with_reducible refine Kept.drew ?_ | with_reducible refine Kept.drewN ?_ _)) k11))
    all_goals go_wp2
    all_goals go_meet
    all_goals exact ⟨rfl, K11⟩
  case rest =>
    obtain ⟨rfl, kc⟩ := hcut
    have KC := Lib.hid (KK.out.trans kc)
    clear kc
    go_wp2_with fail; refine (of_at [-1] [⟨1, true, 0, 0, 0, 0, 0, 0, 0⟩] rfl (lay_new (heap_alloc_new _ _) (by decide)) (by decide) (by decide) (by decide)).mono ?_; rintro ed v1 ⟨a5, c5, rfl, k5, own5⟩
    have V1 := Lib.hid ((KC.out.alloc _ _).trans k5)
    have N1 := Lib.hid (own_lies own5).lay
    clear k5 own5
    go_wp2_with fail; refine (check_at N1.out (wf_ids (by decide)) (by decide) 10 (by decide +kernel)).mono ?_; rintro ed v2 ⟨rfl, k6⟩
    have V2 := Lib.hid (V1.out.trans k6)
    clear k6
    go_wp2_with fail; refine (of_at [1, -1, -1] [⟨1, false, 0, 0, 0, 0, 0, 0, 0⟩, ⟨1, true, 0, 0, 0, 0, 0, 0, 0⟩, ⟨1, true, 0, 0, 0, 0, 0, 0, 0⟩] rfl (lay_new (heap_alloc_new _ _) (by decide)) (by decide) (by decide) (by decide)).mono ?_; rintro ed v3 ⟨a7, c7, rfl, k7, own7⟩
    have V3 := Lib.hid ((V2.out.alloc _ _).trans k7)
    have N3 := Lib.hid (own_lies own7).lay
    clear k7 own7
    go_wp2_with fail; refine (check_at N3.out (wf_ids (by decide)) (by decide) 8 (by decide +kernel)).mono ?_; rintro ed v4 ⟨rfl, k8⟩
    have V4 := Lib.hid (V3.out.trans k8)
    clear k8
    go_wp2_with fail; refine (of_at [1, -2] [⟨1, false, 0, 0, 0, 0, 0, 0, 0⟩, ⟨2, true, 0, 0, 0, 0, 0, 0, 0⟩] rfl (lay_new (heap_alloc_new _ _) (by decide)) (by decide) (by decide) (by decide)).mono ?_; rintro ed v5 ⟨a9, c9, rfl, k9, own9⟩
    have V5 := Lib.hid ((V4.out.alloc _ _).trans k9)
    have N5 := Lib.hid (own_lies own9).lay
    clear k9 own9
    go_wp2_with fail; refine (check_at N5.out (wf_ids (by decide)) (by decide) 10 (by decide +kernel)).mono ?_; rintro ed v6 ⟨rfl, k10⟩
    have V6 := Lib.hid (V5.out.trans k10)
    clear k10
    go_wp2_with fail; refine (awake_any _).mono ?_; rintro ed v7 ⟨rfl, k11⟩
    have V7 := Lib.hid (V6.out.trans k11)
    clear k11
    go_wp2_with fail; refine (check_nil _).mono ?_; rintro ed v8 ⟨rfl, k12⟩
    have V8 := Lib.hid (V7.out.trans k12)
    clear k12
    go_wp2_with fail; refine (most_nil _).mono ?_; rintro ed v9 ⟨rfl, k13⟩
    have V9 := Lib.hid (V8.out.trans k13)
    clear k13
    go_wp2_with fail; refine (of_at [1, 1] twoH rfl (lay_new (heap_alloc_new _ _) (by decide)) (by decide) (by decide) (by decide)).mono ?_; rintro ed v10 ⟨a14, c14, rfl, k14, own14⟩
    have V10 := Lib.hid ((V9.out.alloc _ _).trans k14)
    have N10 := Lib.hid (own_lies own14).lay
    clear k14 own14
    have PT := Lib.hid (twoH_pnd ▸ pending_of N10.out twoH_wf (by decide))
    go_wp2_with fail; refine PT.out.mono ?_; rintro ed v11 ⟨a15, c15, rfl, k15, own15⟩
    have V11 := Lib.hid (V10.out.trans k15)
    clear k15 own15
    go_wp2_with fail; refine (of_at [1, 1] twoH rfl (lay_new (heap_alloc_new _ _) (by decide)) (by decide) (by decide) (by decide)).mono ?_; rintro ed v12 ⟨a16, c16, rfl, k16, own16⟩
    have V12 := Lib.hid ((V11.out.alloc _ _).trans k16)
    have N12 := Lib.hid (own_lies own16).lay
    clear k16 own16
    have MT := Lib.hid (twoH_mos ▸ most_of N12.out twoH_wf (by decide))
    go_wp2_with fail; refine MT.out.mono ?_; rintro ed v13 ⟨rfl, k17⟩
    have V13 := Lib.hid (V12.out.trans k17)
    clear k17
    go_wp2
    go_ret
    exact ⟨rfl, V13.out⟩
end Go.Proofs.Ytjbplbfedndjpaa
