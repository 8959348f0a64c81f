/- The chapter's examples: awake. -/
import Derived.Test.YtjbplbfedndjpaaEvLaw1
namespace Go.Proofs.Ytjbplbfedndjpaa
open Go.RowKit Go.Maps

def twoH : List Ev := [⟨1, false, 0, 0, 0, 0, 0, 0, 0⟩, ⟨1, false, 0, 0, 0, 0, 0, 0, 0⟩]
theorem twoH_wf : ∀ e ∈ twoH, Wf e := by
  intro e he
  simp only [twoH, List.mem_cons, List.not_mem_nil, or_false] at he
  rcases he with rfl | rfl <;> exact ⟨by decide, by decide⟩
theorem check_at {w : World} {a : Option Addr} {c : Nat} {h : List Ev} (hE : Lay w (.slice a h.length c) h.length (flatE h)) (hw : ∀ e ∈ h, Wf e) (hl : h.length ≤ 5000) (v : Int) (hv : chk h = v) :
    Calls Try.prog 15 #[.slice a h.length c] w fun ed w' => ed = .returned (.int .i64 v) ∧ Kept w w' := by subst hv; exact check_any hE hw hl

theorem ExAt.all {w' : World} {g : Nat} (h : ExAt w' g) : w'.cell? ⟨g, 0, none⟩ = some (.int .i64 1) ∧ w'.cell? ⟨g, 1, none⟩ = some (.int .i64 0) ∧ w'.cell? ⟨g, 2, none⟩ = some (.int .i64 2) ∧ w'.cell? ⟨g, 3, none⟩ = some (.int .i64 0) ∧ w'.cell? ⟨g, 4, none⟩ = some (.int .i64 0) ∧ w'.cell? ⟨g, 5, none⟩ = some (.int .i64 0) ∧ w'.cell? ⟨g, 6, none⟩ = some (.int .u64 0) ∧ w'.cell? ⟨g, 7, none⟩ = some (.int .i64 0) ∧ w'.cell? ⟨g, 8, none⟩ = some (.int .i64 0) ∧ w'.cell? ⟨g, 9, none⟩ = some (.int .u64 0) ∧ w'.cell? ⟨g, 12, none⟩ = some (.int .i64 (-1)) ∧ w'.cell? ⟨g, 20, none⟩ = some (.int .i64 3) ∧ w'.cell? ⟨g, 21, none⟩ = some (.int .i64 3) ∧ w'.cell? ⟨g, 22, none⟩ = some (.int .i64 4) ∧ w'.cell? ⟨g, 23, none⟩ = some (.int .i64 0) ∧ w'.cell? ⟨g, 24, none⟩ = some (.int .i64 0) ∧ w'.cell? ⟨g, 25, none⟩ = some (.int .i64 0) ∧ w'.cell? ⟨g, 26, none⟩ = some (.int .u64 0) ∧ w'.cell? ⟨g, 27, none⟩ = some (.int .i64 0) ∧ w'.cell? ⟨g, 28, none⟩ = some (.int .i64 0) ∧ w'.cell? ⟨g, 29, none⟩ = some (.int .u64 0) :=
  ⟨h.c0, h.c1, h.c2, h.c3, h.c4, h.c5, h.c6, h.c7, h.c8, h.c9, h.c12, h.c20, h.c21, h.c22, h.c23, h.c24, h.c25, h.c26, h.c27, h.c28, h.c29⟩
theorem ExAt.drewN {w : World} {g : Nat} (h : ExAt w g) (n : Nat) : ExAt (w.drewN n) g := h.kept ((Kept.refl _).drewN _)

set_option maxRecDepth 100000 in
set_option maxHeartbeats 8000000 in
theorem awake_any (w : World) : Calls Try.prog 9 #[] w fun e w' => e = .returned (.bool true) ∧ Kept w w' := by
  go_enter Try.func9, Try.ntmps9
  go_wp2_with fail; refine (of_at [1, 2, -1, 3, -3] exH exH_of (lay_new (heap_alloc_new _ _) (by decide)) (by decide) (by decide) (by decide)).mono ?_; rintro ed w1 ⟨a1, c1, rfl, k1, own1⟩
  have K1 := Lib.hid (((Kept.refl w).alloc _ _).trans k1)
  have L1 := Lib.hid (own_lies own1).lay
  clear k1 own1
  have CO := Lib.hid (exS_of ▸ calls_ok L1.out exH_wf (by decide) exH_chk)
  go_wp2_with fail; refine CO.out.mono ?_; rintro ed w2 ⟨a2, c2, rfl, k2, own2⟩
  obtain ⟨g, c, hv, hex⟩ := exAt own2
  rw [hv]
  have K2 := Lib.hid k2
  have E2 := Lib.hid hex
  clear k2 own2 hv hex
  have MO := Lib.hid (fun (W : World) (k : Kept w2 W) => exH_most ▸ most_ok (L1.out.kept (K2.out.trans k)) exH_wf (by decide) exH_chk)
  have K0 : Kept w2 w2 := Kept.refl _
  go_wp2_with fail
  go_region_held3 (fun w' => w'.cell? ⟨g, 0, none⟩ = some (.int .i64 1) ∧ w'.cell? ⟨g, 1, none⟩ = some (.int .i64 0) ∧ w'.cell? ⟨g, 2, none⟩ = some (.int .i64 2) ∧ w'.cell? ⟨g, 3, none⟩ = some (.int .i64 0) ∧ w'.cell? ⟨g, 4, none⟩ = some (.int .i64 0) ∧ w'.cell? ⟨g, 5, none⟩ = some (.int .i64 0) ∧ w'.cell? ⟨g, 6, none⟩ = some (.int .u64 0) ∧ w'.cell? ⟨g, 7, none⟩ = some (.int .i64 0) ∧ w'.cell? ⟨g, 8, none⟩ = some (.int .i64 0) ∧ w'.cell? ⟨g, 9, none⟩ = some (.int .u64 0) ∧ w'.cell? ⟨g, 12, none⟩ = some (.int .i64 (-1)) ∧ w'.cell? ⟨g, 20, none⟩ = some (.int .i64 3) ∧ w'.cell? ⟨g, 21, none⟩ = some (.int .i64 3) ∧ w'.cell? ⟨g, 22, none⟩ = some (.int .i64 4) ∧ w'.cell? ⟨g, 23, none⟩ = some (.int .i64 0) ∧ w'.cell? ⟨g, 24, none⟩ = some (.int .i64 0) ∧ w'.cell? ⟨g, 25, none⟩ = some (.int .i64 0) ∧ w'.cell? ⟨g, 26, none⟩ = some (.int .u64 0) ∧ w'.cell? ⟨g, 27, none⟩ = some (.int .i64 0) ∧ w'.cell? ⟨g, 28, none⟩ = some (.int .i64 0) ∧ w'.cell? ⟨g, 29, none⟩ = some (.int .u64 0))
    (first | with_reducible exact E6.out.all | with_reducible exact E5.out.all | with_reducible exact E4.out.all | with_reducible exact E3.out.all | with_reducible exact E2.out.all | exact (E4.out.kept (by repeat (first | with_reducible exact Kept.refl _ | with_reducible refine Kept.alloc ?_ _ _ | with_reducible refine Kept.drew ?_ | with_reducible refine Kept.drewN ?_ _))).all | exact (E3.out.kept (by repeat (first | with_reducible exact Kept.refl _ | with_reducible refine Kept.alloc ?_ _ _ | with_reducible refine Kept.drew ?_ | with_reducible refine Kept.drewN ?_ _))).all | exact (E2.out.kept (by repeat (first | with_reducible exact Kept.refl _ | with_reducible refine Kept.alloc ?_ _ _ | with_reducible refine Kept.drew ?_ | with_reducible refine Kept.drewN ?_ _))).all)
    (first
      | (go_at_call 32; refine (ahead_at ⟨1, 0, 2, 0, 0, 0, 0, 0, 0, 0⟩ ⟨3, 3, 4, 0, 0, 0, 0, 0, 0, 0⟩ true rfl _).mono ?_; rintro ed w3 ⟨rfl, k3⟩; have K3 : Kept w2 w3 := (by first | with_reducible exact K0.trans k3 | with_reducible exact K0.drew.trans k3 | with_reducible exact (K0.drewN _).trans k3); have E3 := Lib.hid (E2.out.kept K3); clear k3)
      | (go_at_call 19; refine (MO.out _ (by first | with_reducible exact K3 | with_reducible exact K3.drew | with_reducible exact K3.drewN _)).mono ?_; rintro ed w4 ⟨rfl, k4⟩; have K4 : Kept w2 w4 := (by first | with_reducible exact K3.trans k4 | with_reducible exact K3.drew.trans k4 | with_reducible exact (K3.drewN _).trans k4); have E4 := Lib.hid (E2.out.kept K4); clear k4)
      | (go_at_call 31; refine (of_at [1, 1] twoH rfl (lay_new (heap_alloc_new _ _) (by decide)) (by decide) (by decide) (by decide)).mono ?_; rintro ed w5 ⟨a5, c5, rfl, k5, own5⟩; have K5 : Kept w2 w5 := (by first | with_reducible exact (K4.alloc _ _).trans k5 | with_reducible exact (K4.drew.alloc _ _).trans k5 | with_reducible exact ((K4.drewN _).alloc _ _).trans k5); have E5 := Lib.hid (E2.out.kept K5); have L5 := Lib.hid (own_lies own5).lay; clear k5 own5)
      | (go_at_call 15; refine (check_at L5.out twoH_wf (by decide) 8 (by decide +kernel)).mono ?_; rintro ed w6 ⟨rfl, k6⟩; have K6 : Kept w2 w6 := (by first | with_reducible exact K5.trans k6 | with_reducible exact K5.drew.trans k6 | with_reducible exact (K5.drewN _).trans k6); have E6 := Lib.hid (E2.out.kept K6); clear k6))
  all_goals go_wp2
  all_goals go_ret
  all_goals exact ⟨rfl, (K1.out.trans K2.out).trans K6⟩
end Go.Proofs.Ytjbplbfedndjpaa
