/- The walk of WordOne. -/
import Derived.Test.YtflggocnhinfeaaGot
import Derived.Test.YtflggocnhinfeaaMark
import Derived.OpenShut
import Derived.Deep.RegionHeld3
namespace Go.Proofs.Ytflggocnhinfeaa
open Go.RowKit

set_option maxHeartbeats 4000000 in
set_option maxRecDepth 100000 in
theorem one_yyy (n : Int) (w : World) (h0 : 0 ≤ n) (h1 : n < 18446744073709551616) (hr : goodRef n = true) (hs : goodSlot n = true) (hk : goodKey n = true) : Calls Try.prog 7 #[.int .u64 n] w fun e w' => e = .returned (.bool true) ∧ Kept w w' := by
  have H0 := Lib.hid h0; have H1 := Lib.hid h1
  have eR : (gre n == 0) = true := by simp [gre, hr]
  have eS : (gse n == 0) = true := by simp [gse, hs]
  have eK : (gke n == 0) = true := by simp [gke, hk]
  have XR : Hid (putRef (gri n) (grg n) (grm n) = (n, 0)) := Lib.hid (by simp only [gri, grg, grm, hr, cond_true]; exact pair_yes hr)
  have XM : Hid (putRef (gri n) (grg n) (!grm n) = (setMark n (!grm n), 0)) := Lib.hid (by simp only [gri, grg, grm, hr, cond_true]; exact mark_ref n h0 h1 hr _)
  have I0 : Hid (-9223372036854775808 ≤ gri n) := Lib.hid (by simp only [gri, hr, cond_true]; have := rIdx_lo n; omega)
  have I1 : Hid (gri n ≤ 9223372036854775807) := Lib.hid (by simp only [gri, hr, cond_true]; have := rIdx_hi n; omega)
  have XS : Hid (putSlot (gsl n) (gsf n) (gsv n) = (n, 0)) := Lib.hid (by simp only [gsl, gsf, gsv, hs, cond_true]; exact pair_yes hs)
  have XK : Hid (putKey (gkp n) (gks n) (gkr n) = (n, 0)) := Lib.hid (by simp only [gkp, gks, gkr, hk, cond_true]; exact pair_yes hk)
  have XT : Hid (putTop (rIdx n) (tTag n) = (n, 0)) := Lib.hid (top_good n h0 h1)
  have J0 : Hid (-9223372036854775808 ≤ rIdx n) := Lib.hid (by have := rIdx_lo n; omega)
  have J1 : Hid (rIdx n ≤ 9223372036854775807) := Lib.hid (by have := rIdx_hi n; omega)
  have mT := markOf_set n true
  have mF := markOf_set n false
  have mB := set_back n h0 h1 true
  have S0 := Lib.hid (setMark_lo n true)
  have S1 := Lib.hid (setMark_hi n true)
  clear h0 h1 hr hs hk
  go_enter Try.func7, Try.ntmps7
  go_wp2_with fail
  refine (known_any _).mono ?_
  rintro e w1 ⟨rfl, k1⟩
  go_wp2_with fail
  refine (get_ref _ _ H0.out H1.out).mono ?_
  rintro e w2 ⟨rfl, k2⟩
  have kz := (k1.trans k2).size
  have k1 := k1.trans k2
  clear k2
  go_wp2_with fail
  refine (get_slot _ _ H0.out H1.out).mono ?_
  rintro e w3 ⟨rfl, k2⟩
  have p0 : w3.cell? ⟨w2.heap.size, 0, none⟩ = some (.int .i64 (gri n)) := k2.some (by simp)
  have p1 : w3.cell? ⟨w2.heap.size, 1, none⟩ = some (.int .i64 (grg n)) := k2.some (by simp)
  have p2 : w3.cell? ⟨w2.heap.size, 2, none⟩ = some (.bool (grm n)) := k2.some (by simp)
  have fr : ∀ i, w3.frozen? ⟨w2.heap.size, i, none⟩ = false := fun i => by rw [k2.froze]; simp
  have k1 := (k1.alloc _ _).trans k2
  clear k2
  go_wp2_with fail
  refine (get_key _ _ H0.out H1.out).mono ?_
  rintro e w4 ⟨rfl, k2⟩
  have p0 : w4.cell? ⟨w2.heap.size, 0, none⟩ = some (.int .i64 (gri n)) := k2.past p0
  have p1 : w4.cell? ⟨w2.heap.size, 1, none⟩ = some (.int .i64 (grg n)) := k2.past p1
  have p2 : w4.cell? ⟨w2.heap.size, 2, none⟩ = some (.bool (grm n)) := k2.past p2
  have q0 : w4.cell? ⟨w3.heap.size, 0, none⟩ = some (.int .i64 (gsl n)) := k2.some (by simp)
  have q1 : w4.cell? ⟨w3.heap.size, 1, none⟩ = some (.bool (gsf n)) := k2.some (by simp)
  have q2 : w4.cell? ⟨w3.heap.size, 2, none⟩ = some (.int .i64 (gsv n)) := k2.some (by simp)
  have fr : ∀ i, w4.frozen? ⟨w2.heap.size, i, none⟩ = false := fun i => by rw [k2.froze]; rw [frozen?_alloc_cells]; exact fr i
  have k1 := (k1.alloc _ _).trans k2
  clear k2
  go_wp2_with fail
  refine (get_top _ _ H0.out H1.out).mono ?_
  rintro e w5 ⟨rfl, k2⟩
  have p0 : w5.cell? ⟨w2.heap.size, 0, none⟩ = some (.int .i64 (gri n)) := k2.past p0
  have p1 : w5.cell? ⟨w2.heap.size, 1, none⟩ = some (.int .i64 (grg n)) := k2.past p1
  have p2 : w5.cell? ⟨w2.heap.size, 2, none⟩ = some (.bool (grm n)) := k2.past p2
  have q0 : w5.cell? ⟨w3.heap.size, 0, none⟩ = some (.int .i64 (gsl n)) := k2.past q0
  have q1 : w5.cell? ⟨w3.heap.size, 1, none⟩ = some (.bool (gsf n)) := k2.past q1
  have q2 : w5.cell? ⟨w3.heap.size, 2, none⟩ = some (.int .i64 (gsv n)) := k2.past q2
  have r0 : w5.cell? ⟨w4.heap.size, 0, none⟩ = some (.int .i64 (gkp n)) := k2.some (by simp)
  have r1 : w5.cell? ⟨w4.heap.size, 1, none⟩ = some (.int .i64 (gks n)) := k2.some (by simp)
  have r2 : w5.cell? ⟨w4.heap.size, 2, none⟩ = some (.int .i64 (gkr n)) := k2.some (by simp)
  have fr : ∀ i, w5.frozen? ⟨w2.heap.size, i, none⟩ = false := fun i => by rw [k2.froze]; rw [frozen?_alloc_cells]; exact fr i
  have k1 := (k1.alloc _ _).trans k2
  clear k2
  have lp := lt_of_cell p0
  have lq := lt_of_cell q0
  have lr := lt_of_cell r0
  go_wp2_with fail
  refine (ref_yes _ _ _ _ _ _ I0.out I1.out XR.out).mono ?_
  rintro e w6 ⟨rfl, k2⟩
  have p0 : w6.cell? ⟨w2.heap.size, 0, none⟩ = some (.int .i64 (gri n)) := k2.past p0
  have p1 : w6.cell? ⟨w2.heap.size, 1, none⟩ = some (.int .i64 (grg n)) := k2.past p1
  have p2 : w6.cell? ⟨w2.heap.size, 2, none⟩ = some (.bool (grm n)) := k2.past p2
  have q0 : w6.cell? ⟨w3.heap.size, 0, none⟩ = some (.int .i64 (gsl n)) := k2.past q0
  have q1 : w6.cell? ⟨w3.heap.size, 1, none⟩ = some (.bool (gsf n)) := k2.past q1
  have q2 : w6.cell? ⟨w3.heap.size, 2, none⟩ = some (.int .i64 (gsv n)) := k2.past q2
  have r0 : w6.cell? ⟨w4.heap.size, 0, none⟩ = some (.int .i64 (gkp n)) := k2.past r0
  have r1 : w6.cell? ⟨w4.heap.size, 1, none⟩ = some (.int .i64 (gks n)) := k2.past r1
  have r2 : w6.cell? ⟨w4.heap.size, 2, none⟩ = some (.int .i64 (gkr n)) := k2.past r2
  have t0 : w6.cell? ⟨w5.heap.size, 0, none⟩ = some (.int .i64 (rIdx n)) := k2.some (by simp)
  have t1 : w6.cell? ⟨w5.heap.size, 1, none⟩ = some (.int .i64 (tTag n)) := k2.some (by simp)
  have fr : ∀ i, w6.frozen? ⟨w2.heap.size, i, none⟩ = false := fun i => by rw [k2.froze]; rw [frozen?_alloc_cells]; exact fr i
  have k1 := (k1.alloc _ _).trans k2
  clear k2
  go_wp2_with fail
  refine (slot_yes _ _ _ _ _ _ XS.out).mono ?_
  rintro e w7 ⟨rfl, k2⟩
  have p0 : w7.cell? ⟨w2.heap.size, 0, none⟩ = some (.int .i64 (gri n)) := k2.some p0
  have p1 : w7.cell? ⟨w2.heap.size, 1, none⟩ = some (.int .i64 (grg n)) := k2.some p1
  have p2 : w7.cell? ⟨w2.heap.size, 2, none⟩ = some (.bool (grm n)) := k2.some p2
  have q0 : w7.cell? ⟨w3.heap.size, 0, none⟩ = some (.int .i64 (gsl n)) := k2.some q0
  have q1 : w7.cell? ⟨w3.heap.size, 1, none⟩ = some (.bool (gsf n)) := k2.some q1
  have q2 : w7.cell? ⟨w3.heap.size, 2, none⟩ = some (.int .i64 (gsv n)) := k2.some q2
  have r0 : w7.cell? ⟨w4.heap.size, 0, none⟩ = some (.int .i64 (gkp n)) := k2.some r0
  have r1 : w7.cell? ⟨w4.heap.size, 1, none⟩ = some (.int .i64 (gks n)) := k2.some r1
  have r2 : w7.cell? ⟨w4.heap.size, 2, none⟩ = some (.int .i64 (gkr n)) := k2.some r2
  have t0 : w7.cell? ⟨w5.heap.size, 0, none⟩ = some (.int .i64 (rIdx n)) := k2.some t0
  have t1 : w7.cell? ⟨w5.heap.size, 1, none⟩ = some (.int .i64 (tTag n)) := k2.some t1
  have fr : ∀ i, w7.frozen? ⟨w2.heap.size, i, none⟩ = false := fun i => by rw [k2.froze]; exact fr i
  have k1 := k1.trans k2
  clear k2
  go_wp2_with fail
  refine (key_yes _ _ _ _ _ _ XK.out).mono ?_
  rintro e w8 ⟨rfl, k2⟩
  have p0 : w8.cell? ⟨w2.heap.size, 0, none⟩ = some (.int .i64 (gri n)) := k2.some p0
  have p1 : w8.cell? ⟨w2.heap.size, 1, none⟩ = some (.int .i64 (grg n)) := k2.some p1
  have p2 : w8.cell? ⟨w2.heap.size, 2, none⟩ = some (.bool (grm n)) := k2.some p2
  have q0 : w8.cell? ⟨w3.heap.size, 0, none⟩ = some (.int .i64 (gsl n)) := k2.some q0
  have q1 : w8.cell? ⟨w3.heap.size, 1, none⟩ = some (.bool (gsf n)) := k2.some q1
  have q2 : w8.cell? ⟨w3.heap.size, 2, none⟩ = some (.int .i64 (gsv n)) := k2.some q2
  have r0 : w8.cell? ⟨w4.heap.size, 0, none⟩ = some (.int .i64 (gkp n)) := k2.some r0
  have r1 : w8.cell? ⟨w4.heap.size, 1, none⟩ = some (.int .i64 (gks n)) := k2.some r1
  have r2 : w8.cell? ⟨w4.heap.size, 2, none⟩ = some (.int .i64 (gkr n)) := k2.some r2
  have t0 : w8.cell? ⟨w5.heap.size, 0, none⟩ = some (.int .i64 (rIdx n)) := k2.some t0
  have t1 : w8.cell? ⟨w5.heap.size, 1, none⟩ = some (.int .i64 (tTag n)) := k2.some t1
  have fr : ∀ i, w8.frozen? ⟨w2.heap.size, i, none⟩ = false := fun i => by rw [k2.froze]; exact fr i
  have k1 := k1.trans k2
  clear k2
  go_wp2_with fail
  refine (top_yes _ _ _ _ _ J0.out J1.out XT.out).mono ?_
  rintro e w9 ⟨rfl, k2⟩
  have p0 : w9.cell? ⟨w2.heap.size, 0, none⟩ = some (.int .i64 (gri n)) := k2.some p0
  have p1 : w9.cell? ⟨w2.heap.size, 1, none⟩ = some (.int .i64 (grg n)) := k2.some p1
  have p2 : w9.cell? ⟨w2.heap.size, 2, none⟩ = some (.bool (grm n)) := k2.some p2
  have q0 : w9.cell? ⟨w3.heap.size, 0, none⟩ = some (.int .i64 (gsl n)) := k2.some q0
  have q1 : w9.cell? ⟨w3.heap.size, 1, none⟩ = some (.bool (gsf n)) := k2.some q1
  have q2 : w9.cell? ⟨w3.heap.size, 2, none⟩ = some (.int .i64 (gsv n)) := k2.some q2
  have r0 : w9.cell? ⟨w4.heap.size, 0, none⟩ = some (.int .i64 (gkp n)) := k2.some r0
  have r1 : w9.cell? ⟨w4.heap.size, 1, none⟩ = some (.int .i64 (gks n)) := k2.some r1
  have r2 : w9.cell? ⟨w4.heap.size, 2, none⟩ = some (.int .i64 (gkr n)) := k2.some r2
  have t0 : w9.cell? ⟨w5.heap.size, 0, none⟩ = some (.int .i64 (rIdx n)) := k2.some t0
  have t1 : w9.cell? ⟨w5.heap.size, 1, none⟩ = some (.int .i64 (tTag n)) := k2.some t1
  have fr : ∀ i, w9.frozen? ⟨w2.heap.size, i, none⟩ = false := fun i => by rw [k2.froze]; exact fr i
  have k1 := k1.trans k2
  clear k2
  go_wp2_with fail
  go_region_held3 (fun w' => w'.cell? ⟨w2.heap.size, 0, none⟩ = some (.int .i64 (gri n)) ∧ w'.cell? ⟨w2.heap.size, 1, none⟩ = some (.int .i64 (grg n)) ∧ w'.cell? ⟨w2.heap.size, 2, none⟩ = some (.bool (!grm n))) (first | exact ⟨(World.cell?_setCell_other _ _ _ _ (by simp)).trans p0, (World.cell?_setCell_other _ _ _ _ (by simp)).trans p1, World.cell?_setCell_same _ _ _ p2⟩ | assumption | (exact ⟨hk.some (‹_ ∧ _ ∧ _›).1, hk.some (‹_ ∧ _ ∧ _›).2.1, hk.some (‹_ ∧ _ ∧ _›).2.2⟩)) (first | (go_at_call 28; refine (marks_any _ _ _ H0.out H1.out).mono ?_; rintro e w' ⟨rfl, rfl⟩) | (go_at_call 30; refine (ref_yes _ _ _ _ _ _ I0.out I1.out XM.out).mono ?_; rintro e w' ⟨rfl, hk⟩))
  go_wp2_with (first | (go_at_call_of 28 (setMark n true); refine (marks_any _ _ _ S0.out S1.out).mono ?_; rintro e w' ⟨rfl, rfl⟩) | (go_at_call 28; refine (marks_any _ _ _ H0.out H1.out).mono ?_; rintro e w' ⟨rfl, rfl⟩) | (go_at_call 26; refine (marked_any _ _).mono ?_; rintro e w' ⟨rfl, rfl⟩))
  go_ret
  exact ⟨rfl, ((k1.setCell (by have := (lt_of_cell p0); have := kz; omega) _).drew).trans hk⟩

set_option maxHeartbeats 4000000 in
set_option maxRecDepth 100000 in
theorem one_yyn (n : Int) (w : World) (h0 : 0 ≤ n) (h1 : n < 18446744073709551616) (hr : goodRef n = true) (hs : goodSlot n = true) (hk : goodKey n = false) : Calls Try.prog 7 #[.int .u64 n] w fun e w' => e = .returned (.bool true) ∧ Kept w w' := by
  have H0 := Lib.hid h0; have H1 := Lib.hid h1
  have eR : (gre n == 0) = true := by simp [gre, hr]
  have eS : (gse n == 0) = true := by simp [gse, hs]
  have eK : (gke n == 0) = false := by simp [gke, hk]
  have XR : Hid (putRef (gri n) (grg n) (grm n) = (n, 0)) := Lib.hid (by simp only [gri, grg, grm, hr, cond_true]; exact pair_yes hr)
  have XM : Hid (putRef (gri n) (grg n) (!grm n) = (setMark n (!grm n), 0)) := Lib.hid (by simp only [gri, grg, grm, hr, cond_true]; exact mark_ref n h0 h1 hr _)
  have I0 : Hid (-9223372036854775808 ≤ gri n) := Lib.hid (by simp only [gri, hr, cond_true]; have := rIdx_lo n; omega)
  have I1 : Hid (gri n ≤ 9223372036854775807) := Lib.hid (by simp only [gri, hr, cond_true]; have := rIdx_hi n; omega)
  have XS : Hid (putSlot (gsl n) (gsf n) (gsv n) = (n, 0)) := Lib.hid (by simp only [gsl, gsf, gsv, hs, cond_true]; exact pair_yes hs)
  have XT : Hid (putTop (rIdx n) (tTag n) = (n, 0)) := Lib.hid (top_good n h0 h1)
  have J0 : Hid (-9223372036854775808 ≤ rIdx n) := Lib.hid (by have := rIdx_lo n; omega)
  have J1 : Hid (rIdx n ≤ 9223372036854775807) := Lib.hid (by have := rIdx_hi n; omega)
  have mT := markOf_set n true
  have mF := markOf_set n false
  have mB := set_back n h0 h1 true
  have S0 := Lib.hid (setMark_lo n true)
  have S1 := Lib.hid (setMark_hi n true)
  clear h0 h1 hr hs hk
  go_enter Try.func7, Try.ntmps7
  go_wp2_with fail
  refine (known_any _).mono ?_
  rintro e w1 ⟨rfl, k1⟩
  go_wp2_with fail
  refine (get_ref _ _ H0.out H1.out).mono ?_
  rintro e w2 ⟨rfl, k2⟩
  have kz := (k1.trans k2).size
  have k1 := k1.trans k2
  clear k2
  go_wp2_with fail
  refine (get_slot _ _ H0.out H1.out).mono ?_
  rintro e w3 ⟨rfl, k2⟩
  have p0 : w3.cell? ⟨w2.heap.size, 0, none⟩ = some (.int .i64 (gri n)) := k2.some (by simp)
  have p1 : w3.cell? ⟨w2.heap.size, 1, none⟩ = some (.int .i64 (grg n)) := k2.some (by simp)
  have p2 : w3.cell? ⟨w2.heap.size, 2, none⟩ = some (.bool (grm n)) := k2.some (by simp)
  have fr : ∀ i, w3.frozen? ⟨w2.heap.size, i, none⟩ = false := fun i => by rw [k2.froze]; simp
  have k1 := (k1.alloc _ _).trans k2
  clear k2
  go_wp2_with fail
  refine (get_key _ _ H0.out H1.out).mono ?_
  rintro e w4 ⟨rfl, k2⟩
  have p0 : w4.cell? ⟨w2.heap.size, 0, none⟩ = some (.int .i64 (gri n)) := k2.past p0
  have p1 : w4.cell? ⟨w2.heap.size, 1, none⟩ = some (.int .i64 (grg n)) := k2.past p1
  have p2 : w4.cell? ⟨w2.heap.size, 2, none⟩ = some (.bool (grm n)) := k2.past p2
  have q0 : w4.cell? ⟨w3.heap.size, 0, none⟩ = some (.int .i64 (gsl n)) := k2.some (by simp)
  have q1 : w4.cell? ⟨w3.heap.size, 1, none⟩ = some (.bool (gsf n)) := k2.some (by simp)
  have q2 : w4.cell? ⟨w3.heap.size, 2, none⟩ = some (.int .i64 (gsv n)) := k2.some (by simp)
  have fr : ∀ i, w4.frozen? ⟨w2.heap.size, i, none⟩ = false := fun i => by rw [k2.froze]; rw [frozen?_alloc_cells]; exact fr i
  have k1 := (k1.alloc _ _).trans k2
  clear k2
  go_wp2_with fail
  refine (get_top _ _ H0.out H1.out).mono ?_
  rintro e w5 ⟨rfl, k2⟩
  have p0 : w5.cell? ⟨w2.heap.size, 0, none⟩ = some (.int .i64 (gri n)) := k2.past p0
  have p1 : w5.cell? ⟨w2.heap.size, 1, none⟩ = some (.int .i64 (grg n)) := k2.past p1
  have p2 : w5.cell? ⟨w2.heap.size, 2, none⟩ = some (.bool (grm n)) := k2.past p2
  have q0 : w5.cell? ⟨w3.heap.size, 0, none⟩ = some (.int .i64 (gsl n)) := k2.past q0
  have q1 : w5.cell? ⟨w3.heap.size, 1, none⟩ = some (.bool (gsf n)) := k2.past q1
  have q2 : w5.cell? ⟨w3.heap.size, 2, none⟩ = some (.int .i64 (gsv n)) := k2.past q2
  have r0 : w5.cell? ⟨w4.heap.size, 0, none⟩ = some (.int .i64 (gkp n)) := k2.some (by simp)
  have r1 : w5.cell? ⟨w4.heap.size, 1, none⟩ = some (.int .i64 (gks n)) := k2.some (by simp)
  have r2 : w5.cell? ⟨w4.heap.size, 2, none⟩ = some (.int .i64 (gkr n)) := k2.some (by simp)
  have fr : ∀ i, w5.frozen? ⟨w2.heap.size, i, none⟩ = false := fun i => by rw [k2.froze]; rw [frozen?_alloc_cells]; exact fr i
  have k1 := (k1.alloc _ _).trans k2
  clear k2
  have lp := lt_of_cell p0
  have lq := lt_of_cell q0
  have lr := lt_of_cell r0
  go_wp2_with fail
  refine (ref_yes _ _ _ _ _ _ I0.out I1.out XR.out).mono ?_
  rintro e w6 ⟨rfl, k2⟩
  have p0 : w6.cell? ⟨w2.heap.size, 0, none⟩ = some (.int .i64 (gri n)) := k2.past p0
  have p1 : w6.cell? ⟨w2.heap.size, 1, none⟩ = some (.int .i64 (grg n)) := k2.past p1
  have p2 : w6.cell? ⟨w2.heap.size, 2, none⟩ = some (.bool (grm n)) := k2.past p2
  have q0 : w6.cell? ⟨w3.heap.size, 0, none⟩ = some (.int .i64 (gsl n)) := k2.past q0
  have q1 : w6.cell? ⟨w3.heap.size, 1, none⟩ = some (.bool (gsf n)) := k2.past q1
  have q2 : w6.cell? ⟨w3.heap.size, 2, none⟩ = some (.int .i64 (gsv n)) := k2.past q2
  have r0 : w6.cell? ⟨w4.heap.size, 0, none⟩ = some (.int .i64 (gkp n)) := k2.past r0
  have r1 : w6.cell? ⟨w4.heap.size, 1, none⟩ = some (.int .i64 (gks n)) := k2.past r1
  have r2 : w6.cell? ⟨w4.heap.size, 2, none⟩ = some (.int .i64 (gkr n)) := k2.past r2
  have t0 : w6.cell? ⟨w5.heap.size, 0, none⟩ = some (.int .i64 (rIdx n)) := k2.some (by simp)
  have t1 : w6.cell? ⟨w5.heap.size, 1, none⟩ = some (.int .i64 (tTag n)) := k2.some (by simp)
  have fr : ∀ i, w6.frozen? ⟨w2.heap.size, i, none⟩ = false := fun i => by rw [k2.froze]; rw [frozen?_alloc_cells]; exact fr i
  have k1 := (k1.alloc _ _).trans k2
  clear k2
  go_wp2_with fail
  refine (slot_yes _ _ _ _ _ _ XS.out).mono ?_
  rintro e w7 ⟨rfl, k2⟩
  have p0 : w7.cell? ⟨w2.heap.size, 0, none⟩ = some (.int .i64 (gri n)) := k2.some p0
  have p1 : w7.cell? ⟨w2.heap.size, 1, none⟩ = some (.int .i64 (grg n)) := k2.some p1
  have p2 : w7.cell? ⟨w2.heap.size, 2, none⟩ = some (.bool (grm n)) := k2.some p2
  have q0 : w7.cell? ⟨w3.heap.size, 0, none⟩ = some (.int .i64 (gsl n)) := k2.some q0
  have q1 : w7.cell? ⟨w3.heap.size, 1, none⟩ = some (.bool (gsf n)) := k2.some q1
  have q2 : w7.cell? ⟨w3.heap.size, 2, none⟩ = some (.int .i64 (gsv n)) := k2.some q2
  have r0 : w7.cell? ⟨w4.heap.size, 0, none⟩ = some (.int .i64 (gkp n)) := k2.some r0
  have r1 : w7.cell? ⟨w4.heap.size, 1, none⟩ = some (.int .i64 (gks n)) := k2.some r1
  have r2 : w7.cell? ⟨w4.heap.size, 2, none⟩ = some (.int .i64 (gkr n)) := k2.some r2
  have t0 : w7.cell? ⟨w5.heap.size, 0, none⟩ = some (.int .i64 (rIdx n)) := k2.some t0
  have t1 : w7.cell? ⟨w5.heap.size, 1, none⟩ = some (.int .i64 (tTag n)) := k2.some t1
  have fr : ∀ i, w7.frozen? ⟨w2.heap.size, i, none⟩ = false := fun i => by rw [k2.froze]; exact fr i
  have k1 := k1.trans k2
  clear k2
  go_wp2_with fail
  refine (top_yes _ _ _ _ _ J0.out J1.out XT.out).mono ?_
  rintro e w8 ⟨rfl, k2⟩
  have p0 : w8.cell? ⟨w2.heap.size, 0, none⟩ = some (.int .i64 (gri n)) := k2.some p0
  have p1 : w8.cell? ⟨w2.heap.size, 1, none⟩ = some (.int .i64 (grg n)) := k2.some p1
  have p2 : w8.cell? ⟨w2.heap.size, 2, none⟩ = some (.bool (grm n)) := k2.some p2
  have q0 : w8.cell? ⟨w3.heap.size, 0, none⟩ = some (.int .i64 (gsl n)) := k2.some q0
  have q1 : w8.cell? ⟨w3.heap.size, 1, none⟩ = some (.bool (gsf n)) := k2.some q1
  have q2 : w8.cell? ⟨w3.heap.size, 2, none⟩ = some (.int .i64 (gsv n)) := k2.some q2
  have r0 : w8.cell? ⟨w4.heap.size, 0, none⟩ = some (.int .i64 (gkp n)) := k2.some r0
  have r1 : w8.cell? ⟨w4.heap.size, 1, none⟩ = some (.int .i64 (gks n)) := k2.some r1
  have r2 : w8.cell? ⟨w4.heap.size, 2, none⟩ = some (.int .i64 (gkr n)) := k2.some r2
  have t0 : w8.cell? ⟨w5.heap.size, 0, none⟩ = some (.int .i64 (rIdx n)) := k2.some t0
  have t1 : w8.cell? ⟨w5.heap.size, 1, none⟩ = some (.int .i64 (tTag n)) := k2.some t1
  have fr : ∀ i, w8.frozen? ⟨w2.heap.size, i, none⟩ = false := fun i => by rw [k2.froze]; exact fr i
  have k1 := k1.trans k2
  clear k2
  go_wp2_with fail
  go_region_held3 (fun w' => w'.cell? ⟨w2.heap.size, 0, none⟩ = some (.int .i64 (gri n)) ∧ w'.cell? ⟨w2.heap.size, 1, none⟩ = some (.int .i64 (grg n)) ∧ w'.cell? ⟨w2.heap.size, 2, none⟩ = some (.bool (!grm n))) (first | exact ⟨(World.cell?_setCell_other _ _ _ _ (by simp)).trans p0, (World.cell?_setCell_other _ _ _ _ (by simp)).trans p1, World.cell?_setCell_same _ _ _ p2⟩ | assumption | (exact ⟨hk.some (‹_ ∧ _ ∧ _›).1, hk.some (‹_ ∧ _ ∧ _›).2.1, hk.some (‹_ ∧ _ ∧ _›).2.2⟩)) (first | (go_at_call 28; refine (marks_any _ _ _ H0.out H1.out).mono ?_; rintro e w' ⟨rfl, rfl⟩) | (go_at_call 30; refine (ref_yes _ _ _ _ _ _ I0.out I1.out XM.out).mono ?_; rintro e w' ⟨rfl, hk⟩))
  go_wp2_with (first | (go_at_call_of 28 (setMark n true); refine (marks_any _ _ _ S0.out S1.out).mono ?_; rintro e w' ⟨rfl, rfl⟩) | (go_at_call 28; refine (marks_any _ _ _ H0.out H1.out).mono ?_; rintro e w' ⟨rfl, rfl⟩) | (go_at_call 26; refine (marked_any _ _).mono ?_; rintro e w' ⟨rfl, rfl⟩))
  go_ret
  exact ⟨rfl, ((k1.setCell (by have := (lt_of_cell p0); have := kz; omega) _).drew).trans hk⟩

set_option maxHeartbeats 4000000 in
set_option maxRecDepth 100000 in
theorem one_yny (n : Int) (w : World) (h0 : 0 ≤ n) (h1 : n < 18446744073709551616) (hr : goodRef n = true) (hs : goodSlot n = false) (hk : goodKey n = true) : Calls Try.prog 7 #[.int .u64 n] w fun e w' => e = .returned (.bool true) ∧ Kept w w' := by
  have H0 := Lib.hid h0; have H1 := Lib.hid h1
  have eR : (gre n == 0) = true := by simp [gre, hr]
  have eS : (gse n == 0) = false := by simp [gse, hs]
  have eK : (gke n == 0) = true := by simp [gke, hk]
  have XR : Hid (putRef (gri n) (grg n) (grm n) = (n, 0)) := Lib.hid (by simp only [gri, grg, grm, hr, cond_true]; exact pair_yes hr)
  have XM : Hid (putRef (gri n) (grg n) (!grm n) = (setMark n (!grm n), 0)) := Lib.hid (by simp only [gri, grg, grm, hr, cond_true]; exact mark_ref n h0 h1 hr _)
  have I0 : Hid (-9223372036854775808 ≤ gri n) := Lib.hid (by simp only [gri, hr, cond_true]; have := rIdx_lo n; omega)
  have I1 : Hid (gri n ≤ 9223372036854775807) := Lib.hid (by simp only [gri, hr, cond_true]; have := rIdx_hi n; omega)
  have XK : Hid (putKey (gkp n) (gks n) (gkr n) = (n, 0)) := Lib.hid (by simp only [gkp, gks, gkr, hk, cond_true]; exact pair_yes hk)
  have XT : Hid (putTop (rIdx n) (tTag n) = (n, 0)) := Lib.hid (top_good n h0 h1)
  have J0 : Hid (-9223372036854775808 ≤ rIdx n) := Lib.hid (by have := rIdx_lo n; omega)
  have J1 : Hid (rIdx n ≤ 9223372036854775807) := Lib.hid (by have := rIdx_hi n; omega)
  have mT := markOf_set n true
  have mF := markOf_set n false
  have mB := set_back n h0 h1 true
  have S0 := Lib.hid (setMark_lo n true)
  have S1 := Lib.hid (setMark_hi n true)
  clear h0 h1 hr hs hk
  go_enter Try.func7, Try.ntmps7
  go_wp2_with fail
  refine (known_any _).mono ?_
  rintro e w1 ⟨rfl, k1⟩
  go_wp2_with fail
  refine (get_ref _ _ H0.out H1.out).mono ?_
  rintro e w2 ⟨rfl, k2⟩
  have kz := (k1.trans k2).size
  have k1 := k1.trans k2
  clear k2
  go_wp2_with fail
  refine (get_slot _ _ H0.out H1.out).mono ?_
  rintro e w3 ⟨rfl, k2⟩
  have p0 : w3.cell? ⟨w2.heap.size, 0, none⟩ = some (.int .i64 (gri n)) := k2.some (by simp)
  have p1 : w3.cell? ⟨w2.heap.size, 1, none⟩ = some (.int .i64 (grg n)) := k2.some (by simp)
  have p2 : w3.cell? ⟨w2.heap.size, 2, none⟩ = some (.bool (grm n)) := k2.some (by simp)
  have fr : ∀ i, w3.frozen? ⟨w2.heap.size, i, none⟩ = false := fun i => by rw [k2.froze]; simp
  have k1 := (k1.alloc _ _).trans k2
  clear k2
  go_wp2_with fail
  refine (get_key _ _ H0.out H1.out).mono ?_
  rintro e w4 ⟨rfl, k2⟩
  have p0 : w4.cell? ⟨w2.heap.size, 0, none⟩ = some (.int .i64 (gri n)) := k2.past p0
  have p1 : w4.cell? ⟨w2.heap.size, 1, none⟩ = some (.int .i64 (grg n)) := k2.past p1
  have p2 : w4.cell? ⟨w2.heap.size, 2, none⟩ = some (.bool (grm n)) := k2.past p2
  have q0 : w4.cell? ⟨w3.heap.size, 0, none⟩ = some (.int .i64 (gsl n)) := k2.some (by simp)
  have q1 : w4.cell? ⟨w3.heap.size, 1, none⟩ = some (.bool (gsf n)) := k2.some (by simp)
  have q2 : w4.cell? ⟨w3.heap.size, 2, none⟩ = some (.int .i64 (gsv n)) := k2.some (by simp)
  have fr : ∀ i, w4.frozen? ⟨w2.heap.size, i, none⟩ = false := fun i => by rw [k2.froze]; rw [frozen?_alloc_cells]; exact fr i
  have k1 := (k1.alloc _ _).trans k2
  clear k2
  go_wp2_with fail
  refine (get_top _ _ H0.out H1.out).mono ?_
  rintro e w5 ⟨rfl, k2⟩
  have p0 : w5.cell? ⟨w2.heap.size, 0, none⟩ = some (.int .i64 (gri n)) := k2.past p0
  have p1 : w5.cell? ⟨w2.heap.size, 1, none⟩ = some (.int .i64 (grg n)) := k2.past p1
  have p2 : w5.cell? ⟨w2.heap.size, 2, none⟩ = some (.bool (grm n)) := k2.past p2
  have q0 : w5.cell? ⟨w3.heap.size, 0, none⟩ = some (.int .i64 (gsl n)) := k2.past q0
  have q1 : w5.cell? ⟨w3.heap.size, 1, none⟩ = some (.bool (gsf n)) := k2.past q1
  have q2 : w5.cell? ⟨w3.heap.size, 2, none⟩ = some (.int .i64 (gsv n)) := k2.past q2
  have r0 : w5.cell? ⟨w4.heap.size, 0, none⟩ = some (.int .i64 (gkp n)) := k2.some (by simp)
  have r1 : w5.cell? ⟨w4.heap.size, 1, none⟩ = some (.int .i64 (gks n)) := k2.some (by simp)
  have r2 : w5.cell? ⟨w4.heap.size, 2, none⟩ = some (.int .i64 (gkr n)) := k2.some (by simp)
  have fr : ∀ i, w5.frozen? ⟨w2.heap.size, i, none⟩ = false := fun i => by rw [k2.froze]; rw [frozen?_alloc_cells]; exact fr i
  have k1 := (k1.alloc _ _).trans k2
  clear k2
  have lp := lt_of_cell p0
  have lq := lt_of_cell q0
  have lr := lt_of_cell r0
  go_wp2_with fail
  refine (ref_yes _ _ _ _ _ _ I0.out I1.out XR.out).mono ?_
  rintro e w6 ⟨rfl, k2⟩
  have p0 : w6.cell? ⟨w2.heap.size, 0, none⟩ = some (.int .i64 (gri n)) := k2.past p0
  have p1 : w6.cell? ⟨w2.heap.size, 1, none⟩ = some (.int .i64 (grg n)) := k2.past p1
  have p2 : w6.cell? ⟨w2.heap.size, 2, none⟩ = some (.bool (grm n)) := k2.past p2
  have q0 : w6.cell? ⟨w3.heap.size, 0, none⟩ = some (.int .i64 (gsl n)) := k2.past q0
  have q1 : w6.cell? ⟨w3.heap.size, 1, none⟩ = some (.bool (gsf n)) := k2.past q1
  have q2 : w6.cell? ⟨w3.heap.size, 2, none⟩ = some (.int .i64 (gsv n)) := k2.past q2
  have r0 : w6.cell? ⟨w4.heap.size, 0, none⟩ = some (.int .i64 (gkp n)) := k2.past r0
  have r1 : w6.cell? ⟨w4.heap.size, 1, none⟩ = some (.int .i64 (gks n)) := k2.past r1
  have r2 : w6.cell? ⟨w4.heap.size, 2, none⟩ = some (.int .i64 (gkr n)) := k2.past r2
  have t0 : w6.cell? ⟨w5.heap.size, 0, none⟩ = some (.int .i64 (rIdx n)) := k2.some (by simp)
  have t1 : w6.cell? ⟨w5.heap.size, 1, none⟩ = some (.int .i64 (tTag n)) := k2.some (by simp)
  have fr : ∀ i, w6.frozen? ⟨w2.heap.size, i, none⟩ = false := fun i => by rw [k2.froze]; rw [frozen?_alloc_cells]; exact fr i
  have k1 := (k1.alloc _ _).trans k2
  clear k2
  go_wp2_with fail
  refine (key_yes _ _ _ _ _ _ XK.out).mono ?_
  rintro e w7 ⟨rfl, k2⟩
  have p0 : w7.cell? ⟨w2.heap.size, 0, none⟩ = some (.int .i64 (gri n)) := k2.some p0
  have p1 : w7.cell? ⟨w2.heap.size, 1, none⟩ = some (.int .i64 (grg n)) := k2.some p1
  have p2 : w7.cell? ⟨w2.heap.size, 2, none⟩ = some (.bool (grm n)) := k2.some p2
  have q0 : w7.cell? ⟨w3.heap.size, 0, none⟩ = some (.int .i64 (gsl n)) := k2.some q0
  have q1 : w7.cell? ⟨w3.heap.size, 1, none⟩ = some (.bool (gsf n)) := k2.some q1
  have q2 : w7.cell? ⟨w3.heap.size, 2, none⟩ = some (.int .i64 (gsv n)) := k2.some q2
  have r0 : w7.cell? ⟨w4.heap.size, 0, none⟩ = some (.int .i64 (gkp n)) := k2.some r0
  have r1 : w7.cell? ⟨w4.heap.size, 1, none⟩ = some (.int .i64 (gks n)) := k2.some r1
  have r2 : w7.cell? ⟨w4.heap.size, 2, none⟩ = some (.int .i64 (gkr n)) := k2.some r2
  have t0 : w7.cell? ⟨w5.heap.size, 0, none⟩ = some (.int .i64 (rIdx n)) := k2.some t0
  have t1 : w7.cell? ⟨w5.heap.size, 1, none⟩ = some (.int .i64 (tTag n)) := k2.some t1
  have fr : ∀ i, w7.frozen? ⟨w2.heap.size, i, none⟩ = false := fun i => by rw [k2.froze]; exact fr i
  have k1 := k1.trans k2
  clear k2
  go_wp2_with fail
  refine (top_yes _ _ _ _ _ J0.out J1.out XT.out).mono ?_
  rintro e w8 ⟨rfl, k2⟩
  have p0 : w8.cell? ⟨w2.heap.size, 0, none⟩ = some (.int .i64 (gri n)) := k2.some p0
  have p1 : w8.cell? ⟨w2.heap.size, 1, none⟩ = some (.int .i64 (grg n)) := k2.some p1
  have p2 : w8.cell? ⟨w2.heap.size, 2, none⟩ = some (.bool (grm n)) := k2.some p2
  have q0 : w8.cell? ⟨w3.heap.size, 0, none⟩ = some (.int .i64 (gsl n)) := k2.some q0
  have q1 : w8.cell? ⟨w3.heap.size, 1, none⟩ = some (.bool (gsf n)) := k2.some q1
  have q2 : w8.cell? ⟨w3.heap.size, 2, none⟩ = some (.int .i64 (gsv n)) := k2.some q2
  have r0 : w8.cell? ⟨w4.heap.size, 0, none⟩ = some (.int .i64 (gkp n)) := k2.some r0
  have r1 : w8.cell? ⟨w4.heap.size, 1, none⟩ = some (.int .i64 (gks n)) := k2.some r1
  have r2 : w8.cell? ⟨w4.heap.size, 2, none⟩ = some (.int .i64 (gkr n)) := k2.some r2
  have t0 : w8.cell? ⟨w5.heap.size, 0, none⟩ = some (.int .i64 (rIdx n)) := k2.some t0
  have t1 : w8.cell? ⟨w5.heap.size, 1, none⟩ = some (.int .i64 (tTag n)) := k2.some t1
  have fr : ∀ i, w8.frozen? ⟨w2.heap.size, i, none⟩ = false := fun i => by rw [k2.froze]; exact fr i
  have k1 := k1.trans k2
  clear k2
  go_wp2_with fail
  go_region_held3 (fun w' => w'.cell? ⟨w2.heap.size, 0, none⟩ = some (.int .i64 (gri n)) ∧ w'.cell? ⟨w2.heap.size, 1, none⟩ = some (.int .i64 (grg n)) ∧ w'.cell? ⟨w2.heap.size, 2, none⟩ = some (.bool (!grm n))) (first | exact ⟨(World.cell?_setCell_other _ _ _ _ (by simp)).trans p0, (World.cell?_setCell_other _ _ _ _ (by simp)).trans p1, World.cell?_setCell_same _ _ _ p2⟩ | assumption | (exact ⟨hk.some (‹_ ∧ _ ∧ _›).1, hk.some (‹_ ∧ _ ∧ _›).2.1, hk.some (‹_ ∧ _ ∧ _›).2.2⟩)) (first | (go_at_call 28; refine (marks_any _ _ _ H0.out H1.out).mono ?_; rintro e w' ⟨rfl, rfl⟩) | (go_at_call 30; refine (ref_yes _ _ _ _ _ _ I0.out I1.out XM.out).mono ?_; rintro e w' ⟨rfl, hk⟩))
  go_wp2_with (first | (go_at_call_of 28 (setMark n true); refine (marks_any _ _ _ S0.out S1.out).mono ?_; rintro e w' ⟨rfl, rfl⟩) | (go_at_call 28; refine (marks_any _ _ _ H0.out H1.out).mono ?_; rintro e w' ⟨rfl, rfl⟩) | (go_at_call 26; refine (marked_any _ _).mono ?_; rintro e w' ⟨rfl, rfl⟩))
  go_ret
  exact ⟨rfl, ((k1.setCell (by have := (lt_of_cell p0); have := kz; omega) _).drew).trans hk⟩

set_option maxHeartbeats 4000000 in
set_option maxRecDepth 100000 in
theorem one_ynn (n : Int) (w : World) (h0 : 0 ≤ n) (h1 : n < 18446744073709551616) (hr : goodRef n = true) (hs : goodSlot n = false) (hk : goodKey n = false) : Calls Try.prog 7 #[.int .u64 n] w fun e w' => e = .returned (.bool true) ∧ Kept w w' := by
  have H0 := Lib.hid h0; have H1 := Lib.hid h1
  have eR : (gre n == 0) = true := by simp [gre, hr]
  have eS : (gse n == 0) = false := by simp [gse, hs]
  have eK : (gke n == 0) = false := by simp [gke, hk]
  have XR : Hid (putRef (gri n) (grg n) (grm n) = (n, 0)) := Lib.hid (by simp only [gri, grg, grm, hr, cond_true]; exact pair_yes hr)
  have XM : Hid (putRef (gri n) (grg n) (!grm n) = (setMark n (!grm n), 0)) := Lib.hid (by simp only [gri, grg, grm, hr, cond_true]; exact mark_ref n h0 h1 hr _)
  have I0 : Hid (-9223372036854775808 ≤ gri n) := Lib.hid (by simp only [gri, hr, cond_true]; have := rIdx_lo n; omega)
  have I1 : Hid (gri n ≤ 9223372036854775807) := Lib.hid (by simp only [gri, hr, cond_true]; have := rIdx_hi n; omega)
  have XT : Hid (putTop (rIdx n) (tTag n) = (n, 0)) := Lib.hid (top_good n h0 h1)
  have J0 : Hid (-9223372036854775808 ≤ rIdx n) := Lib.hid (by have := rIdx_lo n; omega)
  have J1 : Hid (rIdx n ≤ 9223372036854775807) := Lib.hid (by have := rIdx_hi n; omega)
  have mT := markOf_set n true
  have mF := markOf_set n false
  have mB := set_back n h0 h1 true
  have S0 := Lib.hid (setMark_lo n true)
  have S1 := Lib.hid (setMark_hi n true)
  clear h0 h1 hr hs hk
  go_enter Try.func7, Try.ntmps7
  go_wp2_with fail
  refine (known_any _).mono ?_
  rintro e w1 ⟨rfl, k1⟩
  go_wp2_with fail
  refine (get_ref _ _ H0.out H1.out).mono ?_
  rintro e w2 ⟨rfl, k2⟩
  have kz := (k1.trans k2).size
  have k1 := k1.trans k2
  clear k2
  go_wp2_with fail
  refine (get_slot _ _ H0.out H1.out).mono ?_
  rintro e w3 ⟨rfl, k2⟩
  have p0 : w3.cell? ⟨w2.heap.size, 0, none⟩ = some (.int .i64 (gri n)) := k2.some (by simp)
  have p1 : w3.cell? ⟨w2.heap.size, 1, none⟩ = some (.int .i64 (grg n)) := k2.some (by simp)
  have p2 : w3.cell? ⟨w2.heap.size, 2, none⟩ = some (.bool (grm n)) := k2.some (by simp)
  have fr : ∀ i, w3.frozen? ⟨w2.heap.size, i, none⟩ = false := fun i => by rw [k2.froze]; simp
  have k1 := (k1.alloc _ _).trans k2
  clear k2
  go_wp2_with fail
  refine (get_key _ _ H0.out H1.out).mono ?_
  rintro e w4 ⟨rfl, k2⟩
  have p0 : w4.cell? ⟨w2.heap.size, 0, none⟩ = some (.int .i64 (gri n)) := k2.past p0
  have p1 : w4.cell? ⟨w2.heap.size, 1, none⟩ = some (.int .i64 (grg n)) := k2.past p1
  have p2 : w4.cell? ⟨w2.heap.size, 2, none⟩ = some (.bool (grm n)) := k2.past p2
  have q0 : w4.cell? ⟨w3.heap.size, 0, none⟩ = some (.int .i64 (gsl n)) := k2.some (by simp)
  have q1 : w4.cell? ⟨w3.heap.size, 1, none⟩ = some (.bool (gsf n)) := k2.some (by simp)
  have q2 : w4.cell? ⟨w3.heap.size, 2, none⟩ = some (.int .i64 (gsv n)) := k2.some (by simp)
  have fr : ∀ i, w4.frozen? ⟨w2.heap.size, i, none⟩ = false := fun i => by rw [k2.froze]; rw [frozen?_alloc_cells]; exact fr i
  have k1 := (k1.alloc _ _).trans k2
  clear k2
  go_wp2_with fail
  refine (get_top _ _ H0.out H1.out).mono ?_
  rintro e w5 ⟨rfl, k2⟩
  have p0 : w5.cell? ⟨w2.heap.size, 0, none⟩ = some (.int .i64 (gri n)) := k2.past p0
  have p1 : w5.cell? ⟨w2.heap.size, 1, none⟩ = some (.int .i64 (grg n)) := k2.past p1
  have p2 : w5.cell? ⟨w2.heap.size, 2, none⟩ = some (.bool (grm n)) := k2.past p2
  have q0 : w5.cell? ⟨w3.heap.size, 0, none⟩ = some (.int .i64 (gsl n)) := k2.past q0
  have q1 : w5.cell? ⟨w3.heap.size, 1, none⟩ = some (.bool (gsf n)) := k2.past q1
  have q2 : w5.cell? ⟨w3.heap.size, 2, none⟩ = some (.int .i64 (gsv n)) := k2.past q2
  have r0 : w5.cell? ⟨w4.heap.size, 0, none⟩ = some (.int .i64 (gkp n)) := k2.some (by simp)
  have r1 : w5.cell? ⟨w4.heap.size, 1, none⟩ = some (.int .i64 (gks n)) := k2.some (by simp)
  have r2 : w5.cell? ⟨w4.heap.size, 2, none⟩ = some (.int .i64 (gkr n)) := k2.some (by simp)
  have fr : ∀ i, w5.frozen? ⟨w2.heap.size, i, none⟩ = false := fun i => by rw [k2.froze]; rw [frozen?_alloc_cells]; exact fr i
  have k1 := (k1.alloc _ _).trans k2
  clear k2
  have lp := lt_of_cell p0
  have lq := lt_of_cell q0
  have lr := lt_of_cell r0
  go_wp2_with fail
  refine (ref_yes _ _ _ _ _ _ I0.out I1.out XR.out).mono ?_
  rintro e w6 ⟨rfl, k2⟩
  have p0 : w6.cell? ⟨w2.heap.size, 0, none⟩ = some (.int .i64 (gri n)) := k2.past p0
  have p1 : w6.cell? ⟨w2.heap.size, 1, none⟩ = some (.int .i64 (grg n)) := k2.past p1
  have p2 : w6.cell? ⟨w2.heap.size, 2, none⟩ = some (.bool (grm n)) := k2.past p2
  have q0 : w6.cell? ⟨w3.heap.size, 0, none⟩ = some (.int .i64 (gsl n)) := k2.past q0
  have q1 : w6.cell? ⟨w3.heap.size, 1, none⟩ = some (.bool (gsf n)) := k2.past q1
  have q2 : w6.cell? ⟨w3.heap.size, 2, none⟩ = some (.int .i64 (gsv n)) := k2.past q2
  have r0 : w6.cell? ⟨w4.heap.size, 0, none⟩ = some (.int .i64 (gkp n)) := k2.past r0
  have r1 : w6.cell? ⟨w4.heap.size, 1, none⟩ = some (.int .i64 (gks n)) := k2.past r1
  have r2 : w6.cell? ⟨w4.heap.size, 2, none⟩ = some (.int .i64 (gkr n)) := k2.past r2
  have t0 : w6.cell? ⟨w5.heap.size, 0, none⟩ = some (.int .i64 (rIdx n)) := k2.some (by simp)
  have t1 : w6.cell? ⟨w5.heap.size, 1, none⟩ = some (.int .i64 (tTag n)) := k2.some (by simp)
  have fr : ∀ i, w6.frozen? ⟨w2.heap.size, i, none⟩ = false := fun i => by rw [k2.froze]; rw [frozen?_alloc_cells]; exact fr i
  have k1 := (k1.alloc _ _).trans k2
  clear k2
  go_wp2_with fail
  refine (top_yes _ _ _ _ _ J0.out J1.out XT.out).mono ?_
  rintro e w7 ⟨rfl, k2⟩
  have p0 : w7.cell? ⟨w2.heap.size, 0, none⟩ = some (.int .i64 (gri n)) := k2.some p0
  have p1 : w7.cell? ⟨w2.heap.size, 1, none⟩ = some (.int .i64 (grg n)) := k2.some p1
  have p2 : w7.cell? ⟨w2.heap.size, 2, none⟩ = some (.bool (grm n)) := k2.some p2
  have q0 : w7.cell? ⟨w3.heap.size, 0, none⟩ = some (.int .i64 (gsl n)) := k2.some q0
  have q1 : w7.cell? ⟨w3.heap.size, 1, none⟩ = some (.bool (gsf n)) := k2.some q1
  have q2 : w7.cell? ⟨w3.heap.size, 2, none⟩ = some (.int .i64 (gsv n)) := k2.some q2
  have r0 : w7.cell? ⟨w4.heap.size, 0, none⟩ = some (.int .i64 (gkp n)) := k2.some r0
  have r1 : w7.cell? ⟨w4.heap.size, 1, none⟩ = some (.int .i64 (gks n)) := k2.some r1
  have r2 : w7.cell? ⟨w4.heap.size, 2, none⟩ = some (.int .i64 (gkr n)) := k2.some r2
  have t0 : w7.cell? ⟨w5.heap.size, 0, none⟩ = some (.int .i64 (rIdx n)) := k2.some t0
  have t1 : w7.cell? ⟨w5.heap.size, 1, none⟩ = some (.int .i64 (tTag n)) := k2.some t1
  have fr : ∀ i, w7.frozen? ⟨w2.heap.size, i, none⟩ = false := fun i => by rw [k2.froze]; exact fr i
  have k1 := k1.trans k2
  clear k2
  go_wp2_with fail
  go_region_held3 (fun w' => w'.cell? ⟨w2.heap.size, 0, none⟩ = some (.int .i64 (gri n)) ∧ w'.cell? ⟨w2.heap.size, 1, none⟩ = some (.int .i64 (grg n)) ∧ w'.cell? ⟨w2.heap.size, 2, none⟩ = some (.bool (!grm n))) (first | exact ⟨(World.cell?_setCell_other _ _ _ _ (by simp)).trans p0, (World.cell?_setCell_other _ _ _ _ (by simp)).trans p1, World.cell?_setCell_same _ _ _ p2⟩ | assumption | (exact ⟨hk.some (‹_ ∧ _ ∧ _›).1, hk.some (‹_ ∧ _ ∧ _›).2.1, hk.some (‹_ ∧ _ ∧ _›).2.2⟩)) (first | (go_at_call 28; refine (marks_any _ _ _ H0.out H1.out).mono ?_; rintro e w' ⟨rfl, rfl⟩) | (go_at_call 30; refine (ref_yes _ _ _ _ _ _ I0.out I1.out XM.out).mono ?_; rintro e w' ⟨rfl, hk⟩))
  go_wp2_with (first | (go_at_call_of 28 (setMark n true); refine (marks_any _ _ _ S0.out S1.out).mono ?_; rintro e w' ⟨rfl, rfl⟩) | (go_at_call 28; refine (marks_any _ _ _ H0.out H1.out).mono ?_; rintro e w' ⟨rfl, rfl⟩) | (go_at_call 26; refine (marked_any _ _).mono ?_; rintro e w' ⟨rfl, rfl⟩))
  go_ret
  exact ⟨rfl, ((k1.setCell (by have := (lt_of_cell p0); have := kz; omega) _).drew).trans hk⟩

set_option maxHeartbeats 4000000 in
set_option maxRecDepth 100000 in
theorem one_nyy (n : Int) (w : World) (h0 : 0 ≤ n) (h1 : n < 18446744073709551616) (hr : goodRef n = false) (hs : goodSlot n = true) (hk : goodKey n = true) : Calls Try.prog 7 #[.int .u64 n] w fun e w' => e = .returned (.bool true) ∧ Kept w w' := by
  have H0 := Lib.hid h0; have H1 := Lib.hid h1
  have eR : (gre n == 0) = false := by simp [gre, hr]
  have eS : (gse n == 0) = true := by simp [gse, hs]
  have eK : (gke n == 0) = true := by simp [gke, hk]
  have XS : Hid (putSlot (gsl n) (gsf n) (gsv n) = (n, 0)) := Lib.hid (by simp only [gsl, gsf, gsv, hs, cond_true]; exact pair_yes hs)
  have XK : Hid (putKey (gkp n) (gks n) (gkr n) = (n, 0)) := Lib.hid (by simp only [gkp, gks, gkr, hk, cond_true]; exact pair_yes hk)
  have XT : Hid (putTop (rIdx n) (tTag n) = (n, 0)) := Lib.hid (top_good n h0 h1)
  have J0 : Hid (-9223372036854775808 ≤ rIdx n) := Lib.hid (by have := rIdx_lo n; omega)
  have J1 : Hid (rIdx n ≤ 9223372036854775807) := Lib.hid (by have := rIdx_hi n; omega)
  have mT := markOf_set n true
  have mF := markOf_set n false
  have mB := set_back n h0 h1 true
  have S0 := Lib.hid (setMark_lo n true)
  have S1 := Lib.hid (setMark_hi n true)
  clear h0 h1 hr hs hk
  go_enter Try.func7, Try.ntmps7
  go_wp2_with fail
  refine (known_any _).mono ?_
  rintro e w1 ⟨rfl, k1⟩
  go_wp2_with fail
  refine (get_ref _ _ H0.out H1.out).mono ?_
  rintro e w2 ⟨rfl, k2⟩
  have kz := (k1.trans k2).size
  have k1 := k1.trans k2
  clear k2
  go_wp2_with fail
  refine (get_slot _ _ H0.out H1.out).mono ?_
  rintro e w3 ⟨rfl, k2⟩
  have p0 : w3.cell? ⟨w2.heap.size, 0, none⟩ = some (.int .i64 (gri n)) := k2.some (by simp)
  have p1 : w3.cell? ⟨w2.heap.size, 1, none⟩ = some (.int .i64 (grg n)) := k2.some (by simp)
  have p2 : w3.cell? ⟨w2.heap.size, 2, none⟩ = some (.bool (grm n)) := k2.some (by simp)
  have k1 := (k1.alloc _ _).trans k2
  clear k2
  go_wp2_with fail
  refine (get_key _ _ H0.out H1.out).mono ?_
  rintro e w4 ⟨rfl, k2⟩
  have p0 : w4.cell? ⟨w2.heap.size, 0, none⟩ = some (.int .i64 (gri n)) := k2.past p0
  have p1 : w4.cell? ⟨w2.heap.size, 1, none⟩ = some (.int .i64 (grg n)) := k2.past p1
  have p2 : w4.cell? ⟨w2.heap.size, 2, none⟩ = some (.bool (grm n)) := k2.past p2
  have q0 : w4.cell? ⟨w3.heap.size, 0, none⟩ = some (.int .i64 (gsl n)) := k2.some (by simp)
  have q1 : w4.cell? ⟨w3.heap.size, 1, none⟩ = some (.bool (gsf n)) := k2.some (by simp)
  have q2 : w4.cell? ⟨w3.heap.size, 2, none⟩ = some (.int .i64 (gsv n)) := k2.some (by simp)
  have k1 := (k1.alloc _ _).trans k2
  clear k2
  go_wp2_with fail
  refine (get_top _ _ H0.out H1.out).mono ?_
  rintro e w5 ⟨rfl, k2⟩
  have p0 : w5.cell? ⟨w2.heap.size, 0, none⟩ = some (.int .i64 (gri n)) := k2.past p0
  have p1 : w5.cell? ⟨w2.heap.size, 1, none⟩ = some (.int .i64 (grg n)) := k2.past p1
  have p2 : w5.cell? ⟨w2.heap.size, 2, none⟩ = some (.bool (grm n)) := k2.past p2
  have q0 : w5.cell? ⟨w3.heap.size, 0, none⟩ = some (.int .i64 (gsl n)) := k2.past q0
  have q1 : w5.cell? ⟨w3.heap.size, 1, none⟩ = some (.bool (gsf n)) := k2.past q1
  have q2 : w5.cell? ⟨w3.heap.size, 2, none⟩ = some (.int .i64 (gsv n)) := k2.past q2
  have r0 : w5.cell? ⟨w4.heap.size, 0, none⟩ = some (.int .i64 (gkp n)) := k2.some (by simp)
  have r1 : w5.cell? ⟨w4.heap.size, 1, none⟩ = some (.int .i64 (gks n)) := k2.some (by simp)
  have r2 : w5.cell? ⟨w4.heap.size, 2, none⟩ = some (.int .i64 (gkr n)) := k2.some (by simp)
  have k1 := (k1.alloc _ _).trans k2
  clear k2
  have lp := lt_of_cell p0
  have lq := lt_of_cell q0
  have lr := lt_of_cell r0
  go_wp2_with fail
  refine (slot_yes _ _ _ _ _ _ XS.out).mono ?_
  rintro e w6 ⟨rfl, k2⟩
  have p0 : w6.cell? ⟨w2.heap.size, 0, none⟩ = some (.int .i64 (gri n)) := k2.past p0
  have p1 : w6.cell? ⟨w2.heap.size, 1, none⟩ = some (.int .i64 (grg n)) := k2.past p1
  have p2 : w6.cell? ⟨w2.heap.size, 2, none⟩ = some (.bool (grm n)) := k2.past p2
  have q0 : w6.cell? ⟨w3.heap.size, 0, none⟩ = some (.int .i64 (gsl n)) := k2.past q0
  have q1 : w6.cell? ⟨w3.heap.size, 1, none⟩ = some (.bool (gsf n)) := k2.past q1
  have q2 : w6.cell? ⟨w3.heap.size, 2, none⟩ = some (.int .i64 (gsv n)) := k2.past q2
  have r0 : w6.cell? ⟨w4.heap.size, 0, none⟩ = some (.int .i64 (gkp n)) := k2.past r0
  have r1 : w6.cell? ⟨w4.heap.size, 1, none⟩ = some (.int .i64 (gks n)) := k2.past r1
  have r2 : w6.cell? ⟨w4.heap.size, 2, none⟩ = some (.int .i64 (gkr n)) := k2.past r2
  have t0 : w6.cell? ⟨w5.heap.size, 0, none⟩ = some (.int .i64 (rIdx n)) := k2.some (by simp)
  have t1 : w6.cell? ⟨w5.heap.size, 1, none⟩ = some (.int .i64 (tTag n)) := k2.some (by simp)
  have k1 := (k1.alloc _ _).trans k2
  clear k2
  go_wp2_with fail
  refine (key_yes _ _ _ _ _ _ XK.out).mono ?_
  rintro e w7 ⟨rfl, k2⟩
  have p0 : w7.cell? ⟨w2.heap.size, 0, none⟩ = some (.int .i64 (gri n)) := k2.some p0
  have p1 : w7.cell? ⟨w2.heap.size, 1, none⟩ = some (.int .i64 (grg n)) := k2.some p1
  have p2 : w7.cell? ⟨w2.heap.size, 2, none⟩ = some (.bool (grm n)) := k2.some p2
  have q0 : w7.cell? ⟨w3.heap.size, 0, none⟩ = some (.int .i64 (gsl n)) := k2.some q0
  have q1 : w7.cell? ⟨w3.heap.size, 1, none⟩ = some (.bool (gsf n)) := k2.some q1
  have q2 : w7.cell? ⟨w3.heap.size, 2, none⟩ = some (.int .i64 (gsv n)) := k2.some q2
  have r0 : w7.cell? ⟨w4.heap.size, 0, none⟩ = some (.int .i64 (gkp n)) := k2.some r0
  have r1 : w7.cell? ⟨w4.heap.size, 1, none⟩ = some (.int .i64 (gks n)) := k2.some r1
  have r2 : w7.cell? ⟨w4.heap.size, 2, none⟩ = some (.int .i64 (gkr n)) := k2.some r2
  have t0 : w7.cell? ⟨w5.heap.size, 0, none⟩ = some (.int .i64 (rIdx n)) := k2.some t0
  have t1 : w7.cell? ⟨w5.heap.size, 1, none⟩ = some (.int .i64 (tTag n)) := k2.some t1
  have k1 := k1.trans k2
  clear k2
  go_wp2_with fail
  refine (top_yes _ _ _ _ _ J0.out J1.out XT.out).mono ?_
  rintro e w8 ⟨rfl, k2⟩
  have p0 : w8.cell? ⟨w2.heap.size, 0, none⟩ = some (.int .i64 (gri n)) := k2.some p0
  have p1 : w8.cell? ⟨w2.heap.size, 1, none⟩ = some (.int .i64 (grg n)) := k2.some p1
  have p2 : w8.cell? ⟨w2.heap.size, 2, none⟩ = some (.bool (grm n)) := k2.some p2
  have q0 : w8.cell? ⟨w3.heap.size, 0, none⟩ = some (.int .i64 (gsl n)) := k2.some q0
  have q1 : w8.cell? ⟨w3.heap.size, 1, none⟩ = some (.bool (gsf n)) := k2.some q1
  have q2 : w8.cell? ⟨w3.heap.size, 2, none⟩ = some (.int .i64 (gsv n)) := k2.some q2
  have r0 : w8.cell? ⟨w4.heap.size, 0, none⟩ = some (.int .i64 (gkp n)) := k2.some r0
  have r1 : w8.cell? ⟨w4.heap.size, 1, none⟩ = some (.int .i64 (gks n)) := k2.some r1
  have r2 : w8.cell? ⟨w4.heap.size, 2, none⟩ = some (.int .i64 (gkr n)) := k2.some r2
  have t0 : w8.cell? ⟨w5.heap.size, 0, none⟩ = some (.int .i64 (rIdx n)) := k2.some t0
  have t1 : w8.cell? ⟨w5.heap.size, 1, none⟩ = some (.int .i64 (tTag n)) := k2.some t1
  have k1 := k1.trans k2
  clear k2
  go_wp2_with fail
  go_wp2_with (first | (go_at_call_of 28 (setMark n true); refine (marks_any _ _ _ S0.out S1.out).mono ?_; rintro e w' ⟨rfl, rfl⟩) | (go_at_call 28; refine (marks_any _ _ _ H0.out H1.out).mono ?_; rintro e w' ⟨rfl, rfl⟩) | (go_at_call 26; refine (marked_any _ _).mono ?_; rintro e w' ⟨rfl, rfl⟩))
  go_ret
  exact ⟨rfl, k1⟩

set_option maxHeartbeats 4000000 in
set_option maxRecDepth 100000 in
theorem one_nyn (n : Int) (w : World) (h0 : 0 ≤ n) (h1 : n < 18446744073709551616) (hr : goodRef n = false) (hs : goodSlot n = true) (hk : goodKey n = false) : Calls Try.prog 7 #[.int .u64 n] w fun e w' => e = .returned (.bool true) ∧ Kept w w' := by
  have H0 := Lib.hid h0; have H1 := Lib.hid h1
  have eR : (gre n == 0) = false := by simp [gre, hr]
  have eS : (gse n == 0) = true := by simp [gse, hs]
  have eK : (gke n == 0) = false := by simp [gke, hk]
  have XS : Hid (putSlot (gsl n) (gsf n) (gsv n) = (n, 0)) := Lib.hid (by simp only [gsl, gsf, gsv, hs, cond_true]; exact pair_yes hs)
  have XT : Hid (putTop (rIdx n) (tTag n) = (n, 0)) := Lib.hid (top_good n h0 h1)
  have J0 : Hid (-9223372036854775808 ≤ rIdx n) := Lib.hid (by have := rIdx_lo n; omega)
  have J1 : Hid (rIdx n ≤ 9223372036854775807) := Lib.hid (by have := rIdx_hi n; omega)
  have mT := markOf_set n true
  have mF := markOf_set n false
  have mB := set_back n h0 h1 true
  have S0 := Lib.hid (setMark_lo n true)
  have S1 := Lib.hid (setMark_hi n true)
  clear h0 h1 hr hs hk
  go_enter Try.func7, Try.ntmps7
  go_wp2_with fail
  refine (known_any _).mono ?_
  rintro e w1 ⟨rfl, k1⟩
  go_wp2_with fail
  refine (get_ref _ _ H0.out H1.out).mono ?_
  rintro e w2 ⟨rfl, k2⟩
  have kz := (k1.trans k2).size
  have k1 := k1.trans k2
  clear k2
  go_wp2_with fail
  refine (get_slot _ _ H0.out H1.out).mono ?_
  rintro e w3 ⟨rfl, k2⟩
  have p0 : w3.cell? ⟨w2.heap.size, 0, none⟩ = some (.int .i64 (gri n)) := k2.some (by simp)
  have p1 : w3.cell? ⟨w2.heap.size, 1, none⟩ = some (.int .i64 (grg n)) := k2.some (by simp)
  have p2 : w3.cell? ⟨w2.heap.size, 2, none⟩ = some (.bool (grm n)) := k2.some (by simp)
  have k1 := (k1.alloc _ _).trans k2
  clear k2
  go_wp2_with fail
  refine (get_key _ _ H0.out H1.out).mono ?_
  rintro e w4 ⟨rfl, k2⟩
  have p0 : w4.cell? ⟨w2.heap.size, 0, none⟩ = some (.int .i64 (gri n)) := k2.past p0
  have p1 : w4.cell? ⟨w2.heap.size, 1, none⟩ = some (.int .i64 (grg n)) := k2.past p1
  have p2 : w4.cell? ⟨w2.heap.size, 2, none⟩ = some (.bool (grm n)) := k2.past p2
  have q0 : w4.cell? ⟨w3.heap.size, 0, none⟩ = some (.int .i64 (gsl n)) := k2.some (by simp)
  have q1 : w4.cell? ⟨w3.heap.size, 1, none⟩ = some (.bool (gsf n)) := k2.some (by simp)
  have q2 : w4.cell? ⟨w3.heap.size, 2, none⟩ = some (.int .i64 (gsv n)) := k2.some (by simp)
  have k1 := (k1.alloc _ _).trans k2
  clear k2
  go_wp2_with fail
  refine (get_top _ _ H0.out H1.out).mono ?_
  rintro e w5 ⟨rfl, k2⟩
  have p0 : w5.cell? ⟨w2.heap.size, 0, none⟩ = some (.int .i64 (gri n)) := k2.past p0
  have p1 : w5.cell? ⟨w2.heap.size, 1, none⟩ = some (.int .i64 (grg n)) := k2.past p1
  have p2 : w5.cell? ⟨w2.heap.size, 2, none⟩ = some (.bool (grm n)) := k2.past p2
  have q0 : w5.cell? ⟨w3.heap.size, 0, none⟩ = some (.int .i64 (gsl n)) := k2.past q0
  have q1 : w5.cell? ⟨w3.heap.size, 1, none⟩ = some (.bool (gsf n)) := k2.past q1
  have q2 : w5.cell? ⟨w3.heap.size, 2, none⟩ = some (.int .i64 (gsv n)) := k2.past q2
  have r0 : w5.cell? ⟨w4.heap.size, 0, none⟩ = some (.int .i64 (gkp n)) := k2.some (by simp)
  have r1 : w5.cell? ⟨w4.heap.size, 1, none⟩ = some (.int .i64 (gks n)) := k2.some (by simp)
  have r2 : w5.cell? ⟨w4.heap.size, 2, none⟩ = some (.int .i64 (gkr n)) := k2.some (by simp)
  have k1 := (k1.alloc _ _).trans k2
  clear k2
  have lp := lt_of_cell p0
  have lq := lt_of_cell q0
  have lr := lt_of_cell r0
  go_wp2_with fail
  refine (slot_yes _ _ _ _ _ _ XS.out).mono ?_
  rintro e w6 ⟨rfl, k2⟩
  have p0 : w6.cell? ⟨w2.heap.size, 0, none⟩ = some (.int .i64 (gri n)) := k2.past p0
  have p1 : w6.cell? ⟨w2.heap.size, 1, none⟩ = some (.int .i64 (grg n)) := k2.past p1
  have p2 : w6.cell? ⟨w2.heap.size, 2, none⟩ = some (.bool (grm n)) := k2.past p2
  have q0 : w6.cell? ⟨w3.heap.size, 0, none⟩ = some (.int .i64 (gsl n)) := k2.past q0
  have q1 : w6.cell? ⟨w3.heap.size, 1, none⟩ = some (.bool (gsf n)) := k2.past q1
  have q2 : w6.cell? ⟨w3.heap.size, 2, none⟩ = some (.int .i64 (gsv n)) := k2.past q2
  have r0 : w6.cell? ⟨w4.heap.size, 0, none⟩ = some (.int .i64 (gkp n)) := k2.past r0
  have r1 : w6.cell? ⟨w4.heap.size, 1, none⟩ = some (.int .i64 (gks n)) := k2.past r1
  have r2 : w6.cell? ⟨w4.heap.size, 2, none⟩ = some (.int .i64 (gkr n)) := k2.past r2
  have t0 : w6.cell? ⟨w5.heap.size, 0, none⟩ = some (.int .i64 (rIdx n)) := k2.some (by simp)
  have t1 : w6.cell? ⟨w5.heap.size, 1, none⟩ = some (.int .i64 (tTag n)) := k2.some (by simp)
  have k1 := (k1.alloc _ _).trans k2
  clear k2
  go_wp2_with fail
  refine (top_yes _ _ _ _ _ J0.out J1.out XT.out).mono ?_
  rintro e w7 ⟨rfl, k2⟩
  have p0 : w7.cell? ⟨w2.heap.size, 0, none⟩ = some (.int .i64 (gri n)) := k2.some p0
  have p1 : w7.cell? ⟨w2.heap.size, 1, none⟩ = some (.int .i64 (grg n)) := k2.some p1
  have p2 : w7.cell? ⟨w2.heap.size, 2, none⟩ = some (.bool (grm n)) := k2.some p2
  have q0 : w7.cell? ⟨w3.heap.size, 0, none⟩ = some (.int .i64 (gsl n)) := k2.some q0
  have q1 : w7.cell? ⟨w3.heap.size, 1, none⟩ = some (.bool (gsf n)) := k2.some q1
  have q2 : w7.cell? ⟨w3.heap.size, 2, none⟩ = some (.int .i64 (gsv n)) := k2.some q2
  have r0 : w7.cell? ⟨w4.heap.size, 0, none⟩ = some (.int .i64 (gkp n)) := k2.some r0
  have r1 : w7.cell? ⟨w4.heap.size, 1, none⟩ = some (.int .i64 (gks n)) := k2.some r1
  have r2 : w7.cell? ⟨w4.heap.size, 2, none⟩ = some (.int .i64 (gkr n)) := k2.some r2
  have t0 : w7.cell? ⟨w5.heap.size, 0, none⟩ = some (.int .i64 (rIdx n)) := k2.some t0
  have t1 : w7.cell? ⟨w5.heap.size, 1, none⟩ = some (.int .i64 (tTag n)) := k2.some t1
  have k1 := k1.trans k2
  clear k2
  go_wp2_with fail
  go_wp2_with (first | (go_at_call_of 28 (setMark n true); refine (marks_any _ _ _ S0.out S1.out).mono ?_; rintro e w' ⟨rfl, rfl⟩) | (go_at_call 28; refine (marks_any _ _ _ H0.out H1.out).mono ?_; rintro e w' ⟨rfl, rfl⟩) | (go_at_call 26; refine (marked_any _ _).mono ?_; rintro e w' ⟨rfl, rfl⟩))
  go_ret
  exact ⟨rfl, k1⟩

set_option maxHeartbeats 4000000 in
set_option maxRecDepth 100000 in
theorem one_nny (n : Int) (w : World) (h0 : 0 ≤ n) (h1 : n < 18446744073709551616) (hr : goodRef n = false) (hs : goodSlot n = false) (hk : goodKey n = true) : Calls Try.prog 7 #[.int .u64 n] w fun e w' => e = .returned (.bool true) ∧ Kept w w' := by
  have H0 := Lib.hid h0; have H1 := Lib.hid h1
  have eR : (gre n == 0) = false := by simp [gre, hr]
  have eS : (gse n == 0) = false := by simp [gse, hs]
  have eK : (gke n == 0) = true := by simp [gke, hk]
  have XK : Hid (putKey (gkp n) (gks n) (gkr n) = (n, 0)) := Lib.hid (by simp only [gkp, gks, gkr, hk, cond_true]; exact pair_yes hk)
  have XT : Hid (putTop (rIdx n) (tTag n) = (n, 0)) := Lib.hid (top_good n h0 h1)
  have J0 : Hid (-9223372036854775808 ≤ rIdx n) := Lib.hid (by have := rIdx_lo n; omega)
  have J1 : Hid (rIdx n ≤ 9223372036854775807) := Lib.hid (by have := rIdx_hi n; omega)
  have mT := markOf_set n true
  have mF := markOf_set n false
  have mB := set_back n h0 h1 true
  have S0 := Lib.hid (setMark_lo n true)
  have S1 := Lib.hid (setMark_hi n true)
  clear h0 h1 hr hs hk
  go_enter Try.func7, Try.ntmps7
  go_wp2_with fail
  refine (known_any _).mono ?_
  rintro e w1 ⟨rfl, k1⟩
  go_wp2_with fail
  refine (get_ref _ _ H0.out H1.out).mono ?_
  rintro e w2 ⟨rfl, k2⟩
  have kz := (k1.trans k2).size
  have k1 := k1.trans k2
  clear k2
  go_wp2_with fail
  refine (get_slot _ _ H0.out H1.out).mono ?_
  rintro e w3 ⟨rfl, k2⟩
  have p0 : w3.cell? ⟨w2.heap.size, 0, none⟩ = some (.int .i64 (gri n)) := k2.some (by simp)
  have p1 : w3.cell? ⟨w2.heap.size, 1, none⟩ = some (.int .i64 (grg n)) := k2.some (by simp)
  have p2 : w3.cell? ⟨w2.heap.size, 2, none⟩ = some (.bool (grm n)) := k2.some (by simp)
  have k1 := (k1.alloc _ _).trans k2
  clear k2
  go_wp2_with fail
  refine (get_key _ _ H0.out H1.out).mono ?_
  rintro e w4 ⟨rfl, k2⟩
  have p0 : w4.cell? ⟨w2.heap.size, 0, none⟩ = some (.int .i64 (gri n)) := k2.past p0
  have p1 : w4.cell? ⟨w2.heap.size, 1, none⟩ = some (.int .i64 (grg n)) := k2.past p1
  have p2 : w4.cell? ⟨w2.heap.size, 2, none⟩ = some (.bool (grm n)) := k2.past p2
  have q0 : w4.cell? ⟨w3.heap.size, 0, none⟩ = some (.int .i64 (gsl n)) := k2.some (by simp)
  have q1 : w4.cell? ⟨w3.heap.size, 1, none⟩ = some (.bool (gsf n)) := k2.some (by simp)
  have q2 : w4.cell? ⟨w3.heap.size, 2, none⟩ = some (.int .i64 (gsv n)) := k2.some (by simp)
  have k1 := (k1.alloc _ _).trans k2
  clear k2
  go_wp2_with fail
  refine (get_top _ _ H0.out H1.out).mono ?_
  rintro e w5 ⟨rfl, k2⟩
  have p0 : w5.cell? ⟨w2.heap.size, 0, none⟩ = some (.int .i64 (gri n)) := k2.past p0
  have p1 : w5.cell? ⟨w2.heap.size, 1, none⟩ = some (.int .i64 (grg n)) := k2.past p1
  have p2 : w5.cell? ⟨w2.heap.size, 2, none⟩ = some (.bool (grm n)) := k2.past p2
  have q0 : w5.cell? ⟨w3.heap.size, 0, none⟩ = some (.int .i64 (gsl n)) := k2.past q0
  have q1 : w5.cell? ⟨w3.heap.size, 1, none⟩ = some (.bool (gsf n)) := k2.past q1
  have q2 : w5.cell? ⟨w3.heap.size, 2, none⟩ = some (.int .i64 (gsv n)) := k2.past q2
  have r0 : w5.cell? ⟨w4.heap.size, 0, none⟩ = some (.int .i64 (gkp n)) := k2.some (by simp)
  have r1 : w5.cell? ⟨w4.heap.size, 1, none⟩ = some (.int .i64 (gks n)) := k2.some (by simp)
  have r2 : w5.cell? ⟨w4.heap.size, 2, none⟩ = some (.int .i64 (gkr n)) := k2.some (by simp)
  have k1 := (k1.alloc _ _).trans k2
  clear k2
  have lp := lt_of_cell p0
  have lq := lt_of_cell q0
  have lr := lt_of_cell r0
  go_wp2_with fail
  refine (key_yes _ _ _ _ _ _ XK.out).mono ?_
  rintro e w6 ⟨rfl, k2⟩
  have p0 : w6.cell? ⟨w2.heap.size, 0, none⟩ = some (.int .i64 (gri n)) := k2.past p0
  have p1 : w6.cell? ⟨w2.heap.size, 1, none⟩ = some (.int .i64 (grg n)) := k2.past p1
  have p2 : w6.cell? ⟨w2.heap.size, 2, none⟩ = some (.bool (grm n)) := k2.past p2
  have q0 : w6.cell? ⟨w3.heap.size, 0, none⟩ = some (.int .i64 (gsl n)) := k2.past q0
  have q1 : w6.cell? ⟨w3.heap.size, 1, none⟩ = some (.bool (gsf n)) := k2.past q1
  have q2 : w6.cell? ⟨w3.heap.size, 2, none⟩ = some (.int .i64 (gsv n)) := k2.past q2
  have r0 : w6.cell? ⟨w4.heap.size, 0, none⟩ = some (.int .i64 (gkp n)) := k2.past r0
  have r1 : w6.cell? ⟨w4.heap.size, 1, none⟩ = some (.int .i64 (gks n)) := k2.past r1
  have r2 : w6.cell? ⟨w4.heap.size, 2, none⟩ = some (.int .i64 (gkr n)) := k2.past r2
  have t0 : w6.cell? ⟨w5.heap.size, 0, none⟩ = some (.int .i64 (rIdx n)) := k2.some (by simp)
  have t1 : w6.cell? ⟨w5.heap.size, 1, none⟩ = some (.int .i64 (tTag n)) := k2.some (by simp)
  have k1 := (k1.alloc _ _).trans k2
  clear k2
  go_wp2_with fail
  refine (top_yes _ _ _ _ _ J0.out J1.out XT.out).mono ?_
  rintro e w7 ⟨rfl, k2⟩
  have p0 : w7.cell? ⟨w2.heap.size, 0, none⟩ = some (.int .i64 (gri n)) := k2.some p0
  have p1 : w7.cell? ⟨w2.heap.size, 1, none⟩ = some (.int .i64 (grg n)) := k2.some p1
  have p2 : w7.cell? ⟨w2.heap.size, 2, none⟩ = some (.bool (grm n)) := k2.some p2
  have q0 : w7.cell? ⟨w3.heap.size, 0, none⟩ = some (.int .i64 (gsl n)) := k2.some q0
  have q1 : w7.cell? ⟨w3.heap.size, 1, none⟩ = some (.bool (gsf n)) := k2.some q1
  have q2 : w7.cell? ⟨w3.heap.size, 2, none⟩ = some (.int .i64 (gsv n)) := k2.some q2
  have r0 : w7.cell? ⟨w4.heap.size, 0, none⟩ = some (.int .i64 (gkp n)) := k2.some r0
  have r1 : w7.cell? ⟨w4.heap.size, 1, none⟩ = some (.int .i64 (gks n)) := k2.some r1
  have r2 : w7.cell? ⟨w4.heap.size, 2, none⟩ = some (.int .i64 (gkr n)) := k2.some r2
  have t0 : w7.cell? ⟨w5.heap.size, 0, none⟩ = some (.int .i64 (rIdx n)) := k2.some t0
  have t1 : w7.cell? ⟨w5.heap.size, 1, none⟩ = some (.int .i64 (tTag n)) := k2.some t1
  have k1 := k1.trans k2
  clear k2
  go_wp2_with fail
  go_wp2_with (first | (go_at_call_of 28 (setMark n true); refine (marks_any _ _ _ S0.out S1.out).mono ?_; rintro e w' ⟨rfl, rfl⟩) | (go_at_call 28; refine (marks_any _ _ _ H0.out H1.out).mono ?_; rintro e w' ⟨rfl, rfl⟩) | (go_at_call 26; refine (marked_any _ _).mono ?_; rintro e w' ⟨rfl, rfl⟩))
  go_ret
  exact ⟨rfl, k1⟩

set_option maxHeartbeats 4000000 in
set_option maxRecDepth 100000 in
theorem one_nnn (n : Int) (w : World) (h0 : 0 ≤ n) (h1 : n < 18446744073709551616) (hr : goodRef n = false) (hs : goodSlot n = false) (hk : goodKey n = false) : Calls Try.prog 7 #[.int .u64 n] w fun e w' => e = .returned (.bool true) ∧ Kept w w' := by
  have H0 := Lib.hid h0; have H1 := Lib.hid h1
  have eR : (gre n == 0) = false := by simp [gre, hr]
  have eS : (gse n == 0) = false := by simp [gse, hs]
  have eK : (gke n == 0) = false := by simp [gke, hk]
  have XT : Hid (putTop (rIdx n) (tTag n) = (n, 0)) := Lib.hid (top_good n h0 h1)
  have J0 : Hid (-9223372036854775808 ≤ rIdx n) := Lib.hid (by have := rIdx_lo n; omega)
  have J1 : Hid (rIdx n ≤ 9223372036854775807) := Lib.hid (by have := rIdx_hi n; omega)
  have mT := markOf_set n true
  have mF := markOf_set n false
  have mB := set_back n h0 h1 true
  have S0 := Lib.hid (setMark_lo n true)
  have S1 := Lib.hid (setMark_hi n true)
  clear h0 h1 hr hs hk
  go_enter Try.func7, Try.ntmps7
  go_wp2_with fail
  refine (known_any _).mono ?_
  rintro e w1 ⟨rfl, k1⟩
  go_wp2_with fail
  refine (get_ref _ _ H0.out H1.out).mono ?_
  rintro e w2 ⟨rfl, k2⟩
  have kz := (k1.trans k2).size
  have k1 := k1.trans k2
  clear k2
  go_wp2_with fail
  refine (get_slot _ _ H0.out H1.out).mono ?_
  rintro e w3 ⟨rfl, k2⟩
  have p0 : w3.cell? ⟨w2.heap.size, 0, none⟩ = some (.int .i64 (gri n)) := k2.some (by simp)
  have p1 : w3.cell? ⟨w2.heap.size, 1, none⟩ = some (.int .i64 (grg n)) := k2.some (by simp)
  have p2 : w3.cell? ⟨w2.heap.size, 2, none⟩ = some (.bool (grm n)) := k2.some (by simp)
  have k1 := (k1.alloc _ _).trans k2
  clear k2
  go_wp2_with fail
  refine (get_key _ _ H0.out H1.out).mono ?_
  rintro e w4 ⟨rfl, k2⟩
  have p0 : w4.cell? ⟨w2.heap.size, 0, none⟩ = some (.int .i64 (gri n)) := k2.past p0
  have p1 : w4.cell? ⟨w2.heap.size, 1, none⟩ = some (.int .i64 (grg n)) := k2.past p1
  have p2 : w4.cell? ⟨w2.heap.size, 2, none⟩ = some (.bool (grm n)) := k2.past p2
  have q0 : w4.cell? ⟨w3.heap.size, 0, none⟩ = some (.int .i64 (gsl n)) := k2.some (by simp)
  have q1 : w4.cell? ⟨w3.heap.size, 1, none⟩ = some (.bool (gsf n)) := k2.some (by simp)
  have q2 : w4.cell? ⟨w3.heap.size, 2, none⟩ = some (.int .i64 (gsv n)) := k2.some (by simp)
  have k1 := (k1.alloc _ _).trans k2
  clear k2
  go_wp2_with fail
  refine (get_top _ _ H0.out H1.out).mono ?_
  rintro e w5 ⟨rfl, k2⟩
  have p0 : w5.cell? ⟨w2.heap.size, 0, none⟩ = some (.int .i64 (gri n)) := k2.past p0
  have p1 : w5.cell? ⟨w2.heap.size, 1, none⟩ = some (.int .i64 (grg n)) := k2.past p1
  have p2 : w5.cell? ⟨w2.heap.size, 2, none⟩ = some (.bool (grm n)) := k2.past p2
  have q0 : w5.cell? ⟨w3.heap.size, 0, none⟩ = some (.int .i64 (gsl n)) := k2.past q0
  have q1 : w5.cell? ⟨w3.heap.size, 1, none⟩ = some (.bool (gsf n)) := k2.past q1
  have q2 : w5.cell? ⟨w3.heap.size, 2, none⟩ = some (.int .i64 (gsv n)) := k2.past q2
  have r0 : w5.cell? ⟨w4.heap.size, 0, none⟩ = some (.int .i64 (gkp n)) := k2.some (by simp)
  have r1 : w5.cell? ⟨w4.heap.size, 1, none⟩ = some (.int .i64 (gks n)) := k2.some (by simp)
  have r2 : w5.cell? ⟨w4.heap.size, 2, none⟩ = some (.int .i64 (gkr n)) := k2.some (by simp)
  have k1 := (k1.alloc _ _).trans k2
  clear k2
  have lp := lt_of_cell p0
  have lq := lt_of_cell q0
  have lr := lt_of_cell r0
  go_wp2_with fail
  refine (top_yes _ _ _ _ _ J0.out J1.out XT.out).mono ?_
  rintro e w6 ⟨rfl, k2⟩
  have p0 : w6.cell? ⟨w2.heap.size, 0, none⟩ = some (.int .i64 (gri n)) := k2.past p0
  have p1 : w6.cell? ⟨w2.heap.size, 1, none⟩ = some (.int .i64 (grg n)) := k2.past p1
  have p2 : w6.cell? ⟨w2.heap.size, 2, none⟩ = some (.bool (grm n)) := k2.past p2
  have q0 : w6.cell? ⟨w3.heap.size, 0, none⟩ = some (.int .i64 (gsl n)) := k2.past q0
  have q1 : w6.cell? ⟨w3.heap.size, 1, none⟩ = some (.bool (gsf n)) := k2.past q1
  have q2 : w6.cell? ⟨w3.heap.size, 2, none⟩ = some (.int .i64 (gsv n)) := k2.past q2
  have r0 : w6.cell? ⟨w4.heap.size, 0, none⟩ = some (.int .i64 (gkp n)) := k2.past r0
  have r1 : w6.cell? ⟨w4.heap.size, 1, none⟩ = some (.int .i64 (gks n)) := k2.past r1
  have r2 : w6.cell? ⟨w4.heap.size, 2, none⟩ = some (.int .i64 (gkr n)) := k2.past r2
  have t0 : w6.cell? ⟨w5.heap.size, 0, none⟩ = some (.int .i64 (rIdx n)) := k2.some (by simp)
  have t1 : w6.cell? ⟨w5.heap.size, 1, none⟩ = some (.int .i64 (tTag n)) := k2.some (by simp)
  have k1 := (k1.alloc _ _).trans k2
  clear k2
  go_wp2_with fail
  go_wp2_with (first | (go_at_call_of 28 (setMark n true); refine (marks_any _ _ _ S0.out S1.out).mono ?_; rintro e w' ⟨rfl, rfl⟩) | (go_at_call 28; refine (marks_any _ _ _ H0.out H1.out).mono ?_; rintro e w' ⟨rfl, rfl⟩) | (go_at_call 26; refine (marked_any _ _).mono ?_; rintro e w' ⟨rfl, rfl⟩))
  go_ret
  exact ⟨rfl, k1⟩

theorem wordOne_any (n : Int) (w0 : (Lit.int .u64 n).wf = true) (w : World) : Calls Try.prog 7 #[.int .u64 n] w fun e w' => e = .returned (.bool true) ∧ Kept w w' := by
  have h0 : 0 ≤ n := (bounds_u64 w0).1
  have h1 : n < 18446744073709551616 := by have := (bounds_u64 w0).2; omega
  cases hr : goodRef n <;> cases hs : goodSlot n <;> cases hk : goodKey n
  · exact one_nnn n w h0 h1 hr hs hk
  · exact one_nny n w h0 h1 hr hs hk
  · exact one_nyn n w h0 h1 hr hs hk
  · exact one_nyy n w h0 h1 hr hs hk
  · exact one_ynn n w h0 h1 hr hs hk
  · exact one_yny n w h0 h1 hr hs hk
  · exact one_yyn n w h0 h1 hr hs hk
  · exact one_yyy n w h0 h1 hr hs hk
end Go.Proofs.Ytflggocnhinfeaa
