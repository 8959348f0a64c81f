/- The walks of the layer's statements. -/
import Derived.Test.YtflggocnhinfeaaGot
import Derived.OpenShut
namespace Go.Proofs.Ytflggocnhinfeaa
open Go.RowKit

set_option maxHeartbeats 2000000 in
set_option maxRecDepth 100000 in
theorem wordPuts_any (a0_0 a0_1 : Int) (a0_2 : Bool) (a1_0 a1_1 a2_0 : Int) (a2_1 : Bool) (a2_2 a3_0 a3_1 a3_2 : Int)
    (w0_0 : (Lit.int .i64 a0_0).wf = true) (_w0_1 : (Lit.int .i64 a0_1).wf = true) (w1_0 : (Lit.int .i64 a1_0).wf = true) (_w1_1 : (Lit.int .i64 a1_1).wf = true)
    (_w2_0 : (Lit.int .i64 a2_0).wf = true) (_w2_2 : (Lit.int .i64 a2_2).wf = true) (_w3_0 : (Lit.int .i64 a3_0).wf = true) (_w3_1 : (Lit.int .i64 a3_1).wf = true) (_w3_2 : (Lit.int .i64 a3_2).wf = true) (w : World) :
    Calls Try.prog 3 #[.agg #[.int .i64 a0_0, .int .i64 a0_1, .bool a0_2], .agg #[.int .i64 a1_0, .int .i64 a1_1], .agg #[.int .i64 a2_0, .bool a2_1, .int .i64 a2_2], .agg #[.int .i64 a3_0, .int .i64 a3_1, .int .i64 a3_2]] w
      fun e w' => e = .returned (.bool true) ∧ Kept w w' := by
  have B0 := Lib.hid (bounds_i64 w0_0)
  have B1 := Lib.hid (bounds_i64 w1_0)
  clear w0_0 _w0_1 w1_0 _w1_1 _w2_0 _w2_2 _w3_0 _w3_1 _w3_2
  go_enter Try.func3, Try.ntmps3
  go_wp2_with fail
  refine (put_ref _ _ _ _ B0.out.1 B0.out.2).mono ?_
  rintro e w1 ⟨rfl, k1⟩
  have hc := k1.cell
  go_wp2_with fail
  refine (refput_ref _ _ _ _).mono ?_
  rintro e w2 ⟨rfl, k2⟩
  clear hc
  have k := k1.trans k2
  clear k1 k2
  have hc := k.cell
  go_wp2_with fail
  refine (put_top _ _ _ B1.out.1 B1.out.2).mono ?_
  rintro e w3 ⟨rfl, k2⟩
  clear hc
  have k1 := k.trans k2
  clear k k2
  have hc := k1.cell
  go_wp2_with fail
  refine (refput_top _ _ _).mono ?_
  rintro e w4 ⟨rfl, k2⟩
  clear hc
  have k := k1.trans k2
  clear k1 k2
  have hc := k.cell
  go_wp2_with fail
  refine (put_slot _ _ _ _).mono ?_
  rintro e w5 ⟨rfl, k2⟩
  clear hc
  have k1 := k.trans k2
  clear k k2
  have hc := k1.cell
  go_wp2_with fail
  refine (refput_slot _ _ _ _).mono ?_
  rintro e w6 ⟨rfl, k2⟩
  clear hc
  have k := k1.trans k2
  clear k1 k2
  have hc := k.cell
  go_wp2_with fail
  refine (put_key _ _ _ _).mono ?_
  rintro e w7 ⟨rfl, k2⟩
  clear hc
  have k1 := k.trans k2
  clear k k2
  have hc := k1.cell
  go_wp2_with fail
  refine (refput_key _ _ _ _).mono ?_
  rintro e w8 ⟨rfl, k2⟩
  clear hc
  have k := k1.trans k2
  clear k1 k2
  go_wp2_with fail
  refine (awake_any _).mono ?_
  rintro e w9 ⟨rfl, k2⟩
  have k1 := k.trans k2
  clear k k2
  go_wp2
  go_ret
  exact ⟨rfl, ((((Kept.refl w).alloc _ _).alloc _ _).alloc _ _).alloc _ _ |>.trans k1⟩

set_option maxHeartbeats 4000000 in
set_option maxRecDepth 100000 in
theorem wordGets_any (a0 : Int) (a1 : Bool) (w0 : (Lit.int .u64 a0).wf = true) (w : World) :
    Calls Try.prog 4 #[.int .u64 a0, .bool a1] w
      fun e w' => e = .returned (.bool true) ∧ Kept w w' := by
  have H0 := Lib.hid (bounds_u64 w0).1
  have H1 : Hid (a0 < 18446744073709551616) := Lib.hid (by have := (bounds_u64 w0).2; omega)
  clear w0
  go_enter Try.func4, Try.ntmps4
  go_wp2_with fail
  refine (get_ref _ _ H0.out H1.out).mono ?_
  rintro e w1 ⟨rfl, k1⟩
  go_wp2_with fail
  refine (refget_ref _ _ H0.out H1.out).mono ?_
  rintro e w2 ⟨rfl, k2⟩
  go_wp2_with fail
  refine (get_top _ _ H0.out H1.out).mono ?_
  rintro e w3 ⟨rfl, k3⟩
  go_wp2_with fail
  refine (refget_top _ _ H0.out H1.out).mono ?_
  rintro e w4 ⟨rfl, k4⟩
  have p0 : w4.cell? ⟨w1.heap.size, 0, none⟩ = some (.int .i64 (gri a0)) := k4.past (k3.past (k2.some (by simp)))
  have p1 : w4.cell? ⟨w1.heap.size, 1, none⟩ = some (.int .i64 (grg a0)) := k4.past (k3.past (k2.some (by simp)))
  have p2 : w4.cell? ⟨w1.heap.size, 2, none⟩ = some (.bool (grm a0)) := k4.past (k3.past (k2.some (by simp)))
  have lp := lt_of_cell p0
  have q0 : w4.cell? ⟨w2.heap.size, 0, none⟩ = some (.int .i64 (gri a0)) := k4.past (k3.some (by simp))
  have q1 : w4.cell? ⟨w2.heap.size, 1, none⟩ = some (.int .i64 (grg a0)) := k4.past (k3.some (by simp))
  have q2 : w4.cell? ⟨w2.heap.size, 2, none⟩ = some (.bool (grm a0)) := k4.past (k3.some (by simp))
  have lq := lt_of_cell q0
  have r0 : w4.cell? ⟨w3.heap.size, 0, none⟩ = some (.int .i64 (rIdx a0)) := k4.some (by simp)
  have r1 : w4.cell? ⟨w3.heap.size, 1, none⟩ = some (.int .i64 (tTag a0)) := k4.some (by simp)
  have lr := lt_of_cell r0
  have K4 : Kept w w4 := (((k1.alloc _ _).trans k2).alloc _ _ |>.trans k3).alloc _ _ |>.trans k4
  clear k1 k2 k3 k4
  go_wp2_with fail
  clear p0 p1 p2 q0 q1 q2 r0 r1 lp lq lr
  refine (get_slot _ _ H0.out H1.out).mono ?_
  rintro e w5 ⟨rfl, k5⟩
  go_wp2_with fail
  refine (refget_slot _ _ H0.out H1.out).mono ?_
  rintro e w6 ⟨rfl, k6⟩
  go_wp2_with fail
  refine (get_key _ _ H0.out H1.out).mono ?_
  rintro e w7 ⟨rfl, k7⟩
  go_wp2_with fail
  refine (refget_key _ _ H0.out H1.out).mono ?_
  rintro e w8 ⟨rfl, k8⟩
  have p0 : w8.cell? ⟨w5.heap.size, 0, none⟩ = some (.int .i64 (gsl a0)) := k8.past (k7.past (k6.some (by simp)))
  have p1 : w8.cell? ⟨w5.heap.size, 1, none⟩ = some (.bool (gsf a0)) := k8.past (k7.past (k6.some (by simp)))
  have p2 : w8.cell? ⟨w5.heap.size, 2, none⟩ = some (.int .i64 (gsv a0)) := k8.past (k7.past (k6.some (by simp)))
  have lp := lt_of_cell p0
  have q0 : w8.cell? ⟨w6.heap.size, 0, none⟩ = some (.int .i64 (gsl a0)) := k8.past (k7.some (by simp))
  have q1 : w8.cell? ⟨w6.heap.size, 1, none⟩ = some (.bool (gsf a0)) := k8.past (k7.some (by simp))
  have q2 : w8.cell? ⟨w6.heap.size, 2, none⟩ = some (.int .i64 (gsv a0)) := k8.past (k7.some (by simp))
  have lq := lt_of_cell q0
  have r0 : w8.cell? ⟨w7.heap.size, 0, none⟩ = some (.int .i64 (gkp a0)) := k8.some (by simp)
  have r1 : w8.cell? ⟨w7.heap.size, 1, none⟩ = some (.int .i64 (gks a0)) := k8.some (by simp)
  have r2 : w8.cell? ⟨w7.heap.size, 2, none⟩ = some (.int .i64 (gkr a0)) := k8.some (by simp)
  have lr := lt_of_cell r0
  have K8 : Kept w w8 := ((((K4.alloc _ _).trans k5).alloc _ _ |>.trans k6).alloc _ _ |>.trans k7).alloc _ _ |>.trans k8
  clear K4 k5 k6 k7 k8
  go_wp2_with (first | (go_at_call 26; refine (marked_any _ _).mono ?_; rintro e w' ⟨rfl, rfl⟩) | (go_at_call 27; refine (refmarked_any _ _).mono ?_; rintro e w' ⟨rfl, rfl⟩) | (go_at_call 28; refine (marks_any _ _ _ H0.out H1.out).mono ?_; rintro e w' ⟨rfl, rfl⟩) | (go_at_call 29; refine (refmarks_any _ _ _ H0.out H1.out).mono ?_; rintro e w' ⟨rfl, rfl⟩) | (go_at_call 17; refine (awake_any _).mono ?_; rintro e w9 ⟨rfl, k9⟩))
  go_ret
  exact ⟨rfl, (K8.alloc _ _).trans k9⟩
end Go.Proofs.Ytflggocnhinfeaa
