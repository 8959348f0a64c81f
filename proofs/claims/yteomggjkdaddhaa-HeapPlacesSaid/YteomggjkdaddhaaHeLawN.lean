/- HeapNext, HeapPlaces. -/
import Derived.Test.YteomggjkdaddhaaHeAwake2
namespace Go.Proofs.Yteomggjkdaddhaa
open Go.RowKit

theorem RetI.unf {w : World} {l : List It} {e : Ending} {w' : World} (h : RetI w l e w') : ∃ a c, e = .returned (.slice a l.length c) ∧ Kept w w' ∧ OwnI w' w.heap.size (.slice a l.length c) l := h
theorem over_n {w : World} {base n : Nat} {a : Option Addr} {c : Nat} {l : List It} (h : w.ownsRow base 45 2 (.slice a n c) n (flatI l)) (hn : n = l.length) (hl : n ≤ 1000000) :
    Calls Try.prog 16 #[.slice a n c] w fun e w' => e = .returned (.tuple #[]) ∧ But (fun k => (Value.slice a n c).ownBlock = some k) w w' := by
  subst hn; exact overItems_any h hl
theorem eq_ann (x : Ann) : ∀ W, (binOp .eql 28 (.agg #[.int .i64 x.e, .int .i64 x.n, .int .u64 x.v]) (.agg #[.int .i64 x.e, .int .i64 x.n, .int .u64 x.v])).run Try.prog W = .ok (.bool true) W := fun W => by
  have := ann_eql x x W
  simpa using this

set_option maxRecDepth 100000 in
set_option maxHeartbeats 8000000 in
theorem heapNext_any {w : World} {a : Option Addr} {n c : Nat} {cs ds : Array Value} (hh : ∃ l : List It, l.length = n ∧ Lay w (.slice a n c) n (flatI l)) (hc : ∃ o : Opn, cs = (opc o).toArray) (hd : ∃ x : Ann, ds = (anc x).toArray) :
    Calls Try.prog 3 #[.slice a n c, .agg cs, .agg ds] w fun e w' => e = .returned (.bool true) ∧ Kept w w' := by
  obtain ⟨l, hnl, hL⟩ := hh
  obtain ⟨o, rfl⟩ := hc
  obtain ⟨x, rfl⟩ := hd
  show Calls Try.prog 3 #[.slice a n c, .agg #[.int .i64 o.k, .int .i64 o.a, .int .i64 o.b, .int .u64 o.u], .agg #[.int .i64 x.e, .int .i64 x.n, .int .u64 x.v]] w fun e w' => e = .returned (.bool true) ∧ Kept w w'
  obtain ⟨W0, hW0⟩ : ∃ W0, ((w.alloc (.cells #[.int .i64 o.k, .int .i64 o.a, .int .i64 o.b, .int .u64 o.u] 25)).alloc (.cells #[.int .i64 x.e, .int .i64 x.n, .int .u64 x.v] 28)) = W0 := ⟨_, rfl⟩
  have OB := Lib.hid (show OpBox W0 w.heap.size o by rw [← hW0]; exact (OpBox.new w o _ _ rfl).kept ((Kept.refl _).alloc _ _))
  have AB := Lib.hid (show AnBox W0 (w.heap.size + 1) x by rw [← hW0]; exact AnBox.new _ x _ _ (by simp))
  have K0 := Lib.hid (show Kept w W0 by rw [← hW0]; exact ((Kept.refl w).alloc _ _).alloc _ _)
  have HW := Lib.hid hW0
  have HN := Lib.hid hnl.symm
  by_cases hl : 100 < n
  · clear hL hW0 hnl
    go_enter Try.func3, Try.ntmps3
    go_upto_region 1 with fail
    rw [HW.out]
    go_wp2_with fail; refine (awake_any _).mono ?_; rintro ed w1 ⟨rfl, k1⟩
    go_wp2
    go_ret
    exact ⟨rfl, K0.out.trans k1⟩
  · have HL := Lib.hid (hL.kept K0.out)
    have CI := Lib.hid (copy_n HL.out HN.out (by omega))
    have C1 := Lib.hid (fun W a' c' (L : Lay W (.slice a' n c') n (flatI l)) => (next_any o x L HN.out))
    have C2 := Lib.hid (fun W (k : Kept W0 W) => refNext_any o x (HL.out.kept k) HN.out)
    have C3 := Lib.hid (fun W a' c' (L : Lay W (.slice a' n c') n (flatI l)) => (answer_any o L HN.out).mono fun _ _ hh => hh.unf)
    have C4 := Lib.hid (fun W (k : Kept W0 W) => (refAnswer_any o (HL.out.kept k) HN.out).mono fun _ _ hh => hh.unf)
    have nx := next_getD l o x
    obtain ⟨p, hp⟩ : ∃ p, nextS l o x = p := ⟨_, rfl⟩
    rw [hp] at C1 C2 nx
    obtain ⟨t, ht⟩ : ∃ t, (tellS l o).getD noAnn = t := ⟨_, rfl⟩
    obtain ⟨s, hs⟩ : ∃ s, (tellS l o).isSome = s := ⟨_, rfl⟩
    rw [ht, hs] at C3 C4
    obtain ⟨m, hm⟩ : ∃ m, (p.getD []).length = m := ⟨_, rfl⟩
    obtain ⟨y, hy⟩ : ∃ y, p.isSome = y := ⟨_, rfl⟩
    unfold RetN OwnI at C1 C2
    rw [hm, hy] at C1 C2
    rw [hm] at nx
    have HM := Lib.hid hm.symm
    have TT := eq_ann t
    clear hL hW0 hnl hp ht hs hm hy
    go_enter Try.func3, Try.ntmps3
    go_upto_region 1 with fail
    rw [HW.out]
    go_wp2_with fail; refine CI.out.mono ?_; rintro ed w1 ⟨a1, c1, rfl, k1, own1⟩
    have K1 := Lib.hid k1
    have L1 := Lib.hid (own_lies own1).lay
    clear k1 own1
    obtain ⟨o0, o1, o2, o3⟩ := OB.out.kept K1.out
    obtain ⟨x0, x1, x2, _⟩ := AB.out.kept K1.out
    go_wp2_with fail; refine (C1.out _ _ _ L1.out).mono ?_; rintro ed w2 ⟨a2, c2, rfl, k2, own2⟩
    have K2 := Lib.hid k2
    have X2 := Lib.hid own2
    clear k2 own2 o0 o1 o2 o3 x0 x1 x2
    obtain ⟨o0, o1, o2, o3⟩ := OB.out.kept (K1.out.trans K2.out)
    obtain ⟨x0, x1, x2, _⟩ := AB.out.kept (K1.out.trans K2.out)
    go_wp2_with fail; refine (C2.out _ (K1.out.trans K2.out)).mono ?_; rintro ed w3 ⟨a3, c3, rfl, k3, own3⟩
    have K3 := Lib.hid (K2.out.trans k3)
    have X3 := Lib.hid (own_kept X2.out k3)
    have Y3 := Lib.hid (own_lies own3).lay
    clear k3 own3 o0 o1 o2 o3 x0 x1 x2
    obtain ⟨o0, o1, o2, o3⟩ := OB.out.kept (K1.out.trans K3.out)
    go_wp2_with fail; refine (C3.out _ _ _ (L1.out.kept K3.out)).mono ?_; rintro ed w4 ⟨rfl, k4⟩
    obtain ⟨W4, hW4⟩ : ∃ W4, w4.alloc (.cells #[.int .i64 t.e, .int .i64 t.n, .int .u64 t.v] 28) = W4 := ⟨_, rfl⟩
    have k4' : Kept w3 W4 := by rw [← hW4]; exact k4.alloc _ _
    obtain ⟨g4, hg4⟩ : ∃ g4, w4.heap.size = g4 := ⟨_, rfl⟩
    have A4 := Lib.hid (show AnBox W4 g4 t by rw [← hW4]; exact AnBox.new w4 t _ _ hg4.symm)
    have K4 := Lib.hid (K3.out.trans k4')
    have X4 := Lib.hid (own_kept X3.out k4')
    have Y4 := Lib.hid (Y3.out.kept k4')
    have HW4 := Lib.hid hW4
    have HG4 := Lib.hid hg4
    clear k4 k4' hW4 hg4 o0 o1 o2 o3
    go_upto_region 7 with fail
    rw [HW4.out, HG4.out]
    obtain ⟨o0, o1, o2, o3⟩ := OB.out.kept (K1.out.trans K4.out)
    go_wp2_with fail; refine (C4.out _ (K1.out.trans K4.out)).mono ?_; rintro ed w5 ⟨rfl, k5⟩
    obtain ⟨W5, hW5⟩ : ∃ W5, w5.alloc (.cells #[.int .i64 t.e, .int .i64 t.n, .int .u64 t.v] 28) = W5 := ⟨_, rfl⟩
    have k5' : Kept W4 W5 := by rw [← hW5]; exact k5.alloc _ _
    obtain ⟨g5, hg5⟩ : ∃ g5, w5.heap.size = g5 := ⟨_, rfl⟩
    have A5 := Lib.hid (A4.out.kept k5')
    have B5 := Lib.hid (show AnBox W5 g5 t by rw [← hW5]; exact AnBox.new w5 t _ _ hg5.symm)
    have K5 := Lib.hid (K4.out.trans k5')
    have X5 := Lib.hid (own_kept X4.out k5')
    have Y5 := Lib.hid (Y4.out.kept k5')
    have HW5 := Lib.hid hW5
    have HG5 := Lib.hid hg5
    clear k5 k5' hW5 hg5 o0 o1 o2 o3
    go_upto_region 8 with fail
    rw [HW5.out, HG5.out]
    go_wp2_with fail; refine (same_n (own_lies X5.out).lay Y5.out HM.out HM.out (by omega)).mono ?_; rintro ed w6 ⟨rfl, k6⟩
    have K6 := Lib.hid (K5.out.trans k6)
    have X6 := Lib.hid (own_kept X5.out k6)
    obtain ⟨p0, p1, p2, _⟩ := A5.out.kept k6
    obtain ⟨q0, q1, q2, _⟩ := B5.out.kept k6
    clear k6
    go_wp2_with fail; refine (over_n X6.out HM.out (by omega)).mono ?_; rintro ed w7 ⟨rfl, b7⟩
    have K7 := Lib.hid ((K6.out.wrote b7 (fun j e => (X2.out.lt j e).1)) : Kept w1 w7)
    clear b7 p0 p1 p2 q0 q1 q2
    go_wp2_with fail; refine (same_n (L1.out.kept K7.out) (HL.out.kept (K1.out.trans K7.out)) HN.out HN.out (by omega)).mono ?_; rintro ed w8 ⟨rfl, k8⟩
    have K8 := Lib.hid (K7.out.trans k8)
    clear k8
    go_wp2_with fail; refine (awake_any _).mono ?_; rintro ed w9 ⟨rfl, k9⟩
    go_wp2
    go_ret
    exact ⟨rfl, ((K0.out.trans K1.out).trans K8.out).trans k9⟩

set_option maxRecDepth 100000 in
set_option maxHeartbeats 8000000 in
theorem heapPlaces_any {w : World} {a : Option Addr} {n c : Nat} (m key : Int) (hh : ∃ l : List It, l.length = n ∧ Lay w (.slice a n c) n (flatI l)) :
    Calls Try.prog 4 #[.slice a n c, .int .i64 m, .int .u64 key] w fun e w' => e = .returned (.bool true) ∧ Kept w w' := by
  obtain ⟨l, hnl, hL⟩ := hh
  have HN := Lib.hid hnl.symm
  by_cases hl : 100 < n
  · clear hL hnl
    go_enter Try.func4, Try.ntmps4
    go_wp2_with fail; refine (awake_any _).mono ?_; rintro ed w1 ⟨rfl, k1⟩
    go_wp2
    go_ret
    exact ⟨rfl, k1⟩
  · have HL := Lib.hid hL
    have CI := Lib.hid (copy_n HL.out HN.out (by omega))
    obtain ⟨z, hz⟩ : ∃ z, chk l = z := ⟨_, rfl⟩
    have C1 := Lib.hid (fun W a' c' (L : Lay W (.slice a' n c') n (flatI l)) => (least_any m L HN.out (by omega)).mono fun _ _ hh => hh.unf)
    have C2 := Lib.hid (fun W a' c' (L : Lay W (.slice a' n c') n (flatI l)) => place_any key L HN.out)
    have C3 := Lib.hid (fun W (k : Kept w W) => refPlace_any key (HL.out.kept k) HN.out)
    have C4 := Lib.hid (fun W (k : Kept w W) => (refLeast_any m (HL.out.kept k) HN.out (by omega)).mono fun _ _ hh => hh.unf)
    have C5 := Lib.hid (fun W a' c' (L : Lay W (.slice a' n c') n (flatI l)) => chk_at L HN.out hz)
    have C6 := Lib.hid (fun W (k : Kept w W) => refChk_at (HL.out.kept k) HN.out hz)
    obtain ⟨P, hP⟩ : ∃ P, pl key l = P := ⟨_, rfl⟩
    obtain ⟨H, hH⟩ : ∃ H, hs key l = H := ⟨_, rfl⟩
    rw [hP, hH] at C2 C3
    obtain ⟨q, hq⟩ : ∃ q, least m l = q := ⟨_, rfl⟩
    have hql : q.length ≤ 100 := by rw [← hq]; unfold least; rw [List.length_take]; omega
    rw [hq] at C1 C4
    obtain ⟨r, hr⟩ : ∃ r, q.length = r := ⟨_, rfl⟩
    unfold OwnI at C1 C4
    rw [hr] at C1 C4 hql
    have HR := Lib.hid hr.symm
    clear hL hnl hz hP hH hq hr
    go_enter Try.func4, Try.ntmps4
    go_wp2_with fail; refine CI.out.mono ?_; rintro ed w1 ⟨a1, c1, rfl, k1, own1⟩
    have K1 := Lib.hid k1
    have L1 := Lib.hid (own_lies own1).lay
    clear k1 own1
    go_wp2_with fail; refine (C1.out _ _ _ L1.out).mono ?_; rintro ed w2 ⟨a2, c2, rfl, k2, own2⟩
    have K2 := Lib.hid k2
    have X2 := Lib.hid own2
    clear k2 own2
    go_wp2_with fail; refine (C2.out _ _ _ (L1.out.kept K2.out)).mono ?_; rintro ed w3 ⟨rfl, k3⟩
    have K3 := Lib.hid (K2.out.trans k3)
    have X3 := Lib.hid (own_kept X2.out k3)
    clear k3
    go_wp2_with fail; refine (C3.out _ (K1.out.trans K3.out)).mono ?_; rintro ed w4 ⟨rfl, k4⟩
    have K4 := Lib.hid (K3.out.trans k4)
    have X4 := Lib.hid (own_kept X3.out k4)
    clear k4
    go_wp2_with fail; refine (C4.out _ (K1.out.trans K4.out)).mono ?_; rintro ed w5 ⟨a5, c5, rfl, k5, own5⟩
    have K5 := Lib.hid (K4.out.trans k5)
    have X5 := Lib.hid (own_kept X4.out k5)
    have Y5 := Lib.hid (own_lies own5).lay
    clear k5 own5
    go_wp2_with fail; refine (same_n (own_lies X5.out).lay Y5.out HR.out HR.out (by omega)).mono ?_; rintro ed w6 ⟨rfl, k6⟩
    have K6 := Lib.hid (K5.out.trans k6)
    have X6 := Lib.hid (own_kept X5.out k6)
    clear k6
    go_wp2_with fail; refine (C5.out _ _ _ (L1.out.kept K6.out)).mono ?_; rintro ed w7 ⟨rfl, k7⟩
    have K7 := Lib.hid (K6.out.trans k7)
    have X7 := Lib.hid (own_kept X6.out k7)
    clear k7
    go_wp2_with fail; refine (C6.out _ (K1.out.trans K7.out)).mono ?_; rintro ed w8 ⟨rfl, k8⟩
    have K8 := Lib.hid (K7.out.trans k8)
    have X8 := Lib.hid (own_kept X7.out k8)
    clear k8
    go_wp2_with fail; refine (over_n X8.out HR.out (by omega)).mono ?_; rintro ed w9 ⟨rfl, b9⟩
    have K9 := Lib.hid ((K8.out.wrote b9 (fun j e => (X2.out.lt j e).1)) : Kept w1 w9)
    clear b9
    go_wp2_with fail; refine (same_n (L1.out.kept K9.out) (HL.out.kept (K1.out.trans K9.out)) HN.out HN.out (by omega)).mono ?_; rintro ed w10 ⟨rfl, k10⟩
    have K10 := Lib.hid (K9.out.trans k10)
    clear k10
    go_wp2_with fail; refine (awake_any _).mono ?_; rintro ed w11 ⟨rfl, k11⟩
    go_wp2
    go_ret
    exact ⟨rfl, (K1.out.trans K10.out).trans k11⟩
end Go.Proofs.Yteomggjkdaddhaa
