/- FifoNext. -/
import Derived.Test.YtpmalbdnjpbijaaFiPlays
namespace Go.Proofs.Ytpmalbdnjpbijaa
open Go.RowKit

theorem nextI_le {room : Int} {q q' : List Int} {o : Opn} {x : Ann} (h : nextI room q o x = some q') : q'.length ≤ 1024 := by
  unfold nextI actI at h
  split at h
  · rename_i hz
    obtain ⟨r1, r2, r3⟩ := chk_zero hz
    cases ha : act room.toNat q o with
    | none => rw [ha] at h; cases h
    | some p =>
      rw [ha] at h
      have := act_room (q' := p.2) (a := p.1) (by omega) ha
      simp at h
      rw [← h.2]
      omega
  · cases h
theorem nextI_getD (room : Int) (q : List Int) (o : Opn) (x : Ann) : ((nextI room q o x).getD []).length ≤ 1024 := by
  cases h : nextI room q o x with
  | none => exact Nat.zero_le _
  | some q' => exact nextI_le h

set_option maxRecDepth 100000 in
set_option maxHeartbeats 8000000 in
theorem fifoNext_any {w : World} (room : Int) {a : Option Addr} {n c : Nat} {cs ds : Array Value} (hh : ∃ q : List Int, q.length = n ∧ Lay w (.slice a n c) n (words q)) (hc : ∃ o : Opn, cs = (opc o).toArray) (hd : ∃ x : Ann, ds = (anc x).toArray) :
    Calls Try.prog 3 #[.int .i64 room, .slice a n c, .agg cs, .agg ds] w fun e w' => e = .returned (.bool true) ∧ Kept w w' := by
  obtain ⟨q, rfl, hL⟩ := hh
  obtain ⟨o, rfl⟩ := hc
  obtain ⟨x, rfl⟩ := hd
  show Calls Try.prog 3 #[.int .i64 room, .slice a q.length c, .agg #[.int .i64 o.k, .int .i64 o.a, .int .i64 o.b, .int .u64 o.u], .agg #[.int .i64 x.e, .int .i64 x.n, .int .u64 x.v]] w fun e w' => e = .returned (.bool true) ∧ Kept w w'
  obtain ⟨W0, hW0⟩ : ∃ W0, ((w.alloc (.cells #[.int .i64 o.k, .int .i64 o.a, .int .i64 o.b, .int .u64 o.u] 25)).alloc (.cells #[.int .i64 x.e, .int .i64 x.n, .int .u64 x.v] 28)) = W0 := ⟨_, rfl⟩
  have OB := Lib.hid (show OpBox W0 w.heap.size o by rw [← hW0]; exact (OpBox.new w o _ _ rfl).kept ((Kept.refl _).alloc _ _))
  have AB := Lib.hid (show AnBox W0 (w.heap.size + 1) x by rw [← hW0]; exact AnBox.new _ x _ _ (by simp))
  have K0 := Lib.hid (show Kept w W0 by rw [← hW0]; exact ((Kept.refl w).alloc _ _).alloc _ _)
  have HW := Lib.hid hW0
  by_cases hl : 1100 < q.length
  · obtain ⟨n, hn⟩ : ∃ n, n = q.length := ⟨_, rfl⟩
    rw [← hn] at hl ⊢
    clear hL hn hW0
    go_enter Try.func3, Try.ntmps3
    go_upto_region 1 with fail
    rw [HW.out]
    go_wp2_with fail; refine (awake_any _).mono ?_; rintro ed w1 ⟨rfl, k1⟩
    go_wp2
    go_ret
    exact ⟨rfl, K0.out.trans k1⟩
  · have HL := Lib.hid (hL.kept K0.out)
    have q5 : q.length ≤ 5000 := by omega
    obtain ⟨y, hy⟩ : ∃ y, (actI room q o).isSome = y := ⟨_, rfl⟩
    obtain ⟨t, ht⟩ : ∃ t, tellI room q o = t := ⟨_, rfl⟩
    obtain ⟨z, hz⟩ : ∃ z, chkF room q.length = z := ⟨_, rfl⟩
    have nx1 := nextI_getD room q o x
    have nx2 := nextI_getD room q o t
    have C1 := Lib.hid (fun W a c (L : Lay W (.slice a q.length c) q.length (words q)) => answer_any room o L)
    have C2 := Lib.hid (fun W (k : Kept W0 W) => refAnswer_any room o (HL.out.kept k) q5)
    have C3 := Lib.hid (fun W a c (L : Lay W (.slice a q.length c) q.length (words q)) => next_any room o x L)
    have C4 := Lib.hid (fun W (k : Kept W0 W) => refNext_any room o x (HL.out.kept k) q5)
    have C5 := Lib.hid (fun W a c (L : Lay W (.slice a q.length c) q.length (words q)) => next_any room o t L)
    have C6 := Lib.hid (fun W (k : Kept W0 W) => refNext_any room o t (HL.out.kept k) q5)
    have C7 := Lib.hid (fun W a c => check_at (w := W) (a := a) (c := c) hz)
    have C8 := Lib.hid (fun W => refCheck_at (w := W) (a := a) (c := c) hz)
    obtain ⟨p, hp⟩ : ∃ p, nextI room q o x = p := ⟨_, rfl⟩
    obtain ⟨r, hr⟩ : ∃ r, nextI room q o t = r := ⟨_, rfl⟩
    rw [hy, ht] at C1 C2
    rw [hp] at C3 C4 nx1
    rw [hr] at C5 C6 nx2
    have TT : ∀ W, (binOp .eql 28 (.agg #[.int .i64 t.e, .int .i64 t.n, .int .u64 t.v]) (.agg #[.int .i64 t.e, .int .i64 t.n, .int .u64 t.v])).run Try.prog W = .ok (.bool true) W := fun W => by
      have := ann_eql t t W
      simpa using this
    clear hL hW0 hy ht hz hp hr
    have CW := Lib.hid (copyWords_any HL.out (by omega))
    obtain ⟨o0, o1, o2, o3⟩ := OB.out
    go_enter Try.func3, Try.ntmps3
    go_upto_region 1 with fail
    rw [HW.out]
    go_wp2_with fail; refine CW.out.mono ?_; rintro ed w1 ⟨a1, c1, rfl, k1, own1⟩
    have K1 := Lib.hid k1
    have L1 := Lib.hid (own_lies own1).lay
    clear k1 own1 o0 o1 o2 o3
    obtain ⟨o0, o1, o2, o3⟩ := OB.out.kept K1.out
    go_wp2_with fail; refine (C1.out _ _ _ L1.out).mono ?_; rintro ed w2 ⟨rfl, k2⟩
    obtain ⟨W2, hW2⟩ : ∃ W2, w2.alloc (.cells #[.int .i64 t.e, .int .i64 t.n, .int .u64 t.v] 28) = W2 := ⟨_, rfl⟩
    have K2 := Lib.hid (show Kept w1 W2 by rw [← hW2]; exact k2.alloc _ _)
    obtain ⟨g2, hg2⟩ : ∃ g2, w2.heap.size = g2 := ⟨_, rfl⟩
    have A2 := Lib.hid (show AnBox W2 g2 t by rw [← hW2]; exact AnBox.new w2 t _ _ hg2.symm)
    have HW2 := Lib.hid hW2
    have HG2 := Lib.hid hg2
    clear k2 hW2 hg2 o0 o1 o2 o3
    go_upto_region 5 with fail
    rw [HW2.out, HG2.out]
    obtain ⟨o0, o1, o2, o3⟩ := OB.out.kept (K1.out.trans K2.out)
    go_wp2_with fail; refine (C2.out _ (K1.out.trans K2.out)).mono ?_; rintro ed w3 ⟨rfl, k3⟩
    obtain ⟨W3, hW3⟩ : ∃ W3, w3.alloc (.cells #[.int .i64 t.e, .int .i64 t.n, .int .u64 t.v] 28) = W3 := ⟨_, rfl⟩
    have k3' : Kept W2 W3 := by rw [← hW3]; exact k3.alloc _ _
    have K3 := Lib.hid (K2.out.trans k3')
    have A3 := Lib.hid (A2.out.kept k3')
    obtain ⟨g3, hg3⟩ : ∃ g3, w3.heap.size = g3 := ⟨_, rfl⟩
    have B3 := Lib.hid (show AnBox W3 g3 t by rw [← hW3]; exact AnBox.new w3 t _ _ hg3.symm)
    have HW3 := Lib.hid hW3
    have HG3 := Lib.hid hg3
    clear k3 k3' hW3 hg3 o0 o1 o2 o3
    go_upto_region 6 with fail
    rw [HW3.out, HG3.out]
    obtain ⟨o0, o1, o2, o3⟩ := OB.out.kept (K1.out.trans K3.out)
    obtain ⟨x0, x1, x2, _⟩ := AB.out.kept (K1.out.trans K3.out)
    go_wp2_with fail; refine (C3.out _ _ _ (L1.out.kept K3.out)).mono ?_; rintro ed w4 ⟨a4, c4, rfl, k4, own4⟩
    have K4 := Lib.hid (K3.out.trans k4)
    have A4 := Lib.hid (A3.out.kept k4)
    have B4 := Lib.hid (B3.out.kept k4)
    have X4 := Lib.hid own4
    have S4 := Lib.hid (show w1.heap.size ≤ W3.heap.size from K3.out.size)
    clear k4 own4 o0 o1 o2 o3 x0 x1 x2
    obtain ⟨o0, o1, o2, o3⟩ := OB.out.kept (K1.out.trans K4.out)
    obtain ⟨x0, x1, x2, _⟩ := AB.out.kept (K1.out.trans K4.out)
    go_wp2_with fail; refine (C4.out _ (K1.out.trans K4.out)).mono ?_; rintro ed w5 ⟨a5, c5, rfl, k5, lay5⟩
    have K5 := Lib.hid (K4.out.trans k5)
    have A5 := Lib.hid (A4.out.kept k5)
    have B5 := Lib.hid (B4.out.kept k5)
    have X5 := Lib.hid (own_kept X4.out k5)
    have Y5 := Lib.hid lay5
    have S5 := Lib.hid k5.size
    clear k5 lay5 o0 o1 o2 o3 x0 x1 x2
    obtain ⟨o0, o1, o2, o3⟩ := OB.out.kept (K1.out.trans K5.out)
    obtain ⟨y0, y1, y2, _⟩ := B5.out
    go_wp2_with fail; refine (C5.out _ _ _ (L1.out.kept K5.out)).mono ?_; rintro ed w6 ⟨a6, c6, rfl, k6, own6⟩
    have K6 := Lib.hid (K5.out.trans k6)
    have A6 := Lib.hid (A5.out.kept k6)
    have B6 := Lib.hid (B5.out.kept k6)
    have X6 := Lib.hid (own_kept X5.out k6)
    have Y6 := Lib.hid (Y5.out.kept k6)
    have P6 := Lib.hid own6
    clear k6 own6 o0 o1 o2 o3 y0 y1 y2
    obtain ⟨o0, o1, o2, o3⟩ := OB.out.kept (K1.out.trans K6.out)
    obtain ⟨y0, y1, y2, _⟩ := B6.out
    go_wp2_with fail; refine (C6.out _ (K1.out.trans K6.out)).mono ?_; rintro ed w7 ⟨a7, c7, rfl, k7, lay7⟩
    have K7 := Lib.hid (K6.out.trans k7)
    have X7 := Lib.hid (own_kept X6.out k7)
    have Y7 := Lib.hid (Y6.out.kept k7)
    have P7 := Lib.hid (own_kept P6.out k7)
    have R7 := Lib.hid lay7
    have A7 := Lib.hid (A6.out.kept k7)
    have B7 := Lib.hid (B6.out.kept k7)
    clear k7 lay7 o0 o1 o2 o3 y0 y1 y2
    obtain ⟨y0, y1, y2, _⟩ := B7.out
    obtain ⟨x0, x1, x2, _⟩ := A7.out
    go_wp2_with fail; refine (sameWords_yes (own_lies X7.out).lay Y7.out (by omega)).mono ?_; rintro ed w8 ⟨rfl, k8⟩
    have K8 := Lib.hid (K7.out.trans k8)
    have X8 := Lib.hid (own_kept X7.out k8)
    have P8 := Lib.hid (own_kept P7.out k8)
    have R8 := Lib.hid (R7.out.kept k8)
    clear k8 y0 y1 y2 x0 x1 x2
    go_wp2_with fail; refine (sameWords_yes (own_lies P8.out).lay R8.out (by omega)).mono ?_; rintro ed w9 ⟨rfl, k9⟩
    have K9 := Lib.hid (K8.out.trans k9)
    have X9 := Lib.hid (own_kept X8.out k9)
    have P9 := Lib.hid (own_kept P8.out k9)
    clear k9
    go_wp2_with fail; refine (C7.out _ _ _).mono ?_; rintro ed v9 ⟨rfl, rfl⟩
    go_wp2_with fail; refine (C8.out _).mono ?_; rintro ed v9 ⟨rfl, rfl⟩
    go_wp2_with fail; refine (overWords_any X9.out (by omega)).mono ?_; rintro ed w10 ⟨rfl, b10⟩
    have K10 := Lib.hid ((K9.out.wrote b10 (fun j e => by have := (X9.out.lt j e).1; have := S4.out; omega)) : Kept w1 w10)
    have P10 := Lib.hid (own_but P9.out b10 (fun g hg e => by have := (P9.out.lt g hg).1; have := (X4.out.lt g e).2; have := S5.out; omega))
    clear b10
    go_wp2_with fail; refine (overWords_any P10.out (by omega)).mono ?_; rintro ed w11 ⟨rfl, b11⟩
    have K11 := Lib.hid ((K10.out.wrote b11 (fun j e => by have := (P10.out.lt j e).1; have := K5.out.size; omega)) : Kept w1 w11)
    clear b11
    go_wp2_with fail; refine (sameWords_yes (L1.out.kept K11.out) (HL.out.kept (K1.out.trans K11.out)) (by omega)).mono ?_; rintro ed w12 ⟨rfl, k12⟩
    have K12 := Lib.hid (K11.out.trans k12)
    clear k12
    go_wp2_with fail; refine (awake_any _).mono ?_; rintro ed w13 ⟨rfl, k13⟩
    go_wp2
    go_ret
    exact ⟨rfl, (K0.out.trans (K1.out.trans K12.out)).trans k13⟩
end Go.Proofs.Ytpmalbdnjpbijaa
