/- HeapGoes. -/
import Derived.Test.YteomggjkdaddhaaHeYes
namespace Go.Proofs.Yteomggjkdaddhaa
open Go.RowKit

set_option maxRecDepth 100000 in
set_option maxHeartbeats 8000000 in
theorem goes_bad {w : World} {a : Option Addr} {n c : Nat} {l : List It} {z : Int} (hL : Lay w (.slice a n c) n (flatI l)) (hn : n = l.length) (hz : chk l = z) (hb : 40 < n ∨ z ≠ 0) {o : Opn} {x : Ann} :
    Calls Try.prog 7 #[.slice a n c, .agg #[.int .i64 o.k, .int .i64 o.a, .int .i64 o.b, .int .u64 o.u], .agg #[.int .i64 x.e, .int .i64 x.n, .int .u64 x.v]] w fun e w' => e = .returned (.bool true) ∧ Kept w w' := by
  obtain ⟨W0, hW0⟩ : ∃ W0, ((w.alloc (.cells #[.int .i64 o.k, .int .i64 o.a, .int .i64 o.b, .int .u64 o.u] 25)).alloc (.cells #[.int .i64 x.e, .int .i64 x.n, .int .u64 x.v] 28)) = W0 := ⟨_, rfl⟩
  have K0 := Lib.hid (show Kept w W0 by rw [← hW0]; exact ((Kept.refl w).alloc _ _).alloc _ _)
  have HW := Lib.hid hW0
  have CK := Lib.hid (fun W (k : Kept w W) => chk_at (hL.kept k) hn hz)
  by_cases h40 : 40 < n
  · clear hL hn hz hb hW0
    go_enter Try.func7, Try.ntmps7
    go_upto_region 1 with fail
    rw [HW.out]
    go_wp2_with fail; refine (known_any _).mono ?_; rintro e w1 ⟨rfl, k1⟩
    go_wp2
    go_ret
    exact ⟨rfl, K0.out.trans k1⟩
  · have hb' : (z != 0) = true := by rcases hb with hb | hb; exact absurd hb h40; simpa using hb
    clear hL hn hz hb hW0
    go_enter Try.func7, Try.ntmps7
    go_upto_region 1 with fail
    rw [HW.out]
    go_wp2_with fail; refine (known_any _).mono ?_; rintro e w1 ⟨rfl, k1⟩
    have K1 := Lib.hid (K0.out.trans k1)
    clear k1
    go_wp2_with fail; refine (CK.out _ K1.out).mono ?_; rintro e w2 ⟨rfl, k2⟩
    go_wp2
    go_ret
    exact ⟨rfl, K1.out.trans k2⟩

set_option maxRecDepth 100000 in
set_option maxHeartbeats 16000000 in
theorem goes_refused7_no {w : World} {a : Option Addr} {n c : Nat} {l : List It} {oa ob ou : Int} (hL : Lay w (.slice a n c) n (flatI l)) (hn : n = l.length) (hl : n ≤ 40) (hz : chk l = 0) (ht : tellS l ⟨4, oa, ob, ou⟩ = none) (hp : nextS l ⟨4, oa, ob, ou⟩ ⟨7, 0, 0⟩ = some l) :
    Calls Try.prog 7 #[.slice a n c, .agg #[.int .i64 4, .int .i64 oa, .int .i64 ob, .int .u64 ou], .agg #[.int .i64 7, .int .i64 0, .int .u64 0]] w fun e w' => e = .returned (.bool true) ∧ Kept w w' := by
  obtain ⟨a', c', e, hnc, hcm⟩ := hL.form
  cases e
  obtain ⟨W0, hW0⟩ : ∃ W0, ((w.alloc (.cells #[.int .i64 4, .int .i64 oa, .int .i64 ob, .int .u64 ou] 25)).alloc (.cells #[.int .i64 7, .int .i64 0, .int .u64 0] 28)) = W0 := ⟨_, rfl⟩
  have OB := Lib.hid (show OpBox W0 w.heap.size ⟨4, oa, ob, ou⟩ by rw [← hW0]; exact (OpBox.new w ⟨4, oa, ob, ou⟩ _ _ rfl).kept ((Kept.refl _).alloc _ _))
  have AB := Lib.hid (show AnBox W0 (w.heap.size + 1) ⟨7, 0, 0⟩ by rw [← hW0]; exact AnBox.new _ ⟨7, 0, 0⟩ _ _ (by simp))
  have K0 := Lib.hid (show Kept w W0 by rw [← hW0]; exact ((Kept.refl w).alloc _ _).alloc _ _)
  have HW := Lib.hid hW0
  have HN := Lib.hid hn
  have HL := Lib.hid (hL.kept K0.out)
  have CK := Lib.hid (fun W (k : Kept W0 W) => chk_at (HL.out.kept k) hn hz)
  have AN := Lib.hid (fun W (k : Kept W0 W) => answer_no ⟨4, oa, ob, ou⟩ (HL.out.kept k) hn ht)
  have hm : (l).length = n := hn.symm
  have NX := Lib.hid (fun W (k : Kept W0 W) => next_yes (m := n) ⟨4, oa, ob, ou⟩ ⟨7, 0, 0⟩ (HL.out.kept k) hn hp hm)
  have CN := Lib.hid (fun W a' c' (L : Lay W (.slice a' n c') n (flatI (l))) => chk_at L hn hz)
  have E7 : ∀ W, _ := ann_at ⟨7, 0, 0⟩ ⟨7, 0, 0⟩ (b := true) (by decide)
  clear hL hn hz ht hp hW0 hm
  go_enter Try.func7, Try.ntmps7
  go_upto_region 1 with fail
  rw [HW.out]
  go_wp2_with fail; refine (known_any _).mono ?_; rintro e w1 ⟨rfl, k1⟩
  have K1 := Lib.hid k1
  clear k1
  go_wp2_with fail; refine (CK.out _ K1.out).mono ?_; rintro e w2 ⟨rfl, k2⟩
  have K2 := Lib.hid (K1.out.trans k2)
  clear k2
  obtain ⟨p0, p1, p2, p3⟩ := OB.out.kept K2.out
  go_wp2_with fail; refine (AN.out _ K2.out).mono ?_; rintro e w3 ⟨rfl, k3⟩
  obtain ⟨W3, hW3⟩ : ∃ W3, w3.alloc (.cells #[.int .i64 0, .int .i64 0, .int .u64 0] 28) = W3 := ⟨_, rfl⟩
  obtain ⟨B3, hB3⟩ : ∃ B3, w3.heap.size = B3 := ⟨_, rfl⟩
  have K3 := Lib.hid (show Kept W0 W3 by rw [← hW3]; exact (K2.out.trans k3).alloc _ _)
  have Y3 := Lib.hid (show AnBox W3 B3 ⟨0, 0, 0⟩ by rw [← hW3]; exact AnBox.new w3 ⟨0, 0, 0⟩ _ _ hB3.symm)
  have HW3 := Lib.hid hW3
  have HB3 := Lib.hid hB3
  clear k3 hW3 hB3 p0 p1 p2 p3
  go_upto_region 5 with fail
  rw [HW3.out, HB3.out]
  obtain ⟨p0, p1, p2, p3⟩ := OB.out.kept K3.out
  obtain ⟨x0, x1, x2, _⟩ := AB.out.kept K3.out
  go_wp2_with fail; refine (NX.out _ K3.out).mono ?_; rintro e w4 ⟨a4, c4, rfl, k4, own4⟩
  have K4 := Lib.hid (K3.out.trans k4)
  have X4 := Lib.hid (own_lies own4).lay
  have Y4 := Lib.hid (Y3.out.kept k4)
  clear k4 own4 p0 p1 p2 p3 x0 x1 x2
  obtain ⟨p0, p1, p2, p3⟩ := OB.out.kept K4.out
  obtain ⟨x0, x1, x2, _⟩ := AB.out.kept K4.out
  obtain ⟨y0, y1, y2, _⟩ := Y4.out
  go_wp2_with fail; refine (CN.out _ _ _ X4.out).mono ?_; rintro e w5 ⟨rfl, k5⟩
  have K5 := Lib.hid (K4.out.trans k5)
  have X5 := Lib.hid (X4.out.kept k5)
  clear k5 p0 p1 p2 p3 x0 x1 x2 y0 y1 y2
  obtain ⟨p0, p1, p2, p3⟩ := OB.out.kept K5.out
  obtain ⟨x0, x1, x2, _⟩ := AB.out.kept K5.out
  go_wp2_with fail; refine (same_n X5.out (HL.out.kept K5.out) HN.out HN.out (by omega)).mono ?_; rintro e w6 ⟨rfl, k6⟩
  go_wp2
  go_ret
  exact ⟨rfl, (K0.out.trans K5.out).trans k6⟩

set_option maxRecDepth 100000 in
set_option maxHeartbeats 16000000 in
theorem goes_refused7 {w : World} {a : Option Addr} {n c : Nat} {l : List It} {oa ob ou : Int} {y : Ann} (hL : Lay w (.slice a n c) n (flatI l)) (hn : n = l.length) (hl : n ≤ 40) (hz : chk l = 0) (ht : tellS l ⟨4, oa, ob, ou⟩ = some ⟨y.e, y.n, y.v⟩) (hp : nextS l ⟨4, oa, ob, ou⟩ ⟨7, 0, 0⟩ = some l) :
    Calls Try.prog 7 #[.slice a n c, .agg #[.int .i64 4, .int .i64 oa, .int .i64 ob, .int .u64 ou], .agg #[.int .i64 7, .int .i64 0, .int .u64 0]] w fun e w' => e = .returned (.bool true) ∧ Kept w w' := by
  obtain ⟨a', c', e, hnc, hcm⟩ := hL.form
  cases e
  obtain ⟨W0, hW0⟩ : ∃ W0, ((w.alloc (.cells #[.int .i64 4, .int .i64 oa, .int .i64 ob, .int .u64 ou] 25)).alloc (.cells #[.int .i64 7, .int .i64 0, .int .u64 0] 28)) = W0 := ⟨_, rfl⟩
  have OB := Lib.hid (show OpBox W0 w.heap.size ⟨4, oa, ob, ou⟩ by rw [← hW0]; exact (OpBox.new w ⟨4, oa, ob, ou⟩ _ _ rfl).kept ((Kept.refl _).alloc _ _))
  have AB := Lib.hid (show AnBox W0 (w.heap.size + 1) ⟨7, 0, 0⟩ by rw [← hW0]; exact AnBox.new _ ⟨7, 0, 0⟩ _ _ (by simp))
  have K0 := Lib.hid (show Kept w W0 by rw [← hW0]; exact ((Kept.refl w).alloc _ _).alloc _ _)
  have HW := Lib.hid hW0
  have HN := Lib.hid hn
  have HL := Lib.hid (hL.kept K0.out)
  have CK := Lib.hid (fun W (k : Kept W0 W) => chk_at (HL.out.kept k) hn hz)
  have AN := Lib.hid (fun W (k : Kept W0 W) => answer_p ⟨4, oa, ob, ou⟩ (HL.out.kept k) hn ht)
  have hm : (l).length = n := hn.symm
  have NX := Lib.hid (fun W (k : Kept W0 W) => next_yes (m := n) ⟨4, oa, ob, ou⟩ ⟨7, 0, 0⟩ (HL.out.kept k) hn hp hm)
  have CN := Lib.hid (fun W a' c' (L : Lay W (.slice a' n c') n (flatI (l))) => chk_at L hn hz)
  have E7 : ∀ W, _ := ann_at ⟨7, 0, 0⟩ ⟨7, 0, 0⟩ (b := true) (by decide)
  clear hL hn hz ht hp hW0 hm
  go_enter Try.func7, Try.ntmps7
  go_upto_region 1 with fail
  rw [HW.out]
  go_wp2_with fail; refine (known_any _).mono ?_; rintro e w1 ⟨rfl, k1⟩
  have K1 := Lib.hid k1
  clear k1
  go_wp2_with fail; refine (CK.out _ K1.out).mono ?_; rintro e w2 ⟨rfl, k2⟩
  have K2 := Lib.hid (K1.out.trans k2)
  clear k2
  obtain ⟨p0, p1, p2, p3⟩ := OB.out.kept K2.out
  go_wp2_with fail; refine (AN.out _ K2.out).mono ?_; rintro e w3 ⟨rfl, k3⟩
  obtain ⟨W3, hW3⟩ : ∃ W3, w3.alloc (.cells #[.int .i64 y.e, .int .i64 y.n, .int .u64 y.v] 28) = W3 := ⟨_, rfl⟩
  obtain ⟨B3, hB3⟩ : ∃ B3, w3.heap.size = B3 := ⟨_, rfl⟩
  have K3 := Lib.hid (show Kept W0 W3 by rw [← hW3]; exact (K2.out.trans k3).alloc _ _)
  have Y3 := Lib.hid (show AnBox W3 B3 ⟨y.e, y.n, y.v⟩ by rw [← hW3]; exact AnBox.new w3 ⟨y.e, y.n, y.v⟩ _ _ hB3.symm)
  have HW3 := Lib.hid hW3
  have HB3 := Lib.hid hB3
  clear k3 hW3 hB3 p0 p1 p2 p3
  go_upto_region 5 with fail
  rw [HW3.out, HB3.out]
  obtain ⟨p0, p1, p2, p3⟩ := OB.out.kept K3.out
  obtain ⟨x0, x1, x2, _⟩ := AB.out.kept K3.out
  go_wp2_with fail; refine (NX.out _ K3.out).mono ?_; rintro e w4 ⟨a4, c4, rfl, k4, own4⟩
  have K4 := Lib.hid (K3.out.trans k4)
  have X4 := Lib.hid (own_lies own4).lay
  have Y4 := Lib.hid (Y3.out.kept k4)
  clear k4 own4 p0 p1 p2 p3 x0 x1 x2
  obtain ⟨p0, p1, p2, p3⟩ := OB.out.kept K4.out
  obtain ⟨x0, x1, x2, _⟩ := AB.out.kept K4.out
  obtain ⟨y0, y1, y2, _⟩ := Y4.out
  go_wp2_with fail; refine (CN.out _ _ _ X4.out).mono ?_; rintro e w5 ⟨rfl, k5⟩
  have K5 := Lib.hid (K4.out.trans k5)
  have X5 := Lib.hid (X4.out.kept k5)
  clear k5 p0 p1 p2 p3 x0 x1 x2 y0 y1 y2
  obtain ⟨p0, p1, p2, p3⟩ := OB.out.kept K5.out
  obtain ⟨x0, x1, x2, _⟩ := AB.out.kept K5.out
  go_wp2_with fail; refine (same_n X5.out (HL.out.kept K5.out) HN.out HN.out (by omega)).mono ?_; rintro e w6 ⟨rfl, k6⟩
  go_wp2
  go_ret
  exact ⟨rfl, (K0.out.trans K5.out).trans k6⟩

set_option maxRecDepth 100000 in
set_option maxHeartbeats 16000000 in
theorem goes_refused12_no {w : World} {a : Option Addr} {n c : Nat} {l : List It} {oa ob ou : Int} (hL : Lay w (.slice a n c) n (flatI l)) (hn : n = l.length) (hl : n ≤ 40) (hz : chk l = 0) (ht : tellS l ⟨4, oa, ob, ou⟩ = none) (hp : nextS l ⟨4, oa, ob, ou⟩ ⟨12, 0, 0⟩ = some l) :
    Calls Try.prog 7 #[.slice a n c, .agg #[.int .i64 4, .int .i64 oa, .int .i64 ob, .int .u64 ou], .agg #[.int .i64 12, .int .i64 0, .int .u64 0]] w fun e w' => e = .returned (.bool true) ∧ Kept w w' := by
  obtain ⟨a', c', e, hnc, hcm⟩ := hL.form
  cases e
  obtain ⟨W0, hW0⟩ : ∃ W0, ((w.alloc (.cells #[.int .i64 4, .int .i64 oa, .int .i64 ob, .int .u64 ou] 25)).alloc (.cells #[.int .i64 12, .int .i64 0, .int .u64 0] 28)) = W0 := ⟨_, rfl⟩
  have OB := Lib.hid (show OpBox W0 w.heap.size ⟨4, oa, ob, ou⟩ by rw [← hW0]; exact (OpBox.new w ⟨4, oa, ob, ou⟩ _ _ rfl).kept ((Kept.refl _).alloc _ _))
  have AB := Lib.hid (show AnBox W0 (w.heap.size + 1) ⟨12, 0, 0⟩ by rw [← hW0]; exact AnBox.new _ ⟨12, 0, 0⟩ _ _ (by simp))
  have K0 := Lib.hid (show Kept w W0 by rw [← hW0]; exact ((Kept.refl w).alloc _ _).alloc _ _)
  have HW := Lib.hid hW0
  have HN := Lib.hid hn
  have HL := Lib.hid (hL.kept K0.out)
  have CK := Lib.hid (fun W (k : Kept W0 W) => chk_at (HL.out.kept k) hn hz)
  have AN := Lib.hid (fun W (k : Kept W0 W) => answer_no ⟨4, oa, ob, ou⟩ (HL.out.kept k) hn ht)
  have hm : (l).length = n := hn.symm
  have NX := Lib.hid (fun W (k : Kept W0 W) => next_yes (m := n) ⟨4, oa, ob, ou⟩ ⟨12, 0, 0⟩ (HL.out.kept k) hn hp hm)
  have CN := Lib.hid (fun W a' c' (L : Lay W (.slice a' n c') n (flatI (l))) => chk_at L hn hz)
  have E7 : ∀ W, _ := ann_at ⟨12, 0, 0⟩ ⟨7, 0, 0⟩ (b := false) (by decide)
  have E12 : ∀ W, _ := ann_at ⟨12, 0, 0⟩ ⟨12, 0, 0⟩ (b := true) (by decide)
  clear hL hn hz ht hp hW0 hm
  go_enter Try.func7, Try.ntmps7
  go_upto_region 1 with fail
  rw [HW.out]
  go_wp2_with fail; refine (known_any _).mono ?_; rintro e w1 ⟨rfl, k1⟩
  have K1 := Lib.hid k1
  clear k1
  go_wp2_with fail; refine (CK.out _ K1.out).mono ?_; rintro e w2 ⟨rfl, k2⟩
  have K2 := Lib.hid (K1.out.trans k2)
  clear k2
  obtain ⟨p0, p1, p2, p3⟩ := OB.out.kept K2.out
  go_wp2_with fail; refine (AN.out _ K2.out).mono ?_; rintro e w3 ⟨rfl, k3⟩
  obtain ⟨W3, hW3⟩ : ∃ W3, w3.alloc (.cells #[.int .i64 0, .int .i64 0, .int .u64 0] 28) = W3 := ⟨_, rfl⟩
  obtain ⟨B3, hB3⟩ : ∃ B3, w3.heap.size = B3 := ⟨_, rfl⟩
  have K3 := Lib.hid (show Kept W0 W3 by rw [← hW3]; exact (K2.out.trans k3).alloc _ _)
  have Y3 := Lib.hid (show AnBox W3 B3 ⟨0, 0, 0⟩ by rw [← hW3]; exact AnBox.new w3 ⟨0, 0, 0⟩ _ _ hB3.symm)
  have HW3 := Lib.hid hW3
  have HB3 := Lib.hid hB3
  clear k3 hW3 hB3 p0 p1 p2 p3
  go_upto_region 5 with fail
  rw [HW3.out, HB3.out]
  obtain ⟨p0, p1, p2, p3⟩ := OB.out.kept K3.out
  obtain ⟨x0, x1, x2, _⟩ := AB.out.kept K3.out
  go_wp2_with fail; refine (NX.out _ K3.out).mono ?_; rintro e w4 ⟨a4, c4, rfl, k4, own4⟩
  have K4 := Lib.hid (K3.out.trans k4)
  have X4 := Lib.hid (own_lies own4).lay
  have Y4 := Lib.hid (Y3.out.kept k4)
  clear k4 own4 p0 p1 p2 p3 x0 x1 x2
  obtain ⟨p0, p1, p2, p3⟩ := OB.out.kept K4.out
  obtain ⟨x0, x1, x2, _⟩ := AB.out.kept K4.out
  obtain ⟨y0, y1, y2, _⟩ := Y4.out
  go_wp2_with fail; refine (CN.out _ _ _ X4.out).mono ?_; rintro e w5 ⟨rfl, k5⟩
  have K5 := Lib.hid (K4.out.trans k5)
  have X5 := Lib.hid (X4.out.kept k5)
  clear k5 p0 p1 p2 p3 x0 x1 x2 y0 y1 y2
  obtain ⟨p0, p1, p2, p3⟩ := OB.out.kept K5.out
  obtain ⟨x0, x1, x2, _⟩ := AB.out.kept K5.out
  go_wp2_with fail; refine (same_n X5.out (HL.out.kept K5.out) HN.out HN.out (by omega)).mono ?_; rintro e w6 ⟨rfl, k6⟩
  go_wp2
  go_ret
  exact ⟨rfl, (K0.out.trans K5.out).trans k6⟩

set_option maxRecDepth 100000 in
set_option maxHeartbeats 16000000 in
theorem goes_refused12 {w : World} {a : Option Addr} {n c : Nat} {l : List It} {oa ob ou : Int} {y : Ann} (hL : Lay w (.slice a n c) n (flatI l)) (hn : n = l.length) (hl : n ≤ 40) (hz : chk l = 0) (ht : tellS l ⟨4, oa, ob, ou⟩ = some ⟨y.e, y.n, y.v⟩) (hp : nextS l ⟨4, oa, ob, ou⟩ ⟨12, 0, 0⟩ = some l) :
    Calls Try.prog 7 #[.slice a n c, .agg #[.int .i64 4, .int .i64 oa, .int .i64 ob, .int .u64 ou], .agg #[.int .i64 12, .int .i64 0, .int .u64 0]] w fun e w' => e = .returned (.bool true) ∧ Kept w w' := by
  obtain ⟨a', c', e, hnc, hcm⟩ := hL.form
  cases e
  obtain ⟨W0, hW0⟩ : ∃ W0, ((w.alloc (.cells #[.int .i64 4, .int .i64 oa, .int .i64 ob, .int .u64 ou] 25)).alloc (.cells #[.int .i64 12, .int .i64 0, .int .u64 0] 28)) = W0 := ⟨_, rfl⟩
  have OB := Lib.hid (show OpBox W0 w.heap.size ⟨4, oa, ob, ou⟩ by rw [← hW0]; exact (OpBox.new w ⟨4, oa, ob, ou⟩ _ _ rfl).kept ((Kept.refl _).alloc _ _))
  have AB := Lib.hid (show AnBox W0 (w.heap.size + 1) ⟨12, 0, 0⟩ by rw [← hW0]; exact AnBox.new _ ⟨12, 0, 0⟩ _ _ (by simp))
  have K0 := Lib.hid (show Kept w W0 by rw [← hW0]; exact ((Kept.refl w).alloc _ _).alloc _ _)
  have HW := Lib.hid hW0
  have HN := Lib.hid hn
  have HL := Lib.hid (hL.kept K0.out)
  have CK := Lib.hid (fun W (k : Kept W0 W) => chk_at (HL.out.kept k) hn hz)
  have AN := Lib.hid (fun W (k : Kept W0 W) => answer_p ⟨4, oa, ob, ou⟩ (HL.out.kept k) hn ht)
  have hm : (l).length = n := hn.symm
  have NX := Lib.hid (fun W (k : Kept W0 W) => next_yes (m := n) ⟨4, oa, ob, ou⟩ ⟨12, 0, 0⟩ (HL.out.kept k) hn hp hm)
  have CN := Lib.hid (fun W a' c' (L : Lay W (.slice a' n c') n (flatI (l))) => chk_at L hn hz)
  have E7 : ∀ W, _ := ann_at ⟨12, 0, 0⟩ ⟨7, 0, 0⟩ (b := false) (by decide)
  have E12 : ∀ W, _ := ann_at ⟨12, 0, 0⟩ ⟨12, 0, 0⟩ (b := true) (by decide)
  clear hL hn hz ht hp hW0 hm
  go_enter Try.func7, Try.ntmps7
  go_upto_region 1 with fail
  rw [HW.out]
  go_wp2_with fail; refine (known_any _).mono ?_; rintro e w1 ⟨rfl, k1⟩
  have K1 := Lib.hid k1
  clear k1
  go_wp2_with fail; refine (CK.out _ K1.out).mono ?_; rintro e w2 ⟨rfl, k2⟩
  have K2 := Lib.hid (K1.out.trans k2)
  clear k2
  obtain ⟨p0, p1, p2, p3⟩ := OB.out.kept K2.out
  go_wp2_with fail; refine (AN.out _ K2.out).mono ?_; rintro e w3 ⟨rfl, k3⟩
  obtain ⟨W3, hW3⟩ : ∃ W3, w3.alloc (.cells #[.int .i64 y.e, .int .i64 y.n, .int .u64 y.v] 28) = W3 := ⟨_, rfl⟩
  obtain ⟨B3, hB3⟩ : ∃ B3, w3.heap.size = B3 := ⟨_, rfl⟩
  have K3 := Lib.hid (show Kept W0 W3 by rw [← hW3]; exact (K2.out.trans k3).alloc _ _)
  have Y3 := Lib.hid (show AnBox W3 B3 ⟨y.e, y.n, y.v⟩ by rw [← hW3]; exact AnBox.new w3 ⟨y.e, y.n, y.v⟩ _ _ hB3.symm)
  have HW3 := Lib.hid hW3
  have HB3 := Lib.hid hB3
  clear k3 hW3 hB3 p0 p1 p2 p3
  go_upto_region 5 with fail
  rw [HW3.out, HB3.out]
  obtain ⟨p0, p1, p2, p3⟩ := OB.out.kept K3.out
  obtain ⟨x0, x1, x2, _⟩ := AB.out.kept K3.out
  go_wp2_with fail; refine (NX.out _ K3.out).mono ?_; rintro e w4 ⟨a4, c4, rfl, k4, own4⟩
  have K4 := Lib.hid (K3.out.trans k4)
  have X4 := Lib.hid (own_lies own4).lay
  have Y4 := Lib.hid (Y3.out.kept k4)
  clear k4 own4 p0 p1 p2 p3 x0 x1 x2
  obtain ⟨p0, p1, p2, p3⟩ := OB.out.kept K4.out
  obtain ⟨x0, x1, x2, _⟩ := AB.out.kept K4.out
  obtain ⟨y0, y1, y2, _⟩ := Y4.out
  go_wp2_with fail; refine (CN.out _ _ _ X4.out).mono ?_; rintro e w5 ⟨rfl, k5⟩
  have K5 := Lib.hid (K4.out.trans k5)
  have X5 := Lib.hid (X4.out.kept k5)
  clear k5 p0 p1 p2 p3 x0 x1 x2 y0 y1 y2
  obtain ⟨p0, p1, p2, p3⟩ := OB.out.kept K5.out
  obtain ⟨x0, x1, x2, _⟩ := AB.out.kept K5.out
  go_wp2_with fail; refine (same_n X5.out (HL.out.kept K5.out) HN.out HN.out (by omega)).mono ?_; rintro e w6 ⟨rfl, k6⟩
  go_wp2
  go_ret
  exact ⟨rfl, (K0.out.trans K5.out).trans k6⟩

set_option maxRecDepth 100000 in
set_option maxHeartbeats 16000000 in
theorem goes_no4 {w : World} {a : Option Addr} {n c : Nat} {l : List It} {oa ob ou xe xn xv : Int} (hL : Lay w (.slice a n c) n (flatI l)) (hn : n = l.length) (hl : n ≤ 40) (hz : chk l = 0) (ht : tellS l ⟨4, oa, ob, ou⟩ = none) (hp : nextS l ⟨4, oa, ob, ou⟩ ⟨xe, xn, xv⟩ = none) (h7 : decide ((⟨xe, xn, xv⟩ : Ann) = ⟨7, 0, 0⟩) = false) (h12 : decide ((⟨xe, xn, xv⟩ : Ann) = ⟨12, 0, 0⟩) = false) :
    Calls Try.prog 7 #[.slice a n c, .agg #[.int .i64 4, .int .i64 oa, .int .i64 ob, .int .u64 ou], .agg #[.int .i64 xe, .int .i64 xn, .int .u64 xv]] w fun e w' => e = .returned (.bool true) ∧ Kept w w' := by
  obtain ⟨a', c', e, hnc, hcm⟩ := hL.form
  cases e
  obtain ⟨W0, hW0⟩ : ∃ W0, ((w.alloc (.cells #[.int .i64 4, .int .i64 oa, .int .i64 ob, .int .u64 ou] 25)).alloc (.cells #[.int .i64 xe, .int .i64 xn, .int .u64 xv] 28)) = W0 := ⟨_, rfl⟩
  have OB := Lib.hid (show OpBox W0 w.heap.size ⟨4, oa, ob, ou⟩ by rw [← hW0]; exact (OpBox.new w ⟨4, oa, ob, ou⟩ _ _ rfl).kept ((Kept.refl _).alloc _ _))
  have AB := Lib.hid (show AnBox W0 (w.heap.size + 1) ⟨xe, xn, xv⟩ by rw [← hW0]; exact AnBox.new _ ⟨xe, xn, xv⟩ _ _ (by simp))
  have K0 := Lib.hid (show Kept w W0 by rw [← hW0]; exact ((Kept.refl w).alloc _ _).alloc _ _)
  have HW := Lib.hid hW0
  have HN := Lib.hid hn
  have HL := Lib.hid (hL.kept K0.out)
  have CK := Lib.hid (fun W (k : Kept W0 W) => chk_at (HL.out.kept k) hn hz)
  have AN := Lib.hid (fun W (k : Kept W0 W) => answer_no ⟨4, oa, ob, ou⟩ (HL.out.kept k) hn ht)
  have NX := Lib.hid (fun W (k : Kept W0 W) => next_not ⟨4, oa, ob, ou⟩ ⟨xe, xn, xv⟩ (HL.out.kept k) hn hp)
  have E7 : ∀ W, _ := ann_at ⟨xe, xn, xv⟩ ⟨7, 0, 0⟩ (b := false) h7
  have E12 : ∀ W, _ := ann_at ⟨xe, xn, xv⟩ ⟨12, 0, 0⟩ (b := false) h12
  clear h7 h12
  clear hL hn hz ht hp hW0
  go_enter Try.func7, Try.ntmps7
  go_upto_region 1 with fail
  rw [HW.out]
  go_wp2_with fail; refine (known_any _).mono ?_; rintro e w1 ⟨rfl, k1⟩
  have K1 := Lib.hid k1
  clear k1
  go_wp2_with fail; refine (CK.out _ K1.out).mono ?_; rintro e w2 ⟨rfl, k2⟩
  have K2 := Lib.hid (K1.out.trans k2)
  clear k2
  obtain ⟨p0, p1, p2, p3⟩ := OB.out.kept K2.out
  go_wp2_with fail; refine (AN.out _ K2.out).mono ?_; rintro e w3 ⟨rfl, k3⟩
  obtain ⟨W3, hW3⟩ : ∃ W3, w3.alloc (.cells #[.int .i64 0, .int .i64 0, .int .u64 0] 28) = W3 := ⟨_, rfl⟩
  obtain ⟨B3, hB3⟩ : ∃ B3, w3.heap.size = B3 := ⟨_, rfl⟩
  have K3 := Lib.hid (show Kept W0 W3 by rw [← hW3]; exact (K2.out.trans k3).alloc _ _)
  have Y3 := Lib.hid (show AnBox W3 B3 ⟨0, 0, 0⟩ by rw [← hW3]; exact AnBox.new w3 ⟨0, 0, 0⟩ _ _ hB3.symm)
  have HW3 := Lib.hid hW3
  have HB3 := Lib.hid hB3
  clear k3 hW3 hB3 p0 p1 p2 p3
  go_upto_region 5 with fail
  rw [HW3.out, HB3.out]
  obtain ⟨p0, p1, p2, p3⟩ := OB.out.kept K3.out
  obtain ⟨x0, x1, x2, _⟩ := AB.out.kept K3.out
  go_wp2_with fail; refine (NX.out _ K3.out).mono ?_; rintro e w4 ⟨a4, c4, rfl, k4⟩
  have K4 := Lib.hid (K3.out.trans k4)
  have Y4 := Lib.hid (Y3.out.kept k4)
  clear k4 p0 p1 p2 p3 x0 x1 x2
  obtain ⟨p0, p1, p2, p3⟩ := OB.out.kept K4.out
  obtain ⟨x0, x1, x2, _⟩ := AB.out.kept K4.out
  obtain ⟨y0, y1, y2, _⟩ := Y4.out
  go_wp2
  go_ret
  exact ⟨rfl, K0.out.trans K4.out⟩

set_option maxRecDepth 100000 in
set_option maxHeartbeats 16000000 in
theorem goes_other4 {w : World} {a : Option Addr} {n c : Nat} {l : List It} {oa ob ou xe xn xv : Int} {y : Ann} (hL : Lay w (.slice a n c) n (flatI l)) (hn : n = l.length) (hl : n ≤ 40) (hz : chk l = 0) (ht : tellS l ⟨4, oa, ob, ou⟩ = some ⟨y.e, y.n, y.v⟩) (hp : nextS l ⟨4, oa, ob, ou⟩ ⟨xe, xn, xv⟩ = none) (h7 : decide ((⟨xe, xn, xv⟩ : Ann) = ⟨7, 0, 0⟩) = false) (h12 : decide ((⟨xe, xn, xv⟩ : Ann) = ⟨12, 0, 0⟩) = false) (hy : decide ((⟨xe, xn, xv⟩ : Ann) = y) = false) :
    Calls Try.prog 7 #[.slice a n c, .agg #[.int .i64 4, .int .i64 oa, .int .i64 ob, .int .u64 ou], .agg #[.int .i64 xe, .int .i64 xn, .int .u64 xv]] w fun e w' => e = .returned (.bool true) ∧ Kept w w' := by
  obtain ⟨a', c', e, hnc, hcm⟩ := hL.form
  cases e
  obtain ⟨W0, hW0⟩ : ∃ W0, ((w.alloc (.cells #[.int .i64 4, .int .i64 oa, .int .i64 ob, .int .u64 ou] 25)).alloc (.cells #[.int .i64 xe, .int .i64 xn, .int .u64 xv] 28)) = W0 := ⟨_, rfl⟩
  have OB := Lib.hid (show OpBox W0 w.heap.size ⟨4, oa, ob, ou⟩ by rw [← hW0]; exact (OpBox.new w ⟨4, oa, ob, ou⟩ _ _ rfl).kept ((Kept.refl _).alloc _ _))
  have AB := Lib.hid (show AnBox W0 (w.heap.size + 1) ⟨xe, xn, xv⟩ by rw [← hW0]; exact AnBox.new _ ⟨xe, xn, xv⟩ _ _ (by simp))
  have K0 := Lib.hid (show Kept w W0 by rw [← hW0]; exact ((Kept.refl w).alloc _ _).alloc _ _)
  have HW := Lib.hid hW0
  have HN := Lib.hid hn
  have HL := Lib.hid (hL.kept K0.out)
  have CK := Lib.hid (fun W (k : Kept W0 W) => chk_at (HL.out.kept k) hn hz)
  have AN := Lib.hid (fun W (k : Kept W0 W) => answer_p ⟨4, oa, ob, ou⟩ (HL.out.kept k) hn ht)
  have NX := Lib.hid (fun W (k : Kept W0 W) => next_not ⟨4, oa, ob, ou⟩ ⟨xe, xn, xv⟩ (HL.out.kept k) hn hp)
  have E7 : ∀ W, _ := ann_at ⟨xe, xn, xv⟩ ⟨7, 0, 0⟩ (b := false) h7
  have E12 : ∀ W, _ := ann_at ⟨xe, xn, xv⟩ ⟨12, 0, 0⟩ (b := false) h12
  clear h7 h12
  have EQ : ∀ W, _ := ann_at ⟨xe, xn, xv⟩ y (b := false) hy
  clear hy
  clear hL hn hz ht hp hW0
  go_enter Try.func7, Try.ntmps7
  go_upto_region 1 with fail
  rw [HW.out]
  go_wp2_with fail; refine (known_any _).mono ?_; rintro e w1 ⟨rfl, k1⟩
  have K1 := Lib.hid k1
  clear k1
  go_wp2_with fail; refine (CK.out _ K1.out).mono ?_; rintro e w2 ⟨rfl, k2⟩
  have K2 := Lib.hid (K1.out.trans k2)
  clear k2
  obtain ⟨p0, p1, p2, p3⟩ := OB.out.kept K2.out
  go_wp2_with fail; refine (AN.out _ K2.out).mono ?_; rintro e w3 ⟨rfl, k3⟩
  obtain ⟨W3, hW3⟩ : ∃ W3, w3.alloc (.cells #[.int .i64 y.e, .int .i64 y.n, .int .u64 y.v] 28) = W3 := ⟨_, rfl⟩
  obtain ⟨B3, hB3⟩ : ∃ B3, w3.heap.size = B3 := ⟨_, rfl⟩
  have K3 := Lib.hid (show Kept W0 W3 by rw [← hW3]; exact (K2.out.trans k3).alloc _ _)
  have Y3 := Lib.hid (show AnBox W3 B3 ⟨y.e, y.n, y.v⟩ by rw [← hW3]; exact AnBox.new w3 ⟨y.e, y.n, y.v⟩ _ _ hB3.symm)
  have HW3 := Lib.hid hW3
  have HB3 := Lib.hid hB3
  clear k3 hW3 hB3 p0 p1 p2 p3
  go_upto_region 5 with fail
  rw [HW3.out, HB3.out]
  obtain ⟨p0, p1, p2, p3⟩ := OB.out.kept K3.out
  obtain ⟨x0, x1, x2, _⟩ := AB.out.kept K3.out
  go_wp2_with fail; refine (NX.out _ K3.out).mono ?_; rintro e w4 ⟨a4, c4, rfl, k4⟩
  have K4 := Lib.hid (K3.out.trans k4)
  have Y4 := Lib.hid (Y3.out.kept k4)
  clear k4 p0 p1 p2 p3 x0 x1 x2
  obtain ⟨p0, p1, p2, p3⟩ := OB.out.kept K4.out
  obtain ⟨x0, x1, x2, _⟩ := AB.out.kept K4.out
  obtain ⟨y0, y1, y2, _⟩ := Y4.out
  go_wp2
  go_ret
  exact ⟨rfl, K0.out.trans K4.out⟩

set_option maxRecDepth 100000 in
set_option maxHeartbeats 16000000 in
theorem goes_nok {w : World} {a : Option Addr} {n c : Nat} {l : List It} {ok oa ob ou xe xn xv : Int} (hL : Lay w (.slice a n c) n (flatI l)) (hn : n = l.length) (hl : n ≤ 40) (hz : chk l = 0) (ht : tellS l ⟨ok, oa, ob, ou⟩ = none) (hp : nextS l ⟨ok, oa, ob, ou⟩ ⟨xe, xn, xv⟩ = none) (h4 : ok ≠ 4) :
    Calls Try.prog 7 #[.slice a n c, .agg #[.int .i64 ok, .int .i64 oa, .int .i64 ob, .int .u64 ou], .agg #[.int .i64 xe, .int .i64 xn, .int .u64 xv]] w fun e w' => e = .returned (.bool true) ∧ Kept w w' := by
  obtain ⟨a', c', e, hnc, hcm⟩ := hL.form
  cases e
  obtain ⟨W0, hW0⟩ : ∃ W0, ((w.alloc (.cells #[.int .i64 ok, .int .i64 oa, .int .i64 ob, .int .u64 ou] 25)).alloc (.cells #[.int .i64 xe, .int .i64 xn, .int .u64 xv] 28)) = W0 := ⟨_, rfl⟩
  have OB := Lib.hid (show OpBox W0 w.heap.size ⟨ok, oa, ob, ou⟩ by rw [← hW0]; exact (OpBox.new w ⟨ok, oa, ob, ou⟩ _ _ rfl).kept ((Kept.refl _).alloc _ _))
  have AB := Lib.hid (show AnBox W0 (w.heap.size + 1) ⟨xe, xn, xv⟩ by rw [← hW0]; exact AnBox.new _ ⟨xe, xn, xv⟩ _ _ (by simp))
  have K0 := Lib.hid (show Kept w W0 by rw [← hW0]; exact ((Kept.refl w).alloc _ _).alloc _ _)
  have HW := Lib.hid hW0
  have HN := Lib.hid hn
  have HL := Lib.hid (hL.kept K0.out)
  have CK := Lib.hid (fun W (k : Kept W0 W) => chk_at (HL.out.kept k) hn hz)
  have AN := Lib.hid (fun W (k : Kept W0 W) => answer_no ⟨ok, oa, ob, ou⟩ (HL.out.kept k) hn ht)
  have NX := Lib.hid (fun W (k : Kept W0 W) => next_not ⟨ok, oa, ob, ou⟩ ⟨xe, xn, xv⟩ (HL.out.kept k) hn hp)
  have b4 : (ok == 4) = false := by simpa using h4
  clear h4
  clear hL hn hz ht hp hW0
  go_enter Try.func7, Try.ntmps7
  go_upto_region 1 with fail
  rw [HW.out]
  go_wp2_with fail; refine (known_any _).mono ?_; rintro e w1 ⟨rfl, k1⟩
  have K1 := Lib.hid k1
  clear k1
  go_wp2_with fail; refine (CK.out _ K1.out).mono ?_; rintro e w2 ⟨rfl, k2⟩
  have K2 := Lib.hid (K1.out.trans k2)
  clear k2
  obtain ⟨p0, p1, p2, p3⟩ := OB.out.kept K2.out
  go_wp2_with fail; refine (AN.out _ K2.out).mono ?_; rintro e w3 ⟨rfl, k3⟩
  obtain ⟨W3, hW3⟩ : ∃ W3, w3.alloc (.cells #[.int .i64 0, .int .i64 0, .int .u64 0] 28) = W3 := ⟨_, rfl⟩
  obtain ⟨B3, hB3⟩ : ∃ B3, w3.heap.size = B3 := ⟨_, rfl⟩
  have K3 := Lib.hid (show Kept W0 W3 by rw [← hW3]; exact (K2.out.trans k3).alloc _ _)
  have Y3 := Lib.hid (show AnBox W3 B3 ⟨0, 0, 0⟩ by rw [← hW3]; exact AnBox.new w3 ⟨0, 0, 0⟩ _ _ hB3.symm)
  have HW3 := Lib.hid hW3
  have HB3 := Lib.hid hB3
  clear k3 hW3 hB3 p0 p1 p2 p3
  go_upto_region 5 with fail
  rw [HW3.out, HB3.out]
  obtain ⟨p0, p1, p2, p3⟩ := OB.out.kept K3.out
  obtain ⟨x0, x1, x2, _⟩ := AB.out.kept K3.out
  go_wp2_with fail; refine (NX.out _ K3.out).mono ?_; rintro e w4 ⟨a4, c4, rfl, k4⟩
  have K4 := Lib.hid (K3.out.trans k4)
  have Y4 := Lib.hid (Y3.out.kept k4)
  clear k4 p0 p1 p2 p3 x0 x1 x2
  obtain ⟨p0, p1, p2, p3⟩ := OB.out.kept K4.out
  obtain ⟨x0, x1, x2, _⟩ := AB.out.kept K4.out
  obtain ⟨y0, y1, y2, _⟩ := Y4.out
  go_wp2
  go_ret
  exact ⟨rfl, K0.out.trans K4.out⟩

set_option maxRecDepth 100000 in
set_option maxHeartbeats 16000000 in
theorem goes_otherk {w : World} {a : Option Addr} {n c : Nat} {l : List It} {ok oa ob ou xe xn xv : Int} {y : Ann} (hL : Lay w (.slice a n c) n (flatI l)) (hn : n = l.length) (hl : n ≤ 40) (hz : chk l = 0) (ht : tellS l ⟨ok, oa, ob, ou⟩ = some ⟨y.e, y.n, y.v⟩) (hp : nextS l ⟨ok, oa, ob, ou⟩ ⟨xe, xn, xv⟩ = none) (h4 : ok ≠ 4) (hy : decide ((⟨xe, xn, xv⟩ : Ann) = y) = false) :
    Calls Try.prog 7 #[.slice a n c, .agg #[.int .i64 ok, .int .i64 oa, .int .i64 ob, .int .u64 ou], .agg #[.int .i64 xe, .int .i64 xn, .int .u64 xv]] w fun e w' => e = .returned (.bool true) ∧ Kept w w' := by
  obtain ⟨a', c', e, hnc, hcm⟩ := hL.form
  cases e
  obtain ⟨W0, hW0⟩ : ∃ W0, ((w.alloc (.cells #[.int .i64 ok, .int .i64 oa, .int .i64 ob, .int .u64 ou] 25)).alloc (.cells #[.int .i64 xe, .int .i64 xn, .int .u64 xv] 28)) = W0 := ⟨_, rfl⟩
  have OB := Lib.hid (show OpBox W0 w.heap.size ⟨ok, oa, ob, ou⟩ by rw [← hW0]; exact (OpBox.new w ⟨ok, oa, ob, ou⟩ _ _ rfl).kept ((Kept.refl _).alloc _ _))
  have AB := Lib.hid (show AnBox W0 (w.heap.size + 1) ⟨xe, xn, xv⟩ by rw [← hW0]; exact AnBox.new _ ⟨xe, xn, xv⟩ _ _ (by simp))
  have K0 := Lib.hid (show Kept w W0 by rw [← hW0]; exact ((Kept.refl w).alloc _ _).alloc _ _)
  have HW := Lib.hid hW0
  have HN := Lib.hid hn
  have HL := Lib.hid (hL.kept K0.out)
  have CK := Lib.hid (fun W (k : Kept W0 W) => chk_at (HL.out.kept k) hn hz)
  have AN := Lib.hid (fun W (k : Kept W0 W) => answer_p ⟨ok, oa, ob, ou⟩ (HL.out.kept k) hn ht)
  have NX := Lib.hid (fun W (k : Kept W0 W) => next_not ⟨ok, oa, ob, ou⟩ ⟨xe, xn, xv⟩ (HL.out.kept k) hn hp)
  have b4 : (ok == 4) = false := by simpa using h4
  clear h4
  have EQ : ∀ W, _ := ann_at ⟨xe, xn, xv⟩ y (b := false) hy
  clear hy
  clear hL hn hz ht hp hW0
  go_enter Try.func7, Try.ntmps7
  go_upto_region 1 with fail
  rw [HW.out]
  go_wp2_with fail; refine (known_any _).mono ?_; rintro e w1 ⟨rfl, k1⟩
  have K1 := Lib.hid k1
  clear k1
  go_wp2_with fail; refine (CK.out _ K1.out).mono ?_; rintro e w2 ⟨rfl, k2⟩
  have K2 := Lib.hid (K1.out.trans k2)
  clear k2
  obtain ⟨p0, p1, p2, p3⟩ := OB.out.kept K2.out
  go_wp2_with fail; refine (AN.out _ K2.out).mono ?_; rintro e w3 ⟨rfl, k3⟩
  obtain ⟨W3, hW3⟩ : ∃ W3, w3.alloc (.cells #[.int .i64 y.e, .int .i64 y.n, .int .u64 y.v] 28) = W3 := ⟨_, rfl⟩
  obtain ⟨B3, hB3⟩ : ∃ B3, w3.heap.size = B3 := ⟨_, rfl⟩
  have K3 := Lib.hid (show Kept W0 W3 by rw [← hW3]; exact (K2.out.trans k3).alloc _ _)
  have Y3 := Lib.hid (show AnBox W3 B3 ⟨y.e, y.n, y.v⟩ by rw [← hW3]; exact AnBox.new w3 ⟨y.e, y.n, y.v⟩ _ _ hB3.symm)
  have HW3 := Lib.hid hW3
  have HB3 := Lib.hid hB3
  clear k3 hW3 hB3 p0 p1 p2 p3
  go_upto_region 5 with fail
  rw [HW3.out, HB3.out]
  obtain ⟨p0, p1, p2, p3⟩ := OB.out.kept K3.out
  obtain ⟨x0, x1, x2, _⟩ := AB.out.kept K3.out
  go_wp2_with fail; refine (NX.out _ K3.out).mono ?_; rintro e w4 ⟨a4, c4, rfl, k4⟩
  have K4 := Lib.hid (K3.out.trans k4)
  have Y4 := Lib.hid (Y3.out.kept k4)
  clear k4 p0 p1 p2 p3 x0 x1 x2
  obtain ⟨p0, p1, p2, p3⟩ := OB.out.kept K4.out
  obtain ⟨x0, x1, x2, _⟩ := AB.out.kept K4.out
  obtain ⟨y0, y1, y2, _⟩ := Y4.out
  go_wp2
  go_ret
  exact ⟨rfl, K0.out.trans K4.out⟩

set_option maxRecDepth 100000 in
set_option maxHeartbeats 16000000 in
theorem goes_double {w : World} {a : Option Addr} {n c : Nat} {l : List It} {oa ob ou : Int} (hL : Lay w (.slice a n c) n (flatI l)) (hn : n = l.length) (hl : n ≤ 40) (hz : chk l = 0) (ht : tellS l ⟨4, oa, ob, ou⟩ = some ⟨8, 0, 0⟩) (hp : nextS l ⟨4, oa, ob, ou⟩ ⟨8, 0, 0⟩ = some l) :
    Calls Try.prog 7 #[.slice a n c, .agg #[.int .i64 4, .int .i64 oa, .int .i64 ob, .int .u64 ou], .agg #[.int .i64 8, .int .i64 0, .int .u64 0]] w fun e w' => e = .returned (.bool true) ∧ Kept w w' := by
  obtain ⟨a', c', e, hnc, hcm⟩ := hL.form
  cases e
  obtain ⟨W0, hW0⟩ : ∃ W0, ((w.alloc (.cells #[.int .i64 4, .int .i64 oa, .int .i64 ob, .int .u64 ou] 25)).alloc (.cells #[.int .i64 8, .int .i64 0, .int .u64 0] 28)) = W0 := ⟨_, rfl⟩
  have OB := Lib.hid (show OpBox W0 w.heap.size ⟨4, oa, ob, ou⟩ by rw [← hW0]; exact (OpBox.new w ⟨4, oa, ob, ou⟩ _ _ rfl).kept ((Kept.refl _).alloc _ _))
  have AB := Lib.hid (show AnBox W0 (w.heap.size + 1) ⟨8, 0, 0⟩ by rw [← hW0]; exact AnBox.new _ ⟨8, 0, 0⟩ _ _ (by simp))
  have K0 := Lib.hid (show Kept w W0 by rw [← hW0]; exact ((Kept.refl w).alloc _ _).alloc _ _)
  have HW := Lib.hid hW0
  have HN := Lib.hid hn
  have HL := Lib.hid (hL.kept K0.out)
  have CK := Lib.hid (fun W (k : Kept W0 W) => chk_at (HL.out.kept k) hn hz)
  have AN := Lib.hid (fun W (k : Kept W0 W) => answer_p ⟨4, oa, ob, ou⟩ (HL.out.kept k) hn ht)
  have hm : (l).length = n := hn.symm
  have NX := Lib.hid (fun W (k : Kept W0 W) => next_yes (m := n) ⟨4, oa, ob, ou⟩ ⟨8, 0, 0⟩ (HL.out.kept k) hn hp hm)
  have CN := Lib.hid (fun W a' c' (L : Lay W (.slice a' n c') n (flatI (l))) => chk_at L hn hz)
  have E7 : ∀ W, _ := ann_at ⟨8, 0, 0⟩ ⟨7, 0, 0⟩ (b := false) (by decide)
  have E12 : ∀ W, _ := ann_at ⟨8, 0, 0⟩ ⟨12, 0, 0⟩ (b := false) (by decide)
  have EQ : ∀ W, _ := ann_at ⟨8, 0, 0⟩ ⟨8, 0, 0⟩ (b := true) (by simp)
  clear hL hn hz ht hp hW0 hm
  go_enter Try.func7, Try.ntmps7
  go_upto_region 1 with fail
  rw [HW.out]
  go_wp2_with fail; refine (known_any _).mono ?_; rintro e w1 ⟨rfl, k1⟩
  have K1 := Lib.hid k1
  clear k1
  go_wp2_with fail; refine (CK.out _ K1.out).mono ?_; rintro e w2 ⟨rfl, k2⟩
  have K2 := Lib.hid (K1.out.trans k2)
  clear k2
  obtain ⟨p0, p1, p2, p3⟩ := OB.out.kept K2.out
  go_wp2_with fail; refine (AN.out _ K2.out).mono ?_; rintro e w3 ⟨rfl, k3⟩
  obtain ⟨W3, hW3⟩ : ∃ W3, w3.alloc (.cells #[.int .i64 8, .int .i64 0, .int .u64 0] 28) = W3 := ⟨_, rfl⟩
  obtain ⟨B3, hB3⟩ : ∃ B3, w3.heap.size = B3 := ⟨_, rfl⟩
  have K3 := Lib.hid (show Kept W0 W3 by rw [← hW3]; exact (K2.out.trans k3).alloc _ _)
  have Y3 := Lib.hid (show AnBox W3 B3 ⟨8, 0, 0⟩ by rw [← hW3]; exact AnBox.new w3 ⟨8, 0, 0⟩ _ _ hB3.symm)
  have HW3 := Lib.hid hW3
  have HB3 := Lib.hid hB3
  clear k3 hW3 hB3 p0 p1 p2 p3
  go_upto_region 5 with fail
  rw [HW3.out, HB3.out]
  obtain ⟨p0, p1, p2, p3⟩ := OB.out.kept K3.out
  obtain ⟨x0, x1, x2, _⟩ := AB.out.kept K3.out
  go_wp2_with fail; refine (NX.out _ K3.out).mono ?_; rintro e w4 ⟨a4, c4, rfl, k4, own4⟩
  have K4 := Lib.hid (K3.out.trans k4)
  have X4 := Lib.hid (own_lies own4).lay
  have Y4 := Lib.hid (Y3.out.kept k4)
  clear k4 own4 p0 p1 p2 p3 x0 x1 x2
  obtain ⟨p0, p1, p2, p3⟩ := OB.out.kept K4.out
  obtain ⟨x0, x1, x2, _⟩ := AB.out.kept K4.out
  obtain ⟨y0, y1, y2, _⟩ := Y4.out
  go_wp2_with fail; refine (CN.out _ _ _ X4.out).mono ?_; rintro e w5 ⟨rfl, k5⟩
  have K5 := Lib.hid (K4.out.trans k5)
  have X5 := Lib.hid (X4.out.kept k5)
  clear k5 p0 p1 p2 p3 x0 x1 x2 y0 y1 y2
  obtain ⟨p0, p1, p2, p3⟩ := OB.out.kept K5.out
  obtain ⟨x0, x1, x2, _⟩ := AB.out.kept K5.out
  go_wp2_with fail; refine (same_n X5.out (HL.out.kept K5.out) HN.out HN.out (by omega)).mono ?_; rintro e w6 ⟨rfl, k6⟩
  go_wp2
  go_ret
  exact ⟨rfl, (K0.out.trans K5.out).trans k6⟩

set_option maxRecDepth 100000 in
set_option maxHeartbeats 16000000 in
theorem goes_none5 {w : World} {a : Option Addr} {n c : Nat} {l : List It} {oa ob ou : Int} (hL : Lay w (.slice a n c) n (flatI l)) (hn : n = l.length) (hl : n ≤ 40) (hz : chk l = 0) (ht : tellS l ⟨5, oa, ob, ou⟩ = some ⟨15, 0, 0⟩) (hp : nextS l ⟨5, oa, ob, ou⟩ ⟨15, 0, 0⟩ = some l) :
    Calls Try.prog 7 #[.slice a n c, .agg #[.int .i64 5, .int .i64 oa, .int .i64 ob, .int .u64 ou], .agg #[.int .i64 15, .int .i64 0, .int .u64 0]] w fun e w' => e = .returned (.bool true) ∧ Kept w w' := by
  obtain ⟨a', c', e, hnc, hcm⟩ := hL.form
  cases e
  obtain ⟨W0, hW0⟩ : ∃ W0, ((w.alloc (.cells #[.int .i64 5, .int .i64 oa, .int .i64 ob, .int .u64 ou] 25)).alloc (.cells #[.int .i64 15, .int .i64 0, .int .u64 0] 28)) = W0 := ⟨_, rfl⟩
  have OB := Lib.hid (show OpBox W0 w.heap.size ⟨5, oa, ob, ou⟩ by rw [← hW0]; exact (OpBox.new w ⟨5, oa, ob, ou⟩ _ _ rfl).kept ((Kept.refl _).alloc _ _))
  have AB := Lib.hid (show AnBox W0 (w.heap.size + 1) ⟨15, 0, 0⟩ by rw [← hW0]; exact AnBox.new _ ⟨15, 0, 0⟩ _ _ (by simp))
  have K0 := Lib.hid (show Kept w W0 by rw [← hW0]; exact ((Kept.refl w).alloc _ _).alloc _ _)
  have HW := Lib.hid hW0
  have HN := Lib.hid hn
  have HL := Lib.hid (hL.kept K0.out)
  have CK := Lib.hid (fun W (k : Kept W0 W) => chk_at (HL.out.kept k) hn hz)
  have AN := Lib.hid (fun W (k : Kept W0 W) => answer_p ⟨5, oa, ob, ou⟩ (HL.out.kept k) hn ht)
  have hm : (l).length = n := hn.symm
  have NX := Lib.hid (fun W (k : Kept W0 W) => next_yes (m := n) ⟨5, oa, ob, ou⟩ ⟨15, 0, 0⟩ (HL.out.kept k) hn hp hm)
  have CN := Lib.hid (fun W a' c' (L : Lay W (.slice a' n c') n (flatI (l))) => chk_at L hn hz)
  have EQ : ∀ W, _ := ann_at ⟨15, 0, 0⟩ ⟨15, 0, 0⟩ (b := true) (by simp)
  clear hL hn hz ht hp hW0 hm
  go_enter Try.func7, Try.ntmps7
  go_upto_region 1 with fail
  rw [HW.out]
  go_wp2_with fail; refine (known_any _).mono ?_; rintro e w1 ⟨rfl, k1⟩
  have K1 := Lib.hid k1
  clear k1
  go_wp2_with fail; refine (CK.out _ K1.out).mono ?_; rintro e w2 ⟨rfl, k2⟩
  have K2 := Lib.hid (K1.out.trans k2)
  clear k2
  obtain ⟨p0, p1, p2, p3⟩ := OB.out.kept K2.out
  go_wp2_with fail; refine (AN.out _ K2.out).mono ?_; rintro e w3 ⟨rfl, k3⟩
  obtain ⟨W3, hW3⟩ : ∃ W3, w3.alloc (.cells #[.int .i64 15, .int .i64 0, .int .u64 0] 28) = W3 := ⟨_, rfl⟩
  obtain ⟨B3, hB3⟩ : ∃ B3, w3.heap.size = B3 := ⟨_, rfl⟩
  have K3 := Lib.hid (show Kept W0 W3 by rw [← hW3]; exact (K2.out.trans k3).alloc _ _)
  have Y3 := Lib.hid (show AnBox W3 B3 ⟨15, 0, 0⟩ by rw [← hW3]; exact AnBox.new w3 ⟨15, 0, 0⟩ _ _ hB3.symm)
  have HW3 := Lib.hid hW3
  have HB3 := Lib.hid hB3
  clear k3 hW3 hB3 p0 p1 p2 p3
  go_upto_region 5 with fail
  rw [HW3.out, HB3.out]
  obtain ⟨p0, p1, p2, p3⟩ := OB.out.kept K3.out
  obtain ⟨x0, x1, x2, _⟩ := AB.out.kept K3.out
  go_wp2_with fail; refine (NX.out _ K3.out).mono ?_; rintro e w4 ⟨a4, c4, rfl, k4, own4⟩
  have K4 := Lib.hid (K3.out.trans k4)
  have X4 := Lib.hid (own_lies own4).lay
  have Y4 := Lib.hid (Y3.out.kept k4)
  clear k4 own4 p0 p1 p2 p3 x0 x1 x2
  obtain ⟨p0, p1, p2, p3⟩ := OB.out.kept K4.out
  obtain ⟨x0, x1, x2, _⟩ := AB.out.kept K4.out
  obtain ⟨y0, y1, y2, _⟩ := Y4.out
  go_wp2_with fail; refine (CN.out _ _ _ X4.out).mono ?_; rintro e w5 ⟨rfl, k5⟩
  have K5 := Lib.hid (K4.out.trans k5)
  have X5 := Lib.hid (X4.out.kept k5)
  clear k5 p0 p1 p2 p3 x0 x1 x2 y0 y1 y2
  obtain ⟨p0, p1, p2, p3⟩ := OB.out.kept K5.out
  obtain ⟨x0, x1, x2, _⟩ := AB.out.kept K5.out
  go_wp2_with fail; refine (same_n X5.out (HL.out.kept K5.out) HN.out HN.out (by omega)).mono ?_; rintro e w6 ⟨rfl, k6⟩
  go_wp2
  go_ret
  exact ⟨rfl, (K0.out.trans K5.out).trans k6⟩

set_option maxRecDepth 100000 in
set_option maxHeartbeats 16000000 in
theorem goes_none6 {w : World} {a : Option Addr} {n c : Nat} {l : List It} {oa ob ou : Int} (hL : Lay w (.slice a n c) n (flatI l)) (hn : n = l.length) (hl : n ≤ 40) (hz : chk l = 0) (ht : tellS l ⟨6, oa, ob, ou⟩ = some ⟨15, 0, 0⟩) (hp : nextS l ⟨6, oa, ob, ou⟩ ⟨15, 0, 0⟩ = some l) :
    Calls Try.prog 7 #[.slice a n c, .agg #[.int .i64 6, .int .i64 oa, .int .i64 ob, .int .u64 ou], .agg #[.int .i64 15, .int .i64 0, .int .u64 0]] w fun e w' => e = .returned (.bool true) ∧ Kept w w' := by
  obtain ⟨a', c', e, hnc, hcm⟩ := hL.form
  cases e
  obtain ⟨W0, hW0⟩ : ∃ W0, ((w.alloc (.cells #[.int .i64 6, .int .i64 oa, .int .i64 ob, .int .u64 ou] 25)).alloc (.cells #[.int .i64 15, .int .i64 0, .int .u64 0] 28)) = W0 := ⟨_, rfl⟩
  have OB := Lib.hid (show OpBox W0 w.heap.size ⟨6, oa, ob, ou⟩ by rw [← hW0]; exact (OpBox.new w ⟨6, oa, ob, ou⟩ _ _ rfl).kept ((Kept.refl _).alloc _ _))
  have AB := Lib.hid (show AnBox W0 (w.heap.size + 1) ⟨15, 0, 0⟩ by rw [← hW0]; exact AnBox.new _ ⟨15, 0, 0⟩ _ _ (by simp))
  have K0 := Lib.hid (show Kept w W0 by rw [← hW0]; exact ((Kept.refl w).alloc _ _).alloc _ _)
  have HW := Lib.hid hW0
  have HN := Lib.hid hn
  have HL := Lib.hid (hL.kept K0.out)
  have CK := Lib.hid (fun W (k : Kept W0 W) => chk_at (HL.out.kept k) hn hz)
  have AN := Lib.hid (fun W (k : Kept W0 W) => answer_p ⟨6, oa, ob, ou⟩ (HL.out.kept k) hn ht)
  have hm : (l).length = n := hn.symm
  have NX := Lib.hid (fun W (k : Kept W0 W) => next_yes (m := n) ⟨6, oa, ob, ou⟩ ⟨15, 0, 0⟩ (HL.out.kept k) hn hp hm)
  have CN := Lib.hid (fun W a' c' (L : Lay W (.slice a' n c') n (flatI (l))) => chk_at L hn hz)
  have EQ : ∀ W, _ := ann_at ⟨15, 0, 0⟩ ⟨15, 0, 0⟩ (b := true) (by simp)
  clear hL hn hz ht hp hW0 hm
  go_enter Try.func7, Try.ntmps7
  go_upto_region 1 with fail
  rw [HW.out]
  go_wp2_with fail; refine (known_any _).mono ?_; rintro e w1 ⟨rfl, k1⟩
  have K1 := Lib.hid k1
  clear k1
  go_wp2_with fail; refine (CK.out _ K1.out).mono ?_; rintro e w2 ⟨rfl, k2⟩
  have K2 := Lib.hid (K1.out.trans k2)
  clear k2
  obtain ⟨p0, p1, p2, p3⟩ := OB.out.kept K2.out
  go_wp2_with fail; refine (AN.out _ K2.out).mono ?_; rintro e w3 ⟨rfl, k3⟩
  obtain ⟨W3, hW3⟩ : ∃ W3, w3.alloc (.cells #[.int .i64 15, .int .i64 0, .int .u64 0] 28) = W3 := ⟨_, rfl⟩
  obtain ⟨B3, hB3⟩ : ∃ B3, w3.heap.size = B3 := ⟨_, rfl⟩
  have K3 := Lib.hid (show Kept W0 W3 by rw [← hW3]; exact (K2.out.trans k3).alloc _ _)
  have Y3 := Lib.hid (show AnBox W3 B3 ⟨15, 0, 0⟩ by rw [← hW3]; exact AnBox.new w3 ⟨15, 0, 0⟩ _ _ hB3.symm)
  have HW3 := Lib.hid hW3
  have HB3 := Lib.hid hB3
  clear k3 hW3 hB3 p0 p1 p2 p3
  go_upto_region 5 with fail
  rw [HW3.out, HB3.out]
  obtain ⟨p0, p1, p2, p3⟩ := OB.out.kept K3.out
  obtain ⟨x0, x1, x2, _⟩ := AB.out.kept K3.out
  go_wp2_with fail; refine (NX.out _ K3.out).mono ?_; rintro e w4 ⟨a4, c4, rfl, k4, own4⟩
  have K4 := Lib.hid (K3.out.trans k4)
  have X4 := Lib.hid (own_lies own4).lay
  have Y4 := Lib.hid (Y3.out.kept k4)
  clear k4 own4 p0 p1 p2 p3 x0 x1 x2
  obtain ⟨p0, p1, p2, p3⟩ := OB.out.kept K4.out
  obtain ⟨x0, x1, x2, _⟩ := AB.out.kept K4.out
  obtain ⟨y0, y1, y2, _⟩ := Y4.out
  go_wp2_with fail; refine (CN.out _ _ _ X4.out).mono ?_; rintro e w5 ⟨rfl, k5⟩
  have K5 := Lib.hid (K4.out.trans k5)
  have X5 := Lib.hid (X4.out.kept k5)
  clear k5 p0 p1 p2 p3 x0 x1 x2 y0 y1 y2
  obtain ⟨p0, p1, p2, p3⟩ := OB.out.kept K5.out
  obtain ⟨x0, x1, x2, _⟩ := AB.out.kept K5.out
  go_wp2_with fail; refine (same_n X5.out (HL.out.kept K5.out) HN.out HN.out (by omega)).mono ?_; rintro e w6 ⟨rfl, k6⟩
  go_wp2
  go_ret
  exact ⟨rfl, (K0.out.trans K5.out).trans k6⟩

set_option maxRecDepth 100000 in
set_option maxHeartbeats 16000000 in
theorem goes_look {w : World} {a : Option Addr} {n c : Nat} {l : List It} {oa ob ou xn xv : Int} (hL : Lay w (.slice a n c) n (flatI l)) (hn : n = l.length) (hl : n ≤ 40) (hz : chk l = 0) (ht : tellS l ⟨6, oa, ob, ou⟩ = some ⟨0, xn, xv⟩) (hp : nextS l ⟨6, oa, ob, ou⟩ ⟨0, xn, xv⟩ = some l) :
    Calls Try.prog 7 #[.slice a n c, .agg #[.int .i64 6, .int .i64 oa, .int .i64 ob, .int .u64 ou], .agg #[.int .i64 0, .int .i64 xn, .int .u64 xv]] w fun e w' => e = .returned (.bool true) ∧ Kept w w' := by
  obtain ⟨a', c', e, hnc, hcm⟩ := hL.form
  cases e
  obtain ⟨W0, hW0⟩ : ∃ W0, ((w.alloc (.cells #[.int .i64 6, .int .i64 oa, .int .i64 ob, .int .u64 ou] 25)).alloc (.cells #[.int .i64 0, .int .i64 xn, .int .u64 xv] 28)) = W0 := ⟨_, rfl⟩
  have OB := Lib.hid (show OpBox W0 w.heap.size ⟨6, oa, ob, ou⟩ by rw [← hW0]; exact (OpBox.new w ⟨6, oa, ob, ou⟩ _ _ rfl).kept ((Kept.refl _).alloc _ _))
  have AB := Lib.hid (show AnBox W0 (w.heap.size + 1) ⟨0, xn, xv⟩ by rw [← hW0]; exact AnBox.new _ ⟨0, xn, xv⟩ _ _ (by simp))
  have K0 := Lib.hid (show Kept w W0 by rw [← hW0]; exact ((Kept.refl w).alloc _ _).alloc _ _)
  have HW := Lib.hid hW0
  have HN := Lib.hid hn
  have HL := Lib.hid (hL.kept K0.out)
  have CK := Lib.hid (fun W (k : Kept W0 W) => chk_at (HL.out.kept k) hn hz)
  have AN := Lib.hid (fun W (k : Kept W0 W) => answer_p ⟨6, oa, ob, ou⟩ (HL.out.kept k) hn ht)
  have hm : (l).length = n := hn.symm
  have NX := Lib.hid (fun W (k : Kept W0 W) => next_yes (m := n) ⟨6, oa, ob, ou⟩ ⟨0, xn, xv⟩ (HL.out.kept k) hn hp hm)
  have CN := Lib.hid (fun W a' c' (L : Lay W (.slice a' n c') n (flatI (l))) => chk_at L hn hz)
  have EQ : ∀ W, _ := ann_at ⟨0, xn, xv⟩ ⟨0, xn, xv⟩ (b := true) (by simp)
  clear hL hn hz ht hp hW0 hm
  go_enter Try.func7, Try.ntmps7
  go_upto_region 1 with fail
  rw [HW.out]
  go_wp2_with fail; refine (known_any _).mono ?_; rintro e w1 ⟨rfl, k1⟩
  have K1 := Lib.hid k1
  clear k1
  go_wp2_with fail; refine (CK.out _ K1.out).mono ?_; rintro e w2 ⟨rfl, k2⟩
  have K2 := Lib.hid (K1.out.trans k2)
  clear k2
  obtain ⟨p0, p1, p2, p3⟩ := OB.out.kept K2.out
  go_wp2_with fail; refine (AN.out _ K2.out).mono ?_; rintro e w3 ⟨rfl, k3⟩
  obtain ⟨W3, hW3⟩ : ∃ W3, w3.alloc (.cells #[.int .i64 0, .int .i64 xn, .int .u64 xv] 28) = W3 := ⟨_, rfl⟩
  obtain ⟨B3, hB3⟩ : ∃ B3, w3.heap.size = B3 := ⟨_, rfl⟩
  have K3 := Lib.hid (show Kept W0 W3 by rw [← hW3]; exact (K2.out.trans k3).alloc _ _)
  have Y3 := Lib.hid (show AnBox W3 B3 ⟨0, xn, xv⟩ by rw [← hW3]; exact AnBox.new w3 ⟨0, xn, xv⟩ _ _ hB3.symm)
  have HW3 := Lib.hid hW3
  have HB3 := Lib.hid hB3
  clear k3 hW3 hB3 p0 p1 p2 p3
  go_upto_region 5 with fail
  rw [HW3.out, HB3.out]
  obtain ⟨p0, p1, p2, p3⟩ := OB.out.kept K3.out
  obtain ⟨x0, x1, x2, _⟩ := AB.out.kept K3.out
  go_wp2_with fail; refine (NX.out _ K3.out).mono ?_; rintro e w4 ⟨a4, c4, rfl, k4, own4⟩
  have K4 := Lib.hid (K3.out.trans k4)
  have X4 := Lib.hid (own_lies own4).lay
  have Y4 := Lib.hid (Y3.out.kept k4)
  clear k4 own4 p0 p1 p2 p3 x0 x1 x2
  obtain ⟨p0, p1, p2, p3⟩ := OB.out.kept K4.out
  obtain ⟨x0, x1, x2, _⟩ := AB.out.kept K4.out
  obtain ⟨y0, y1, y2, _⟩ := Y4.out
  go_wp2_with fail; refine (CN.out _ _ _ X4.out).mono ?_; rintro e w5 ⟨rfl, k5⟩
  have K5 := Lib.hid (K4.out.trans k5)
  have X5 := Lib.hid (X4.out.kept k5)
  clear k5 p0 p1 p2 p3 x0 x1 x2 y0 y1 y2
  obtain ⟨p0, p1, p2, p3⟩ := OB.out.kept K5.out
  obtain ⟨x0, x1, x2, _⟩ := AB.out.kept K5.out
  go_wp2_with fail; refine (same_n X5.out (HL.out.kept K5.out) HN.out HN.out (by omega)).mono ?_; rintro e w6 ⟨rfl, k6⟩
  go_wp2
  go_ret
  exact ⟨rfl, (K0.out.trans K5.out).trans k6⟩

end Go.Proofs.Yteomggjkdaddhaa
