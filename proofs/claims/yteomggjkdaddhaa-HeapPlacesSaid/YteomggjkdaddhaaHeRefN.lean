/- The document's Next. -/
import Derived.Test.YteomggjkdaddhaaHeRefA
namespace Go.Proofs.Yteomggjkdaddhaa
open Go.RowKit

theorem ann_at (x y : Ann) {b : Bool} (h : decide (x = y) = b) : ∀ W, (binOp .eql 28 (.agg #[.int .i64 x.e, .int .i64 x.n, .int .u64 x.v]) (.agg #[.int .i64 y.e, .int .i64 y.n, .int .u64 y.v])).run Try.prog W = .ok (.bool b) W := by
  subst h; exact ann_eql x y
theorem ann_nat (x y : Ann) {b : Bool} (h : (!decide (x = y)) = b) : ∀ W, (binOp .neq 28 (.agg #[.int .i64 x.e, .int .i64 x.n, .int .u64 x.v]) (.agg #[.int .i64 y.e, .int .i64 y.n, .int .u64 y.v])).run Try.prog W = .ok (.bool b) W := by
  subst h; exact ann_neq x y
theorem refAnswer_p {w : World} {a : Option Addr} {c n : Nat} {l : List It} {p : Option Ann} (o : Opn) (h : Lay w (.slice a n c) n (flatI l)) (hn : n = l.length) (hp : tellS l o = p) : Calls Try.prog 14 #[.slice a n c, .agg #[.int .i64 o.k, .int .i64 o.a, .int .i64 o.b, .int .u64 o.u]] w (RetA w p) := by
  subst hp; exact refAnswer_any o h hn
theorem RetA.unf {w : World} {p : Option Ann} {e : Ending} {w' : World} (h : RetA w p e w') : e = .returned (.tuple #[.agg #[.int .i64 (p.getD noAnn).e, .int .i64 (p.getD noAnn).n, .int .u64 (p.getD noAnn).v], .bool p.isSome]) ∧ Kept w w' := h

set_option maxRecDepth 100000 in
set_option maxHeartbeats 4000000 in
theorem refNext_bad {w : World} {a : Option Addr} {c n : Nat} {l : List It} {ok oa ob ou xe xn xv : Int} {p : Option (List It)} (h : Lay w (.slice a n c) n (flatI l)) (hn : n = l.length) {z : Int} (hz : chk l = z) (hz0 : z ≠ 0) (hp : p = none) :
    Calls Try.prog 12 #[.slice a n c, .agg #[.int .i64 ok, .int .i64 oa, .int .i64 ob, .int .u64 ou], .agg #[.int .i64 xe, .int .i64 xn, .int .u64 xv]] w (RetN w p) := by
  obtain ⟨a', c', e, hnc, hcm⟩ := h.form
  cases e
  have hnil := h.nil_cap
  obtain ⟨W0, hW0⟩ : ∃ W0, ((w.alloc (.cells #[.int .i64 ok, .int .i64 oa, .int .i64 ob, .int .u64 ou] 25)).alloc (.cells #[.int .i64 xe, .int .i64 xn, .int .u64 xv] 28)) = W0 := ⟨_, rfl⟩
  have OB := Lib.hid (show OpBox W0 w.heap.size ⟨ok, oa, ob, ou⟩ by rw [← hW0]; exact (OpBox.new w ⟨ok, oa, ob, ou⟩ _ _ rfl).kept ((Kept.refl _).alloc _ _))
  have AB := Lib.hid (show AnBox W0 (w.heap.size + 1) ⟨xe, xn, xv⟩ by rw [← hW0]; exact AnBox.new _ ⟨xe, xn, xv⟩ _ _ (by simp))
  have k0 : Kept w W0 := by rw [← hW0]; exact ((Kept.refl w).alloc _ _).alloc _ _
  have CK := Lib.hid (refChk_at (h.kept k0) hn hz)
  have HL := Lib.hid (h.kept k0)
  have K0 := Lib.hid k0
  have HW := Lib.hid hW0
  have HN := Lib.hid hn
  have hb : (z != 0) = true := by simpa using hz0
  have HP := Lib.hid hp
  clear hz0 hp hn hnil
  clear h hW0 k0 hz
  go_enter Try.func12, Try.ntmps12
  go_upto_region 1 with fail
  rw [HW.out]
  go_wp2_with fail; refine CK.out.mono ?_; rintro e w1 ⟨rfl, k1⟩
  have K1 := Lib.hid k1
  clear k1
  obtain ⟨p0, p1, p2, p3⟩ := OB.out.kept K1.out
  obtain ⟨x0, x1, x2, _⟩ := AB.out.kept K1.out
  go_wp2
  go_ret2
  exact RetN.none HP.out (K0.out.trans K1.out)

set_option maxRecDepth 100000 in
set_option maxHeartbeats 4000000 in
theorem refNext_refused7 {w : World} {a : Option Addr} {c n : Nat} {l : List It} {oa ob ou : Int} {p : Option (List It)} (h : Lay w (.slice a n c) n (flatI l)) (hn : n = l.length) (hz : chk l = 0) (hp : p = some l) :
    Calls Try.prog 12 #[.slice a n c, .agg #[.int .i64 4, .int .i64 oa, .int .i64 ob, .int .u64 ou], .agg #[.int .i64 7, .int .i64 0, .int .u64 0]] w (RetN w p) := by
  obtain ⟨a', c', e, hnc, hcm⟩ := h.form
  cases e
  have hnil := h.nil_cap
  obtain ⟨W0, hW0⟩ : ∃ W0, ((w.alloc (.cells #[.int .i64 4, .int .i64 oa, .int .i64 ob, .int .u64 ou] 25)).alloc (.cells #[.int .i64 7, .int .i64 0, .int .u64 0] 28)) = W0 := ⟨_, rfl⟩
  have OB := Lib.hid (show OpBox W0 w.heap.size ⟨4, oa, ob, ou⟩ by rw [← hW0]; exact (OpBox.new w ⟨4, oa, ob, ou⟩ _ _ rfl).kept ((Kept.refl _).alloc _ _))
  have AB := Lib.hid (show AnBox W0 (w.heap.size + 1) ⟨7, 0, 0⟩ by rw [← hW0]; exact AnBox.new _ ⟨7, 0, 0⟩ _ _ (by simp))
  have k0 : Kept w W0 := by rw [← hW0]; exact ((Kept.refl w).alloc _ _).alloc _ _
  have CK := Lib.hid (refChk_at (h.kept k0) hn hz)
  have HL := Lib.hid (h.kept k0)
  have K0 := Lib.hid k0
  have HW := Lib.hid hW0
  have HN := Lib.hid hn
  have HP := Lib.hid hp
  have CI := Lib.hid (fun W (k : Kept W0 W) => copy_n ((h.kept k0).kept k) hn (by have := (chk_zero hz).1; omega))
  have E7 : ∀ W, _ := ann_at ⟨7, 0, 0⟩ ⟨7, 0, 0⟩ (b := true) (by decide)
  clear hp hn hnil
  clear h hW0 k0 hz
  go_enter Try.func12, Try.ntmps12
  go_upto_region 1 with fail
  rw [HW.out]
  go_wp2_with fail; refine CK.out.mono ?_; rintro e w1 ⟨rfl, k1⟩
  have K1 := Lib.hid k1
  clear k1
  obtain ⟨p0, p1, p2, p3⟩ := OB.out.kept K1.out
  obtain ⟨x0, x1, x2, _⟩ := AB.out.kept K1.out
  go_wp2_with fail; refine (CI.out _ K1.out).mono ?_; rintro e w2 ⟨a2, c2, rfl, k2, own2⟩
  go_wp2
  go_ret2
  exact RetN.some HP.out HN.out (K0.out.trans K1.out) k2 own2

set_option maxRecDepth 100000 in
set_option maxHeartbeats 4000000 in
theorem refNext_refused12 {w : World} {a : Option Addr} {c n : Nat} {l : List It} {oa ob ou : Int} {p : Option (List It)} (h : Lay w (.slice a n c) n (flatI l)) (hn : n = l.length) (hz : chk l = 0) (hp : p = some l) :
    Calls Try.prog 12 #[.slice a n c, .agg #[.int .i64 4, .int .i64 oa, .int .i64 ob, .int .u64 ou], .agg #[.int .i64 12, .int .i64 0, .int .u64 0]] w (RetN w p) := by
  obtain ⟨a', c', e, hnc, hcm⟩ := h.form
  cases e
  have hnil := h.nil_cap
  obtain ⟨W0, hW0⟩ : ∃ W0, ((w.alloc (.cells #[.int .i64 4, .int .i64 oa, .int .i64 ob, .int .u64 ou] 25)).alloc (.cells #[.int .i64 12, .int .i64 0, .int .u64 0] 28)) = W0 := ⟨_, rfl⟩
  have OB := Lib.hid (show OpBox W0 w.heap.size ⟨4, oa, ob, ou⟩ by rw [← hW0]; exact (OpBox.new w ⟨4, oa, ob, ou⟩ _ _ rfl).kept ((Kept.refl _).alloc _ _))
  have AB := Lib.hid (show AnBox W0 (w.heap.size + 1) ⟨12, 0, 0⟩ by rw [← hW0]; exact AnBox.new _ ⟨12, 0, 0⟩ _ _ (by simp))
  have k0 : Kept w W0 := by rw [← hW0]; exact ((Kept.refl w).alloc _ _).alloc _ _
  have CK := Lib.hid (refChk_at (h.kept k0) hn hz)
  have HL := Lib.hid (h.kept k0)
  have K0 := Lib.hid k0
  have HW := Lib.hid hW0
  have HN := Lib.hid hn
  have HP := Lib.hid hp
  have CI := Lib.hid (fun W (k : Kept W0 W) => copy_n ((h.kept k0).kept k) hn (by have := (chk_zero hz).1; omega))
  have E7 : ∀ W, _ := ann_at ⟨12, 0, 0⟩ ⟨7, 0, 0⟩ (b := false) (by decide)
  have E12 : ∀ W, _ := ann_at ⟨12, 0, 0⟩ ⟨12, 0, 0⟩ (b := true) (by decide)
  clear hp hn hnil
  clear h hW0 k0 hz
  go_enter Try.func12, Try.ntmps12
  go_upto_region 1 with fail
  rw [HW.out]
  go_wp2_with fail; refine CK.out.mono ?_; rintro e w1 ⟨rfl, k1⟩
  have K1 := Lib.hid k1
  clear k1
  obtain ⟨p0, p1, p2, p3⟩ := OB.out.kept K1.out
  obtain ⟨x0, x1, x2, _⟩ := AB.out.kept K1.out
  go_wp2_with fail; refine (CI.out _ K1.out).mono ?_; rintro e w2 ⟨a2, c2, rfl, k2, own2⟩
  go_wp2
  go_ret2
  exact RetN.some HP.out HN.out (K0.out.trans K1.out) k2 own2

set_option maxRecDepth 100000 in
set_option maxHeartbeats 4000000 in
theorem refNext_no4 {w : World} {a : Option Addr} {c n : Nat} {l : List It} {oa ob ou xe xn xv : Int} {p : Option (List It)} (h : Lay w (.slice a n c) n (flatI l)) (hn : n = l.length) (hz : chk l = 0) (h7 : decide ((⟨xe, xn, xv⟩ : Ann) = ⟨7, 0, 0⟩) = false) (h12 : decide ((⟨xe, xn, xv⟩ : Ann) = ⟨12, 0, 0⟩) = false) (ht : tellS l ⟨4, oa, ob, ou⟩ = none) (hp : p = none) :
    Calls Try.prog 12 #[.slice a n c, .agg #[.int .i64 4, .int .i64 oa, .int .i64 ob, .int .u64 ou], .agg #[.int .i64 xe, .int .i64 xn, .int .u64 xv]] w (RetN w p) := by
  obtain ⟨a', c', e, hnc, hcm⟩ := h.form
  cases e
  have hnil := h.nil_cap
  obtain ⟨W0, hW0⟩ : ∃ W0, ((w.alloc (.cells #[.int .i64 4, .int .i64 oa, .int .i64 ob, .int .u64 ou] 25)).alloc (.cells #[.int .i64 xe, .int .i64 xn, .int .u64 xv] 28)) = W0 := ⟨_, rfl⟩
  have OB := Lib.hid (show OpBox W0 w.heap.size ⟨4, oa, ob, ou⟩ by rw [← hW0]; exact (OpBox.new w ⟨4, oa, ob, ou⟩ _ _ rfl).kept ((Kept.refl _).alloc _ _))
  have AB := Lib.hid (show AnBox W0 (w.heap.size + 1) ⟨xe, xn, xv⟩ by rw [← hW0]; exact AnBox.new _ ⟨xe, xn, xv⟩ _ _ (by simp))
  have k0 : Kept w W0 := by rw [← hW0]; exact ((Kept.refl w).alloc _ _).alloc _ _
  have CK := Lib.hid (refChk_at (h.kept k0) hn hz)
  have HL := Lib.hid (h.kept k0)
  have K0 := Lib.hid k0
  have HW := Lib.hid hW0
  have HN := Lib.hid hn
  have HP := Lib.hid hp
  have AN := Lib.hid (fun W (k : Kept W0 W) => (refAnswer_p ⟨4, oa, ob, ou⟩ ((h.kept k0).kept k) hn ht).mono fun _ _ hh => hh.unf)
  simp only [Option.getD_none, Option.isSome_none, noAnn] at AN
  have E7 : ∀ W, _ := ann_at ⟨xe, xn, xv⟩ ⟨7, 0, 0⟩ (b := false) h7
  have E12 : ∀ W, _ := ann_at ⟨xe, xn, xv⟩ ⟨12, 0, 0⟩ (b := false) h12
  clear hp hn hnil ht h7 h12
  clear h hW0 k0 hz
  go_enter Try.func12, Try.ntmps12
  go_upto_region 1 with fail
  rw [HW.out]
  go_wp2_with fail; refine CK.out.mono ?_; rintro e w1 ⟨rfl, k1⟩
  have K1 := Lib.hid k1
  clear k1
  obtain ⟨p0, p1, p2, p3⟩ := OB.out.kept K1.out
  obtain ⟨x0, x1, x2, _⟩ := AB.out.kept K1.out
  go_wp2_with fail; refine (AN.out _ K1.out).mono ?_; rintro e w2 ⟨rfl, k2⟩
  obtain ⟨W3, hW3⟩ : ∃ W3, w2.alloc (.cells #[.int .i64 0, .int .i64 0, .int .u64 0] 28) = W3 := ⟨_, rfl⟩
  obtain ⟨B, hB⟩ : ∃ B, w2.heap.size = B := ⟨_, rfl⟩
  have K3 := Lib.hid (show Kept W0 W3 by rw [← hW3]; exact (K1.out.trans k2).alloc _ _)
  have Y3 := Lib.hid (show AnBox W3 B ⟨0, 0, 0⟩ by rw [← hW3]; exact AnBox.new w2 ⟨0, 0, 0⟩ _ _ hB.symm)
  have HW3 := Lib.hid hW3
  have HB := Lib.hid hB
  clear k2 hW3 hB p0 p1 p2 p3 x0 x1 x2
  go_upto_region 6 with fail
  rw [HW3.out, HB.out]
  obtain ⟨p0, p1, p2, p3⟩ := OB.out.kept K3.out
  obtain ⟨x0, x1, x2, _⟩ := AB.out.kept K3.out
  obtain ⟨y0, y1, y2, _⟩ := Y3.out
  go_wp2
  go_ret2
  exact RetN.none HP.out (K0.out.trans K3.out)

set_option maxRecDepth 100000 in
set_option maxHeartbeats 4000000 in
theorem refNext_other4 {w : World} {a : Option Addr} {c n : Nat} {l : List It} {oa ob ou xe xn xv : Int} {p : Option (List It)} (h : Lay w (.slice a n c) n (flatI l)) (hn : n = l.length) {y : Ann} (hz : chk l = 0) (h7 : decide ((⟨xe, xn, xv⟩ : Ann) = ⟨7, 0, 0⟩) = false) (h12 : decide ((⟨xe, xn, xv⟩ : Ann) = ⟨12, 0, 0⟩) = false) (ht : tellS l ⟨4, oa, ob, ou⟩ = some y) (hy : decide ((⟨xe, xn, xv⟩ : Ann) = y) = false) (hp : p = none) :
    Calls Try.prog 12 #[.slice a n c, .agg #[.int .i64 4, .int .i64 oa, .int .i64 ob, .int .u64 ou], .agg #[.int .i64 xe, .int .i64 xn, .int .u64 xv]] w (RetN w p) := by
  obtain ⟨a', c', e, hnc, hcm⟩ := h.form
  cases e
  have hnil := h.nil_cap
  obtain ⟨W0, hW0⟩ : ∃ W0, ((w.alloc (.cells #[.int .i64 4, .int .i64 oa, .int .i64 ob, .int .u64 ou] 25)).alloc (.cells #[.int .i64 xe, .int .i64 xn, .int .u64 xv] 28)) = W0 := ⟨_, rfl⟩
  have OB := Lib.hid (show OpBox W0 w.heap.size ⟨4, oa, ob, ou⟩ by rw [← hW0]; exact (OpBox.new w ⟨4, oa, ob, ou⟩ _ _ rfl).kept ((Kept.refl _).alloc _ _))
  have AB := Lib.hid (show AnBox W0 (w.heap.size + 1) ⟨xe, xn, xv⟩ by rw [← hW0]; exact AnBox.new _ ⟨xe, xn, xv⟩ _ _ (by simp))
  have k0 : Kept w W0 := by rw [← hW0]; exact ((Kept.refl w).alloc _ _).alloc _ _
  have CK := Lib.hid (refChk_at (h.kept k0) hn hz)
  have HL := Lib.hid (h.kept k0)
  have K0 := Lib.hid k0
  have HW := Lib.hid hW0
  have HN := Lib.hid hn
  have HP := Lib.hid hp
  have AN := Lib.hid (fun W (k : Kept W0 W) => (refAnswer_p ⟨4, oa, ob, ou⟩ ((h.kept k0).kept k) hn ht).mono fun _ _ hh => hh.unf)
  simp only [Option.getD_some, Option.isSome_some, noAnn] at AN
  have E7 : ∀ W, _ := ann_at ⟨xe, xn, xv⟩ ⟨7, 0, 0⟩ (b := false) h7
  have E12 : ∀ W, _ := ann_at ⟨xe, xn, xv⟩ ⟨12, 0, 0⟩ (b := false) h12
  have NE : ∀ W, _ := ann_nat ⟨xe, xn, xv⟩ y (b := true) (by rw [hy]; rfl)
  clear hp hn hnil ht hy h7 h12
  clear h hW0 k0 hz
  go_enter Try.func12, Try.ntmps12
  go_upto_region 1 with fail
  rw [HW.out]
  go_wp2_with fail; refine CK.out.mono ?_; rintro e w1 ⟨rfl, k1⟩
  have K1 := Lib.hid k1
  clear k1
  obtain ⟨p0, p1, p2, p3⟩ := OB.out.kept K1.out
  obtain ⟨x0, x1, x2, _⟩ := AB.out.kept K1.out
  go_wp2_with fail; refine (AN.out _ K1.out).mono ?_; rintro e w2 ⟨rfl, k2⟩
  obtain ⟨W3, hW3⟩ : ∃ W3, w2.alloc (.cells #[.int .i64 y.e, .int .i64 y.n, .int .u64 y.v] 28) = W3 := ⟨_, rfl⟩
  obtain ⟨B, hB⟩ : ∃ B, w2.heap.size = B := ⟨_, rfl⟩
  have K3 := Lib.hid (show Kept W0 W3 by rw [← hW3]; exact (K1.out.trans k2).alloc _ _)
  have Y3 := Lib.hid (show AnBox W3 B ⟨y.e, y.n, y.v⟩ by rw [← hW3]; exact AnBox.new w2 ⟨y.e, y.n, y.v⟩ _ _ hB.symm)
  have HW3 := Lib.hid hW3
  have HB := Lib.hid hB
  clear k2 hW3 hB p0 p1 p2 p3 x0 x1 x2
  go_upto_region 6 with fail
  rw [HW3.out, HB.out]
  obtain ⟨p0, p1, p2, p3⟩ := OB.out.kept K3.out
  obtain ⟨x0, x1, x2, _⟩ := AB.out.kept K3.out
  obtain ⟨y0, y1, y2, _⟩ := Y3.out
  go_wp2
  go_ret2
  exact RetN.none HP.out (K0.out.trans K3.out)

set_option maxRecDepth 100000 in
set_option maxHeartbeats 4000000 in
theorem refNext_nok {w : World} {a : Option Addr} {c n : Nat} {l : List It} {ok oa ob ou xe xn xv : Int} {p : Option (List It)} (h : Lay w (.slice a n c) n (flatI l)) (hn : n = l.length) (hz : chk l = 0) (h4 : ok ≠ 4) (ht : tellS l ⟨ok, oa, ob, ou⟩ = none) (hp : p = none) :
    Calls Try.prog 12 #[.slice a n c, .agg #[.int .i64 ok, .int .i64 oa, .int .i64 ob, .int .u64 ou], .agg #[.int .i64 xe, .int .i64 xn, .int .u64 xv]] w (RetN w p) := by
  obtain ⟨a', c', e, hnc, hcm⟩ := h.form
  cases e
  have hnil := h.nil_cap
  obtain ⟨W0, hW0⟩ : ∃ W0, ((w.alloc (.cells #[.int .i64 ok, .int .i64 oa, .int .i64 ob, .int .u64 ou] 25)).alloc (.cells #[.int .i64 xe, .int .i64 xn, .int .u64 xv] 28)) = W0 := ⟨_, rfl⟩
  have OB := Lib.hid (show OpBox W0 w.heap.size ⟨ok, oa, ob, ou⟩ by rw [← hW0]; exact (OpBox.new w ⟨ok, oa, ob, ou⟩ _ _ rfl).kept ((Kept.refl _).alloc _ _))
  have AB := Lib.hid (show AnBox W0 (w.heap.size + 1) ⟨xe, xn, xv⟩ by rw [← hW0]; exact AnBox.new _ ⟨xe, xn, xv⟩ _ _ (by simp))
  have k0 : Kept w W0 := by rw [← hW0]; exact ((Kept.refl w).alloc _ _).alloc _ _
  have CK := Lib.hid (refChk_at (h.kept k0) hn hz)
  have HL := Lib.hid (h.kept k0)
  have K0 := Lib.hid k0
  have HW := Lib.hid hW0
  have HN := Lib.hid hn
  have HP := Lib.hid hp
  have AN := Lib.hid (fun W (k : Kept W0 W) => (refAnswer_p ⟨ok, oa, ob, ou⟩ ((h.kept k0).kept k) hn ht).mono fun _ _ hh => hh.unf)
  simp only [Option.getD_none, Option.isSome_none, noAnn] at AN
  have b4 : (ok == 4) = false := by simpa using h4
  clear hp hn hnil ht h4
  clear h hW0 k0 hz
  go_enter Try.func12, Try.ntmps12
  go_upto_region 1 with fail
  rw [HW.out]
  go_wp2_with fail; refine CK.out.mono ?_; rintro e w1 ⟨rfl, k1⟩
  have K1 := Lib.hid k1
  clear k1
  obtain ⟨p0, p1, p2, p3⟩ := OB.out.kept K1.out
  obtain ⟨x0, x1, x2, _⟩ := AB.out.kept K1.out
  go_wp2_with fail; refine (AN.out _ K1.out).mono ?_; rintro e w2 ⟨rfl, k2⟩
  obtain ⟨W3, hW3⟩ : ∃ W3, w2.alloc (.cells #[.int .i64 0, .int .i64 0, .int .u64 0] 28) = W3 := ⟨_, rfl⟩
  obtain ⟨B, hB⟩ : ∃ B, w2.heap.size = B := ⟨_, rfl⟩
  have K3 := Lib.hid (show Kept W0 W3 by rw [← hW3]; exact (K1.out.trans k2).alloc _ _)
  have Y3 := Lib.hid (show AnBox W3 B ⟨0, 0, 0⟩ by rw [← hW3]; exact AnBox.new w2 ⟨0, 0, 0⟩ _ _ hB.symm)
  have HW3 := Lib.hid hW3
  have HB := Lib.hid hB
  clear k2 hW3 hB p0 p1 p2 p3 x0 x1 x2
  go_upto_region 6 with fail
  rw [HW3.out, HB.out]
  obtain ⟨p0, p1, p2, p3⟩ := OB.out.kept K3.out
  obtain ⟨x0, x1, x2, _⟩ := AB.out.kept K3.out
  obtain ⟨y0, y1, y2, _⟩ := Y3.out
  go_wp2
  go_ret2
  exact RetN.none HP.out (K0.out.trans K3.out)

set_option maxRecDepth 100000 in
set_option maxHeartbeats 4000000 in
theorem refNext_otherk {w : World} {a : Option Addr} {c n : Nat} {l : List It} {ok oa ob ou xe xn xv : Int} {p : Option (List It)} (h : Lay w (.slice a n c) n (flatI l)) (hn : n = l.length) {y : Ann} (hz : chk l = 0) (h4 : ok ≠ 4) (ht : tellS l ⟨ok, oa, ob, ou⟩ = some y) (hy : decide ((⟨xe, xn, xv⟩ : Ann) = y) = false) (hp : p = none) :
    Calls Try.prog 12 #[.slice a n c, .agg #[.int .i64 ok, .int .i64 oa, .int .i64 ob, .int .u64 ou], .agg #[.int .i64 xe, .int .i64 xn, .int .u64 xv]] w (RetN w p) := by
  obtain ⟨a', c', e, hnc, hcm⟩ := h.form
  cases e
  have hnil := h.nil_cap
  obtain ⟨W0, hW0⟩ : ∃ W0, ((w.alloc (.cells #[.int .i64 ok, .int .i64 oa, .int .i64 ob, .int .u64 ou] 25)).alloc (.cells #[.int .i64 xe, .int .i64 xn, .int .u64 xv] 28)) = W0 := ⟨_, rfl⟩
  have OB := Lib.hid (show OpBox W0 w.heap.size ⟨ok, oa, ob, ou⟩ by rw [← hW0]; exact (OpBox.new w ⟨ok, oa, ob, ou⟩ _ _ rfl).kept ((Kept.refl _).alloc _ _))
  have AB := Lib.hid (show AnBox W0 (w.heap.size + 1) ⟨xe, xn, xv⟩ by rw [← hW0]; exact AnBox.new _ ⟨xe, xn, xv⟩ _ _ (by simp))
  have k0 : Kept w W0 := by rw [← hW0]; exact ((Kept.refl w).alloc _ _).alloc _ _
  have CK := Lib.hid (refChk_at (h.kept k0) hn hz)
  have HL := Lib.hid (h.kept k0)
  have K0 := Lib.hid k0
  have HW := Lib.hid hW0
  have HN := Lib.hid hn
  have HP := Lib.hid hp
  have AN := Lib.hid (fun W (k : Kept W0 W) => (refAnswer_p ⟨ok, oa, ob, ou⟩ ((h.kept k0).kept k) hn ht).mono fun _ _ hh => hh.unf)
  simp only [Option.getD_some, Option.isSome_some, noAnn] at AN
  have b4 : (ok == 4) = false := by simpa using h4
  have NE : ∀ W, _ := ann_nat ⟨xe, xn, xv⟩ y (b := true) (by rw [hy]; rfl)
  clear hp hn hnil ht hy h4
  clear h hW0 k0 hz
  go_enter Try.func12, Try.ntmps12
  go_upto_region 1 with fail
  rw [HW.out]
  go_wp2_with fail; refine CK.out.mono ?_; rintro e w1 ⟨rfl, k1⟩
  have K1 := Lib.hid k1
  clear k1
  obtain ⟨p0, p1, p2, p3⟩ := OB.out.kept K1.out
  obtain ⟨x0, x1, x2, _⟩ := AB.out.kept K1.out
  go_wp2_with fail; refine (AN.out _ K1.out).mono ?_; rintro e w2 ⟨rfl, k2⟩
  obtain ⟨W3, hW3⟩ : ∃ W3, w2.alloc (.cells #[.int .i64 y.e, .int .i64 y.n, .int .u64 y.v] 28) = W3 := ⟨_, rfl⟩
  obtain ⟨B, hB⟩ : ∃ B, w2.heap.size = B := ⟨_, rfl⟩
  have K3 := Lib.hid (show Kept W0 W3 by rw [← hW3]; exact (K1.out.trans k2).alloc _ _)
  have Y3 := Lib.hid (show AnBox W3 B ⟨y.e, y.n, y.v⟩ by rw [← hW3]; exact AnBox.new w2 ⟨y.e, y.n, y.v⟩ _ _ hB.symm)
  have HW3 := Lib.hid hW3
  have HB := Lib.hid hB
  clear k2 hW3 hB p0 p1 p2 p3 x0 x1 x2
  go_upto_region 6 with fail
  rw [HW3.out, HB.out]
  obtain ⟨p0, p1, p2, p3⟩ := OB.out.kept K3.out
  obtain ⟨x0, x1, x2, _⟩ := AB.out.kept K3.out
  obtain ⟨y0, y1, y2, _⟩ := Y3.out
  go_wp2
  go_ret2
  exact RetN.none HP.out (K0.out.trans K3.out)

set_option maxRecDepth 100000 in
set_option maxHeartbeats 4000000 in
theorem refNext_double {w : World} {a : Option Addr} {c n : Nat} {l : List It} {oa ob ou : Int} {p : Option (List It)} (h : Lay w (.slice a n c) n (flatI l)) (hn : n = l.length) (hz : chk l = 0) (ht : tellS l ⟨4, oa, ob, ou⟩ = some ⟨8, 0, 0⟩) (hp : p = some (l)) :
    Calls Try.prog 12 #[.slice a n c, .agg #[.int .i64 4, .int .i64 oa, .int .i64 ob, .int .u64 ou], .agg #[.int .i64 8, .int .i64 0, .int .u64 0]] w (RetN w p) := by
  obtain ⟨a', c', e, hnc, hcm⟩ := h.form
  cases e
  have hnil := h.nil_cap
  obtain ⟨W0, hW0⟩ : ∃ W0, ((w.alloc (.cells #[.int .i64 4, .int .i64 oa, .int .i64 ob, .int .u64 ou] 25)).alloc (.cells #[.int .i64 8, .int .i64 0, .int .u64 0] 28)) = W0 := ⟨_, rfl⟩
  have OB := Lib.hid (show OpBox W0 w.heap.size ⟨4, oa, ob, ou⟩ by rw [← hW0]; exact (OpBox.new w ⟨4, oa, ob, ou⟩ _ _ rfl).kept ((Kept.refl _).alloc _ _))
  have AB := Lib.hid (show AnBox W0 (w.heap.size + 1) ⟨8, 0, 0⟩ by rw [← hW0]; exact AnBox.new _ ⟨8, 0, 0⟩ _ _ (by simp))
  have k0 : Kept w W0 := by rw [← hW0]; exact ((Kept.refl w).alloc _ _).alloc _ _
  have CK := Lib.hid (refChk_at (h.kept k0) hn hz)
  have HL := Lib.hid (h.kept k0)
  have K0 := Lib.hid k0
  have HW := Lib.hid hW0
  have HN := Lib.hid hn
  have HP := Lib.hid hp
  have AN := Lib.hid (fun W (k : Kept W0 W) => (refAnswer_p ⟨4, oa, ob, ou⟩ ((h.kept k0).kept k) hn ht).mono fun _ _ hh => hh.unf)
  simp only [Option.getD_some, Option.isSome_some, noAnn] at AN
  have E7 : ∀ W, _ := ann_at ⟨8, 0, 0⟩ ⟨7, 0, 0⟩ (b := false) (by decide)
  have E12 : ∀ W, _ := ann_at ⟨8, 0, 0⟩ ⟨12, 0, 0⟩ (b := false) (by decide)
  have NE : ∀ W, _ := ann_nat ⟨8, 0, 0⟩ ⟨8, 0, 0⟩ (b := false) (by simp)
  have CI := Lib.hid (fun W (k : Kept W0 W) => copy_n ((h.kept k0).kept k) hn (by have := (chk_zero hz).1; omega))
  clear hp hn hnil ht
  clear h hW0 k0 hz
  go_enter Try.func12, Try.ntmps12
  go_upto_region 1 with fail
  rw [HW.out]
  go_wp2_with fail; refine CK.out.mono ?_; rintro e w1 ⟨rfl, k1⟩
  have K1 := Lib.hid k1
  clear k1
  obtain ⟨p0, p1, p2, p3⟩ := OB.out.kept K1.out
  obtain ⟨x0, x1, x2, _⟩ := AB.out.kept K1.out
  go_wp2_with fail; refine (AN.out _ K1.out).mono ?_; rintro e w2 ⟨rfl, k2⟩
  obtain ⟨W3, hW3⟩ : ∃ W3, w2.alloc (.cells #[.int .i64 8, .int .i64 0, .int .u64 0] 28) = W3 := ⟨_, rfl⟩
  obtain ⟨B, hB⟩ : ∃ B, w2.heap.size = B := ⟨_, rfl⟩
  have K3 := Lib.hid (show Kept W0 W3 by rw [← hW3]; exact (K1.out.trans k2).alloc _ _)
  have Y3 := Lib.hid (show AnBox W3 B ⟨8, 0, 0⟩ by rw [← hW3]; exact AnBox.new w2 ⟨8, 0, 0⟩ _ _ hB.symm)
  have HW3 := Lib.hid hW3
  have HB := Lib.hid hB
  clear k2 hW3 hB p0 p1 p2 p3 x0 x1 x2
  go_upto_region 6 with fail
  rw [HW3.out, HB.out]
  obtain ⟨p0, p1, p2, p3⟩ := OB.out.kept K3.out
  obtain ⟨x0, x1, x2, _⟩ := AB.out.kept K3.out
  obtain ⟨y0, y1, y2, _⟩ := Y3.out
  go_wp2_with fail; refine (CI.out _ K3.out).mono ?_; rintro e w4 ⟨a4, c4, rfl, k4, own4⟩
  go_wp2
  go_ret2
  exact RetN.some HP.out HN.out (K0.out.trans K3.out) k4 own4

set_option maxRecDepth 100000 in
set_option maxHeartbeats 4000000 in
theorem refNext_put {w : World} {a : Option Addr} {c n : Nat} {l : List It} {oa ob ou : Int} {p : Option (List It)} (h : Lay w (.slice a n c) n (flatI l)) (hn : n = l.length) (hz : chk l = 0) (ht : tellS l ⟨4, oa, ob, ou⟩ = some ⟨0, 0, 0⟩) (hp : p = some (ins ⟨ou, oa⟩ l)) :
    Calls Try.prog 12 #[.slice a n c, .agg #[.int .i64 4, .int .i64 oa, .int .i64 ob, .int .u64 ou], .agg #[.int .i64 0, .int .i64 0, .int .u64 0]] w (RetN w p) := by
  obtain ⟨a', c', e, hnc, hcm⟩ := h.form
  cases e
  have hnil := h.nil_cap
  obtain ⟨W0, hW0⟩ : ∃ W0, ((w.alloc (.cells #[.int .i64 4, .int .i64 oa, .int .i64 ob, .int .u64 ou] 25)).alloc (.cells #[.int .i64 0, .int .i64 0, .int .u64 0] 28)) = W0 := ⟨_, rfl⟩
  have OB := Lib.hid (show OpBox W0 w.heap.size ⟨4, oa, ob, ou⟩ by rw [← hW0]; exact (OpBox.new w ⟨4, oa, ob, ou⟩ _ _ rfl).kept ((Kept.refl _).alloc _ _))
  have AB := Lib.hid (show AnBox W0 (w.heap.size + 1) ⟨0, 0, 0⟩ by rw [← hW0]; exact AnBox.new _ ⟨0, 0, 0⟩ _ _ (by simp))
  have k0 : Kept w W0 := by rw [← hW0]; exact ((Kept.refl w).alloc _ _).alloc _ _
  have CK := Lib.hid (refChk_at (h.kept k0) hn hz)
  have HL := Lib.hid (h.kept k0)
  have K0 := Lib.hid k0
  have HW := Lib.hid hW0
  have HN := Lib.hid hn
  have HP := Lib.hid hp
  have AN := Lib.hid (fun W (k : Kept W0 W) => (refAnswer_p ⟨4, oa, ob, ou⟩ ((h.kept k0).kept k) hn ht).mono fun _ _ hh => hh.unf)
  simp only [Option.getD_some, Option.isSome_some, noAnn] at AN
  have E7 : ∀ W, _ := ann_at ⟨0, 0, 0⟩ ⟨7, 0, 0⟩ (b := false) (by decide)
  have E12 : ∀ W, _ := ann_at ⟨0, 0, 0⟩ ⟨12, 0, 0⟩ (b := false) (by decide)
  have NE : ∀ W, _ := ann_nat ⟨0, 0, 0⟩ ⟨0, 0, 0⟩ (b := false) (by simp)
  have WI := Lib.hid (fun W (k : Kept W0 W) => refWith_any (x := ⟨ou, oa⟩) ((h.kept k0).kept k) hn (by have := (chk_zero hz).1; omega))
  have HI := Lib.hid (show n + 1 = (ins ⟨ou, oa⟩ l).length by rw [ins_length, hn])
  clear hp hn hnil ht
  clear h hW0 k0 hz
  go_enter Try.func12, Try.ntmps12
  go_upto_region 1 with fail
  rw [HW.out]
  go_wp2_with fail; refine CK.out.mono ?_; rintro e w1 ⟨rfl, k1⟩
  have K1 := Lib.hid k1
  clear k1
  obtain ⟨p0, p1, p2, p3⟩ := OB.out.kept K1.out
  obtain ⟨x0, x1, x2, _⟩ := AB.out.kept K1.out
  go_wp2_with fail; refine (AN.out _ K1.out).mono ?_; rintro e w2 ⟨rfl, k2⟩
  obtain ⟨W3, hW3⟩ : ∃ W3, w2.alloc (.cells #[.int .i64 0, .int .i64 0, .int .u64 0] 28) = W3 := ⟨_, rfl⟩
  obtain ⟨B, hB⟩ : ∃ B, w2.heap.size = B := ⟨_, rfl⟩
  have K3 := Lib.hid (show Kept W0 W3 by rw [← hW3]; exact (K1.out.trans k2).alloc _ _)
  have Y3 := Lib.hid (show AnBox W3 B ⟨0, 0, 0⟩ by rw [← hW3]; exact AnBox.new w2 ⟨0, 0, 0⟩ _ _ hB.symm)
  have HW3 := Lib.hid hW3
  have HB := Lib.hid hB
  clear k2 hW3 hB p0 p1 p2 p3 x0 x1 x2
  go_upto_region 6 with fail
  rw [HW3.out, HB.out]
  obtain ⟨p0, p1, p2, p3⟩ := OB.out.kept K3.out
  obtain ⟨x0, x1, x2, _⟩ := AB.out.kept K3.out
  obtain ⟨y0, y1, y2, _⟩ := Y3.out
  go_wp2_with fail; refine (WI.out _ K3.out).mono ?_; rintro e w4 ⟨a4, c4, rfl, k4, own4⟩
  go_wp2
  go_ret2
  exact RetN.some HP.out HI.out (K0.out.trans K3.out) k4 own4

set_option maxRecDepth 100000 in
set_option maxHeartbeats 4000000 in
theorem refNext_look0 {w : World} {a : Option Addr} {c n : Nat} {l : List It} {oa ob ou : Int} {p : Option (List It)} (h : Lay w (.slice a n c) n (flatI l)) (hn : n = l.length) (hz : chk l = 0) (ht : tellS l ⟨6, oa, ob, ou⟩ = some ⟨15, 0, 0⟩) (hp : p = some (l)) :
    Calls Try.prog 12 #[.slice a n c, .agg #[.int .i64 6, .int .i64 oa, .int .i64 ob, .int .u64 ou], .agg #[.int .i64 15, .int .i64 0, .int .u64 0]] w (RetN w p) := by
  obtain ⟨a', c', e, hnc, hcm⟩ := h.form
  cases e
  have hnil := h.nil_cap
  obtain ⟨W0, hW0⟩ : ∃ W0, ((w.alloc (.cells #[.int .i64 6, .int .i64 oa, .int .i64 ob, .int .u64 ou] 25)).alloc (.cells #[.int .i64 15, .int .i64 0, .int .u64 0] 28)) = W0 := ⟨_, rfl⟩
  have OB := Lib.hid (show OpBox W0 w.heap.size ⟨6, oa, ob, ou⟩ by rw [← hW0]; exact (OpBox.new w ⟨6, oa, ob, ou⟩ _ _ rfl).kept ((Kept.refl _).alloc _ _))
  have AB := Lib.hid (show AnBox W0 (w.heap.size + 1) ⟨15, 0, 0⟩ by rw [← hW0]; exact AnBox.new _ ⟨15, 0, 0⟩ _ _ (by simp))
  have k0 : Kept w W0 := by rw [← hW0]; exact ((Kept.refl w).alloc _ _).alloc _ _
  have CK := Lib.hid (refChk_at (h.kept k0) hn hz)
  have HL := Lib.hid (h.kept k0)
  have K0 := Lib.hid k0
  have HW := Lib.hid hW0
  have HN := Lib.hid hn
  have HP := Lib.hid hp
  have AN := Lib.hid (fun W (k : Kept W0 W) => (refAnswer_p ⟨6, oa, ob, ou⟩ ((h.kept k0).kept k) hn ht).mono fun _ _ hh => hh.unf)
  simp only [Option.getD_some, Option.isSome_some, noAnn] at AN
  have NE : ∀ W, _ := ann_nat ⟨15, 0, 0⟩ ⟨15, 0, 0⟩ (b := false) (by simp)
  have CI := Lib.hid (fun W (k : Kept W0 W) => copy_n ((h.kept k0).kept k) hn (by have := (chk_zero hz).1; omega))
  clear hp hn hnil ht
  clear h hW0 k0 hz
  go_enter Try.func12, Try.ntmps12
  go_upto_region 1 with fail
  rw [HW.out]
  go_wp2_with fail; refine CK.out.mono ?_; rintro e w1 ⟨rfl, k1⟩
  have K1 := Lib.hid k1
  clear k1
  obtain ⟨p0, p1, p2, p3⟩ := OB.out.kept K1.out
  obtain ⟨x0, x1, x2, _⟩ := AB.out.kept K1.out
  go_wp2_with fail; refine (AN.out _ K1.out).mono ?_; rintro e w2 ⟨rfl, k2⟩
  obtain ⟨W3, hW3⟩ : ∃ W3, w2.alloc (.cells #[.int .i64 15, .int .i64 0, .int .u64 0] 28) = W3 := ⟨_, rfl⟩
  obtain ⟨B, hB⟩ : ∃ B, w2.heap.size = B := ⟨_, rfl⟩
  have K3 := Lib.hid (show Kept W0 W3 by rw [← hW3]; exact (K1.out.trans k2).alloc _ _)
  have Y3 := Lib.hid (show AnBox W3 B ⟨15, 0, 0⟩ by rw [← hW3]; exact AnBox.new w2 ⟨15, 0, 0⟩ _ _ hB.symm)
  have HW3 := Lib.hid hW3
  have HB := Lib.hid hB
  clear k2 hW3 hB p0 p1 p2 p3 x0 x1 x2
  go_upto_region 6 with fail
  rw [HW3.out, HB.out]
  obtain ⟨p0, p1, p2, p3⟩ := OB.out.kept K3.out
  obtain ⟨x0, x1, x2, _⟩ := AB.out.kept K3.out
  obtain ⟨y0, y1, y2, _⟩ := Y3.out
  go_wp2_with fail; refine (CI.out _ K3.out).mono ?_; rintro e w4 ⟨a4, c4, rfl, k4, own4⟩
  go_wp2
  go_ret2
  exact RetN.some HP.out HN.out (K0.out.trans K3.out) k4 own4

set_option maxRecDepth 100000 in
set_option maxHeartbeats 4000000 in
theorem refNext_pick0 {w : World} {a : Option Addr} {c n : Nat} {l : List It} {oa ob ou : Int} {p : Option (List It)} (h : Lay w (.slice a n c) n (flatI l)) (hn : n = l.length) (hz : chk l = 0) (ht : tellS l ⟨5, oa, ob, ou⟩ = some ⟨15, 0, 0⟩) (hp : p = some (l)) :
    Calls Try.prog 12 #[.slice a n c, .agg #[.int .i64 5, .int .i64 oa, .int .i64 ob, .int .u64 ou], .agg #[.int .i64 15, .int .i64 0, .int .u64 0]] w (RetN w p) := by
  obtain ⟨a', c', e, hnc, hcm⟩ := h.form
  cases e
  have hnil := h.nil_cap
  obtain ⟨W0, hW0⟩ : ∃ W0, ((w.alloc (.cells #[.int .i64 5, .int .i64 oa, .int .i64 ob, .int .u64 ou] 25)).alloc (.cells #[.int .i64 15, .int .i64 0, .int .u64 0] 28)) = W0 := ⟨_, rfl⟩
  have OB := Lib.hid (show OpBox W0 w.heap.size ⟨5, oa, ob, ou⟩ by rw [← hW0]; exact (OpBox.new w ⟨5, oa, ob, ou⟩ _ _ rfl).kept ((Kept.refl _).alloc _ _))
  have AB := Lib.hid (show AnBox W0 (w.heap.size + 1) ⟨15, 0, 0⟩ by rw [← hW0]; exact AnBox.new _ ⟨15, 0, 0⟩ _ _ (by simp))
  have k0 : Kept w W0 := by rw [← hW0]; exact ((Kept.refl w).alloc _ _).alloc _ _
  have CK := Lib.hid (refChk_at (h.kept k0) hn hz)
  have HL := Lib.hid (h.kept k0)
  have K0 := Lib.hid k0
  have HW := Lib.hid hW0
  have HN := Lib.hid hn
  have HP := Lib.hid hp
  have AN := Lib.hid (fun W (k : Kept W0 W) => (refAnswer_p ⟨5, oa, ob, ou⟩ ((h.kept k0).kept k) hn ht).mono fun _ _ hh => hh.unf)
  simp only [Option.getD_some, Option.isSome_some, noAnn] at AN
  have NE : ∀ W, _ := ann_nat ⟨15, 0, 0⟩ ⟨15, 0, 0⟩ (b := false) (by simp)
  have CI := Lib.hid (fun W (k : Kept W0 W) => copy_n ((h.kept k0).kept k) hn (by have := (chk_zero hz).1; omega))
  clear hp hn hnil ht
  clear h hW0 k0 hz
  go_enter Try.func12, Try.ntmps12
  go_upto_region 1 with fail
  rw [HW.out]
  go_wp2_with fail; refine CK.out.mono ?_; rintro e w1 ⟨rfl, k1⟩
  have K1 := Lib.hid k1
  clear k1
  obtain ⟨p0, p1, p2, p3⟩ := OB.out.kept K1.out
  obtain ⟨x0, x1, x2, _⟩ := AB.out.kept K1.out
  go_wp2_with fail; refine (AN.out _ K1.out).mono ?_; rintro e w2 ⟨rfl, k2⟩
  obtain ⟨W3, hW3⟩ : ∃ W3, w2.alloc (.cells #[.int .i64 15, .int .i64 0, .int .u64 0] 28) = W3 := ⟨_, rfl⟩
  obtain ⟨B, hB⟩ : ∃ B, w2.heap.size = B := ⟨_, rfl⟩
  have K3 := Lib.hid (show Kept W0 W3 by rw [← hW3]; exact (K1.out.trans k2).alloc _ _)
  have Y3 := Lib.hid (show AnBox W3 B ⟨15, 0, 0⟩ by rw [← hW3]; exact AnBox.new w2 ⟨15, 0, 0⟩ _ _ hB.symm)
  have HW3 := Lib.hid hW3
  have HB := Lib.hid hB
  clear k2 hW3 hB p0 p1 p2 p3 x0 x1 x2
  go_upto_region 6 with fail
  rw [HW3.out, HB.out]
  obtain ⟨p0, p1, p2, p3⟩ := OB.out.kept K3.out
  obtain ⟨x0, x1, x2, _⟩ := AB.out.kept K3.out
  obtain ⟨y0, y1, y2, _⟩ := Y3.out
  go_wp2_with fail; refine (CI.out _ K3.out).mono ?_; rintro e w4 ⟨a4, c4, rfl, k4, own4⟩
  go_wp2
  go_ret2
  exact RetN.some HP.out HN.out (K0.out.trans K3.out) k4 own4

set_option maxRecDepth 100000 in
set_option maxHeartbeats 4000000 in
theorem refNext_look {w : World} {a : Option Addr} {c n : Nat} {l : List It} {oa ob ou xn xv : Int} {p : Option (List It)} (h : Lay w (.slice a n c) n (flatI l)) (hn : n = l.length) (hz : chk l = 0) (ht : tellS l ⟨6, oa, ob, ou⟩ = some ⟨0, xn, xv⟩) (hp : p = some (l)) :
    Calls Try.prog 12 #[.slice a n c, .agg #[.int .i64 6, .int .i64 oa, .int .i64 ob, .int .u64 ou], .agg #[.int .i64 0, .int .i64 xn, .int .u64 xv]] w (RetN w p) := by
  obtain ⟨a', c', e, hnc, hcm⟩ := h.form
  cases e
  have hnil := h.nil_cap
  obtain ⟨W0, hW0⟩ : ∃ W0, ((w.alloc (.cells #[.int .i64 6, .int .i64 oa, .int .i64 ob, .int .u64 ou] 25)).alloc (.cells #[.int .i64 0, .int .i64 xn, .int .u64 xv] 28)) = W0 := ⟨_, rfl⟩
  have OB := Lib.hid (show OpBox W0 w.heap.size ⟨6, oa, ob, ou⟩ by rw [← hW0]; exact (OpBox.new w ⟨6, oa, ob, ou⟩ _ _ rfl).kept ((Kept.refl _).alloc _ _))
  have AB := Lib.hid (show AnBox W0 (w.heap.size + 1) ⟨0, xn, xv⟩ by rw [← hW0]; exact AnBox.new _ ⟨0, xn, xv⟩ _ _ (by simp))
  have k0 : Kept w W0 := by rw [← hW0]; exact ((Kept.refl w).alloc _ _).alloc _ _
  have CK := Lib.hid (refChk_at (h.kept k0) hn hz)
  have HL := Lib.hid (h.kept k0)
  have K0 := Lib.hid k0
  have HW := Lib.hid hW0
  have HN := Lib.hid hn
  have HP := Lib.hid hp
  have AN := Lib.hid (fun W (k : Kept W0 W) => (refAnswer_p ⟨6, oa, ob, ou⟩ ((h.kept k0).kept k) hn ht).mono fun _ _ hh => hh.unf)
  simp only [Option.getD_some, Option.isSome_some, noAnn] at AN
  have NE : ∀ W, _ := ann_nat ⟨0, xn, xv⟩ ⟨0, xn, xv⟩ (b := false) (by simp)
  have CI := Lib.hid (fun W (k : Kept W0 W) => copy_n ((h.kept k0).kept k) hn (by have := (chk_zero hz).1; omega))
  clear hp hn hnil ht
  clear h hW0 k0 hz
  go_enter Try.func12, Try.ntmps12
  go_upto_region 1 with fail
  rw [HW.out]
  go_wp2_with fail; refine CK.out.mono ?_; rintro e w1 ⟨rfl, k1⟩
  have K1 := Lib.hid k1
  clear k1
  obtain ⟨p0, p1, p2, p3⟩ := OB.out.kept K1.out
  obtain ⟨x0, x1, x2, _⟩ := AB.out.kept K1.out
  go_wp2_with fail; refine (AN.out _ K1.out).mono ?_; rintro e w2 ⟨rfl, k2⟩
  obtain ⟨W3, hW3⟩ : ∃ W3, w2.alloc (.cells #[.int .i64 0, .int .i64 xn, .int .u64 xv] 28) = W3 := ⟨_, rfl⟩
  obtain ⟨B, hB⟩ : ∃ B, w2.heap.size = B := ⟨_, rfl⟩
  have K3 := Lib.hid (show Kept W0 W3 by rw [← hW3]; exact (K1.out.trans k2).alloc _ _)
  have Y3 := Lib.hid (show AnBox W3 B ⟨0, xn, xv⟩ by rw [← hW3]; exact AnBox.new w2 ⟨0, xn, xv⟩ _ _ hB.symm)
  have HW3 := Lib.hid hW3
  have HB := Lib.hid hB
  clear k2 hW3 hB p0 p1 p2 p3 x0 x1 x2
  go_upto_region 6 with fail
  rw [HW3.out, HB.out]
  obtain ⟨p0, p1, p2, p3⟩ := OB.out.kept K3.out
  obtain ⟨x0, x1, x2, _⟩ := AB.out.kept K3.out
  obtain ⟨y0, y1, y2, _⟩ := Y3.out
  go_wp2_with fail; refine (CI.out _ K3.out).mono ?_; rintro e w4 ⟨a4, c4, rfl, k4, own4⟩
  go_wp2
  go_ret2
  exact RetN.some HP.out HN.out (K0.out.trans K3.out) k4 own4

set_option maxRecDepth 100000 in
set_option maxHeartbeats 4000000 in
theorem refNext_pick {w : World} {a : Option Addr} {c n : Nat} {l : List It} {oa ob ou xn xv : Int} {p : Option (List It)} (h : Lay w (.slice a n c) n (flatI l)) (hn : n = l.length) (hz : chk l = 0) (hne : l ≠ []) (ht : tellS l ⟨5, oa, ob, ou⟩ = some ⟨0, xn, xv⟩) (hp : p = some (l.drop 1)) :
    Calls Try.prog 12 #[.slice a n c, .agg #[.int .i64 5, .int .i64 oa, .int .i64 ob, .int .u64 ou], .agg #[.int .i64 0, .int .i64 xn, .int .u64 xv]] w (RetN w p) := by
  obtain ⟨a', c', e, hnc, hcm⟩ := h.form
  cases e
  have hnil := h.nil_cap
  obtain ⟨W0, hW0⟩ : ∃ W0, ((w.alloc (.cells #[.int .i64 5, .int .i64 oa, .int .i64 ob, .int .u64 ou] 25)).alloc (.cells #[.int .i64 0, .int .i64 xn, .int .u64 xv] 28)) = W0 := ⟨_, rfl⟩
  have OB := Lib.hid (show OpBox W0 w.heap.size ⟨5, oa, ob, ou⟩ by rw [← hW0]; exact (OpBox.new w ⟨5, oa, ob, ou⟩ _ _ rfl).kept ((Kept.refl _).alloc _ _))
  have AB := Lib.hid (show AnBox W0 (w.heap.size + 1) ⟨0, xn, xv⟩ by rw [← hW0]; exact AnBox.new _ ⟨0, xn, xv⟩ _ _ (by simp))
  have k0 : Kept w W0 := by rw [← hW0]; exact ((Kept.refl w).alloc _ _).alloc _ _
  have CK := Lib.hid (refChk_at (h.kept k0) hn hz)
  have HL := Lib.hid (h.kept k0)
  have K0 := Lib.hid k0
  have HW := Lib.hid hW0
  have HN := Lib.hid hn
  have HP := Lib.hid hp
  have AN := Lib.hid (fun W (k : Kept W0 W) => (refAnswer_p ⟨5, oa, ob, ou⟩ ((h.kept k0).kept k) hn ht).mono fun _ _ hh => hh.unf)
  simp only [Option.getD_some, Option.isSome_some, noAnn] at AN
  have NE : ∀ W, _ := ann_nat ⟨0, xn, xv⟩ ⟨0, xn, xv⟩ (b := false) (by simp)
  have h1 : 1 ≤ n := by rw [hn]; exact List.length_pos_iff.2 hne
  have s1 : ∀ W, (Instr.slice 22 (.slice a n c) (some (.int .i64 1)) none none).run Try.prog W = .ok (.slice (if c = 1 then a else a.map (·.add (1 * 2))) (n - 1) (c - 1)) W := run_tail a n c 1 h1
  obtain ⟨A2, hA2⟩ : ∃ A2, (if c = 1 then a else a.map (·.add (1 * 2))) = A2 := ⟨_, rfl⟩
  rw [hA2] at s1
  have CI := Lib.hid (fun W (k : Kept W0 W) => copy_n (l := l.drop 1) (n := n - 1) ((show Lay W0 (.slice A2 (n - 1) (c - 1)) (n - 1) (flatI (l.drop 1)) by rw [← hA2]; exact (h.kept k0).tail hn h1 hnc hcm hnil).kept k) (by rw [List.length_drop, ← hn]) (by have := (chk_zero hz).1; omega))
  have HI := Lib.hid (show n - 1 = (l.drop 1).length by rw [List.length_drop, ← hn])
  clear hA2 hne
  clear hp hn hnil ht
  clear h hW0 k0 hz
  go_enter Try.func12, Try.ntmps12
  go_upto_region 1 with fail
  rw [HW.out]
  go_wp2_with fail; refine CK.out.mono ?_; rintro e w1 ⟨rfl, k1⟩
  have K1 := Lib.hid k1
  clear k1
  obtain ⟨p0, p1, p2, p3⟩ := OB.out.kept K1.out
  obtain ⟨x0, x1, x2, _⟩ := AB.out.kept K1.out
  go_wp2_with fail; refine (AN.out _ K1.out).mono ?_; rintro e w2 ⟨rfl, k2⟩
  obtain ⟨W3, hW3⟩ : ∃ W3, w2.alloc (.cells #[.int .i64 0, .int .i64 xn, .int .u64 xv] 28) = W3 := ⟨_, rfl⟩
  obtain ⟨B, hB⟩ : ∃ B, w2.heap.size = B := ⟨_, rfl⟩
  have K3 := Lib.hid (show Kept W0 W3 by rw [← hW3]; exact (K1.out.trans k2).alloc _ _)
  have Y3 := Lib.hid (show AnBox W3 B ⟨0, xn, xv⟩ by rw [← hW3]; exact AnBox.new w2 ⟨0, xn, xv⟩ _ _ hB.symm)
  have HW3 := Lib.hid hW3
  have HB := Lib.hid hB
  clear k2 hW3 hB p0 p1 p2 p3 x0 x1 x2
  go_upto_region 6 with fail
  rw [HW3.out, HB.out]
  obtain ⟨p0, p1, p2, p3⟩ := OB.out.kept K3.out
  obtain ⟨x0, x1, x2, _⟩ := AB.out.kept K3.out
  obtain ⟨y0, y1, y2, _⟩ := Y3.out
  go_wp2_with fail; refine (CI.out _ K3.out).mono ?_; rintro e w4 ⟨a4, c4, rfl, k4, own4⟩
  go_wp2
  go_ret2
  exact RetN.some HP.out HI.out (K0.out.trans K3.out) k4 own4

theorem refNext_any {w : World} {a : Option Addr} {c n : Nat} {l : List It} (o : Opn) (x : Ann) (h : Lay w (.slice a n c) n (flatI l)) (hn : n = l.length) :
    Calls Try.prog 12 #[.slice a n c, .agg #[.int .i64 o.k, .int .i64 o.a, .int .i64 o.b, .int .u64 o.u], .agg #[.int .i64 x.e, .int .i64 x.n, .int .u64 x.v]] w (RetN w (nextS l o x)) := by
  obtain ⟨ok, oa, ob, ou⟩ := o
  obtain ⟨xe, xn, xv⟩ := x
  by_cases hz : chk l = 0
  · by_cases h4 : ok = 4
    · subst h4
      by_cases h7 : (⟨xe, xn, xv⟩ : Ann) = ⟨7, 0, 0⟩
      · have hp := next_refd (o := ⟨4, oa, ob, ou⟩) hz rfl (.inl h7)
        injection h7 with h1 h2 h3
        subst h1 h2 h3
        exact refNext_refused7 h hn hz hp
      by_cases h12 : (⟨xe, xn, xv⟩ : Ann) = ⟨12, 0, 0⟩
      · have hp := next_refd (o := ⟨4, oa, ob, ou⟩) hz rfl (.inr h12)
        injection h12 with h1 h2 h3
        subst h1 h2 h3
        exact refNext_refused12 h hn hz hp
      have hr : ¬ ((⟨4, oa, ob, ou⟩ : Opn).k = 4 ∧ ((⟨xe, xn, xv⟩ : Ann) = ⟨7, 0, 0⟩ ∨ (⟨xe, xn, xv⟩ : Ann) = ⟨12, 0, 0⟩)) := fun hh => hh.2.elim h7 h12
      by_cases ht : tellS l ⟨4, oa, ob, ou⟩ = some ⟨xe, xn, xv⟩
      · have ht' := tell_put (o := ⟨4, oa, ob, ou⟩) hz rfl
        rw [ht] at ht'
        cases hd : hs ou l with
        | true =>
          rw [if_pos hd] at ht'
          injection ht' with ht'
          injection ht' with h1 h2 h3
          subst h1 h2 h3
          exact refNext_double h hn hz ht (next_double hz rfl hd)
        | false =>
          rw [if_neg (by simp [hd])] at ht'
          by_cases hro : l.length < 1024
          · rw [if_pos hro] at ht'
            injection ht' with ht'
            injection ht' with h1 h2 h3
            subst h1 h2 h3
            exact refNext_put h hn hz ht (next_put hz rfl hd hro)
          · rw [if_neg hro] at ht'
            cases ht'
      · have hp := next_tell hr ht
        cases hy : tellS l ⟨4, oa, ob, ou⟩ with
        | none => exact refNext_no4 h hn hz (decide_eq_false h7) (decide_eq_false h12) hy hp
        | some y => exact refNext_other4 h hn hz (decide_eq_false h7) (decide_eq_false h12) hy (decide_eq_false fun e => ht (by rw [hy, e])) hp
    · have hr : ¬ ((⟨ok, oa, ob, ou⟩ : Opn).k = 4 ∧ ((⟨xe, xn, xv⟩ : Ann) = ⟨7, 0, 0⟩ ∨ (⟨xe, xn, xv⟩ : Ann) = ⟨12, 0, 0⟩)) := fun hh => h4 hh.1
      by_cases ht : tellS l ⟨ok, oa, ob, ou⟩ = some ⟨xe, xn, xv⟩
      · by_cases h5 : ok = 5
        · subst h5
          cases l with
          | nil =>
            have ht' := tell_pick0 (o := ⟨5, oa, ob, ou⟩) (.inl rfl)
            rw [ht] at ht'
            injection ht' with ht'
            injection ht' with h1 h2 h3
            subst h1 h2 h3
            exact refNext_pick0 h hn hz ht (next_none (.inl rfl))
          | cons x r =>
            have ht' := tell_pick (o := ⟨5, oa, ob, ou⟩) hz (.inl rfl)
            rw [ht] at ht'
            injection ht' with ht'
            injection ht' with h1 h2 h3
            subst h1 h2 h3
            exact refNext_pick h hn hz (by simp) ht (next_pick hz rfl)
        by_cases h6 : ok = 6
        · subst h6
          cases l with
          | nil =>
            have ht' := tell_pick0 (o := ⟨6, oa, ob, ou⟩) (.inr rfl)
            rw [ht] at ht'
            injection ht' with ht'
            injection ht' with h1 h2 h3
            subst h1 h2 h3
            exact refNext_look0 h hn hz ht (next_none (.inr rfl))
          | cons x r =>
            have ht' := tell_pick (o := ⟨6, oa, ob, ou⟩) hz (.inr rfl)
            rw [ht] at ht'
            injection ht' with ht'
            injection ht' with h1 h2 h3
            subst h1 h2 h3
            exact refNext_look h hn hz ht (next_look hz rfl)
        · rw [tell_else h4 h5 h6] at ht
          cases ht
      · have hp := next_tell hr ht
        cases hy : tellS l ⟨ok, oa, ob, ou⟩ with
        | none => exact refNext_nok h hn hz h4 hy hp
        | some y => exact refNext_otherk h hn hz h4 hy (decide_eq_false fun e => ht (by rw [hy, e])) hp
  · exact refNext_bad h hn rfl hz (next_bad hz)
end Go.Proofs.Yteomggjkdaddhaa
