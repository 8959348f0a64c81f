/- outcomes: what an operation may come to, of any list and any operation. -/
import Derived.Test.YteomggjkdaddhaaHeOut
import Derived.Laws.EntriesVeiled
namespace Go.Proofs.Yteomggjkdaddhaa
open Go.RowKit

theorem equal_nil (d : Nat) (w : World) : (Op.equalIn (d + 1) 60 .nilFunc .nilFunc).run Try.prog w = .ok true w := by
  unfold Op.equalIn
  rw [Sem.run_bind, run_underlying Try.underlying60 w]
  rfl
theorem equal_func (d : Nat) (f : Fn) (x y : Array Value) (w : World) : (Op.equalIn (d + 1) 60 (.func f x y) .nilFunc).run Try.prog w = .ok false w := by
  unfold Op.equalIn
  rw [Sem.run_bind, run_underlying Try.underlying60 w]
  rfl
theorem eql_nil (w : World) : (binOp .eql 60 .nilFunc .nilFunc).run Try.prog w = .ok (.bool true) w := by
  show (do pure (Value.bool (← Op.equalIn (9999 + 1) 60 .nilFunc .nilFunc)) : Sem Value).run Try.prog w = _
  rw [Sem.run_bind, equal_nil]; rfl
theorem eql_func (f : Fn) (x y : Array Value) (w : World) : (binOp .eql 60 (.func f x y) .nilFunc).run Try.prog w = .ok (.bool false) w := by
  show (do pure (Value.bool (← Op.equalIn (9999 + 1) 60 (.func f x y) .nilFunc)) : Sem Value).run Try.prog w = _
  rw [Sem.run_bind, equal_func]; rfl

/-- The seven funcs in their array. -/
structure Efs (w : World) (b : Nat) : Prop where
  c0 : w.cell? ⟨b, 0, none⟩ = some .nilFunc
  c1 : w.cell? ⟨b, 1, none⟩ = some .nilFunc
  c2 : w.cell? ⟨b, 2, none⟩ = some .nilFunc
  c3 : w.cell? ⟨b, 3, none⟩ = some .nilFunc
  c4 : w.cell? ⟨b, 4, none⟩ = some (.func (.func 35) #[] #[])
  c5 : w.cell? ⟨b, 5, none⟩ = some (.func (.func 36) #[] #[])
  c6 : w.cell? ⟨b, 6, none⟩ = some (.func (.func 37) #[] #[])
theorem Efs.kept {w w' : World} {b : Nat} (h : Efs w b) (k : Kept w w') : Efs w' b := ⟨k.some h.c0, k.some h.c1, k.some h.c2, k.some h.c3, k.some h.c4, k.some h.c5, k.some h.c6⟩

theorem RetO.after {w W W' : World} {L : List (Ann × List It)} {e : Ending} (h : RetO w L e W) (k : Kept W W') : RetO w L e W' := by
  obtain ⟨M, a, c, h1, h2, h3, h4, h5⟩ := h
  exact ⟨M, a, c, h1, h2.trans k, h3, h4.kept k, fun m hm => (h5 m hm).kept k⟩
theorem RetO.nil {w w' : World} (k : Kept w w') : RetO w [] (.returned (.slice none 0 0)) w' := ⟨[], none, 0, rfl, k, rfl, .inl (.inl ⟨rfl, rfl, rfl⟩), fun m hm => by cases hm⟩

set_option maxRecDepth 100000 in
set_option maxHeartbeats 2000000 in
theorem outcomes_lo {w : World} {a : Option Addr} {c n : Nat} {o : Opn} (h : o.k < 0) :
    Calls Try.prog 27 #[.slice a n c, .agg #[.int .i64 o.k, .int .i64 o.a, .int .i64 o.b, .int .u64 o.u]] w (RetO w []) := by
  go_enter Try.func27, Try.ntmps27
  go_wp2
  go_ret
  exact RetO.nil (((Kept.refl w).alloc _ _).alloc _ _)
set_option maxRecDepth 100000 in
set_option maxHeartbeats 2000000 in
theorem outcomes_hi {w : World} {a : Option Addr} {c n : Nat} {o : Opn} (h : 7 ≤ o.k) :
    Calls Try.prog 27 #[.slice a n c, .agg #[.int .i64 o.k, .int .i64 o.a, .int .i64 o.b, .int .u64 o.u]] w (RetO w []) := by
  go_enter Try.func27, Try.ntmps27
  go_wp2
  go_ret
  exact RetO.nil (((Kept.refl w).alloc _ _).alloc _ _)
set_option maxRecDepth 100000 in
set_option maxHeartbeats 2000000 in
theorem outcomes_n0 {w : World} {a : Option Addr} {c n : Nat} {o : Opn} (h : o.k = 0) :
    Calls Try.prog 27 #[.slice a n c, .agg #[.int .i64 o.k, .int .i64 o.a, .int .i64 o.b, .int .u64 o.u]] w (RetO w []) := by
  obtain ⟨k, oa, ob, ou⟩ := o
  simp only at h
  subst h
  have EN := eql_nil
  go_enter Try.func27, Try.ntmps27
  go_wp2
  go_ret
  exact RetO.nil (((Kept.refl w).alloc _ _).alloc _ _)
set_option maxRecDepth 100000 in
set_option maxHeartbeats 2000000 in
theorem outcomes_n1 {w : World} {a : Option Addr} {c n : Nat} {o : Opn} (h : o.k = 1) :
    Calls Try.prog 27 #[.slice a n c, .agg #[.int .i64 o.k, .int .i64 o.a, .int .i64 o.b, .int .u64 o.u]] w (RetO w []) := by
  obtain ⟨k, oa, ob, ou⟩ := o
  simp only at h
  subst h
  have EN := eql_nil
  go_enter Try.func27, Try.ntmps27
  go_wp2
  go_ret
  exact RetO.nil (((Kept.refl w).alloc _ _).alloc _ _)
set_option maxRecDepth 100000 in
set_option maxHeartbeats 2000000 in
theorem outcomes_n2 {w : World} {a : Option Addr} {c n : Nat} {o : Opn} (h : o.k = 2) :
    Calls Try.prog 27 #[.slice a n c, .agg #[.int .i64 o.k, .int .i64 o.a, .int .i64 o.b, .int .u64 o.u]] w (RetO w []) := by
  obtain ⟨k, oa, ob, ou⟩ := o
  simp only at h
  subst h
  have EN := eql_nil
  go_enter Try.func27, Try.ntmps27
  go_wp2
  go_ret
  exact RetO.nil (((Kept.refl w).alloc _ _).alloc _ _)
set_option maxRecDepth 100000 in
set_option maxHeartbeats 2000000 in
theorem outcomes_n3 {w : World} {a : Option Addr} {c n : Nat} {o : Opn} (h : o.k = 3) :
    Calls Try.prog 27 #[.slice a n c, .agg #[.int .i64 o.k, .int .i64 o.a, .int .i64 o.b, .int .u64 o.u]] w (RetO w []) := by
  obtain ⟨k, oa, ob, ou⟩ := o
  simp only at h
  subst h
  have EN := eql_nil
  go_enter Try.func27, Try.ntmps27
  go_wp2
  go_ret
  exact RetO.nil (((Kept.refl w).alloc _ _).alloc _ _)
/-- The two variables that the func lays first. -/
theorem efs_new (w : World) (o : Opn) {W0 : World} (h : ((w.alloc (.cells #[.int .i64 o.k, .int .i64 o.a, .int .i64 o.b, .int .u64 o.u] 25)).alloc (.cells #[.nilFunc, .nilFunc, .nilFunc, .nilFunc, .func (.func 35) #[] #[], .func (.func 36) #[] #[], .func (.func 37) #[] #[]] 61)) = W0) :
    OpBox W0 w.heap.size o ∧ Efs W0 (w.heap.size + 1) ∧ Kept w W0 := by
  subst h
  exact ⟨(OpBox.new w o _ _ rfl).kept ((Kept.refl _).alloc _ _), ⟨cell_new _ _ _ _ 0 (by simp), cell_new _ _ _ _ 1 (by simp), cell_new _ _ _ _ 2 (by simp), cell_new _ _ _ _ 3 (by simp), cell_new _ _ _ _ 4 (by simp), cell_new _ _ _ _ 5 (by simp), cell_new _ _ _ _ 6 (by simp)⟩, ((Kept.refl w).alloc _ _).alloc _ _⟩
set_option maxRecDepth 100000 in
set_option maxHeartbeats 4000000 in
theorem outcomes_bad4 {w : World} {a : Option Addr} {c n : Nat} {l : List It} {o : Opn} {z : Int} (h : Lay w (.slice a n c) n (flatI l)) (hn : n = l.length) (hz : chk l = z) (hz0 : z ≠ 0) (hk : o.k = 4) :
    Calls Try.prog 27 #[.slice a n c, .agg #[.int .i64 o.k, .int .i64 o.a, .int .i64 o.b, .int .u64 o.u]] w (RetO w []) := by
  obtain ⟨k, oa, ob, ou⟩ := o
  simp only at hk
  subst hk
  obtain ⟨W0, hW0⟩ : ∃ W0, ((w.alloc (.cells #[.int .i64 4, .int .i64 oa, .int .i64 ob, .int .u64 ou] 25)).alloc (.cells #[.nilFunc, .nilFunc, .nilFunc, .nilFunc, .func (.func 35) #[] #[], .func (.func 36) #[] #[], .func (.func 37) #[] #[]] 61)) = W0 := ⟨_, rfl⟩
  obtain ⟨ob0, ef0, k0⟩ := efs_new w ⟨4, oa, ob, ou⟩ hW0
  have CK := Lib.hid (chk_at (h.kept k0) hn hz)
  have OB := Lib.hid ob0
  have EF := Lib.hid ef0
  have K0 := Lib.hid k0
  have HW := Lib.hid hW0
  have EF0 := fun w => eql_func (.func 35) #[] #[] w
  have hb : (z != 0) = true := by simpa using hz0
  obtain ⟨p0, p1, p2, p3⟩ := ob0
  have e0 := ef0.c4
  clear h hn hz hz0 ef0 k0 hW0
  go_enter Try.func27, Try.ntmps27
  go_upto_region 2 with fail
  rw [HW.out]
  go_wp2_with fail; refine CK.out.mono ?_; rintro e w1 ⟨rfl, k1⟩
  go_wp2
  go_ret
  exact RetO.nil (K0.out.trans k1)
set_option maxRecDepth 100000 in
set_option maxHeartbeats 4000000 in
theorem outcomes_good4 {w : World} {a : Option Addr} {c n : Nat} {l : List It} {o : Opn} {L : List (Ann × List It)} (h : Lay w (.slice a n c) n (flatI l)) (hn : n = l.length) (hz : chk l = 0) (hk : o.k = 4)
    (hf : ∀ W, Kept w W → Calls Try.prog 35 #[.slice a n c, .agg #[.int .i64 o.k, .int .i64 o.a, .int .i64 o.b, .int .u64 o.u]] W (RetO W L)) :
    Calls Try.prog 27 #[.slice a n c, .agg #[.int .i64 o.k, .int .i64 o.a, .int .i64 o.b, .int .u64 o.u]] w (RetO w L) := by
  obtain ⟨k, oa, ob, ou⟩ := o
  simp only at hk
  subst hk
  obtain ⟨W0, hW0⟩ : ∃ W0, ((w.alloc (.cells #[.int .i64 4, .int .i64 oa, .int .i64 ob, .int .u64 ou] 25)).alloc (.cells #[.nilFunc, .nilFunc, .nilFunc, .nilFunc, .func (.func 35) #[] #[], .func (.func 36) #[] #[], .func (.func 37) #[] #[]] 61)) = W0 := ⟨_, rfl⟩
  obtain ⟨ob0, ef0, k0⟩ := efs_new w ⟨4, oa, ob, ou⟩ hW0
  have CK := Lib.hid (chk_at (h.kept k0) hn hz)
  have OB := Lib.hid ob0
  have EF := Lib.hid ef0
  have K0 := Lib.hid k0
  have HW := Lib.hid hW0
  have EF0 := fun w => eql_func (.func 35) #[] #[] w
  have HF := Lib.hid hf
  obtain ⟨p0, p1, p2, p3⟩ := ob0
  have e0 := ef0.c4
  clear h hn hz ef0 k0 hW0 hf
  go_enter Try.func27, Try.ntmps27
  go_upto_region 2 with fail
  rw [HW.out]
  go_wp2_with fail; refine CK.out.mono ?_; rintro e w1 ⟨rfl, k1⟩
  have K1 := Lib.hid (K0.out.trans k1)
  obtain ⟨q0, q1, q2, q3⟩ := OB.out.kept k1
  have e1 := EF.out.c4
  have e2 := k1.some e1
  clear p0 p1 p2 p3 e0 e1
  go_wp2
  have kt0 : Kept w1 w1.drew := (Kept.refl w1).drew
  go_region_held3 (fun w' => w'.cell? ⟨w.heap.size, 0, none⟩ = some (.int .i64 4) ∧ w'.cell? ⟨w.heap.size, 1, none⟩ = some (.int .i64 oa) ∧ w'.cell? ⟨w.heap.size, 2, none⟩ = some (.int .i64 ob) ∧ w'.cell? ⟨w.heap.size, 3, none⟩ = some (.int .u64 ou) ∧ w'.cell? ⟨w.heap.size + 1, 4, none⟩ = some (.func (.func 35) #[] #[]))
    (first | exact ⟨kt1.some q0, kt1.some q1, kt1.some q2, kt1.some q3, kt1.some e2⟩ | exact ⟨kt0.some q0, kt0.some q1, kt0.some q2, kt0.some q3, kt0.some e2⟩)
    (first | (go_at_call 35; refine (HF.out _ (K1.out.trans kt0)).mono ?_; rintro e w2 ⟨M, a2, c2, rfl, k2, h2, h3, h4⟩; have kt1 : Kept w1 w2 := kt0.trans k2))
  go_wp2
  go_ret
  exact ⟨M, a2, c2, rfl, K1.out.trans kt1, h2, h3, h4⟩
set_option maxRecDepth 100000 in
set_option maxHeartbeats 4000000 in
theorem outcomes_bad5 {w : World} {a : Option Addr} {c n : Nat} {l : List It} {o : Opn} {z : Int} (h : Lay w (.slice a n c) n (flatI l)) (hn : n = l.length) (hz : chk l = z) (hz0 : z ≠ 0) (hk : o.k = 5) :
    Calls Try.prog 27 #[.slice a n c, .agg #[.int .i64 o.k, .int .i64 o.a, .int .i64 o.b, .int .u64 o.u]] w (RetO w []) := by
  obtain ⟨k, oa, ob, ou⟩ := o
  simp only at hk
  subst hk
  obtain ⟨W0, hW0⟩ : ∃ W0, ((w.alloc (.cells #[.int .i64 5, .int .i64 oa, .int .i64 ob, .int .u64 ou] 25)).alloc (.cells #[.nilFunc, .nilFunc, .nilFunc, .nilFunc, .func (.func 35) #[] #[], .func (.func 36) #[] #[], .func (.func 37) #[] #[]] 61)) = W0 := ⟨_, rfl⟩
  obtain ⟨ob0, ef0, k0⟩ := efs_new w ⟨5, oa, ob, ou⟩ hW0
  have CK := Lib.hid (chk_at (h.kept k0) hn hz)
  have OB := Lib.hid ob0
  have EF := Lib.hid ef0
  have K0 := Lib.hid k0
  have HW := Lib.hid hW0
  have EF0 := fun w => eql_func (.func 36) #[] #[] w
  have hb : (z != 0) = true := by simpa using hz0
  obtain ⟨p0, p1, p2, p3⟩ := ob0
  have e0 := ef0.c5
  clear h hn hz hz0 ef0 k0 hW0
  go_enter Try.func27, Try.ntmps27
  go_upto_region 2 with fail
  rw [HW.out]
  go_wp2_with fail; refine CK.out.mono ?_; rintro e w1 ⟨rfl, k1⟩
  go_wp2
  go_ret
  exact RetO.nil (K0.out.trans k1)
set_option maxRecDepth 100000 in
set_option maxHeartbeats 4000000 in
theorem outcomes_good5 {w : World} {a : Option Addr} {c n : Nat} {l : List It} {o : Opn} {L : List (Ann × List It)} (h : Lay w (.slice a n c) n (flatI l)) (hn : n = l.length) (hz : chk l = 0) (hk : o.k = 5)
    (hf : ∀ W, Kept w W → Calls Try.prog 36 #[.slice a n c, .agg #[.int .i64 o.k, .int .i64 o.a, .int .i64 o.b, .int .u64 o.u]] W (RetO W L)) :
    Calls Try.prog 27 #[.slice a n c, .agg #[.int .i64 o.k, .int .i64 o.a, .int .i64 o.b, .int .u64 o.u]] w (RetO w L) := by
  obtain ⟨k, oa, ob, ou⟩ := o
  simp only at hk
  subst hk
  obtain ⟨W0, hW0⟩ : ∃ W0, ((w.alloc (.cells #[.int .i64 5, .int .i64 oa, .int .i64 ob, .int .u64 ou] 25)).alloc (.cells #[.nilFunc, .nilFunc, .nilFunc, .nilFunc, .func (.func 35) #[] #[], .func (.func 36) #[] #[], .func (.func 37) #[] #[]] 61)) = W0 := ⟨_, rfl⟩
  obtain ⟨ob0, ef0, k0⟩ := efs_new w ⟨5, oa, ob, ou⟩ hW0
  have CK := Lib.hid (chk_at (h.kept k0) hn hz)
  have OB := Lib.hid ob0
  have EF := Lib.hid ef0
  have K0 := Lib.hid k0
  have HW := Lib.hid hW0
  have EF0 := fun w => eql_func (.func 36) #[] #[] w
  have HF := Lib.hid hf
  obtain ⟨p0, p1, p2, p3⟩ := ob0
  have e0 := ef0.c5
  clear h hn hz ef0 k0 hW0 hf
  go_enter Try.func27, Try.ntmps27
  go_upto_region 2 with fail
  rw [HW.out]
  go_wp2_with fail; refine CK.out.mono ?_; rintro e w1 ⟨rfl, k1⟩
  have K1 := Lib.hid (K0.out.trans k1)
  obtain ⟨q0, q1, q2, q3⟩ := OB.out.kept k1
  have e1 := EF.out.c5
  have e2 := k1.some e1
  clear p0 p1 p2 p3 e0 e1
  go_wp2
  have kt0 : Kept w1 w1.drew := (Kept.refl w1).drew
  go_region_held3 (fun w' => w'.cell? ⟨w.heap.size, 0, none⟩ = some (.int .i64 5) ∧ w'.cell? ⟨w.heap.size, 1, none⟩ = some (.int .i64 oa) ∧ w'.cell? ⟨w.heap.size, 2, none⟩ = some (.int .i64 ob) ∧ w'.cell? ⟨w.heap.size, 3, none⟩ = some (.int .u64 ou) ∧ w'.cell? ⟨w.heap.size + 1, 5, none⟩ = some (.func (.func 36) #[] #[]))
    (first | exact ⟨kt1.some q0, kt1.some q1, kt1.some q2, kt1.some q3, kt1.some e2⟩ | exact ⟨kt0.some q0, kt0.some q1, kt0.some q2, kt0.some q3, kt0.some e2⟩)
    (first | (go_at_call 36; refine (HF.out _ (K1.out.trans kt0)).mono ?_; rintro e w2 ⟨M, a2, c2, rfl, k2, h2, h3, h4⟩; have kt1 : Kept w1 w2 := kt0.trans k2))
  go_wp2
  go_ret
  exact ⟨M, a2, c2, rfl, K1.out.trans kt1, h2, h3, h4⟩
set_option maxRecDepth 100000 in
set_option maxHeartbeats 4000000 in
theorem outcomes_bad6 {w : World} {a : Option Addr} {c n : Nat} {l : List It} {o : Opn} {z : Int} (h : Lay w (.slice a n c) n (flatI l)) (hn : n = l.length) (hz : chk l = z) (hz0 : z ≠ 0) (hk : o.k = 6) :
    Calls Try.prog 27 #[.slice a n c, .agg #[.int .i64 o.k, .int .i64 o.a, .int .i64 o.b, .int .u64 o.u]] w (RetO w []) := by
  obtain ⟨k, oa, ob, ou⟩ := o
  simp only at hk
  subst hk
  obtain ⟨W0, hW0⟩ : ∃ W0, ((w.alloc (.cells #[.int .i64 6, .int .i64 oa, .int .i64 ob, .int .u64 ou] 25)).alloc (.cells #[.nilFunc, .nilFunc, .nilFunc, .nilFunc, .func (.func 35) #[] #[], .func (.func 36) #[] #[], .func (.func 37) #[] #[]] 61)) = W0 := ⟨_, rfl⟩
  obtain ⟨ob0, ef0, k0⟩ := efs_new w ⟨6, oa, ob, ou⟩ hW0
  have CK := Lib.hid (chk_at (h.kept k0) hn hz)
  have OB := Lib.hid ob0
  have EF := Lib.hid ef0
  have K0 := Lib.hid k0
  have HW := Lib.hid hW0
  have EF0 := fun w => eql_func (.func 37) #[] #[] w
  have hb : (z != 0) = true := by simpa using hz0
  obtain ⟨p0, p1, p2, p3⟩ := ob0
  have e0 := ef0.c6
  clear h hn hz hz0 ef0 k0 hW0
  go_enter Try.func27, Try.ntmps27
  go_upto_region 2 with fail
  rw [HW.out]
  go_wp2_with fail; refine CK.out.mono ?_; rintro e w1 ⟨rfl, k1⟩
  go_wp2
  go_ret
  exact RetO.nil (K0.out.trans k1)
set_option maxRecDepth 100000 in
set_option maxHeartbeats 4000000 in
theorem outcomes_good6 {w : World} {a : Option Addr} {c n : Nat} {l : List It} {o : Opn} {L : List (Ann × List It)} (h : Lay w (.slice a n c) n (flatI l)) (hn : n = l.length) (hz : chk l = 0) (hk : o.k = 6)
    (hf : ∀ W, Kept w W → Calls Try.prog 37 #[.slice a n c, .agg #[.int .i64 o.k, .int .i64 o.a, .int .i64 o.b, .int .u64 o.u]] W (RetO W L)) :
    Calls Try.prog 27 #[.slice a n c, .agg #[.int .i64 o.k, .int .i64 o.a, .int .i64 o.b, .int .u64 o.u]] w (RetO w L) := by
  obtain ⟨k, oa, ob, ou⟩ := o
  simp only at hk
  subst hk
  obtain ⟨W0, hW0⟩ : ∃ W0, ((w.alloc (.cells #[.int .i64 6, .int .i64 oa, .int .i64 ob, .int .u64 ou] 25)).alloc (.cells #[.nilFunc, .nilFunc, .nilFunc, .nilFunc, .func (.func 35) #[] #[], .func (.func 36) #[] #[], .func (.func 37) #[] #[]] 61)) = W0 := ⟨_, rfl⟩
  obtain ⟨ob0, ef0, k0⟩ := efs_new w ⟨6, oa, ob, ou⟩ hW0
  have CK := Lib.hid (chk_at (h.kept k0) hn hz)
  have OB := Lib.hid ob0
  have EF := Lib.hid ef0
  have K0 := Lib.hid k0
  have HW := Lib.hid hW0
  have EF0 := fun w => eql_func (.func 37) #[] #[] w
  have HF := Lib.hid hf
  obtain ⟨p0, p1, p2, p3⟩ := ob0
  have e0 := ef0.c6
  clear h hn hz ef0 k0 hW0 hf
  go_enter Try.func27, Try.ntmps27
  go_upto_region 2 with fail
  rw [HW.out]
  go_wp2_with fail; refine CK.out.mono ?_; rintro e w1 ⟨rfl, k1⟩
  have K1 := Lib.hid (K0.out.trans k1)
  obtain ⟨q0, q1, q2, q3⟩ := OB.out.kept k1
  have e1 := EF.out.c6
  have e2 := k1.some e1
  clear p0 p1 p2 p3 e0 e1
  go_wp2
  have kt0 : Kept w1 w1.drew := (Kept.refl w1).drew
  go_region_held3 (fun w' => w'.cell? ⟨w.heap.size, 0, none⟩ = some (.int .i64 6) ∧ w'.cell? ⟨w.heap.size, 1, none⟩ = some (.int .i64 oa) ∧ w'.cell? ⟨w.heap.size, 2, none⟩ = some (.int .i64 ob) ∧ w'.cell? ⟨w.heap.size, 3, none⟩ = some (.int .u64 ou) ∧ w'.cell? ⟨w.heap.size + 1, 6, none⟩ = some (.func (.func 37) #[] #[]))
    (first | exact ⟨kt1.some q0, kt1.some q1, kt1.some q2, kt1.some q3, kt1.some e2⟩ | exact ⟨kt0.some q0, kt0.some q1, kt0.some q2, kt0.some q3, kt0.some e2⟩)
    (first | (go_at_call 37; refine (HF.out _ (K1.out.trans kt0)).mono ?_; rintro e w2 ⟨M, a2, c2, rfl, k2, h2, h3, h4⟩; have kt1 : Kept w1 w2 := kt0.trans k2))
  go_wp2
  go_ret
  exact ⟨M, a2, c2, rfl, K1.out.trans kt1, h2, h3, h4⟩

/-- Of any list and any operation. -/
theorem outcomes_any {w : World} {a : Option Addr} {c n : Nat} {l : List It} (o : Opn) (h : Lay w (.slice a n c) n (flatI l)) (hn : n = l.length) :
    Calls Try.prog 27 #[.slice a n c, .agg #[.int .i64 o.k, .int .i64 o.a, .int .i64 o.b, .int .u64 o.u]] w (RetO w (outs l o)) := by
  by_cases hlo : o.k < 0
  · rw [outs_else (by omega) (by omega) (by omega)]; exact outcomes_lo hlo
  by_cases hhi : 7 ≤ o.k
  · rw [outs_else (by omega) (by omega) (by omega)]; exact outcomes_hi hhi
  by_cases h0 : o.k = 0
  · rw [outs_else (by omega) (by omega) (by omega)]; exact outcomes_n0 h0
  by_cases h1 : o.k = 1
  · rw [outs_else (by omega) (by omega) (by omega)]; exact outcomes_n1 h1
  by_cases h2 : o.k = 2
  · rw [outs_else (by omega) (by omega) (by omega)]; exact outcomes_n2 h2
  by_cases h3 : o.k = 3
  · rw [outs_else (by omega) (by omega) (by omega)]; exact outcomes_n3 h3
  by_cases hz : chk l = 0
  · have ha := (chk_zero hz).2
    by_cases h4 : o.k = 4
    · cases hd : hs o.u l with
      | true => rw [outs_double hz h4 hd]; exact outcomes_good4 h hn hz h4 fun W k => put_double (h.kept k) hn ha hd
      | false =>
        by_cases hr : l.length < 1024
        · rw [outs_put hz h4 hd hr]; exact outcomes_good4 h hn hz h4 fun W k => put_more (h.kept k) hn ha hd (by omega)
        · rw [outs_full hz h4 hd hr]; exact outcomes_good4 h hn hz h4 fun W k => put_full (h.kept k) hn ha hd (by omega)
    by_cases h5 : o.k = 5
    · cases l with
      | nil => rw [outs_pick0 h5]; exact outcomes_good5 h hn hz h5 fun W k => pick_none (h.kept k) hn
      | cons x r => rw [outs_pick hz h5]; exact outcomes_good5 h hn hz h5 fun W k => pick_any (h.kept k) hn
    · have h6 : o.k = 6 := by omega
      cases l with
      | nil => rw [outs_look0 h6]; exact outcomes_good6 h hn hz h6 fun W k => look_none (h.kept k) hn
      | cons x r => rw [outs_look hz h6]; exact outcomes_good6 h hn hz h6 fun W k => look_any (h.kept k) hn
  · rw [outs_bad hz]
    by_cases h4 : o.k = 4
    · exact outcomes_bad4 h hn rfl hz h4
    by_cases h5 : o.k = 5
    · exact outcomes_bad5 h hn rfl hz h5
    · exact outcomes_bad6 h hn rfl hz (by omega)
end Go.Proofs.Yteomggjkdaddhaa
