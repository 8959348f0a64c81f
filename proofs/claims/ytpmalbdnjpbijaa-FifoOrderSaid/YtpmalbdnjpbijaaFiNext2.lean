/- The program's Next. -/
import Derived.Test.YtpmalbdnjpbijaaFiNext
namespace Go.Proofs.Ytpmalbdnjpbijaa
open Go.RowKit
attribute [local go_sem ↓] ld_named st_named cp_named bd_named lv_named

/-- The queue behind it, and whether that may be. -/
def RetN (w : World) (p : Option (List Int)) (e : Ending) (w' : World) : Prop :=
  ∃ a c, e = .returned (.tuple #[.slice a (p.getD []).length c, .bool p.isSome]) ∧ Kept w w' ∧ OwnW w' w.heap.size (.slice a (p.getD []).length c) (p.getD [])
theorem RetN.none_ {w w' : World} (k : Kept w w') : RetN w none (.returned (.tuple #[.slice none 0 0, .bool false])) w' := ⟨none, 0, rfl, k, World.ownsRow_nil _ _ _ _⟩

theorem ann_neq (x y : Ann) : ∀ W, (binOp .neq 28 (.agg #[.int .i64 x.e, .int .i64 x.n, .int .u64 x.v]) (.agg #[.int .i64 y.e, .int .i64 y.n, .int .u64 y.v])).run Try.prog W = .ok (.bool (decide (x ≠ y))) W := by
  intro W
  obtain ⟨a, b, c⟩ := x
  obtain ⟨a', b', c'⟩ := y
  by_cases h1 : a = a'
  · subst h1
    by_cases h2 : b = b'
    · subst h2
      by_cases h3 : c = c'
      · subst h3
        go_simp
      · have e1 : (c == c') = false := by simpa using h3
        go_simp
    · have e1 : (b == b') = false := by simpa using h2
      go_simp
  · have e1 : (a == a') = false := by simpa using h1
    go_simp
theorem ann_eql (x y : Ann) : ∀ W, (binOp .eql 28 (.agg #[.int .i64 x.e, .int .i64 x.n, .int .u64 x.v]) (.agg #[.int .i64 y.e, .int .i64 y.n, .int .u64 y.v])).run Try.prog W = .ok (.bool (decide (x = y))) W := by
  intro W
  obtain ⟨a, b, c⟩ := x
  obtain ⟨a', b', c'⟩ := y
  by_cases h1 : a = a'
  · subst h1
    by_cases h2 : b = b'
    · subst h2
      by_cases h3 : c = c'
      · subst h3
        go_simp
      · have e1 : (c == c') = false := by simpa using h3
        go_simp
    · have e1 : (b == b') = false := by simpa using h2
      go_simp
  · have e1 : (a == a') = false := by simpa using h1
    go_simp
/-- Next, walked. -/
def nextWalked := ()
set_option maxRecDepth 100000 in
set_option maxHeartbeats 4000000 in
theorem next_none {w : World} {a : Option Addr} {c : Nat} {q : List Int} {r : Nat} {o : Opn} (x : Ann) (hl : Lay w (.slice a q.length c) q.length (words q)) (hz : chkF r q.length = 0) (r1 : (1 : Int) ≤ r) (r2 : (r : Int) ≤ 1024) (r3 : (q.length : Int) ≤ r) (hac : act r q o = none) : Calls Try.prog 12 #[.int .i64 r, .slice a q.length c, .agg #[.int .i64 o.k, .int .i64 o.a, .int .i64 o.b, .int .u64 o.u], .agg #[.int .i64 x.e, .int .i64 x.n, .int .u64 x.v]] w (RetN w none) := by
  obtain ⟨Z, hZ, hZ1, _, _, hzv⟩ := zeroed
  obtain ⟨W0, hW0⟩ : ∃ W0, ((w.alloc (.cells #[.int .i64 o.k, .int .i64 o.a, .int .i64 o.b, .int .u64 o.u] 25)).alloc (.cells #[.int .i64 x.e, .int .i64 x.n, .int .u64 x.v] 28)) = W0 := ⟨_, rfl⟩
  have OB := Lib.hid (show OpBox W0 w.heap.size o by rw [← hW0]; exact (OpBox.new w o _ _ rfl).kept ((Kept.refl _).alloc _ _))
  have AB := Lib.hid (show AnBox W0 (w.heap.size + 1) x by rw [← hW0]; exact AnBox.new _ x _ _ (by simp))
  have K0 := Lib.hid (show Kept w W0 by rw [← hW0]; exact ((Kept.refl w).alloc _ _).alloc _ _)
  have CK := Lib.hid (fun W => check_at (w := W) (a := a) (c := c) hz)
  have FI := Lib.hid (filled_any r (hl.kept K0.out) (by omega) (by omega))
  have HW := Lib.hid hW0
  have AC := Lib.hid hac
  obtain ⟨n, hn⟩ : ∃ n, n = q.length := ⟨_, rfl⟩
  rw [← hn] at CK FI ⊢
  clear hz hl hn hW0 hac
  go_enter Try.func12, Try.ntmps12
  go_upto_region 1 with fail
  rw [HW.out]
  go_wp2_with fail
  refine (CK.out _).mono ?_
  rintro e w1 ⟨rfl, rfl⟩
  go_wp2_with fail
  refine FI.out.mono ?_
  rintro e w1 ⟨R, rfl, g1, k1⟩
  obtain ⟨w3, run3, but3, big3, s3⟩ := big_st (BigAt.new w1 Z 55 hZ hZ1 _ rfl) g1.size g1.one
  have K3 := Lib.hid (k1.trans (((Kept.refl w1).alloc Z 55).wrote1 but3 (Nat.le_refl _)))
  have l1 := k1.size
  have L0 := K0.out.size
  have B3 := Lib.hid big3
  have G1 := Lib.hid g1
  have DO := Lib.hid (does_any o big3 g1)
  obtain ⟨o0, o1, o2, o3⟩ := OB.out.kept K3.out
  clear k1 but3 s3 big3 g1 hZ hZ1
  go_wp2_with fail
  refine DO.out.mono ?_
  rintro e w4 ⟨F, rfl, k4, hF⟩
  have e0 : tell r q o = noAnn := by unfold tell; rw [AC.out]; rfl
  rw [e0]
  rw [AC.out] at hF
  obtain rfl : F = .nilFunc := hF
  have FN := eql_nil
  have K4 := Lib.hid (K0.out.trans (K3.out.trans k4))
  clear k4
  go_wp2
  refine bodyPost_ret (v := .tuple #[.slice none 0 0, .bool false]) (by simp [results, Try.results12, go_sem]) rfl (RetN.none_ (K4.out.alloc _ _))

set_option maxRecDepth 100000 in
set_option maxHeartbeats 4000000 in
theorem next_other {w : World} {a : Option Addr} {c : Nat} {q : List Int} {r : Nat} {o : Opn} (x : Ann) (hl : Lay w (.slice a q.length c) q.length (words q)) (hz : chkF r q.length = 0) (r1 : (1 : Int) ≤ r) (r2 : (r : Int) ≤ 1024) (r3 : (q.length : Int) ≤ r) {p : Ann × List Int} (hac : act r q o = some p) (hx : x ≠ p.1) : Calls Try.prog 12 #[.int .i64 r, .slice a q.length c, .agg #[.int .i64 o.k, .int .i64 o.a, .int .i64 o.b, .int .u64 o.u], .agg #[.int .i64 x.e, .int .i64 x.n, .int .u64 x.v]] w (RetN w none) := by
  have HX := Lib.hid hx
  clear hx
  obtain ⟨Z, hZ, hZ1, _, _, hzv⟩ := zeroed
  obtain ⟨W0, hW0⟩ : ∃ W0, ((w.alloc (.cells #[.int .i64 o.k, .int .i64 o.a, .int .i64 o.b, .int .u64 o.u] 25)).alloc (.cells #[.int .i64 x.e, .int .i64 x.n, .int .u64 x.v] 28)) = W0 := ⟨_, rfl⟩
  have OB := Lib.hid (show OpBox W0 w.heap.size o by rw [← hW0]; exact (OpBox.new w o _ _ rfl).kept ((Kept.refl _).alloc _ _))
  have AB := Lib.hid (show AnBox W0 (w.heap.size + 1) x by rw [← hW0]; exact AnBox.new _ x _ _ (by simp))
  have K0 := Lib.hid (show Kept w W0 by rw [← hW0]; exact ((Kept.refl w).alloc _ _).alloc _ _)
  have CK := Lib.hid (fun W => check_at (w := W) (a := a) (c := c) hz)
  have FI := Lib.hid (filled_any r (hl.kept K0.out) (by omega) (by omega))
  have HW := Lib.hid hW0
  have AC := Lib.hid hac
  obtain ⟨n, hn⟩ : ∃ n, n = q.length := ⟨_, rfl⟩
  rw [← hn] at CK FI ⊢
  clear hz hl hn hW0 hac
  go_enter Try.func12, Try.ntmps12
  go_upto_region 1 with fail
  rw [HW.out]
  go_wp2_with fail
  refine (CK.out _).mono ?_
  rintro e w1 ⟨rfl, rfl⟩
  go_wp2_with fail
  refine FI.out.mono ?_
  rintro e w1 ⟨R, rfl, g1, k1⟩
  obtain ⟨w3, run3, but3, big3, s3⟩ := big_st (BigAt.new w1 Z 55 hZ hZ1 _ rfl) g1.size g1.one
  have K3 := Lib.hid (k1.trans (((Kept.refl w1).alloc Z 55).wrote1 but3 (Nat.le_refl _)))
  have l1 := k1.size
  have L0 := K0.out.size
  have B3 := Lib.hid big3
  have G1 := Lib.hid g1
  have DO := Lib.hid (does_any o big3 g1)
  obtain ⟨o0, o1, o2, o3⟩ := OB.out.kept K3.out
  clear k1 but3 s3 big3 g1 hZ hZ1
  go_wp2_with fail
  refine DO.out.mono ?_
  rintro e w4 ⟨F, rfl, k4, hF⟩
  have e0 : tell r q o = p.1 := by unfold tell; rw [AC.out]; rfl
  rw [e0]
  rw [AC.out] at hF
  have FN := func_eql hF
  have FG := func_guard hF .eql
  have K34 := Lib.hid (K3.out.trans k4)
  have K4 := Lib.hid (K0.out.trans (K3.out.trans k4))
  obtain ⟨a0, a1, a2, sA⟩ := AB.out.kept K34.out
  have l4 := lt_of_cell a0
  have NE := ann_neq x p.1
  clear sA k4
  have b0 : (some p).isNone = false := rfl
  rw [b0] at FN
  rw [decide_eq_true HX.out] at NE
  clear hF b0
  go_wp2
  refine bodyPost_ret (v := .tuple #[.slice none 0 0, .bool false]) (by simp [results, Try.results12, go_sem]) rfl (RetN.none_ (K4.out.alloc _ _))

set_option maxRecDepth 100000 in
set_option maxHeartbeats 4000000 in
theorem next_it {w : World} {a : Option Addr} {c : Nat} {q : List Int} {r : Nat} {o : Opn} (x : Ann) (hl : Lay w (.slice a q.length c) q.length (words q)) (hz : chkF r q.length = 0) (r1 : (1 : Int) ≤ r) (r2 : (r : Int) ≤ 1024) (r3 : (q.length : Int) ≤ r) {p : Ann × List Int} (hac : act r q o = some p) (hx : x = p.1) : Calls Try.prog 12 #[.int .i64 r, .slice a q.length c, .agg #[.int .i64 o.k, .int .i64 o.a, .int .i64 o.b, .int .u64 o.u], .agg #[.int .i64 x.e, .int .i64 x.n, .int .u64 x.v]] w (RetN w (some p.2)) := by
  have HX := Lib.hid hx
  clear hx
  obtain ⟨Z, hZ, hZ1, _, _, hzv⟩ := zeroed
  obtain ⟨W0, hW0⟩ : ∃ W0, ((w.alloc (.cells #[.int .i64 o.k, .int .i64 o.a, .int .i64 o.b, .int .u64 o.u] 25)).alloc (.cells #[.int .i64 x.e, .int .i64 x.n, .int .u64 x.v] 28)) = W0 := ⟨_, rfl⟩
  have OB := Lib.hid (show OpBox W0 w.heap.size o by rw [← hW0]; exact (OpBox.new w o _ _ rfl).kept ((Kept.refl _).alloc _ _))
  have AB := Lib.hid (show AnBox W0 (w.heap.size + 1) x by rw [← hW0]; exact AnBox.new _ x _ _ (by simp))
  have K0 := Lib.hid (show Kept w W0 by rw [← hW0]; exact ((Kept.refl w).alloc _ _).alloc _ _)
  have CK := Lib.hid (fun W => check_at (w := W) (a := a) (c := c) hz)
  have FI := Lib.hid (filled_any r (hl.kept K0.out) (by omega) (by omega))
  have HW := Lib.hid hW0
  have AC := Lib.hid hac
  obtain ⟨n, hn⟩ : ∃ n, n = q.length := ⟨_, rfl⟩
  rw [← hn] at CK FI ⊢
  clear hz hl hn hW0 hac
  go_enter Try.func12, Try.ntmps12
  go_upto_region 1 with fail
  rw [HW.out]
  go_wp2_with fail
  refine (CK.out _).mono ?_
  rintro e w1 ⟨rfl, rfl⟩
  go_wp2_with fail
  refine FI.out.mono ?_
  rintro e w1 ⟨R, rfl, g1, k1⟩
  obtain ⟨w3, run3, but3, big3, s3⟩ := big_st (BigAt.new w1 Z 55 hZ hZ1 _ rfl) g1.size g1.one
  have K3 := Lib.hid (k1.trans (((Kept.refl w1).alloc Z 55).wrote1 but3 (Nat.le_refl _)))
  have l1 := k1.size
  have L0 := K0.out.size
  have B3 := Lib.hid big3
  have G1 := Lib.hid g1
  have DO := Lib.hid (does_any o big3 g1)
  obtain ⟨o0, o1, o2, o3⟩ := OB.out.kept K3.out
  clear k1 but3 s3 big3 g1 hZ hZ1
  go_wp2_with fail
  refine DO.out.mono ?_
  rintro e w4 ⟨F, rfl, k4, hF⟩
  have e0 : tell r q o = p.1 := by unfold tell; rw [AC.out]; rfl
  rw [e0]
  rw [AC.out] at hF
  have FN := func_eql hF
  have FG := func_guard hF .eql
  have K34 := Lib.hid (K3.out.trans k4)
  have K4 := Lib.hid (K0.out.trans (K3.out.trans k4))
  obtain ⟨a0, a1, a2, sA⟩ := AB.out.kept K34.out
  have l4 := lt_of_cell a0
  have NE := ann_neq x p.1
  have k40 := k4
  clear sA k4
  have b0 : (some p).isNone = false := rfl
  rw [b0] at FN
  rw [decide_eq_false (by simp [HX.out])] at NE
  have BB := Lib.hid ((B3.out.kept k40).kept ((Kept.refl w4).alloc #[.int .i64 p.1.e, .int .i64 p.1.n, .int .u64 p.1.v] 28))
  have KA : Kept w4 (w4.alloc (.cells #[.int .i64 p.1.e, .int .i64 p.1.n, .int .u64 p.1.v] 28)) := (Kept.refl w4).alloc _ _
  clear b0 k40
  obtain ⟨y, _, hy, ⟨z, u, _, hz, rfl, hq, hq'⟩ | ⟨v, rfl, hq⟩ | ⟨rfl, hq⟩⟩ := hF
  · have C1 := Lib.hid (does1_any BB.out G1.out hq (KA.some hy) (KA.some hz))
    rw [← hq'] at C1
    clear hq hq' hy hz
    go_wp2_with fail
    go_at_call 33
    refine C1.out.mono ?_
    rintro e w5 ⟨R5, rfl, g5, k5⟩
    obtain ⟨w6, run6, but6, big6, s6⟩ := big_st (BB.out.kept k5) g5.size g5.one
    have K6 := Lib.hid ((K4.out.trans ((Kept.refl w4).alloc _ _ |>.trans k5)).wrote1 but6 (by omega))
    have LI := Lib.hid (list_any big6 g5)
    clear but6 s6 big6 k5
    go_wp2_with fail
    refine LI.out.mono ?_
    rintro e w7 ⟨a7, c7, rfl, k7, own7⟩
    go_wp2
    refine bodyPost_ret (v := .tuple #[.slice a7 p.2.length c7, .bool true]) (by simp [results, Try.results12, go_sem]) rfl ⟨a7, c7, rfl, K6.out.trans k7, own_mono own7 K6.out.size⟩
  · rw [hq] at G1
    have C2 := Lib.hid (does2_any BB.out G1.out (KA.some hy))
    clear hq hy
    go_wp2_with fail
    go_at_call 37
    refine C2.out.mono ?_
    rintro e w5 ⟨R5, rfl, g5, k5⟩
    obtain ⟨w6, run6, but6, big6, s6⟩ := big_st (BB.out.kept k5) g5.size g5.one
    have K6 := Lib.hid ((K4.out.trans ((Kept.refl w4).alloc _ _ |>.trans k5)).wrote1 but6 (by omega))
    have LI := Lib.hid (list_any big6 g5)
    clear but6 s6 big6 k5
    go_wp2_with fail
    refine LI.out.mono ?_
    rintro e w7 ⟨a7, c7, rfl, k7, own7⟩
    go_wp2
    refine bodyPost_ret (v := .tuple #[.slice a7 p.2.length c7, .bool true]) (by simp [results, Try.results12, go_sem]) rfl ⟨a7, c7, rfl, K6.out.trans k7, own_mono own7 K6.out.size⟩
  · rw [← hq] at G1
    have C3 := Lib.hid (does3_any BB.out G1.out (KA.some hy))
    clear hq hy
    go_wp2_with fail
    go_at_call 39
    refine C3.out.mono ?_
    rintro e w5 ⟨R5, rfl, g5, k5⟩
    obtain ⟨w6, run6, but6, big6, s6⟩ := big_st (BB.out.kept k5) g5.size g5.one
    have K6 := Lib.hid ((K4.out.trans ((Kept.refl w4).alloc _ _ |>.trans k5)).wrote1 but6 (by omega))
    have LI := Lib.hid (list_any big6 g5)
    clear but6 s6 big6 k5
    go_wp2_with fail
    refine LI.out.mono ?_
    rintro e w7 ⟨a7, c7, rfl, k7, own7⟩
    go_wp2
    refine bodyPost_ret (v := .tuple #[.slice a7 p.2.length c7, .bool true]) (by simp [results, Try.results12, go_sem]) rfl ⟨a7, c7, rfl, K6.out.trans k7, own_mono own7 K6.out.size⟩

theorem next_any {w : World} {a : Option Addr} {c : Nat} {q : List Int} (room : Int) (o : Opn) (x : Ann) (hl : Lay w (.slice a q.length c) q.length (words q)) :
    Calls Try.prog 12 #[.int .i64 room, .slice a q.length c, .agg #[.int .i64 o.k, .int .i64 o.a, .int .i64 o.b, .int .u64 o.u], .agg #[.int .i64 x.e, .int .i64 x.n, .int .u64 x.v]] w (RetN w (nextI room q o x)) := by
  by_cases hz : chkF room q.length = 0
  · obtain ⟨r1, r2, r3⟩ := chk_zero hz
    obtain ⟨r, rfl⟩ : ∃ r : Nat, room = r := ⟨room.toNat, by omega⟩
    have e0 : actI r q o = act r q o := by unfold actI; rw [if_pos hz]; rfl
    unfold nextI
    rw [e0]
    cases hac : act r q o with
    | none => exact next_none x hl hz r1 r2 r3 hac
    | some p =>
      by_cases hx : x = p.1
      · have e1 : (Option.elim (some p) none fun p => if x = p.1 then some p.2 else none) = some p.2 := if_pos hx
        rw [e1]
        exact next_it x hl hz r1 r2 r3 hac hx
      · have e1 : (Option.elim (some p) none fun p => if x = p.1 then some p.2 else none) = none := if_neg hx
        rw [e1]
        exact next_other x hl hz r1 r2 r3 hac hx
  · have e0 : nextI room q o x = none := by unfold nextI actI; rw [if_neg hz]; rfl
    rw [e0]
    obtain ⟨y, hy⟩ : ∃ y, chkF room q.length = y := ⟨_, rfl⟩
    have hy0 : y ≠ 0 := by rw [← hy]; exact hz
    have b1 : (y != 0) = true := by simpa using hy0
    have CK := Lib.hid (fun W => check_at (w := W) (a := a) (c := c) hy)
    obtain ⟨n, hn⟩ : ∃ n, n = q.length := ⟨_, rfl⟩
    rw [← hn] at CK ⊢
    clear hz hl hn e0 hy hy0
    go_enter Try.func12, Try.ntmps12
    go_wp2_with fail
    refine (CK.out _).mono ?_
    rintro e w1 ⟨rfl, rfl⟩
    go_wp2
    refine bodyPost_ret (v := .tuple #[.slice none 0 0, .bool false]) (by simp [results, Try.results12, go_sem]) rfl (RetN.none_ (((Kept.refl w).alloc _ _).alloc _ _))
end Go.Proofs.Ytpmalbdnjpbijaa
