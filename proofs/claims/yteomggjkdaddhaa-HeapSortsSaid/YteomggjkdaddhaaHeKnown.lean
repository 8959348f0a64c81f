/- HeapKnown. -/
import Derived.Test.YteomggjkdaddhaaHeFull
namespace Go.Proofs.Yteomggjkdaddhaa
open Go.RowKit

theorem Kept.box {W v : World} {t : TypeId} (k : Kept (W.alloc (.cells #[.int .i64 0, .int .i64 0, .int .u64 0] t)) v) : AnBox v W.heap.size noAnn := (AnBox.new W noAnn t _ rfl).kept k
theorem Kept.boxd {W v : World} {t : TypeId} (k : Kept (W.alloc (.cells #[.int .i64 0, .int .i64 0, .int .u64 0] t)).drew v) : AnBox v W.heap.size noAnn := ((AnBox.new W noAnn t _ rfl).kept (Kept.refl _).drew).kept k
theorem AnBox.zero {W : World} {b : Nat} (h : AnBox W b noAnn) : W.cell? ⟨b, 0, none⟩ = some (.int .i64 0) ∧ W.cell? ⟨b, 1, none⟩ = some (.int .i64 0) ∧ W.cell? ⟨b, 2, none⟩ = some (.int .u64 0) ∧ W.frozen? ⟨b, 0, none⟩ = false ∧ W.frozen? ⟨b, 1, none⟩ = false ∧ W.frozen? ⟨b, 2, none⟩ = false :=
  ⟨h.c0, h.c1, h.c2, h.s 0, h.s 1, h.s 2⟩
theorem answer_p {w : World} {a : Option Addr} {c n : Nat} {l : List It} {x : Ann} (o : Opn) (h : Lay w (.slice a n c) n (flatI l)) (hn : n = l.length) (hp : tellS l o = some x) :
    Calls Try.prog 13 #[.slice a n c, .agg #[.int .i64 o.k, .int .i64 o.a, .int .i64 o.b, .int .u64 o.u]] w fun e w' => e = .returned (.tuple #[.agg #[.int .i64 x.e, .int .i64 x.n, .int .u64 x.v], .bool true]) ∧ Kept w w' :=
  (answer_any o h hn).mono fun _ _ hh => by have h := hh.unf; rw [hp] at h; exact h
theorem answer_no {w : World} {a : Option Addr} {c n : Nat} {l : List It} (o : Opn) (h : Lay w (.slice a n c) n (flatI l)) (hn : n = l.length) (hp : tellS l o = none) :
    Calls Try.prog 13 #[.slice a n c, .agg #[.int .i64 o.k, .int .i64 o.a, .int .i64 o.b, .int .u64 o.u]] w fun e w' => e = .returned (.tuple #[.agg #[.int .i64 0, .int .i64 0, .int .u64 0], .bool false]) ∧ Kept w w' :=
  (answer_any o h hn).mono fun _ _ hh => by have h := hh.unf; rw [hp] at h; exact h
theorem place_at {w : World} {a : Option Addr} {c n : Nat} {l : List It} {key : Int} {P : Nat} {H : Bool} (h : Lay w (.slice a n c) n (flatI l)) (hn : n = l.length) (hP : pl key l = P) (hH : hs key l = H) :
    Calls Try.prog 18 #[.slice a n c, .int .u64 key] w fun e w' => e = .returned (.tuple #[.int .i64 P, .bool H]) ∧ Kept w w' := by
  subst hP; subst hH; exact place_any key h hn
theorem nexts_r {w : World} {a : Option Addr} {m c : Nat} (k x y u e n v : Int) (p : Option (List It)) (hp : nextS twoI ⟨k, x, y, u⟩ ⟨e, n, v⟩ = p) (hw : Lay w (.slice a m c) m (flatI (p.getD []))) (hn : m = (p.getD []).length) (hs : m ≤ 10) (ha : a.isNone = !p.isSome) :
    Calls Try.prog 24 #[.agg #[.int .i64 k, .int .i64 x, .int .i64 y, .int .u64 u], .agg #[.int .i64 e, .int .i64 n, .int .u64 v], .slice a m c] w fun e w' => e = .returned (.bool true) ∧ Kept w w' :=
  nexts_at ⟨k, x, y, u⟩ ⟨e, n, v⟩ p hp hw hn hs ha
def KnOne (W0 : World) (v : Value) (W : World) : Prop := v = .bool true ∧ Kept W0 W
def KnTwo (W0 : World) (v b : Value) (W : World) : Prop := ∃ B, v = .pointer (some ⟨B, 0, none⟩) ∧ b = .bool true ∧ Kept W0 W ∧ AnBox W B ⟨0, 7, 3⟩

set_option maxRecDepth 100000 in
set_option maxHeartbeats 16000000 in
theorem known_any (w : World) : Calls Try.prog 6 #[] w fun e w' => e = .returned (.bool true) ∧ Kept w w' := by
  obtain ⟨W0, hW0⟩ : ∃ W0, ((w.alloc (.cells #[.int .i64 5, .int .i64 0, .int .i64 0, .int .u64 0] 25)).alloc (.cells #[.int .i64 6, .int .i64 0, .int .i64 0, .int .u64 0] 25)) = W0 := ⟨_, rfl⟩
  have OB := Lib.hid (show OpBox W0 w.heap.size ⟨5, 0, 0, 0⟩ by rw [← hW0]; exact (OpBox.new w ⟨5, 0, 0, 0⟩ _ _ rfl).kept ((Kept.refl _).alloc _ _))
  have OC := Lib.hid (show OpBox W0 (w.heap.size + 1) ⟨6, 0, 0, 0⟩ by rw [← hW0]; exact OpBox.new _ ⟨6, 0, 0, 0⟩ _ _ (by simp))
  have K0 := Lib.hid (show Kept w W0 by rw [← hW0]; exact ((Kept.refl w).alloc _ _).alloc _ _)
  have HW := Lib.hid hW0
  clear hW0
  obtain ⟨p0, p1, p2, p3⟩ := OB.out
  obtain ⟨q0, q1, q2, q3⟩ := OC.out
  go_enter Try.func6, Try.ntmps6
  go_upto_region 2 with fail
  rw [HW.out]
  go_cut [3] (KnOne W0)
  case first =>
    go_upto_region 2 with fail
    have KT : Kept W0 W0.drew := (Kept.refl W0).drew
    go_region_held3 (fun w' => (w'.cell? ⟨w.heap.size, 0, none⟩ = some (.int .i64 5) ∧ w'.cell? ⟨w.heap.size, 1, none⟩ = some (.int .i64 0) ∧ w'.cell? ⟨w.heap.size, 2, none⟩ = some (.int .i64 0) ∧ w'.cell? ⟨w.heap.size, 3, none⟩ = some (.int .u64 0)) ∧
      (w'.cell? ⟨w.heap.size + 1, 0, none⟩ = some (.int .i64 6) ∧ w'.cell? ⟨w.heap.size + 1, 1, none⟩ = some (.int .i64 0) ∧ w'.cell? ⟨w.heap.size + 1, 2, none⟩ = some (.int .i64 0) ∧ w'.cell? ⟨w.heap.size + 1, 3, none⟩ = some (.int .u64 0)))
      (with_reducible exact ⟨opbox_all (OB.out.kept KT), opbox_all (OC.out.kept KT)⟩)
      (first
        | (go_at_call 25; refine (putOp_any _ _ _).mono ?_; rintro e v ⟨rfl, k⟩; have KT := KT.trans k)
        | (go_at_call 26; refine (two_any _).mono ?_; rintro e v ⟨g, rfl, k, l⟩; have KT := KT.trans k; have LT := Lib.hid l; clear l)
        | (go_at_call 24; with_reducible refine (nexts_r (m := 2) 4 1 0 5 8 0 0 (some twoI) (by decide) LT.out rfl (by decide) rfl).mono ?_; rintro e v ⟨rfl, k⟩; have KT := KT.trans k)
        | (go_at_call 24; with_reducible refine (nexts_r (m := 2) 4 9 0 4 7 0 0 (some twoI) (by decide) LT.out rfl (by decide) rfl).mono ?_; rintro e v ⟨rfl, k⟩; have KT := KT.trans k)
        | (go_at_call 24; with_reducible refine (nexts_r (m := 0) 5 0 0 0 0 8 5 none (by decide) (lay_nothing _) rfl (by decide) rfl).mono ?_; rintro e v ⟨rfl, k⟩; have KT := KT.trans k)
        | (go_at_call 24; with_reducible refine (nexts_r (m := 0) 5 0 0 0 15 0 0 none (by decide) (lay_nothing _) rfl (by decide) rfl).mono ?_; rintro e v ⟨rfl, k⟩; have KT := KT.trans k)
        | (go_at_call 24; with_reducible refine (nexts_r (m := 2) 6 0 0 0 0 7 3 (some twoI) (by decide) LT.out rfl (by decide) rfl).mono ?_; rintro e v ⟨rfl, k⟩; have KT := KT.trans k))
    all_goals go_wp2
    all_goals go_meet
    all_goals exact ⟨rfl, KT⟩
  case rest =>
    obtain ⟨rfl, kc⟩ := hcut
    have KC := Lib.hid kc
    clear kc p0 p1 p2 p3 q0 q1 q2 q3
    rename_i wc
    obtain ⟨p0, p1, p2, p3⟩ := OB.out.kept KC.out
    go_upto_region 3 with fail
    go_cut [4, 5] (KnTwo wc)
    case first =>
      go_upto_region 3 with fail
      have KT : Kept wc wc.drew := (Kept.refl wc).drew
      have sz := lt_of_cell p0
      go_region_held3 (fun w' => w'.cell? ⟨w.heap.size, 0, none⟩ = some (.int .i64 5) ∧ w'.cell? ⟨w.heap.size, 1, none⟩ = some (.int .i64 0) ∧ w'.cell? ⟨w.heap.size, 2, none⟩ = some (.int .i64 0) ∧ w'.cell? ⟨w.heap.size, 3, none⟩ = some (.int .u64 0))
        (first | with_reducible exact opbox_all (OB.out.kept (KC.out.trans KT)) | with_reducible exact opbox_all (OB.out.kept ((KC.out.trans KT).alloc _ _)) | with_reducible exact opbox_all (OB.out.kept (((KC.out.trans KT).alloc _ _).drew)) | with_reducible exact opbox_all (OB.out.kept (((KC.out).alloc _ _).drew)) | exact opbox_all ((OB.out.kept (KC.out.trans KT)).but ((((But.refl _ _).here _ _).here _ _).here _ _) (by omega)))
        (first
          | (go_at_call 26; refine (two_any _).mono ?_; rintro e v1 ⟨g, rfl, k1, l1⟩; have KT1 : Kept wc v1 := Kept.trans (by repeat (first | with_reducible exact KT | with_reducible exact Kept.refl _ | with_reducible refine Kept.alloc ?_ _ _ | with_reducible refine Kept.drew ?_)) k1; have KT := KT1; have sz1 := KT1.size; have LT := Lib.hid l1; (first | (have BX := Lib.hid k1.box; obtain ⟨z0, z1, z2, s0, s1, s2⟩ := BX.out.zero) | (have BX := Lib.hid k1.boxd; obtain ⟨z0, z1, z2, s0, s1, s2⟩ := BX.out.zero) | skip); clear l1)
          | (go_at_call 13; refine (answer_p ⟨5, 0, 0, 0⟩ (x := ⟨0, 7, 3⟩) (LT.out.kept (by repeat (first | with_reducible exact Kept.refl _ | with_reducible refine Kept.alloc ?_ _ _))) rfl (by decide)).mono ?_; rintro e v2 ⟨rfl, k2⟩; have KT2 : Kept wc v2 := Kept.trans (by repeat (first | with_reducible exact KT | with_reducible exact Kept.refl _ | with_reducible refine Kept.alloc ?_ _ _ | with_reducible refine Kept.drew ?_)) k2; have KT := KT2; (first | (have BY := Lib.hid (BX.out.kept k2); obtain ⟨y0, y1, y2, t0, t1, t2⟩ := BY.out.zero) | (have BY := Lib.hid k2.box; obtain ⟨y0, y1, y2, t0, t1, t2⟩ := BY.out.zero) | (have BY := Lib.hid k2.boxd; obtain ⟨y0, y1, y2, t0, t1, t2⟩ := BY.out.zero) | skip)))
      all_goals go_wp2
      all_goals go_meet
      · exact ⟨_, rfl, rfl, KT2.alloc _ _, AnBox.new v2 ⟨0, 7, 3⟩ _ _ rfl⟩
      · exact ⟨_, rfl, rfl, KT2.wrote1 ((((But.refl _ _).here _ _).here _ _).here _ _) (by omega), BY.out.put ⟨0, 7, 3⟩⟩
      · exact ⟨_, rfl, rfl, KT2.wrote1 ((((But.refl _ _).here _ _).here _ _).here _ _) (by omega), BY.out.put ⟨0, 7, 3⟩⟩
    case rest =>
      obtain ⟨B3, rfl, rfl, k3, a3⟩ := hcut
      have K3 := Lib.hid (KC.out.trans k3)
      have A3 := Lib.hid a3
      clear k3 a3 p0 p1 p2 p3
      rename_i w3
      go_wp2_with fail; refine (two_any _).mono ?_; rintro e w4 ⟨g4, rfl, k4, l4⟩
      have K4 := Lib.hid (K3.out.trans k4)
      have L4 := Lib.hid l4
      have A4 := Lib.hid (A3.out.kept k4)
      clear k4 l4
      go_wp2_with fail; refine (putOp_any 4 9 _).mono ?_; rintro e w5 ⟨rfl, k5⟩
      have K5 := Lib.hid (K4.out.trans k5)
      have L5 := Lib.hid (L4.out.kept k5)
      have A5 := Lib.hid (A4.out.kept k5)
      clear k5
      go_wp2_with fail; refine (answer_p ⟨4, 9, 0, 4⟩ (x := ⟨0, 0, 0⟩) L5.out rfl (by decide)).mono ?_; rintro e w6 ⟨rfl, k6⟩
      obtain ⟨W6, hW6⟩ : ∃ W6, w6.alloc (.cells #[.int .i64 0, .int .i64 0, .int .u64 0] 28) = W6 := ⟨_, rfl⟩
      obtain ⟨B6, hB6⟩ : ∃ B6, w6.heap.size = B6 := ⟨_, rfl⟩
      have K6 := Lib.hid (show Kept W0 W6 by rw [← hW6]; exact (K5.out.trans k6).alloc _ _)
      have A6 := Lib.hid (show AnBox W6 B3 ⟨0, 7, 3⟩ by rw [← hW6]; exact A5.out.kept (k6.alloc _ _))
      have N6 := Lib.hid (show AnBox W6 B6 ⟨0, 0, 0⟩ by rw [← hW6]; exact AnBox.new w6 ⟨0, 0, 0⟩ _ _ hB6.symm)
      have HW6 := Lib.hid hW6
      have HB6 := Lib.hid hB6
      clear k6 hW6 hB6
      go_upto_region 5 with fail
      rw [HW6.out, HB6.out]
      obtain ⟨q0, q1, q2, q3⟩ := OC.out.kept K6.out
      go_wp2_with fail; refine (answer_p ⟨6, 0, 0, 0⟩ (x := ⟨15, 0, 0⟩) (l := []) (.inl (.inl ⟨rfl, rfl, rfl⟩)) rfl (by decide)).mono ?_; rintro e w7 ⟨rfl, k7⟩
      obtain ⟨W7, hW7⟩ : ∃ W7, w7.alloc (.cells #[.int .i64 15, .int .i64 0, .int .u64 0] 28) = W7 := ⟨_, rfl⟩
      obtain ⟨B7, hB7⟩ : ∃ B7, w7.heap.size = B7 := ⟨_, rfl⟩
      have k7' : Kept W6 W7 := by rw [← hW7]; exact k7.alloc _ _
      have K7 := Lib.hid (K6.out.trans k7')
      have A7 := Lib.hid (A6.out.kept k7')
      have N7 := Lib.hid (N6.out.kept k7')
      have M7 := Lib.hid (show AnBox W7 B7 ⟨15, 0, 0⟩ by rw [← hW7]; exact AnBox.new w7 ⟨15, 0, 0⟩ _ _ hB7.symm)
      have HW7 := Lib.hid hW7
      have HB7 := Lib.hid hB7
      clear k7 k7' hW7 hB7 q0 q1 q2 q3
      go_upto_region 6 with fail
      rw [HW7.out, HB7.out]
      go_wp2_with fail; refine (two_any _).mono ?_; rintro e w8 ⟨g8, rfl, k8, l8⟩
      have K8 := Lib.hid (K7.out.trans k8)
      have L8 := Lib.hid l8
      have A8 := Lib.hid (A7.out.kept k8)
      have N8 := Lib.hid (N7.out.kept k8)
      have M8 := Lib.hid (M7.out.kept k8)
      clear k8 l8
      go_wp2_with fail; refine (answer_no ⟨2, 0, 0, 0⟩ L8.out rfl (by decide)).mono ?_; rintro e w9 ⟨rfl, k9⟩
      obtain ⟨W9, hW9⟩ : ∃ W9, w9.alloc (.cells #[.int .i64 0, .int .i64 0, .int .u64 0] 28) = W9 := ⟨_, rfl⟩
      obtain ⟨B9, hB9⟩ : ∃ B9, w9.heap.size = B9 := ⟨_, rfl⟩
      have k9' : Kept w8 W9 := by rw [← hW9]; exact k9.alloc _ _
      have K9 := Lib.hid (K8.out.trans k9')
      have A9 := Lib.hid (A8.out.kept k9')
      have N9 := Lib.hid (N8.out.kept k9')
      have M9 := Lib.hid (M8.out.kept k9')
      have HW9 := Lib.hid hW9
      have HB9 := Lib.hid hB9
      clear k9 k9' hW9 hB9
      go_upto_region 7 with fail
      rw [HW9.out, HB9.out]
      obtain ⟨a0, a1, a2, _⟩ := A9.out
      obtain ⟨n0, n1, n2, _⟩ := N9.out
      obtain ⟨m0, m1, m2, _⟩ := M9.out
      have E1 := eq_ann ⟨0, 7, 3⟩
      have E2 := eq_ann ⟨0, 0, 0⟩
      have E3 := eq_ann ⟨15, 0, 0⟩
      go_upto_region 8 with fail
      clear a0 a1 a2 n0 n1 n2 m0 m1 m2 E1 E2 E3
      go_wp2_with fail; refine (two_any _).mono ?_; rintro e v1 ⟨h1, rfl, j1, l1⟩
      have J1 := Lib.hid (K9.out.trans j1)
      have M1 := Lib.hid l1
      clear j1 l1
      go_wp2_with fail; refine (place_at (P := 1) (H := true) M1.out rfl (by decide) (by decide)).mono ?_; rintro e v2 ⟨rfl, j2⟩
      have J2 := Lib.hid (J1.out.trans j2)
      clear j2
      go_wp2_with fail; refine (two_any _).mono ?_; rintro e v3 ⟨h3, rfl, j3, l3⟩
      have J3 := Lib.hid (J2.out.trans j3)
      have M3 := Lib.hid l3
      clear j3 l3
      go_wp2_with fail; refine (place_at (P := 1) (H := false) M3.out rfl (by decide) (by decide)).mono ?_; rintro e v4 ⟨rfl, j4⟩
      have J4 := Lib.hid (J3.out.trans j4)
      clear j4
      go_wp2_with fail; refine (two_any _).mono ?_; rintro e v5 ⟨h5, rfl, j5, l5⟩
      have J5 := Lib.hid (J4.out.trans j5)
      have M5 := Lib.hid l5
      clear j5 l5
      go_wp2_with fail; refine (place_at (P := 2) (H := false) M5.out rfl (by decide) (by decide)).mono ?_; rintro e v6 ⟨rfl, j6⟩
      have J6 := Lib.hid (J5.out.trans j6)
      clear j6
      go_wp2_with fail; refine (two_any _).mono ?_; rintro e v7 ⟨h7, rfl, j7, l7⟩
      have J7 := Lib.hid (J6.out.trans j7)
      have M7 := Lib.hid l7
      clear j7 l7
      go_wp2_with fail; refine (least_any 1 M7.out rfl (by decide)).mono ?_; rintro e v8 ⟨a8, c8, rfl, j8, o8⟩
      have J8 := Lib.hid (J7.out.trans j8)
      have M8 := Lib.hid (show Lay v8 (.slice a8 1 c8) 1 (flatI [⟨3, 7⟩]) from (own_lies o8).lay)
      clear j8 o8
      go_wp2_with fail; refine (two_any _).mono ?_; rintro e v9 ⟨h9, rfl, j9, l9⟩
      have J9 := Lib.hid (J8.out.trans j9)
      have M9 := Lib.hid (show Lay v9 (.slice (some ⟨h9, 0, none⟩) 1 2) 1 (flatI [⟨3, 7⟩]) from l9.first (m := 1) (d := 2) (by decide) (by decide) (by decide) (fun e => by cases e))
      have N9 := Lib.hid (M8.out.kept j9)
      clear j9 l9
      go_wp2_with fail; refine (same_n N9.out M9.out rfl rfl (by decide)).mono ?_; rintro e v10 ⟨rfl, j10⟩
      have J10 := Lib.hid (J9.out.trans j10)
      clear j10
      go_wp2_with fail; refine (awake_any _).mono ?_; rintro e v11 ⟨rfl, j11⟩
      have J11 := Lib.hid (J10.out.trans j11)
      clear j11
      go_wp2_with fail; refine (chk_at (l := [⟨5, 0⟩, ⟨3, 0⟩]) (z := 9) (lay_new (heap_alloc_new _ _) (by decide)) rfl (by decide)).mono ?_; rintro e v12 ⟨rfl, j12⟩
      have J12 := Lib.hid ((J11.out.alloc _ _).trans j12)
      clear j12
      go_wp2_with fail; refine (chk_at (l := [⟨3, 0⟩, ⟨3, 0⟩]) (z := 9) (lay_new (heap_alloc_new _ _) (by decide)) rfl (by decide)).mono ?_; rintro e v13 ⟨rfl, j13⟩
      have J13 := Lib.hid ((J12.out.alloc _ _).trans j13)
      clear j13
      go_wp2
      go_ret
      exact ⟨rfl, K0.out.trans J13.out⟩
end Go.Proofs.Yteomggjkdaddhaa
