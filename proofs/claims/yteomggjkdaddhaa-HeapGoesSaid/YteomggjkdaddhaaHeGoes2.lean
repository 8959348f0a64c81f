/- HeapGoes: what is put. -/
import Derived.Test.YteomggjkdaddhaaHeGoes
namespace Go.Proofs.Yteomggjkdaddhaa
open Go.RowKit
attribute [local go_sem ↓] app_named
set_option maxRecDepth 100000 in
set_option maxHeartbeats 16000000 in
theorem goes_put {w : World} {a : Option Addr} {n c : Nat} {l : List It} {oa ob ou : Int} (hL : Lay w (.slice a n c) n (flatI l)) (hn : n = l.length) (hl : n ≤ 40) (hz : chk l = 0) (ht : tellS l ⟨4, oa, ob, ou⟩ = some ⟨0, 0, 0⟩) (hp : nextS l ⟨4, oa, ob, ou⟩ ⟨0, 0, 0⟩ = some (ins ⟨ou, oa⟩ l)) (hd : hs ou l = false) :
    Calls Try.prog 7 #[.slice a n c, .agg #[.int .i64 4, .int .i64 oa, .int .i64 ob, .int .u64 ou], .agg #[.int .i64 0, .int .i64 0, .int .u64 0]] w fun e w' => e = .returned (.bool true) ∧ Kept w w' := by
  obtain ⟨a', c', e, hnc, hcm⟩ := hL.form
  cases e
  obtain ⟨W0, hW0⟩ : ∃ W0, ((w.alloc (.cells #[.int .i64 4, .int .i64 oa, .int .i64 ob, .int .u64 ou] 25)).alloc (.cells #[.int .i64 0, .int .i64 0, .int .u64 0] 28)) = W0 := ⟨_, rfl⟩
  have OB := Lib.hid (show OpBox W0 w.heap.size ⟨4, oa, ob, ou⟩ by rw [← hW0]; exact (OpBox.new w ⟨4, oa, ob, ou⟩ _ _ rfl).kept ((Kept.refl _).alloc _ _))
  have AB := Lib.hid (show AnBox W0 (w.heap.size + 1) ⟨0, 0, 0⟩ by rw [← hW0]; exact AnBox.new _ ⟨0, 0, 0⟩ _ _ (by simp))
  have K0 := Lib.hid (show Kept w W0 by rw [← hW0]; exact ((Kept.refl w).alloc _ _).alloc _ _)
  have HW := Lib.hid hW0
  have HN := Lib.hid hn
  have HL := Lib.hid (hL.kept K0.out)
  have CK := Lib.hid (fun W (k : Kept W0 W) => chk_at (HL.out.kept k) hn hz)
  have AN := Lib.hid (fun W (k : Kept W0 W) => answer_p ⟨4, oa, ob, ou⟩ (HL.out.kept k) hn ht)
  have hm : ((ins ⟨ou, oa⟩ l)).length = (n + 1) := by rw [ins_length, hn]
  have NX := Lib.hid (fun W (k : Kept W0 W) => next_yes (m := (n + 1)) ⟨4, oa, ob, ou⟩ ⟨0, 0, 0⟩ (HL.out.kept k) hn hp hm)
  have CN := Lib.hid (fun W a' c' (L : Lay W (.slice a' (n + 1) c') (n + 1) (flatI (ins ⟨ou, oa⟩ l))) => chk_at L hm.symm (chk_of (by rw [ins_length]; omega) (ins_asc (x := ⟨ou, oa⟩) (chk_zero hz).2 hd)))
  have E7 : ∀ W, _ := ann_at ⟨0, 0, 0⟩ ⟨7, 0, 0⟩ (b := false) (by decide)
  have E12 : ∀ W, _ := ann_at ⟨0, 0, 0⟩ ⟨12, 0, 0⟩ (b := false) (by decide)
  have EQ : ∀ W, _ := ann_at ⟨0, 0, 0⟩ ⟨0, 0, 0⟩ (b := true) (by simp)
  obtain ⟨P, hP⟩ : ∃ P, pl ou l = P := ⟨_, rfl⟩
  have hPn : P ≤ n := by rw [← hP, hn]; exact pl_le _ _
  have PC := Lib.hid (fun W a' c' (L : Lay W (.slice a' (n + 1) c') (n + 1) (flatI (ins ⟨ou, oa⟩ l))) => place_at (key := ou) (P := P) (H := true) L hm.symm (by rw [← hP]; exact ins_pl ⟨ou, oa⟩ l) (ins_hs ⟨ou, oa⟩ l))
  have IX := Lib.hid (show (ins ⟨ou, oa⟩ l)[P]? = some ⟨ou, oa⟩ by rw [← hP]; exact ins_at ⟨ou, oa⟩ l)
  have IU := Lib.hid (show (ins ⟨ou, oa⟩ l).take P ++ (ins ⟨ou, oa⟩ l).drop (P + 1) = l by rw [← hP]; exact ins_out ⟨ou, oa⟩ l)
  have HM := Lib.hid hm.symm
  clear hP hd
  clear hL hn hz ht hp hW0 hm
  go_enter Try.func7, Try.ntmps7
  go_upto_region 1 with fail
  rw [HW.out]
  go_wp2_with fail; refine (known_any _).mono ?_; rintro e w1 ⟨rfl, k1⟩
  have K1 := Lib.hid k1
  clear k1
  go_wp2_with fail; refine (CK.out _ K1.out).mono ?_; rintro e w2 ⟨rfl, k2⟩
  have K2 := Lib.hid (K1.out.trans k2)
  clear k2
  obtain ⟨p0, p1, p2, p3⟩ := OB.out.kept K2.out
  go_wp2_with fail; refine (AN.out _ K2.out).mono ?_; rintro e w3 ⟨rfl, k3⟩
  obtain ⟨W3, hW3⟩ : ∃ W3, w3.alloc (.cells #[.int .i64 0, .int .i64 0, .int .u64 0] 28) = W3 := ⟨_, rfl⟩
  obtain ⟨B3, hB3⟩ : ∃ B3, w3.heap.size = B3 := ⟨_, rfl⟩
  have K3 := Lib.hid (show Kept W0 W3 by rw [← hW3]; exact (K2.out.trans k3).alloc _ _)
  have Y3 := Lib.hid (show AnBox W3 B3 ⟨0, 0, 0⟩ by rw [← hW3]; exact AnBox.new w3 ⟨0, 0, 0⟩ _ _ hB3.symm)
  have HW3 := Lib.hid hW3
  have HB3 := Lib.hid hB3
  clear k3 hW3 hB3 p0 p1 p2 p3
  go_upto_region 5 with fail
  rw [HW3.out, HB3.out]
  obtain ⟨p0, p1, p2, p3⟩ := OB.out.kept K3.out
  obtain ⟨x0, x1, x2, _⟩ := AB.out.kept K3.out
  go_wp2_with fail; refine (NX.out _ K3.out).mono ?_; rintro e w4 ⟨a4, c4, rfl, k4, own4⟩
  have K4 := Lib.hid (K3.out.trans k4)
  have X4 := Lib.hid (own_lies own4).lay
  have Y4 := Lib.hid (Y3.out.kept k4)
  clear k4 own4 p0 p1 p2 p3 x0 x1 x2
  obtain ⟨p0, p1, p2, p3⟩ := OB.out.kept K4.out
  obtain ⟨x0, x1, x2, _⟩ := AB.out.kept K4.out
  obtain ⟨y0, y1, y2, _⟩ := Y4.out
  go_wp2_with fail; refine (CN.out _ _ _ X4.out).mono ?_; rintro e w5 ⟨rfl, k5⟩
  have K5 := Lib.hid (K4.out.trans k5)
  have X5 := Lib.hid (X4.out.kept k5)
  clear k5 p0 p1 p2 p3 x0 x1 x2 y0 y1 y2
  obtain ⟨p0, p1, p2, p3⟩ := OB.out.kept K5.out
  obtain ⟨x0, x1, x2, _⟩ := AB.out.kept K5.out
  go_wp2_with fail; refine (PC.out _ _ _ X5.out).mono ?_; rintro e w6 ⟨rfl, k6⟩
  have K6 := Lib.hid (K5.out.trans k6)
  have X6 := Lib.hid (X5.out.kept k6)
  clear k6 p0 p1 p2 p3 x0 x1 x2
  obtain ⟨p0, p1, p2, p3⟩ := OB.out.kept K6.out
  obtain ⟨a4', c4', e, hn4, hc4⟩ := X6.out.form
  cases e
  obtain ⟨g, of, rfl, IA⟩ : ∃ g of, a4 = some ⟨g, of, none⟩ ∧ Hid (ItAt w6 g (of + P * 2) ⟨ou, oa⟩) := by
    have h := X6.out
    rw [HM.out] at h
    obtain ⟨g, of, c', e, _, _, hc⟩ := h.it (by rw [← HM.out]; omega)
    cases e
    exact ⟨g, of, rfl, Lib.hid (hc P _ IX.out)⟩
  obtain ⟨i0, i1⟩ := IA.out
  have hnil := X6.out.nil_cap
  have s1 := run_head (some ⟨g, of, none⟩) (n + 1) c4 P (by omega)
  have s2 : ∀ W, (Instr.slice 22 (.slice (some ⟨g, of, none⟩) (n + 1) c4) (some (.int .i64 ((P : Int) + 1))) none none).run Try.prog W = .ok (.slice (if c4 = P + 1 then some ⟨g, of, none⟩ else (some ⟨g, of, none⟩ : Option Addr).map (·.add ((P + 1) * 2))) (n + 1 - (P + 1)) (c4 - (P + 1))) W := run_tail (some ⟨g, of, none⟩) (n + 1) c4 (P + 1) (by omega)
  obtain ⟨R, hR⟩ : ∃ R, n + 1 - (P + 1) = R := ⟨_, rfl⟩
  obtain ⟨C7, hC7⟩ : ∃ C7, c4 - (P + 1) = C7 := ⟨_, rfl⟩
  obtain ⟨A7, hA7⟩ : ∃ A7, (if c4 = P + 1 then some ⟨g, of, none⟩ else (some ⟨g, of, none⟩ : Option Addr).map (·.add ((P + 1) * 2))) = A7 := ⟨_, rfl⟩
  have T7 := Lib.hid (show Lay w6 (.slice A7 R C7) R (flatI ((ins ⟨ou, oa⟩ l).drop (P + 1))) by rw [← hA7, ← hR, ← hC7]; exact X6.out.tail HM.out (by omega) hn4 hc4 hnil)
  have H7 := Lib.hid (X6.out.first (m := P) (d := c4) (by omega) (by omega) hc4 hnil)
  rw [hA7, hR, hC7] at s2
  have hR' : P + R = n := by omega
  have HR := Lib.hid hR'
  have CI := Lib.hid (fun W (k : Kept w6 W) => copy_n (H7.out.kept k) (by rw [List.length_take, ← HM.out]; omega) (by omega))
  obtain ⟨i0', hi0, hz0, hz1, hz2⟩ := info_parts infoI
  have APP := Lib.hid (fun (W : World) (k : Kept w6 W) (a' : Option Addr) (c' : Nat) (base : Nat) (hb : base ≤ W.heap.size) (hb' : w6.heap.size ≤ base) (own : W.ownsRow base 45 2 (.slice a' P c') P (flatI ((ins ⟨ou, oa⟩ l).take P))) =>
    show ∃ a8 c8 w8, (appSem #[22, 22] 22 #[.slice a' P c', .slice A7 R C7]).run Try.prog W = .ok (.slice a8 (P + R) c8) w8 ∧ Kept w6 w8 ∧ Lay w8 (.slice a8 (P + R) c8) (P + R) (flatI ((ins ⟨ou, oa⟩ l).take P) ++ flatI ((ins ⟨ou, oa⟩ l).drop (P + 1))) by
      obtain ⟨a8, c8, w8, hr, own8, but8, _⟩ := append_lay (P := Try.prog) W base 22 22 45 i0' _ 2 16 Try.underlying22 hi0 hz0 hz1 hz2 (by rfl) (by decide) (.slice a' P c') P _ own (.slice A7 R C7) R (flatI ((ins ⟨ou, oa⟩ l).drop (P + 1))) (by rw [flatI_length, List.length_drop, ← HM.out, hR]) (T7.out.kept k) (flatI_one _) (by unfold maxLen; omega) (by omega) hb
      refine ⟨a8, c8, w8, hr, k.wrote but8 (fun g hg => Nat.le_trans hb' (own.lt g hg).1), (own_lies own8).lay⟩)
  have SM := Lib.hid (fun (W : World) (k : Kept w6 W) (a8 : Option Addr) (c8 : Nat) (L : Lay W (.slice a8 (P + R) c8) (P + R) (flatI ((ins ⟨ou, oa⟩ l).take P) ++ flatI ((ins ⟨ou, oa⟩ l).drop (P + 1)))) =>
    same_n (l := l) (by rw [← flatI_append, IU.out] at L; exact L) (HL.out.kept (K6.out.trans k)) (by have := HN.out; have := HR.out; omega) HN.out (by have := HR.out; omega))
  have b1 : (P : Int) < (n : Int) + 1 := by omega
  have b2 : ((n : Int) + 1 == (n : Int) + 1) = true := by simp
  have EI := eq_it ou oa
  have wl := lt_of_cell p0
  have gl := lt_of_cell i0
  have w1' : IntKind.i64.wrap ((n : Int) + 1) = (n : Int) + 1 := by rw [IntKind.wrap_i64]; omega
  have w2' : IntKind.i64.wrap ((P : Int) + 1) = (P : Int) + 1 := by rw [IntKind.wrap_i64]; omega
  clear hA7 hnil hR hC7 hR'
  go_upto_region 13 with fail
  have KT : Kept w6 w6.drew := (Kept.refl w6).drew
  go_region_held3 (fun w' => w'.cell? ⟨w.heap.size, 1, none⟩ = some (.int .i64 oa) ∧ w'.cell? ⟨w.heap.size, 3, none⟩ = some (.int .u64 ou) ∧ w'.cell? ⟨g, of + P * 2, none⟩ = some (.int .u64 ou) ∧ w'.cell? ⟨g, of + P * 2 + 1, none⟩ = some (.int .i64 oa))
    (first | with_reducible exact ⟨KT9.some p1, KT9.some p3, KT9.some i0, KT9.some i1⟩ | with_reducible exact ⟨KT8.some p1, KT8.some p3, KT8.some i0, KT8.some i1⟩ | with_reducible exact ⟨KT7.some p1, KT7.some p3, KT7.some i0, KT7.some i1⟩ | with_reducible exact ⟨KT.some p1, KT.some p3, KT.some i0, KT.some i1⟩)
    (first
      | (go_at_call 10; refine (CI.out _ KT).mono ?_; rintro e w7 ⟨a7, c7, rfl, k7, own7⟩; have KT7 : Kept w6 w7 := KT.trans k7; obtain ⟨a8, c8, w8, hr, KT8, L8⟩ := APP.out w7 KT7 a7 c7 _ k7.size KT.size own7; have LL := Lib.hid L8; clear L8 own7)
      | (go_at_call 15; refine (SM.out _ KT8 _ _ LL.out).mono ?_; rintro e w9 ⟨rfl, k9⟩; have KT9 : Kept w6 w9 := KT8.trans k9))
  go_wp2
  go_ret
  exact ⟨rfl, (K0.out.trans K6.out).trans KT9⟩

end Go.Proofs.Yteomggjkdaddhaa
