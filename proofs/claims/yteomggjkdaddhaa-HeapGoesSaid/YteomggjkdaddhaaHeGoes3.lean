/- HeapGoes: what is picked; all of it. -/
import Derived.Test.YteomggjkdaddhaaHeGoes2
namespace Go.Proofs.Yteomggjkdaddhaa
open Go.RowKit
set_option maxRecDepth 100000 in
set_option maxHeartbeats 16000000 in
theorem goes_pick {w : World} {a : Option Addr} {n c : Nat} {l : List It} {oa ob ou xn xv : Int} (hL : Lay w (.slice a n c) n (flatI l)) (hn : n = l.length) (hl : n ≤ 40) (hz : chk l = 0) (ht : tellS l ⟨5, oa, ob, ou⟩ = some ⟨0, xn, xv⟩) (hp : nextS l ⟨5, oa, ob, ou⟩ ⟨0, xn, xv⟩ = some (l.drop 1)) (hz1 : chk (l.drop 1) = 0) (hi : l[0]? = some ⟨xv, xn⟩) (hml : (l.drop 1).length = n - 1) :
    Calls Try.prog 7 #[.slice a n c, .agg #[.int .i64 5, .int .i64 oa, .int .i64 ob, .int .u64 ou], .agg #[.int .i64 0, .int .i64 xn, .int .u64 xv]] w fun e w' => e = .returned (.bool true) ∧ Kept w w' := by
  obtain ⟨a', c', e, hnc, hcm⟩ := hL.form
  cases e
  obtain ⟨W0, hW0⟩ : ∃ W0, ((w.alloc (.cells #[.int .i64 5, .int .i64 oa, .int .i64 ob, .int .u64 ou] 25)).alloc (.cells #[.int .i64 0, .int .i64 xn, .int .u64 xv] 28)) = W0 := ⟨_, rfl⟩
  have OB := Lib.hid (show OpBox W0 w.heap.size ⟨5, oa, ob, ou⟩ by rw [← hW0]; exact (OpBox.new w ⟨5, oa, ob, ou⟩ _ _ rfl).kept ((Kept.refl _).alloc _ _))
  have AB := Lib.hid (show AnBox W0 (w.heap.size + 1) ⟨0, xn, xv⟩ by rw [← hW0]; exact AnBox.new _ ⟨0, xn, xv⟩ _ _ (by simp))
  have K0 := Lib.hid (show Kept w W0 by rw [← hW0]; exact ((Kept.refl w).alloc _ _).alloc _ _)
  have HW := Lib.hid hW0
  have HN := Lib.hid hn
  have HL := Lib.hid (hL.kept K0.out)
  have CK := Lib.hid (fun W (k : Kept W0 W) => chk_at (HL.out.kept k) hn hz)
  have AN := Lib.hid (fun W (k : Kept W0 W) => answer_p ⟨5, oa, ob, ou⟩ (HL.out.kept k) hn ht)
  have hm : ((l.drop 1)).length = (n - 1) := hml
  have NX := Lib.hid (fun W (k : Kept W0 W) => next_yes (m := (n - 1)) ⟨5, oa, ob, ou⟩ ⟨0, xn, xv⟩ (HL.out.kept k) hn hp hm)
  have h1 : 1 ≤ n := by rw [hn]; exact (List.getElem?_eq_some_iff.1 hi).1
  have CN := Lib.hid (fun W a' c' (L : Lay W (.slice a' (n - 1) c') (n - 1) (flatI (l.drop 1))) => chk_at L hm.symm hz1)
  have EQ : ∀ W, _ := ann_at ⟨0, xn, xv⟩ ⟨0, xn, xv⟩ (b := true) (by simp)
  have h1' : (0 : Int) < n := by omega
  have h0' : 0 < n := h1
  have h1b : decide ((n : Int) > 0) = true := by simp; omega
  have h1c : decide (0 < n) = true := by simp; omega
  have HM := Lib.hid hm.symm
  have I0 := Lib.hid hi
  clear hi hz1 hml
  clear hL hn hz ht hp hW0 hm
  go_enter Try.func7, Try.ntmps7
  go_upto_region 1 with fail
  rw [HW.out]
  go_wp2_with fail; refine (known_any _).mono ?_; rintro e w1 ⟨rfl, k1⟩
  have K1 := Lib.hid k1
  clear k1
  go_wp2_with fail; refine (CK.out _ K1.out).mono ?_; rintro e w2 ⟨rfl, k2⟩
  have K2 := Lib.hid (K1.out.trans k2)
  clear k2
  obtain ⟨p0, p1, p2, p3⟩ := OB.out.kept K2.out
  go_wp2_with fail; refine (AN.out _ K2.out).mono ?_; rintro e w3 ⟨rfl, k3⟩
  obtain ⟨W3, hW3⟩ : ∃ W3, w3.alloc (.cells #[.int .i64 0, .int .i64 xn, .int .u64 xv] 28) = W3 := ⟨_, rfl⟩
  obtain ⟨B3, hB3⟩ : ∃ B3, w3.heap.size = B3 := ⟨_, rfl⟩
  have K3 := Lib.hid (show Kept W0 W3 by rw [← hW3]; exact (K2.out.trans k3).alloc _ _)
  have Y3 := Lib.hid (show AnBox W3 B3 ⟨0, xn, xv⟩ by rw [← hW3]; exact AnBox.new w3 ⟨0, xn, xv⟩ _ _ hB3.symm)
  have HW3 := Lib.hid hW3
  have HB3 := Lib.hid hB3
  clear k3 hW3 hB3 p0 p1 p2 p3
  go_upto_region 5 with fail
  rw [HW3.out, HB3.out]
  obtain ⟨p0, p1, p2, p3⟩ := OB.out.kept K3.out
  obtain ⟨x0, x1, x2, _⟩ := AB.out.kept K3.out
  go_wp2_with fail; refine (NX.out _ K3.out).mono ?_; rintro e w4 ⟨a4, c4, rfl, k4, own4⟩
  have K4 := Lib.hid (K3.out.trans k4)
  have X4 := Lib.hid (own_lies own4).lay
  have Y4 := Lib.hid (Y3.out.kept k4)
  clear k4 own4 p0 p1 p2 p3 x0 x1 x2
  obtain ⟨p0, p1, p2, p3⟩ := OB.out.kept K4.out
  obtain ⟨x0, x1, x2, _⟩ := AB.out.kept K4.out
  obtain ⟨y0, y1, y2, _⟩ := Y4.out
  go_wp2_with fail; refine (CN.out _ _ _ X4.out).mono ?_; rintro e w5 ⟨rfl, k5⟩
  have K5 := Lib.hid (K4.out.trans k5)
  have X5 := Lib.hid (X4.out.kept k5)
  clear k5 p0 p1 p2 p3 x0 x1 x2 y0 y1 y2
  obtain ⟨p0, p1, p2, p3⟩ := OB.out.kept K5.out
  obtain ⟨x0, x1, x2, _⟩ := AB.out.kept K5.out
  obtain ⟨g, of, rfl, IA⟩ : ∃ g of, a = some ⟨g, of, none⟩ ∧ Hid (ItAt w5 g of ⟨xv, xn⟩) := by
    have h := HL.out.kept K5.out
    rw [HN.out] at h
    obtain ⟨g, of, c', e, _, _, hc⟩ := h.it (by rw [← HN.out]; omega)
    cases e
    exact ⟨g, of, rfl, Lib.hid (by simpa using hc 0 _ I0.out)⟩
  obtain ⟨i0, i1⟩ := IA.out
  have s1 : ∀ W, (Instr.slice 22 (.slice (some ⟨g, of, none⟩) n c) (some (.int .i64 1)) none none).run Try.prog W = .ok (.slice (if c = 1 then some ⟨g, of, none⟩ else (some ⟨g, of, none⟩ : Option Addr).map (·.add (1 * 2))) (n - 1) (c - 1)) W := run_tail (some ⟨g, of, none⟩) n c 1 h1
  obtain ⟨A7, hA7⟩ : ∃ A7, (if c = 1 then some ⟨g, of, none⟩ else (some ⟨g, of, none⟩ : Option Addr).map (·.add (1 * 2))) = A7 := ⟨_, rfl⟩
  rw [hA7] at s1
  have SM := Lib.hid (fun W (k : Kept w5 W) => same_n (X5.out.kept k) (show Lay W (.slice A7 (n - 1) (c - 1)) (n - 1) (flatI (l.drop 1)) by rw [← hA7]; exact (HL.out.kept (K5.out.trans k)).tail HN.out h1 hnc hcm (fun e => by cases e)) HM.out HM.out (by omega))
  have gl := lt_of_cell i0
  have wl := lt_of_cell x0
  clear hA7
  go_upto_region 14 with fail
  have KT : Kept w5 w5.drew := (Kept.refl w5).drew
  go_region_held3 (fun w' => w'.cell? ⟨w.heap.size + 1, 1, none⟩ = some (.int .i64 xn) ∧ w'.cell? ⟨w.heap.size + 1, 2, none⟩ = some (.int .u64 xv) ∧ w'.cell? ⟨g, of, none⟩ = some (.int .u64 xv) ∧ w'.cell? ⟨g, of + 1, none⟩ = some (.int .i64 xn))
    (first | with_reducible exact ⟨KT9.some x1, KT9.some x2, KT9.some i0, KT9.some i1⟩ | with_reducible exact ⟨KT.some x1, KT.some x2, KT.some i0, KT.some i1⟩)
    (first
      | (go_at_call 15; refine (SM.out _ KT).mono ?_; rintro e w9 ⟨rfl, k9⟩; have KT9 : Kept w5 w9 := KT.trans k9))
  go_wp2
  go_ret
  exact ⟨rfl, (K0.out.trans K5.out).trans KT9⟩


theorem heapGoes_any {w : World} {a : Option Addr} {n c : Nat} {cs ds : Array Value} (hh : ∃ l : List It, l.length = n ∧ Lay w (.slice a n c) n (flatI l)) (hc : ∃ o : Opn, cs = (opc o).toArray) (hd : ∃ x : Ann, ds = (anc x).toArray) :
    Calls Try.prog 7 #[.slice a n c, .agg cs, .agg ds] w fun e w' => e = .returned (.bool true) ∧ Kept w w' := by
  obtain ⟨l, hnl, h⟩ := hh
  obtain ⟨⟨ok, oa, ob, ou⟩, rfl⟩ := hc
  obtain ⟨⟨xe, xn, xv⟩, rfl⟩ := hd
  have hn := hnl.symm
  by_cases hl : 40 < n
  · exact goes_bad (o := ⟨ok, oa, ob, ou⟩) (x := ⟨xe, xn, xv⟩) h hn rfl (.inl hl)
  have hl' : n ≤ 40 := by omega
  by_cases hz : chk l = 0
  · by_cases h4 : ok = 4
    · subst h4
      by_cases h7 : (⟨xe, xn, xv⟩ : Ann) = ⟨7, 0, 0⟩
      · have hp := next_refd (o := ⟨4, oa, ob, ou⟩) hz rfl (.inl h7)
        injection h7 with h1 h2 h3
        subst h1 h2 h3
        cases ht : tellS l ⟨4, oa, ob, ou⟩ with
        | none => exact goes_refused7_no h hn hl' hz ht hp
        | some y => exact goes_refused7 h hn hl' hz ht hp
      by_cases h12 : (⟨xe, xn, xv⟩ : Ann) = ⟨12, 0, 0⟩
      · have hp := next_refd (o := ⟨4, oa, ob, ou⟩) hz rfl (.inr h12)
        injection h12 with h1 h2 h3
        subst h1 h2 h3
        cases ht : tellS l ⟨4, oa, ob, ou⟩ with
        | none => exact goes_refused12_no h hn hl' hz ht hp
        | some y => exact goes_refused12 h hn hl' hz ht hp
      have hr : ¬ ((⟨4, oa, ob, ou⟩ : Opn).k = 4 ∧ ((⟨xe, xn, xv⟩ : Ann) = ⟨7, 0, 0⟩ ∨ (⟨xe, xn, xv⟩ : Ann) = ⟨12, 0, 0⟩)) := fun hh => hh.2.elim h7 h12
      by_cases ht : tellS l ⟨4, oa, ob, ou⟩ = some ⟨xe, xn, xv⟩
      · have ht' := tell_put (o := ⟨4, oa, ob, ou⟩) hz rfl
        rw [ht] at ht'
        cases hd : hs ou l with
        | true =>
          rw [if_pos hd] at ht'
          injection ht' with ht'
          injection ht' with h1 h2 h3
          subst h1 h2 h3
          exact goes_double h hn hl' hz ht (next_double hz rfl hd)
        | false =>
          rw [if_neg (by simp [hd])] at ht'
          by_cases hro : l.length < 1024
          · rw [if_pos hro] at ht'
            injection ht' with ht'
            injection ht' with h1 h2 h3
            subst h1 h2 h3
            exact goes_put h hn hl' hz ht (next_put hz rfl hd hro) hd
          · rw [if_neg hro] at ht'
            cases ht'
      · have hp := next_tell hr ht
        cases hy : tellS l ⟨4, oa, ob, ou⟩ with
        | none => exact goes_no4 h hn hl' hz hy hp (decide_eq_false h7) (decide_eq_false h12)
        | some y => exact goes_other4 h hn hl' hz hy hp (decide_eq_false h7) (decide_eq_false h12) (decide_eq_false fun e => ht (by rw [hy, e]))
    · have hr : ¬ ((⟨ok, oa, ob, ou⟩ : Opn).k = 4 ∧ ((⟨xe, xn, xv⟩ : Ann) = ⟨7, 0, 0⟩ ∨ (⟨xe, xn, xv⟩ : Ann) = ⟨12, 0, 0⟩)) := fun hh => h4 hh.1
      by_cases ht : tellS l ⟨ok, oa, ob, ou⟩ = some ⟨xe, xn, xv⟩
      · by_cases h5 : ok = 5
        · subst h5
          cases l with
          | nil =>
            have ht' := tell_pick0 (o := ⟨5, oa, ob, ou⟩) (.inl rfl)
            rw [ht] at ht'
            injection ht' with ht'
            injection ht' with h1 h2 h3
            subst h1 h2 h3
            exact goes_none5 h hn hl' hz ht (next_none (.inl rfl))
          | cons x r =>
            have ht' := tell_pick (o := ⟨5, oa, ob, ou⟩) hz (.inl rfl)
            rw [ht] at ht'
            injection ht' with ht'
            injection ht' with h1 h2 h3
            subst h1 h2 h3
            exact goes_pick h hn hl' hz ht (next_pick hz rfl) (chk_of (by have := (chk_zero hz).1; simp at this ⊢; omega) (asc_tail (chk_zero hz).2)) rfl (by rw [hn]; simp)
        by_cases h6 : ok = 6
        · subst h6
          cases l with
          | nil =>
            have ht' := tell_pick0 (o := ⟨6, oa, ob, ou⟩) (.inr rfl)
            rw [ht] at ht'
            injection ht' with ht'
            injection ht' with h1 h2 h3
            subst h1 h2 h3
            exact goes_none6 h hn hl' hz ht (next_none (.inr rfl))
          | cons x r =>
            have ht' := tell_pick (o := ⟨6, oa, ob, ou⟩) hz (.inr rfl)
            rw [ht] at ht'
            injection ht' with ht'
            injection ht' with h1 h2 h3
            subst h1 h2 h3
            exact goes_look h hn hl' hz ht (next_look hz rfl)
        · rw [tell_else h4 h5 h6] at ht
          cases ht
      · have hp := next_tell hr ht
        cases hy : tellS l ⟨ok, oa, ob, ou⟩ with
        | none => exact goes_nok h hn hl' hz hy hp h4
        | some y => exact goes_otherk h hn hl' hz hy hp h4 (decide_eq_false fun e => ht (by rw [hy, e]))
  · exact goes_bad (o := ⟨ok, oa, ob, ou⟩) (x := ⟨xe, xn, xv⟩) h hn rfl (.inr hz)
end Go.Proofs.Yteomggjkdaddhaa
