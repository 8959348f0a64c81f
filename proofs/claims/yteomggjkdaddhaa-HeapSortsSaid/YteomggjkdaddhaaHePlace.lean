/- The program's Place, of any list; Least. -/
import Derived.Test.YteomggjkdaddhaaHeFind
namespace Go.Proofs.Yteomggjkdaddhaa
open Go.RowKit

theorem geq_any {w : World} {b : Nat} {key : Int} (x : It) (hb : w.cell? ⟨b, 0, none⟩ = some (.int .u64 key)) :
    Calls Try.prog 34 #[.agg #[.int .u64 x.k, .int .i64 x.a], .pointer (some ⟨b, 0, none⟩)] w fun e w' => e = .returned (.bool (decide (x.k ≥ key))) ∧ Kept w w' := by
  have hl := lt_of_cell hb
  go_enter Try.func34, Try.ntmps34
  go_wp2
  go_ret
  exact ⟨rfl, by (go_light; repeat (first | (with_reducible exact Kept.refl _) | (with_reducible assumption) | (with_reducible refine Kept.alloc ?_ _ _) | (with_reducible refine Kept.drew ?_) | (with_reducible refine Kept.drewN ?_ _) | ((with_reducible refine Kept.setCell ?_ ?_ _); rotate_left; focus (first | (simp; done) | (simp; omega))) | refine Kept.trans ?_ (by assumption)))⟩
theorem geq_at {w : World} {b : Nat} {key : Int} {x : It} {y : Bool} (hb : w.cell? ⟨b, 0, none⟩ = some (.int .u64 key)) (h : decide (x.k ≥ key) = y) :
    Calls Try.prog 34 #[.agg #[.int .u64 x.k, .int .i64 x.a], .pointer (some ⟨b, 0, none⟩)] w fun e w' => e = .returned (.bool y) ∧ Kept w w' := by
  subst h; exact geq_any x hb

def ixI (key : Int) (l : List It) : Int := if pl key l < l.length then pl key l else -1
def IxRel (w : World) (l : List It) (key : Int) (n : Nat) (i : Value) (wr : World) : Prop := ∃ k : Nat, k ≤ n ∧ i = .int .i64 k ∧ (∀ j x, j < k → l[j]? = some x → x.k < key) ∧ Kept w wr
set_option maxHeartbeats 4000000 in
theorem indexFunc_any {w : World} {a : Option Addr} {c n b : Nat} {l : List It} {key : Int} (h : Lay w (.slice a n c) n (flatI l)) (hn : n = l.length) (hb : w.cell? ⟨b, 0, none⟩ = some (.int .u64 key)) :
    Calls Try.prog 33 #[.slice a n c, .func (.func 34) #[] #[.pointer (some ⟨b, 0, none⟩)]] w fun e w' => e = .returned (.int .i64 (ixI key l)) ∧ Kept w w' := by
  obtain ⟨a', c', e, hnc, hcm⟩ := h.form
  cases e
  unfold maxLen at hcm
  have CE := Lib.hid (fun i x (W : World) (k : Kept w W) (hi : l[i]? = some x) => show ∃ g o, a = some ⟨g, o, none⟩ ∧ ItAt W g (o + i * 2) x by
    have hl := h.kept k
    have := (List.getElem?_eq_some_iff.1 hi).1
    rw [hn] at hl
    obtain ⟨g, o, c', e, _, _, hc⟩ := hl.it (by omega)
    cases e
    exact ⟨g, o, rfl, hc i x hi⟩)
  have HN := Lib.hid hn
  have HB := Lib.hid hb
  obtain ⟨r, hr⟩ : ∃ r, ixI key l = r := ⟨_, rfl⟩
  have HR := Lib.hid hr
  rw [hr]
  clear h hn hb hr
  go_enter Try.func33, Try.ntmps33
  go_wp2
  go_loopw [8] (fun i wr => IxRel w l key n i wr) (fun i _ => n - (intOf i).toNat)
  case atStart => exact ⟨0, Nat.zero_le _, rfl, fun j x hj => by omega, Kept.refl _⟩
  case round =>
    obtain ⟨k, hkn, rfl, hlo, hk⟩ := hrel
    have LO := Lib.hid hlo
    have KE := Lib.hid hk
    clear hlo hk
    by_cases hlt : k < n
    · obtain ⟨x, hx⟩ : ∃ x, l[k]? = some x := ⟨_, List.getElem?_eq_getElem (by rw [← HN.out]; omega)⟩
      obtain ⟨g, o, rfl, c0, c1⟩ := CE.out k x wr KE.out hx
      have HX := Lib.hid hx
      clear hx
      by_cases hk : x.k < key
      · have GE := Lib.hid (geq_at (x := x) (KE.out.some HB.out) (show decide (x.k ≥ key) = false by simp; omega))
        have HK := Lib.hid hk
        clear hk
        go_wp2_with fail; go_at_call 34; refine GE.out.mono ?_; rintro e v1 ⟨rfl, k1⟩
        have K1 := Lib.hid (KE.out.trans k1)
        clear k1
        go_wp2
        go_roundw
        case rel => exact ⟨k + 1, by omega, by go_num, fun j y hj hy => by
          by_cases e : j = k
          · subst e; have h1 := HX.out; rw [hy] at h1; cases h1; have := HK.out; omega
          · exact LO.out j y (by omega) hy, K1.out⟩
        case measure => simp [intOf]; omega
      · have GE := Lib.hid (geq_at (x := x) (KE.out.some HB.out) (show decide (x.k ≥ key) = true by simp; omega))
        have HK := Lib.hid (show (k : Int) = r by
          have hp : pl key l = k := pl_eq LO.out (fun y hy => by have h1 := HX.out; rw [hy] at h1; cases h1; exact hk) (by rw [← HN.out]; omega)
          rw [← HR.out]; unfold ixI; rw [hp, ← HN.out, if_pos hlt])
        clear hk
        go_wp2_with fail; go_at_call 34; refine GE.out.mono ?_; rintro e v1 ⟨rfl, k1⟩
        go_wp2
        go_ret
        exact ⟨ret_int HK.out, KE.out.trans k1⟩
    · have HK := Lib.hid (show (-1 : Int) = r by
        have hp : pl key l = n := pl_eq (fun j x hj => LO.out j x (by omega)) (fun y hy => by have := (List.getElem?_eq_some_iff.1 hy).1; have := HN.out; omega) (by rw [← HN.out]; omega)
        rw [← HR.out]; unfold ixI; rw [hp, ← HN.out, if_neg (by omega)])
      go_wp2
      go_ret
      exact ⟨ret_int HK.out, KE.out⟩

theorem chk_at {w : World} {a : Option Addr} {c n : Nat} {l : List It} {z : Int} (h : Lay w (.slice a n c) n (flatI l)) (hn : n = l.length) (hz : chk l = z) :
    Calls Try.prog 21 #[.slice a n c] w fun e w' => e = .returned (.int .i64 z) ∧ Kept w w' := by
  subst hz; exact check_any h hn
set_option maxHeartbeats 4000000 in
theorem place_any {w : World} {a : Option Addr} {c n : Nat} {l : List It} (key : Int) (h : Lay w (.slice a n c) n (flatI l)) (hn : n = l.length) :
    Calls Try.prog 18 #[.slice a n c, .int .u64 key] w fun e w' => e = .returned (.tuple #[.int .i64 (pl key l), .bool (hs key l)]) ∧ Kept w w' := by
  obtain ⟨a', c', e, hnc, hcm⟩ := h.form
  cases e
  unfold maxLen at hcm
  obtain ⟨W0, hW0⟩ : ∃ W0, w.alloc (.cells #[.int .u64 key] 23) = W0 := ⟨_, rfl⟩
  have k0 : Kept w W0 := by rw [← hW0]; exact (Kept.refl w).alloc _ _
  have b0 : W0.cell? ⟨w.heap.size, 0, none⟩ = some (.int .u64 key) := by rw [← hW0]; exact cell_new _ _ _ _ 0 rfl
  have HW := Lib.hid hW0
  have K0 := Lib.hid k0
  have B0 := Lib.hid b0
  have L0 := Lib.hid (h.kept k0)
  have HN := Lib.hid hn
  obtain ⟨z, hz⟩ : ∃ z, chk l = z := ⟨_, rfl⟩
  have CK := Lib.hid (chk_at L0.out hn hz)
  obtain ⟨Pl, hPl⟩ : ∃ Pl, pl key l = Pl := ⟨_, rfl⟩
  obtain ⟨Hs, hHs⟩ : ∃ Hs, hs key l = Hs := ⟨_, rfl⟩
  have HP := Lib.hid hPl
  have HH := Lib.hid hHs
  have hle := pl_le key l
  rw [hPl, ← hn] at hle
  rw [hPl, hHs]
  by_cases hz0 : z = 0
  · have SE := Lib.hid (fun W (k : Kept W0 W) => search_any key (L0.out.kept k) hn (chk_zero (by rw [hz, hz0])).2)
    rw [hPl, hHs] at SE
    subst hz0
    clear hz h hn hW0 k0 hPl hHs
    go_enter Try.func18, Try.ntmps18
    go_upto_region 1 with fail
    rw [HW.out]
    go_wp2_with fail; refine CK.out.mono ?_; rintro e w1 ⟨rfl, k1⟩
    have K1 := Lib.hid k1
    have b1 := k1.some b0
    clear k1
    go_wp2_with fail; refine (SE.out _ K1.out).mono ?_; rintro e w2 ⟨rfl, k2⟩
    go_wp2
    go_ret2
    exact ⟨rfl, (K0.out.trans K1.out).trans k2⟩
  · have hb : (z == 0) = false := by simpa using hz0
    have IX := Lib.hid (fun W (k : Kept W0 W) => indexFunc_any (L0.out.kept k) hn (k.some b0))
    obtain ⟨r, hr⟩ : ∃ r, ixI key l = r := ⟨_, rfl⟩
    rw [hr] at IX
    by_cases hf : Pl < n
    · obtain ⟨x, hx⟩ : ∃ x, l[Pl]? = some x := ⟨_, List.getElem?_eq_getElem (by rw [← hn]; omega)⟩
      have hh := hs_some (key := key) (l := l) (x := x) (by rw [hPl]; exact hx)
      have hrk : r = (Pl : Int) := by rw [← hr]; unfold ixI; rw [hPl, ← hn, if_pos hf]
      subst hrk
      obtain ⟨g, o, rfl, HC⟩ : ∃ g o, a = some ⟨g, o, none⟩ ∧ Hid (ItAt W0 g (o + Pl * 2) x) := by
        have hl := L0.out
        rw [hn] at hl
        obtain ⟨g, o, c', e, _, _, hc⟩ := hl.it (by omega)
        cases e
        exact ⟨g, o, rfl, Lib.hid (hc Pl x hx)⟩
      have HD := Lib.hid (hHs.symm.trans hh)
      clear hz h hn hW0 k0 hPl hHs hr hh hx hz0
      go_enter Try.func18, Try.ntmps18
      go_upto_region 1 with fail
      rw [HW.out]
      go_wp2_with fail; refine CK.out.mono ?_; rintro e w1 ⟨rfl, k1⟩
      have K1 := Lib.hid k1
      have b1 := k1.some b0
      clear k1
      go_wp2_with fail; refine (IX.out _ K1.out).mono ?_; rintro e w2 ⟨rfl, k2⟩
      have K2 := Lib.hid (K1.out.trans k2)
      obtain ⟨c0, c1⟩ := HC.out.kept K2.out
      have b2 := K2.out.some B0.out
      clear k2 b1
      go_wp2
      go_quiet (fail)
      go_wp2
      go_ret2
      refine ⟨ret_at rfl ?_, (K0.out.trans K2.out).drewN _⟩
      rw [HD.out]
      first | rfl | (simp; done)
    · have HR := Lib.hid (show (n : Int) = Pl by have := HP.out; omega)
      have hrk : r = -1 := by rw [← hr]; unfold ixI; rw [hPl, ← hn, if_neg hf]
      subst hrk
      have HD := Lib.hid (show false = Hs by rw [← hHs, hs_none (by rw [hPl]; omega)])
      clear hz h hn hW0 k0 hPl hHs hr hz0
      go_enter Try.func18, Try.ntmps18
      go_upto_region 1 with fail
      rw [HW.out]
      go_wp2_with fail; refine CK.out.mono ?_; rintro e w1 ⟨rfl, k1⟩
      have K1 := Lib.hid k1
      have b1 := k1.some b0
      clear k1
      go_wp2_with fail; refine (IX.out _ K1.out).mono ?_; rintro e w2 ⟨rfl, k2⟩
      go_wp2
      go_ret2
      exact ⟨ret_at HR.out HD.out, (K0.out.trans K1.out).trans k2⟩

theorem fresh_n {w : World} {a : Option Addr} {n c : Nat} {l : List It} (h : Lay w (.slice a n c) n (flatI l)) (hn : n = l.length) (hl : n ≤ 100000) : Calls Try.prog 28 #[.slice a n c] w (RetL w n l) := by
  subst hn; exact fresh_any h hl
set_option maxHeartbeats 4000000 in
theorem least_any {w : World} {a : Option Addr} {c n : Nat} {l : List It} (m : Int) (h : Lay w (.slice a n c) n (flatI l)) (hn : n = l.length) (hl : n ≤ 100000) :
    Calls Try.prog 17 #[.slice a n c, .int .i64 m] w (RetI w (least m l)) := by
  obtain ⟨a', c', e, hnc, hcm⟩ := h.form
  cases e
  unfold maxLen at hcm
  have hnil := h.nil_cap
  obtain ⟨k, hk⟩ : ∃ k, min m.toNat n = k := ⟨_, rfl⟩
  have hkn : k ≤ n := by omega
  have s1 := run_head3 a n c k (by omega)
  have hlen : (least m l).length = k := by unfold least; rw [List.length_take]; omega
  have htk : least m l = l.take k := by
    unfold least
    by_cases h1 : m.toNat ≤ n
    · rw [show k = m.toNat by omega]
    · rw [List.take_of_length_le (by omega), List.take_of_length_le (by omega)]
  have HE := Lib.hid hlen.symm
  have FR := Lib.hid (fresh_n (h.first (m := k) (d := k) (by omega) (Nat.le_refl _) (by unfold maxLen; omega) (fun e => by have := hnil e; omega)) (by rw [List.length_take]; omega) (by omega))
  rw [← htk] at FR
  clear h hn hlen htk hnil
  rcases Int.lt_or_le m 0 with h0 | h0
  · obtain rfl : k = 0 := by omega
    clear hk
    go_enter Try.func17, Try.ntmps17
    go_wp2_with fail; refine FR.out.mono ?_; rintro e w1 ⟨a1, c1, rfl, k1, o1⟩
    go_wp2
    go_ret
    exact RetL.retI HE.out ⟨a1, c1, rfl, k1, o1⟩
  · obtain ⟨m, rfl⟩ := Int.eq_ofNat_of_zero_le h0
    by_cases h1 : n < m
    · obtain rfl : n = k := by simp at hk; omega
      clear hk
      go_enter Try.func17, Try.ntmps17
      go_wp2_with fail; refine FR.out.mono ?_; rintro e w1 ⟨a1, c1, rfl, k1, o1⟩
      go_wp2
      go_ret
      exact RetL.retI HE.out ⟨a1, c1, rfl, k1, o1⟩
    · obtain rfl : k = m := by simp at hk; omega
      clear hk
      go_enter Try.func17, Try.ntmps17
      go_wp2_with fail; refine FR.out.mono ?_; rintro e w1 ⟨a1, c1, rfl, k1, o1⟩
      go_wp2
      go_ret
      exact RetL.retI HE.out ⟨a1, c1, rfl, k1, o1⟩
end Go.Proofs.Yteomggjkdaddhaa
