/- The document's answer: Check, Place, Least, with. -/
import Derived.Test.YteomggjkdaddhaaHeNext
namespace Go.Proofs.Yteomggjkdaddhaa
open Go.RowKit

set_option maxHeartbeats 4000000 in
theorem refCheck_any {w : World} {a : Option Addr} {c n : Nat} {l : List It} (h : Lay w (.slice a n c) n (flatI l)) (hn : n = l.length) :
    Calls Try.prog 22 #[.slice a n c] w fun e w' => e = .returned (.int .i64 (chk l)) ∧ Kept w w' := by
  obtain ⟨a', c', e, hnc, hcm⟩ := h.form
  cases e
  unfold maxLen at hcm
  by_cases h1024 : 1024 < n
  · have hc : chk l = 7 := by unfold chk; rw [← hn, if_pos h1024]
    rw [hc]
    clear h hn hc
    go_enter Try.func22, Try.ntmps22
    go_wp2
    go_ret
    exact ⟨rfl, Kept.refl _⟩
  have HC := Lib.hid (show chk l = if asc l = true then 0 else 9 by unfold chk; rw [← hn, if_neg h1024])
  have CE := Lib.hid (fun i x (hi : l[i]? = some x) => show ∃ g o, a = some ⟨g, o, none⟩ ∧ ItAt w g (o + i * 2) x by
    have hl := h
    have := (List.getElem?_eq_some_iff.1 hi).1
    rw [hn] at hl
    obtain ⟨g, o, c', e, _, _, hc⟩ := hl.it (by omega)
    cases e
    exact ⟨g, o, rfl, hc i x hi⟩)
  have HN := Lib.hid hn
  obtain ⟨r, hr⟩ : ∃ r, chk l = r := ⟨_, rfl⟩
  rw [hr] at HC ⊢
  clear h hn hr
  go_enter Try.func22, Try.ntmps22
  go_wp2
  go_loopw [3] (fun i wr => CkRel w l n i wr) (fun i _ => n + 1 - (intOf i).toNat)
  case atStart => exact ⟨1, Nat.le_refl _, rfl, fun j x y hj => by omega, ⟨0, rfl⟩, by omega⟩
  case round =>
    obtain ⟨k, hk1, rfl, hlo, ⟨q, rfl⟩, hkn⟩ := hrel
    have LO := Lib.hid hlo
    clear hlo
    by_cases hlt : k < n
    · obtain ⟨j, rfl⟩ : ∃ j, k = j + 1 := ⟨k - 1, by omega⟩
      obtain ⟨x, hx⟩ : ∃ x, l[j]? = some x := ⟨_, List.getElem?_eq_getElem (by rw [← HN.out]; omega)⟩
      obtain ⟨y, hy⟩ : ∃ y, l[j + 1]? = some y := ⟨_, List.getElem?_eq_getElem (by rw [← HN.out]; omega)⟩
      obtain ⟨g, o, rfl, c0, c1⟩ := CE.out j x hx
      obtain ⟨g', o', e, d0, d1⟩ := CE.out (j + 1) y hy
      cases e
      have HX := Lib.hid hx
      have HY := Lib.hid hy
      clear hx hy c1 d1
      have ej : ((j + 1 : Nat) : Int) - 1 = (j : Int) := by omega
      by_cases hk : x.k < y.k
      · have b1 : decide (y.k ≤ x.k) = false := by simp; omega
        go_wp2
        go_quiet (fail)
        go_wp2
        go_roundw
        case rel => exact ⟨j + 2, by omega, by go_num, fun i u v hi hu hv => by
          by_cases e : i = j
          · subst e; have h1 := HX.out; have h2 := HY.out; rw [hu] at h1; rw [hv] at h2; cases h1; cases h2; exact hk
          · exact LO.out i u v (by omega) hu hv, ⟨q + nq, rfl⟩, by omega⟩
        case measure => simp [intOf]; omega
      · have b1 : decide (y.k ≤ x.k) = true := by simp; omega
        have HR := Lib.hid (show (9 : Int) = r by rw [HC.out, asc_no HX.out HY.out hk]; rfl)
        go_wp2
        go_quiet (fail)
        go_wp2
        go_ret
        exact ⟨ret_int HR.out, ((Kept.refl _).drewN _).drewN _⟩
    · have HR := Lib.hid (show (0 : Int) = r by
        rw [HC.out, if_pos ((asc_iff l).2 fun i x y hx hy => LO.out i x y (by have := (List.getElem?_eq_some_iff.1 hy).1; have := HN.out; omega) hx hy)])
      go_wp2
      go_ret
      exact ⟨ret_int HR.out, (Kept.refl _).drewN _⟩
theorem refChk_at {w : World} {a : Option Addr} {c n : Nat} {l : List It} {z : Int} (h : Lay w (.slice a n c) n (flatI l)) (hn : n = l.length) (hz : chk l = z) :
    Calls Try.prog 22 #[.slice a n c] w fun e w' => e = .returned (.int .i64 z) ∧ Kept w w' := by
  subst hz; exact refCheck_any h hn
def RpRel (w : World) (l : List It) (key : Int) (n : Nat) (i : Value) (wr : World) : Prop := ∃ k : Nat, k ≤ n ∧ i = .int .i64 k ∧ (∀ j x, j < k → l[j]? = some x → x.k < key) ∧ wr = w
set_option maxHeartbeats 4000000 in
theorem refPlace_any {w : World} {a : Option Addr} {c n : Nat} {l : List It} (key : Int) (h : Lay w (.slice a n c) n (flatI l)) (hn : n = l.length) :
    Calls Try.prog 19 #[.slice a n c, .int .u64 key] w fun e w' => e = .returned (.tuple #[.int .i64 (pl key l), .bool (hs key l)]) ∧ Kept w w' := by
  obtain ⟨a', c', e, hnc, hcm⟩ := h.form
  cases e
  unfold maxLen at hcm
  have CE := Lib.hid (fun i x (hi : l[i]? = some x) => show ∃ g o, a = some ⟨g, o, none⟩ ∧ ItAt w g (o + i * 2) x by
    have hl := h
    have := (List.getElem?_eq_some_iff.1 hi).1
    rw [hn] at hl
    obtain ⟨g, o, c', e, _, _, hc⟩ := hl.it (by omega)
    cases e
    exact ⟨g, o, rfl, hc i x hi⟩)
  have HN := Lib.hid hn
  obtain ⟨Pl, hPl⟩ : ∃ Pl, pl key l = Pl := ⟨_, rfl⟩
  obtain ⟨Hs, hHs⟩ : ∃ Hs, hs key l = Hs := ⟨_, rfl⟩
  have HP := Lib.hid hPl
  have HH := Lib.hid hHs
  rw [hPl, hHs]
  clear h hn hPl hHs
  go_enter Try.func19, Try.ntmps19
  go_wp2
  go_loopw [6] (fun i wr => RpRel w l key n i wr) (fun i _ => n - (intOf i).toNat)
  case atStart => exact ⟨0, Nat.zero_le _, rfl, fun j x hj => by omega, rfl⟩
  case round =>
    obtain ⟨k, hkn, rfl, hlo, rfl⟩ := hrel
    have LO := Lib.hid hlo
    clear hlo
    by_cases hlt : k < n
    · obtain ⟨x, hx⟩ : ∃ x, l[k]? = some x := ⟨_, List.getElem?_eq_getElem (by rw [← HN.out]; omega)⟩
      obtain ⟨g, o, rfl, c0, c1⟩ := CE.out k x hx
      have HX := Lib.hid hx
      clear hx
      by_cases hk : x.k < key
      · have HK := Lib.hid hk
        go_wp2
        go_roundw
        case rel => exact ⟨k + 1, by omega, by go_num, fun j y hj hy => by
          by_cases e : j = k
          · subst e; have h1 := HX.out; rw [hy] at h1; cases h1; exact HK.out
          · exact LO.out j y (by omega) hy, rfl⟩
        case measure => simp [intOf]; omega
      · have hp : pl key l = k := pl_eq LO.out (fun y hy => by have h1 := HX.out; rw [hy] at h1; cases h1; exact hk) (by rw [← HN.out]; omega)
        have HF := Lib.hid (show (k : Int) = Pl by rw [← HP.out, hp])
        have HD := Lib.hid (show decide (x.k = key) = Hs by rw [← HH.out, hs_some (x := x) (by rw [hp]; exact HX.out)])
        have hlt' : (k : Int) < n := by omega
        clear hp
        go_wp2
        go_quiet (fail)
        go_wp2
        go_ret2
        exact ⟨ret_at HF.out (by rw [← HD.out]; first | rfl | (simp; done)), (Kept.refl _).drewN _⟩
    · have hp : pl key l = n := pl_eq (fun j x hj => LO.out j x (by omega)) (fun y hy => by have := (List.getElem?_eq_some_iff.1 hy).1; have := HN.out; omega) (by rw [← HN.out]; omega)
      have HF := Lib.hid (show (k : Int) = Pl by rw [← HP.out, hp]; omega)
      have HD := Lib.hid (show false = Hs by rw [← HH.out, hs_none (by rw [hp]; exact HN.out)])
      have hd : decide ((k : Int) < (n : Int)) = false := by simp; omega
      have hd' : decide (k < n) = false := by simp; omega
      clear hp
      go_wp2
      go_quiet (fail)
      go_wp2
      go_ret2
      exact ⟨ret_at HF.out HD.out, (Kept.refl _).drewN _⟩

theorem copy_n {w : World} {a : Option Addr} {n c : Nat} {l : List It} (h : Lay w (.slice a n c) n (flatI l)) (hn : n = l.length) (hl : n ≤ 100000) : Calls Try.prog 10 #[.slice a n c] w (RetL w n l) := by
  subst hn; exact copyItems_any h hl
set_option maxHeartbeats 4000000 in
theorem refLeast_any {w : World} {a : Option Addr} {c n : Nat} {l : List It} (m : Int) (h : Lay w (.slice a n c) n (flatI l)) (hn : n = l.length) (hl : n ≤ 100000) :
    Calls Try.prog 20 #[.slice a n c, .int .i64 m] w (RetI w (least m l)) := by
  obtain ⟨a', c', e, hnc, hcm⟩ := h.form
  cases e
  unfold maxLen at hcm
  have hnil := h.nil_cap
  obtain ⟨k, hk⟩ : ∃ k, min m.toNat n = k := ⟨_, rfl⟩
  have hkn : k ≤ n := by omega
  have s1 := run_head a n c k (by omega)
  have hlen : (least m l).length = k := by unfold least; rw [List.length_take]; omega
  have htk : least m l = l.take k := by
    unfold least
    by_cases h1 : m.toNat ≤ n
    · rw [show k = m.toNat by omega]
    · rw [List.take_of_length_le (by omega), List.take_of_length_le (by omega)]
  have HE := Lib.hid hlen.symm
  have FR := Lib.hid (copy_n (h.first (m := k) (d := c) (by omega) (by omega) (by unfold maxLen; omega) hnil) (by rw [List.length_take]; omega) (by omega))
  rw [← htk] at FR
  clear h hn hlen htk hnil
  rcases Int.lt_or_le m 0 with h0 | h0
  · obtain rfl : k = 0 := by omega
    clear hk
    go_enter Try.func20, Try.ntmps20
    go_wp2_with fail; refine FR.out.mono ?_; rintro e w1 ⟨a1, c1, rfl, k1, o1⟩
    go_wp2
    go_ret
    exact RetL.retI HE.out ⟨a1, c1, rfl, k1, o1⟩
  · obtain ⟨m, rfl⟩ := Int.eq_ofNat_of_zero_le h0
    by_cases h1 : n < m
    · obtain rfl : n = k := by simp at hk; omega
      clear hk
      rcases Nat.eq_zero_or_pos n with hz | hz
      · subst hz
        go_enter Try.func20, Try.ntmps20
        go_wp2_with fail; refine FR.out.mono ?_; rintro e w1 ⟨a1, c1, rfl, k1, o1⟩
        go_wp2
        go_ret
        exact RetL.retI HE.out ⟨a1, c1, rfl, k1, o1⟩
      · have hz' : (0 : Int) < n := by omega
        go_enter Try.func20, Try.ntmps20
        go_wp2_with fail; refine FR.out.mono ?_; rintro e w1 ⟨a1, c1, rfl, k1, o1⟩
        go_wp2
        go_ret
        exact RetL.retI HE.out ⟨a1, c1, rfl, k1, o1⟩
    · obtain rfl : k = m := by simp at hk; omega
      clear hk
      rcases Nat.eq_zero_or_pos k with hz | hz
      · subst hz
        go_enter Try.func20, Try.ntmps20
        go_wp2_with fail; refine FR.out.mono ?_; rintro e w1 ⟨a1, c1, rfl, k1, o1⟩
        go_wp2
        go_ret
        exact RetL.retI HE.out ⟨a1, c1, rfl, k1, o1⟩
      · have hz' : (0 : Int) < k := by omega
        go_enter Try.func20, Try.ntmps20
        go_wp2_with fail; refine FR.out.mono ?_; rintro e w1 ⟨a1, c1, rfl, k1, o1⟩
        go_wp2
        go_ret
        exact RetL.retI HE.out ⟨a1, c1, rfl, k1, o1⟩

set_option maxRecDepth 100000 in
set_option maxHeartbeats 4000000 in
theorem refWith_any {w : World} {a : Option Addr} {c n : Nat} {x : It} {l : List It} (h : Lay w (.slice a n c) n (flatI l)) (hn : n = l.length) (hl : n ≤ 5000) :
    Calls Try.prog 29 #[.slice a n c, .agg #[.int .u64 x.k, .int .i64 x.a]] w (RetL w (n + 1) (ins x l)) := by
  obtain ⟨i0, hi0, hz0, hz1, hz2⟩ := info_parts infoI
  obtain ⟨a', c', e, hnc, hcm⟩ := h.form
  cases e
  have hnil := h.nil_cap
  obtain ⟨p, hp⟩ : ∃ p, pl x.k l = p := ⟨_, rfl⟩
  have hpn : p ≤ n := by rw [← hp, hn]; exact pl_le _ _
  have s1 := run_head a n c p (by omega)
  have s2 := run_tail a n c p hpn
  obtain ⟨A2, hA2⟩ : ∃ A2, (if c = p then a else a.map (·.add (p * 2))) = A2 := ⟨_, rfl⟩
  obtain ⟨W0, hW0⟩ : ∃ W0, w.alloc (.cells #[.int .u64 x.k, .int .i64 x.a] 45) = W0 := ⟨_, rfl⟩
  have k0 : Kept w W0 := by rw [← hW0]; exact (Kept.refl w).alloc _ _
  have H1 := Lib.hid ((h.first (m := p) (d := c) hpn (by omega) hcm hnil).kept k0)
  have H2 := Lib.hid (show Lay W0 (.slice A2 (n - p) (c - p)) (n - p) (flatI (l.drop p)) by rw [← hA2]; exact (h.tail hn hpn hnc hcm hnil).kept k0)
  have b0 : W0.cell? ⟨w.heap.size, 0, none⟩ = some (.int .u64 x.k) := by rw [← hW0]; exact cell_new _ _ _ _ 0 rfl
  have b1 : W0.cell? ⟨w.heap.size, 1, none⟩ = some (.int .i64 x.a) := by rw [← hW0]; exact cell_new _ _ _ _ 1 rfl
  rw [hA2] at s2
  have PC := Lib.hid (refPlace_any x.k (h.kept k0) hn)
  rw [hp] at PC
  obtain ⟨Hs, hHs⟩ : ∃ Hs, hs x.k l = Hs := ⟨_, rfl⟩
  rw [hHs] at PC
  have HP := Lib.hid hp
  have BB := Lib.hid (And.intro b0 b1)
  have HW := Lib.hid hW0
  have K0 := Lib.hid k0
  have HN := Lib.hid hn
  have HM := Lib.hid (show ∀ k, k ≤ 5001 → k ≤ maxLen from fun k h => by unfold maxLen; omega)
  clear hW0 hA2 h hnil k0 hn hp hHs
  go_enter Try.func29, Try.ntmps29
  go_upto_region 1 with fail
  rw [HW.out]
  go_wp2_with fail; refine PC.out.mono ?_; rintro e w1 ⟨rfl, k1⟩
  have K1 := Lib.hid k1
  obtain ⟨q0, q1⟩ := BB.out
  have b0' := k1.some q0
  have b1' := k1.some q1
  have wl := lt_of_cell b0'
  have CW := Lib.hid (fun W (k : Kept w1 W) => (copy_n ((H1.out.kept K1.out).kept k) (by rw [List.length_take]; have := HN.out; omega) (by omega)).mono (R' := fun e w' => ∃ a' c', e = .returned (.slice a' p c') ∧ Kept W w' ∧ Kept w1 w' ∧ w'.ownsRow w1.heap.size 45 2 (.slice a' p c') p (flatI (l.take p))) (fun e w' hh => by
    obtain ⟨a', c', h1, h2, h3⟩ := hh
    exact ⟨a', c', h1, h2, k.trans h2, own_mono h3 k.size⟩))
  clear k1 b0 b1 q0 q1
  go_wp2
  go_region_law (first
    | (go_simp; go_at_call 10
       refine (CW.out _ (by repeat (first | with_reducible exact Kept.refl _ | with_reducible refine Kept.alloc ?_ _ _ | with_reducible refine Kept.drew ?_))).mono ?_
       rintro e w2 ⟨a2, c2, rfl, k2, k12, own2⟩
       have K12 := Lib.hid k12
       have O2 := Lib.hid own2
       have d0 := k12.some b0'
       have d1 := k12.some b1'
       first | (have LX : Hid (Lay w2 (.slice (some ⟨w1.heap.size, 0, none⟩) 1 1) 1 (flatI [x])) := Lib.hid ((lay_new (xs := flatI [x]) (n := 1) (heap_alloc_new w1.drew _) (Nat.le_of_ble_eq_true rfl)).kept k2)) | skip
       clear k2 k12 own2)
    | (refine step_append_lay _ (by rfl) (.tmp 18) (.tmp 20) _ (by rfl) w1.heap.size 45 i0 _ 2 16 Try.underlying22 hi0 hz0 hz1 hz2 (by rfl) (by decide) _ p (flatI (l.take p)) (by simp [Act.eval]) (own_kept O2.out (by repeat (first | with_reducible exact Kept.refl _ | with_reducible refine Kept.alloc ?_ _ _ | with_reducible refine Kept.drew ?_))) (.slice (some ⟨w2.heap.size, 0, none⟩) 1 1) 1 (flatI [x]) (by simp [Act.eval]) (by rfl) (lay_new (heap_alloc_new _ _) (by decide)) (flatI_one _) (HM.out _ (by omega)) (by omega) (by have := K12.out.size; simp; omega) ?_
       intro a3 c3 w3 own3 but3 at3
       have K3 := Lib.hid ((K12.out.alloc _ _).wrote but3 (fun g hg => (O2.out.lt g hg).1))
       have O3 := Lib.hid own3
       clear own3 but3 at3)
    | (refine step_append_lay _ (by rfl) (.tmp 18) (.tmp 20) _ (by rfl) w1.heap.size 45 i0 _ 2 16 Try.underlying22 hi0 hz0 hz1 hz2 (by rfl) (by decide) _ p (flatI (l.take p)) (by simp [Act.eval]) O2.out (.slice (some ⟨w1.heap.size, 0, none⟩) 1 1) 1 (flatI [x]) (by simp [Act.eval]) (by rfl) LX.out (flatI_one _) (HM.out _ (by omega)) (by omega) K12.out.size ?_
       intro a3 c3 w3 own3 but3 at3
       have K3 := Lib.hid (K12.out.wrote but3 (fun g hg => (O2.out.lt g hg).1))
       have O3 := Lib.hid own3
       clear own3 but3 at3))
  all_goals (go_wp2_with (at_builtin; refine wpList_append_lay _ rfl _ _ _ rfl w1.heap.size 45 i0 _ 2 16 Try.underlying22 hi0 hz0 hz1 hz2 (by rfl) (by decide) _ (p + 1) (flatI (l.take p) ++ flatI [x]) (by simp [Act.eval]) (own_kept O3.out (by repeat (first | with_reducible exact Kept.refl _ | with_reducible refine Kept.alloc ?_ _ _ | with_reducible refine Kept.drew ?_))) (.slice A2 (n - p) (c - p)) (n - p) (flatI (l.drop p)) (by simp [Act.eval]) (by rw [flatI_length, List.length_drop, ← HN.out]) (((H2.out.kept K1.out).kept K3.out).kept (by repeat (first | with_reducible exact Kept.refl _ | with_reducible refine Kept.alloc ?_ _ _ | with_reducible refine Kept.drew ?_))) (flatI_one _) (HM.out _ (by omega)) (by omega) (by first | exact K3.out.size | exact K3.out.drew.size) ?_; intro a4 c4 w4 own4 but4 at4))
  all_goals (
    have K4 : Kept w1 w4 := by
      first
        | exact K3.out.wrote but4 (fun g hg => (O3.out.lt g hg).1)
        | exact (K3.out.drew).wrote but4 (fun g hg => (O3.out.lt g hg).1)
    have e : p + 1 + (n - p) = n + 1 := by omega
    have o4 := own4
    rw [← flatI_append, ← flatI_append, e] at o4
    go_ret
    rw [e]
    refine ⟨a4, c4, rfl, (K0.out.trans K1.out).trans K4, ?_⟩
    have o5 := own_mono o4 (show w.heap.size ≤ w1.heap.size from (K0.out.trans K1.out).size)
    have hi : List.take p l ++ [x] ++ List.drop p l = ins x l := by unfold ins; rw [HP.out]; simp
    rw [hi] at o5
    exact o5)
end Go.Proofs.Yteomggjkdaddhaa
