/- PoolGives. -/
import Derived.Test.YtlkadickhhaakaaDoorPoOne
namespace Go.Proofs.YtlkadickhhaakaaDoor
open Go.RowKit
attribute [local go_sem ↓] app_named

/-! ### one step of a play -/
theorem playA_get (M : Nat → Bool) (l : List Opn) (k : Nat) (o : Opn) (h : l[k]? = some o) : (playA M l)[k]? = some (one (playM M (l.take k)) o) := by
  induction l generalizing M k with
  | nil => simp at h
  | cons p l ih =>
    cases k with
    | zero => simp at h; subst h; rfl
    | succ k => exact ih (stepM M p) k (by simpa using h)
theorem memI_length (M : Nat → Bool) : (memI M).length = (memTo M 1024).length := cast_length _
theorem step_out {M : Nat → Bool} {o : Opn} (h7 : o.k = 7) (he : (one M o).e = 0) :
    ∃ i : Nat, i < 1024 ∧ M i = true ∧ (one M o).n = i ∧ stepM M o = upd M i false ∧ (memI M).length ≠ 0 ∧ ((memI (stepM M o)).length : Int) = ((memI M).length : Int) - 1 := by
  have hone : one M o = (outs M o).headD noAnn := rfl
  rw [show outs M o = (memI M).map (fun i => (⟨0, i, 0⟩ : Ann)) ++ [⟨7, 0, 0⟩, ⟨12, 0, 0⟩] by simp [outs, h7]] at hone
  cases hm : memI M with
  | nil => rw [hm] at hone; rw [hone] at he; simp at he
  | cons v r =>
    rw [hm] at hone
    have hone : one M o = ⟨0, v, 0⟩ := hone
    obtain ⟨i, hi, hM, e⟩ := memI_mem.1 (show v ∈ memI M by rw [hm]; exact List.mem_cons_self ..)
    have hst : stepM M o = upd M i false := by
      unfold stepM
      rw [hone, e]
      simp [aft, h7]
    refine ⟨i, hi, hM, by rw [hone]; exact e, hst, by simp, ?_⟩
    have := len_less M i hM 1024 hi
    rw [← memI_length, ← memI_length, ← hst, hm] at this
    omega
theorem step_full {M : Nat → Bool} {o : Opn} (h7 : o.k = 7) (he : (one M o).e ≠ 0) : (memI M).length = 0 ∧ (one M o).e = 7 ∧ stepM M o = M := by
  have hone : one M o = (outs M o).headD noAnn := rfl
  rw [show outs M o = (memI M).map (fun i => (⟨0, i, 0⟩ : Ann)) ++ [⟨7, 0, 0⟩, ⟨12, 0, 0⟩] by simp [outs, h7]] at hone
  cases hm : memI M with
  | nil =>
    rw [hm] at hone
    have hone : one M o = ⟨7, 0, 0⟩ := hone
    exact ⟨rfl, by rw [hone], by unfold stepM; rw [hone]; simp [aft]⟩
  | cons v r =>
    rw [hm] at hone
    have hone : one M o = ⟨0, v, 0⟩ := hone
    rw [hone] at he
    exact absurd rfl he
theorem step_back {M : Nat → Bool} {o : Opn} (h8 : o.k = 8) (he : (one M o).e = 0) :
    ∃ i : Nat, i < 1024 ∧ M i = false ∧ o.a = i ∧ stepM M o = upd M i true ∧ ((memI (stepM M o)).length : Int) = ((memI M).length : Int) + 1 := by
  have hone : one M o = ⟨freed M o.a, 0, 0⟩ := by simp [one, outs, h8]
  have hf : freed M o.a = 0 := by rw [hone] at he; exact he
  unfold freed at hf
  split at hf
  · omega
  · rename_i hq
    obtain ⟨i, hi, ha⟩ := noIdx_iff.1 (show noIdx o.a = false by simpa using hq)
    split at hf
    · omega
    · rename_i hM
      rw [ha] at hM
      have hM : M i = false := by simpa using hM
      have hst : stepM M o = upd M i true := by unfold stepM; simp [aft, he, h8, ha]
      refine ⟨i, hi, hM, ha, hst, ?_⟩
      have := len_more M i hM 1024 hi
      rw [← memI_length, ← memI_length, ← hst] at this
      omega
theorem step_none {M : Nat → Bool} {o : Opn} (h7 : o.k ≠ 7) (h8 : ¬ (o.k = 8 ∧ (one M o).e = 0)) : stepM M o = M := by
  unfold stepM aft
  rw [if_neg (fun h => h7 h.2), if_neg (fun h => h8 ⟨h.2, h.1⟩)]
/-- Nothing that is held is free. -/
def Apart (H : List Int) (M : Nat → Bool) : Prop := ∀ v ∈ H, v ∉ memI M
theorem apart_out {H : List Int} {M : Nat → Bool} {i : Nat} (_ : i < 1024) (h : Apart H M) : Apart (H ++ [(i : Int)]) (upd M i false) := by
  intro v hv hm
  obtain ⟨j, hj, hMj, rfl⟩ := memI_mem.1 hm
  unfold upd at hMj
  split at hMj
  · cases hMj
  · rename_i hne
    rcases List.mem_append.1 hv with hv | hv
    · exact h _ hv ((memI_nat hj).2 hMj)
    · exact hne (List.mem_singleton.1 hv)
theorem apart_back {H : List Int} {M : Nat → Bool} {i : Nat} (h : Apart H M) : Apart (H.filter fun v => decide (v ≠ (i : Int))) (upd M i true) := by
  intro v hv hm
  obtain ⟨hv, hne⟩ := List.mem_filter.1 hv
  have hne : v ≠ (i : Int) := by simpa using hne
  obtain ⟨j, hj, hMj, rfl⟩ := memI_mem.1 hm
  unfold upd at hMj
  rw [if_neg hne] at hMj
  exact h _ hv ((memI_nat hj).2 hMj)
theorem filt_yes {H : List Int} {j : Nat} {v u : Int} (h : H[j]? = some v) (hne : v ≠ u) : (H.take (j + 1)).filter (fun v => decide (v ≠ u)) = (H.take j).filter (fun v => decide (v ≠ u)) ++ [v] := by
  rw [take_snoc H j v h, List.filter_append]; simp [hne]
theorem filt_no {H : List Int} {j : Nat} {v u : Int} (h : H[j]? = some v) (he : v = u) : (H.take (j + 1)).filter (fun v => decide (v ≠ u)) = (H.take j).filter (fun v => decide (v ≠ u)) := by
  rw [take_snoc H j v h, List.filter_append]; simp [he]
theorem filt_len (H : List Int) (j : Nat) (u : Int) : ((H.take j).filter (fun v => decide (v ≠ u))).length ≤ H.length :=
  Nat.le_trans (List.length_filter_le _ _) (by rw [List.length_take]; omega)

theorem first_len (N : Nat) (hN : N ≤ 1024) : (N : Int) = ((memI (first N)).length : Int) := by
  have h1 := memTo_skip (first N) N (1024 - N) (fun t _ => by simp [first])
  rw [show N + (1024 - N) = 1024 by omega] at h1
  have h2 : memTo (first N) N = List.range N := by
    unfold memTo
    rw [List.filter_eq_self]
    intro x hx
    simpa [first] using hx
  rw [memI_length, h1, h2, List.length_range]
structure GiveAt (w wr : World) (M0 : Nat → Bool) (l : List Opn) (k : Nat) (a9 : Option Addr) (m9 c9 : Nat) (H : List Int) (mm : Int) : Prop where
  held : wr.ownsRow w.heap.size 3 1 (.slice a9 m9 c9) H.length (ints H)
  heldL : m9 = H.length
  few : H.length ≤ k
  apart : Apart H (playM M0 (l.take k))
  many : mm = ((memI (playM M0 (l.take k))).length : Int)
  kept : Kept w wr
theorem pick_at' (x : Int) (N : Nat) (h : x % 21 = N) (w : World) :
    Calls Tryd.prog 32 #[.int .i64 x, .int .i64 21] w fun e w' => e = .returned (.int .i64 N) ∧ w = w' := pick_at x 21 N (by decide) (by decide) h w

set_option maxRecDepth 100000 in
set_option maxHeartbeats 16000000 in
theorem gives_law {w : World} {a : Option Addr} {n c : Nat} (z : Int) (h : ∃ l : List Opn, l.length = n ∧ Lay w (.slice a n c) n (flatO l)) (hT : Tab w) :
    Calls Tryd.prog 7 #[.int .i64 z, .slice a n c] w fun e w' => e = .returned (.bool true) ∧ Kept w w' := by
  obtain ⟨l, hn, hl⟩ := h
  have hn := hn.symm
  have T := Lib.hid hT
  by_cases hlong : 60 < n
  · have i1 : (n : Int) > 60 := by omega
    clear hl hn hT hlong
    go_enter Tryd.func7, Tryd.ntmps7
    go_wp2_with fail; refine (known_any _ T.out).mono ?_; rintro e v1 ⟨rfl, k1⟩
    go_wp2
    go_ret
    exact ⟨rfl, k1⟩
  · have i1 : ¬ ((n : Int) > 60) := by omega
    have hn60 : n ≤ 60 := by omega
    obtain ⟨N, hN⟩ : ∃ N : Nat, z % 21 = N := ⟨(z % 21).toNat, by omega⟩
    have hN20 : N ≤ 1024 := by omega
    obtain ⟨M0, hM0⟩ : ∃ M0, M0 = first N := ⟨_, rfl⟩
    have HL := Lib.hid hl
    have HNn := Lib.hid hn
    have PK := Lib.hid (fun W => pick_at' z N hN W)
    have HM0 := Lib.hid hM0
    clear hl hn hT hlong hN
    go_enter Tryd.func7, Tryd.ntmps7
    go_wp2_with fail; refine (known_any _ T.out).mono ?_; rintro e v1 ⟨rfl, k1⟩
    have K1 := Lib.hid k1
    clear k1
    go_wp2_with fail; refine (PK.out _).mono ?_; rintro e v1' ⟨rfl, rfl⟩
    go_wp2_with fail; refine (play_ok (HL.out.kept K1.out) HNn.out (by omega) (T.out.kept K1.out) N hN20).mono ?_; rintro e v2 ⟨a2, c2, b2, d2, rfl, k2, oa2, oi2⟩
    rw [← hM0] at oa2 oi2 ⊢
    have HP := Lib.hid (show (playA M0 l).length = n by rw [playA_length]; exact HNn.out.symm)
    rw [HP.out]
    have K2 := Lib.hid (K1.out.trans k2)
    have LA2 := Lib.hid (show Lay v2 (.slice a2 n c2) n (flatA (playA M0 l)) by have := (own_lies oa2).lay; rw [HP.out] at this; exact this)
    obtain ⟨nq, hnq⟩ : ∃ nq, nq = (memI (playM M0 l)).length := ⟨_, rfl⟩
    have LQ2 := Lib.hid (show Lay v2 (.slice b2 nq d2) nq (ints (memI (playM M0 l))) by have := (own_lies oi2).lay; rw [← hnq] at this; exact this)
    rw [← hnq]
    have HNQ := Lib.hid hnq
    clear k2 oa2 oi2 hnq hM0
    have CK := Lib.hid (show Calls Tryd.prog 18 #[.slice b2 nq d2] v2 fun e w' => e = .returned (.int .i64 0) ∧ Kept v2 w' from check_p LQ2.out HNQ.out (chk_memI _))
    go_wp2_with fail; refine CK.out.mono ?_; rintro e v3 ⟨rfl, k3⟩
    have K3 := Lib.hid (K2.out.trans k3)
    have AE := Lib.hid (fun W (k : Kept v3 W) i y hy => an_one ((LA2.out.kept k3).kept k) HP.out.symm i y hy)
    have OE := Lib.hid (fun W (k : Kept v3 W) i y hy => op_one ((HL.out.kept K3.out).kept k) HNn.out i y hy)
    have LQ3 := Lib.hid (LQ2.out.kept k3)
    have G0 := Lib.hid (show GiveAt v3 v3 M0 l 0 none 0 0 [] N from ⟨World.ownsRow_nil _ _ _ _, rfl, Nat.le_refl _, (fun v hv => by cases hv), (by rw [HM0.out]; exact first_len N hN20), Kept.refl _⟩)
    clear k3 CK
    go_wp2
    go_loopw [11, 9, 10] (fun i hs ms wr => ∃ (k : Nat) (a9 : Option Addr) (m9 c9 : Nat) (H : List Int) (mm : Int), k ≤ n ∧ i = .int .i64 k ∧ hs = .slice a9 m9 c9 ∧ ms = .int .i64 mm ∧ GiveAt v3 wr M0 l k a9 m9 c9 H mm) (fun i _ _ _ => n - (intOf i).toNat)
    case atStart => exact ⟨0, none, 0, 0, [], N, Nat.zero_le _, rfl, rfl, rfl, G0.out⟩
    case round =>
      obtain ⟨k, a9, m9, c9, H, mm, hkn, rfl, rfl, rfl, hg⟩ := hrel
      have GA := Lib.hid hg
      clear hg
      by_cases hlt : k < n
      · obtain ⟨o, ho⟩ : ∃ o, l[k]? = some o := ⟨_, List.getElem?_eq_getElem (by rw [← HNn.out]; exact hlt)⟩
        obtain ⟨M, hM⟩ : ∃ M, M = playM M0 (l.take k) := ⟨_, rfl⟩
        obtain ⟨x, hx⟩ : ∃ x, x = one M o := ⟨_, rfl⟩
        have hax : (playA M0 l)[k]? = some x := by rw [hx, hM]; exact playA_get M0 l k o ho
        obtain ⟨g, oo, e1, q0, q1, q2, q3⟩ := OE.out _ GA.out.kept k o ho
        subst e1
        obtain ⟨g', oo', e2, y0, y1, y2⟩ := AE.out _ GA.out.kept k x hax
        subst e2
        have HO := Lib.hid ho
        have HM := Lib.hid hM
        have HX := Lib.hid hx
        have hmm : mm = ((memI M).length : Int) := by rw [hM]; exact GA.out.many
        have hap : Apart H M := by rw [hM]; exact GA.out.apart
        have HAP := Lib.hid hap
        have HMM := Lib.hid hmm
        have hH : H.length ≤ 60 := by have := GA.out.few; omega
        have LH := Lib.hid (show Lay wr (.slice a9 m9 c9) m9 (ints H) by have := (own_lies GA.out.held).lay; rw [← GA.out.heldL] at this; exact this)
        have lM := memI_len M
        have hkl : (k : Int) < (n : Int) := by omega
        have NEXT := Lib.hid (show playM M0 (l.take (k + 1)) = stepM M o by rw [take_snoc l k o HO.out, playM_snoc, ← HM.out])
        have hsz := GA.out.kept.size
        clear ho hM hx hax hap
        have hmm0 : 0 ≤ mm := by omega
        have hmm1 : mm ≤ 1024 := by omega
        have hxo : x = one M o := HX.out
        by_cases h7 : o.k = 7
        · have d7 : (o.k == 7) = true := by simpa using h7
          by_cases he : x.e = 0
          · obtain ⟨i, hi, hMi, hxn, hst, hne, hlen⟩ := step_out h7 (by rw [← hxo]; exact he)
            rw [← hxo] at hxn
            have de : (x.e == 0) = true := by simpa using he
            have dm : (mm == 0) = false := by simp; omega
            have AM := Lib.hid (among_b LH.out GA.out.heldL (b := false) (x := x.n) (decide_eq_false (fun hh => HAP.out _ hh (by rw [hxn]; exact (memI_nat hi).2 hMi))))
            obtain ⟨a10, c10, w2, hr, own1, but1⟩ := int_append (L := H) GA.out.held hsz (by omega) x.n m9 GA.out.heldL
            have G2 := Lib.hid (show GiveAt v3 w2 M0 l (k + 1) a10 (m9 + 1) c10 (H ++ [x.n]) (mm - 1) from
              ⟨by rw [List.length_append, ← GA.out.heldL]; exact own1, by rw [List.length_append, GA.out.heldL]; rfl, by rw [List.length_append]; have := GA.out.few; simp; omega,
               by rw [NEXT.out, hst, hxn]; exact apart_out hi HAP.out, by rw [NEXT.out]; omega, GA.out.kept.wrote but1 (fun j hj => (GA.out.held.lt j hj).1)⟩)
            clear hxo hst hxn hne hlen own1 but1 h7 he hMi hmm lM
            go_wp2_with fail; refine AM.out.mono ?_; rintro e u1 ⟨rfl, rfl⟩
            go_wp2
            go_roundw
            case rel => exact ⟨k + 1, _, _, _, _, _, by omega, by go_num, rfl, rfl, G2.out⟩
            case measure => simp [intOf]; omega
          · obtain ⟨f1, f2, f3⟩ := step_full h7 (by rw [← hxo]; exact he)
            rw [← hxo] at f2
            have de : (x.e == 0) = false := by simpa using he
            have dm : (mm != 0) = false := by simp; omega
            have d7e : (x.e != 7) = false := by simpa using f2
            have G2 := Lib.hid (show GiveAt v3 wr M0 l (k + 1) a9 m9 c9 H mm from ⟨GA.out.held, GA.out.heldL, by have := GA.out.few; omega, by rw [NEXT.out, f3]; exact HAP.out, by rw [NEXT.out, f3]; exact HMM.out, GA.out.kept⟩)
            clear hxo f1 f2 f3 h7 he hmm lM
            go_wp2
            go_roundw
            case rel => exact ⟨k + 1, _, _, _, _, _, by omega, by go_num, rfl, rfl, G2.out⟩
            case measure => simp [intOf]; omega
        · have d7 : (o.k == 7) = false := by simpa using h7
          by_cases h8 : o.k = 8 ∧ x.e = 0
          · obtain ⟨i, hi, hMi, hoa, hst, hlen⟩ := step_back h8.1 (by rw [← hxo]; exact h8.2)
            have d8 : (o.k == 8) = true := by simpa using h8.1
            have de : (x.e == 0) = true := by simpa using h8.2
            have HE := Lib.hid (fun W (q : Kept wr W) j v hv => lay_one (LH.out.kept q) GA.out.heldL j v hv)
            have HOA := Lib.hid hoa
            have HST := Lib.hid hst
            have HLEN := Lib.hid hlen
            have OW := Lib.hid (fun W (q : Kept wr W) => OpAt.kept ⟨q0, q1, q2, q3⟩ q)
            have hmH : m9 = H.length := GA.out.heldL
            have HMH := Lib.hid hmH
            have hm60 : m9 ≤ 60 := by omega
            obtain ⟨wo, rfl⟩ : ∃ wo : World, wo = wr := ⟨_, rfl⟩
            clear hxo hst hlen hoa h7 h8 hMi hmm lM hmH
            go_wp2
            go_loopw [13, 12] (fun i v wi => ∃ (j m : Nat) (a' : Option Addr) (c' : Nat), j ≤ m9 ∧ i = .int .i64 j ∧ v = .slice a' m c' ∧ m = ((H.take j).filter (fun v => decide (v ≠ o.a))).length ∧ wi.ownsRow wo.heap.size 3 1 (.slice a' m c') ((H.take j).filter (fun v => decide (v ≠ o.a))).length (ints ((H.take j).filter (fun v => decide (v ≠ o.a)))) ∧ Kept wo wi) (fun i _ _ => m9 - (intOf i).toNat)
            case atStart => exact ⟨0, 0, none, 0, Nat.zero_le _, rfl, rfl, rfl, World.ownsRow_nil _ _ _ _, Kept.refl _⟩
            case round =>
              obtain ⟨j, m, a', c', hjm, rfl, rfl, hm, hown, hki⟩ := hrel
              have KI := Lib.hid hki
              by_cases hlj : j < m9
              · obtain ⟨v, hv⟩ : ∃ v, H[j]? = some v := ⟨_, List.getElem?_eq_getElem (by rw [← HMH.out]; exact hlj)⟩
                obtain ⟨gh, oh, rfl, hc⟩ := HE.out _ KI.out j v hv
                obtain ⟨p0, p1, p2, p3⟩ := OW.out _ KI.out
                have hlj2 : (j : Int) < (m9 : Int) := by omega
                by_cases hve : v = o.a
                · have dv : (v != o.a) = false := by simpa using hve
                  have FN := Lib.hid (filt_no hv hve)
                  have OWN := Lib.hid hown
                  have HMm := Lib.hid hm
                  clear hv hve hown hm hki
                  go_wp2
                  go_quiet (fail)
                  go_wp2
                  go_roundw
                  case rel => exact ⟨j + 1, _, _, _, by omega, by go_num, rfl, by rw [FN.out]; exact HMm.out, by rw [FN.out]; exact own_kept OWN.out ((Kept.refl _).drewN _), KI.out.drewN _⟩
                  case measure => simp [intOf]; omega
                · have dv : (v != o.a) = true := by simpa using hve
                  have FN := Lib.hid (filt_yes hv hve)
                  have hfl := filt_len H j o.a
                  have hsz2 := KI.out.size
                  have IA := Lib.hid (fun q => int_append (W := wr.drewN q) (L := (H.take j).filter (fun v => decide (v ≠ o.a))) (own_kept hown ((Kept.refl _).drewN q)) (by have := ((Kept.refl wr).drewN q).size; omega) (by omega) v m hm)
                  have OWN := Lib.hid hown
                  have HMm := Lib.hid hm
                  clear hv hve hown hm hki hfl
                  go_wp2
                  go_quiet (fail)
                  obtain ⟨a10, c10, w2, hr, own1, but1⟩ := IA.out nq
                  rw [show (wr.drewN nq).heap.size = wr.heap.size from rfl] at hr
                  go_wp2
                  go_roundw
                  case rel => exact ⟨j + 1, _, _, _, by omega, by go_num, rfl, by rw [FN.out, List.length_append, ← HMm.out]; rfl, by rw [FN.out, List.length_append, ← HMm.out]; exact own1, (KI.out.drewN _).wrote but1 (fun b hb => by have := (OWN.out.lt b hb).1; omega)⟩
                  case measure => simp [intOf]; omega
              · obtain rfl : j = m9 := by omega
                have hall : H.take j = H := by rw [HMH.out]; exact List.take_length
                rw [hall] at hm hown
                have G2 := Lib.hid (show GiveAt v3 wr M0 l (k + 1) a' m c' (H.filter (fun v => decide (v ≠ o.a))) (mm + 1) from
                  ⟨own_mono hown hsz, hm, by have := List.length_filter_le (fun v => decide (v ≠ o.a)) H; have := GA.out.few; omega, by rw [NEXT.out, HST.out, HOA.out]; exact apart_back HAP.out, by rw [NEXT.out, HLEN.out, ← HMM.out], GA.out.kept.trans KI.out⟩)
                clear hm hown hki hall
                go_wp2
                exact ⟨⟨k + 1, _, _, _, _, _, by omega, by go_num, rfl, rfl, G2.out⟩, by simp [intOf]; omega⟩
          · have hst := step_none h7 (by rw [← hxo]; exact h8)
            have G2 := Lib.hid (show GiveAt v3 wr M0 l (k + 1) a9 m9 c9 H mm from ⟨GA.out.held, GA.out.heldL, by have := GA.out.few; omega, by rw [NEXT.out, hst]; exact HAP.out, by rw [NEXT.out, hst]; exact HMM.out, GA.out.kept⟩)
            by_cases h8' : o.k = 8
            · have d8 : (o.k == 8) = true := by simpa using h8'
              have de : (x.e == 0) = false := by simpa using fun e => h8 ⟨h8', e⟩
              clear hxo hst h7 h8 h8' hmm lM
              go_wp2
              go_roundw
              case rel => exact ⟨k + 1, _, _, _, _, _, by omega, by go_num, rfl, rfl, G2.out⟩
              case measure => simp [intOf]; omega
            · have d8 : (o.k == 8) = false := by simpa using h8'
              clear hxo hst h7 h8 h8' hmm lM
              go_wp2
              go_roundw
              case rel => exact ⟨k + 1, _, _, _, _, _, by omega, by go_num, rfl, rfl, G2.out⟩
              case measure => simp [intOf]; omega
      · obtain rfl : k = n := by omega
        have hall : l.take k = l := by rw [HNn.out]; exact List.take_length
        have hap : Apart H (playM M0 l) := by have := GA.out.apart; rw [hall] at this; exact this
        have hmm : mm = (nq : Int) := by have := GA.out.many; rw [hall, ← HNQ.out] at this; exact this
        have HAP := Lib.hid hap
        have LH := Lib.hid (show Lay wr (.slice a9 m9 c9) m9 (ints H) by have := (own_lies GA.out.held).lay; rw [← GA.out.heldL] at this; exact this)
        have HE := Lib.hid (fun W (q : Kept wr W) j v hv => lay_one (LH.out.kept q) GA.out.heldL j v hv)
        have HMH := Lib.hid GA.out.heldL
        have hm60 : m9 ≤ 60 := by have := GA.out.few; have := GA.out.heldL; omega
        have KG := Lib.hid GA.out.kept
        obtain ⟨wo, rfl⟩ : ∃ wo : World, wo = wr := ⟨_, rfl⟩
        subst hmm
        have hself : ((nq : Int) == (nq : Int)) = true := by simp
        clear hall hap
        go_wp2
        clear hlt
        go_loopw [14] (fun i wi => ∃ j : Nat, j ≤ m9 ∧ i = .int .i64 j ∧ Kept wo wi) (fun i _ => m9 - (intOf i).toNat)
        case atStart => exact ⟨0, Nat.zero_le _, rfl, Kept.refl _⟩
        case round =>
          obtain ⟨j, hjm, rfl, hki⟩ := hrel
          have KI := Lib.hid hki
          clear hki
          by_cases hlj : j < m9
          · obtain ⟨v, hv⟩ : ∃ v, H[j]? = some v := ⟨_, List.getElem?_eq_getElem (by rw [← HMH.out]; exact hlj)⟩
            obtain ⟨gh, oh, rfl, hc⟩ := HE.out _ KI.out j v hv
            have AM := Lib.hid (among_b (b := false) (x := v) (LQ3.out.kept (KG.out.trans KI.out)) HNQ.out (decide_eq_false (HAP.out v (List.mem_iff_getElem?.2 ⟨j, hv⟩))))
            clear hv
            go_wp2_with fail; refine AM.out.mono ?_; rintro e u1 ⟨rfl, rfl⟩
            go_wp2
            go_roundw
            case rel => exact ⟨j + 1, by omega, by go_num, KI.out⟩
            case measure => simp [intOf]; omega
          · go_wp2
            go_ret
            exact ⟨rfl, K3.out.trans (KG.out.trans KI.out)⟩
end Go.Proofs.YtlkadickhhaakaaDoor
