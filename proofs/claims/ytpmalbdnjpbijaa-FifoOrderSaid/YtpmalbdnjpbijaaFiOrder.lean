/- FifoOrder. -/
import Derived.Test.YtpmalbdnjpbijaaFiOne
namespace Go.Proofs.Ytpmalbdnjpbijaa
open Go.RowKit
attribute [local go_sem ↓] app_named

structure OrdAt (w0 wr : World) (r : Nat) (l : List Opn) (k m out : Nat) (a : Option Addr) (c : Nat) (IN : List Int) : Prop where
  len : m = IN.length
  own : wr.ownsRow w0.heap.size 23 1 (.slice a m c) m (words IN)
  queue : playQ r (l.take k) = IN.drop out
  le : out ≤ m
  few : m ≤ k
  kept : Kept w0 wr
def OrdRel (w0 : World) (r n : Nat) (l : List Opn) (v u i : Value) (wr : World) : Prop :=
  ∃ k : Nat, k ≤ n ∧ i = .int .i64 k ∧ ∃ a m c out IN, v = .slice a m c ∧ u = .int .i64 (out : Nat) ∧ OrdAt w0 wr r l k m out a c IN

set_option maxRecDepth 100000 in
set_option maxHeartbeats 8000000 in
theorem fifoOrder_any {w : World} (x0 : Int) {a : Option Addr} {n c : Nat} (hh : ∃ l : List Opn, l.length = n ∧ Lay w (.slice a n c) n (flatO l)) :
    Calls Try.prog 6 #[.int .i64 x0, .slice a n c] w fun e w' => e = .returned (.bool true) ∧ Kept w w' := by
  obtain ⟨l, hnl, hL⟩ := hh
  by_cases hl : 80 < n
  · clear hL hnl
    go_enter Try.func6, Try.ntmps6
    go_wp2_with fail; refine (known_any _).mono ?_; rintro ed w1 ⟨rfl, k1⟩
    go_wp2
    go_ret
    exact ⟨rfl, k1⟩
  obtain ⟨i0, hi0, hz0, hz1, hz2⟩ := info_parts infoW
  obtain ⟨r0, hr0⟩ : ∃ r0 : Nat, x0 % 20 = r0 := Int.eq_ofNat_of_zero_le (Int.emod_nonneg x0 (by decide))
  have hr1 : r0 ≤ 19 := by have := Int.emod_lt_of_pos x0 (show (0 : Int) < 20 by decide); omega
  have PK := Lib.hid (fun W => pick_at x0 20 r0 (by decide) (by decide) hr0 W)
  have HL := Lib.hid hL
  have HN := Lib.hid hnl
  have PL := Lib.hid (fun W (k : Kept w W) => show Calls Try.prog 19 #[.int .i64 (1 + (r0 : Int)), .slice a n c] W (fun e w' => ∃ a' c' b d, e = .returned (.tuple #[.slice a' n c', .slice b (playQ (1 + r0) l).length d, .int .i64 0]) ∧ Kept W w' ∧ Lay w' (.slice a' n c') n (flatA (playA (1 + r0) l)) ∧ Lay w' (.slice b (playQ (1 + r0) l).length d) (playQ (1 + r0) l).length (words (playQ (1 + r0) l))) by
    subst hnl
    have h := play_ok (r := 1 + r0) (HL.out.kept k) (by omega) (by omega) (by omega)
    rw [show ((1 + r0 : Nat) : Int) = 1 + (r0 : Int) by omega] at h
    refine h.mono ?_
    rintro e w' ⟨a', c', b, d, rfl, k', oa, ow, _⟩
    have la := (own_lies oa).lay
    rw [playA_length] at la
    exact ⟨a', c', b, d, by rw [playA_length], k', la, (own_lies ow).lay⟩)
  obtain ⟨Q, hQ⟩ : ∃ Q, Q = (playQ (1 + r0) l).length := ⟨_, rfl⟩
  have HQ := Lib.hid hQ
  rw [← hQ] at PL
  clear hL hr0 hnl hQ
  go_enter Try.func6, Try.ntmps6
  go_wp2_with fail; refine (known_any _).mono ?_; rintro ed w1 ⟨rfl, k1⟩
  have K1 := Lib.hid k1
  clear k1
  go_wp2_with fail; refine (PK.out _).mono ?_; rintro ed w2 ⟨rfl, rfl⟩
  go_wp2_with fail; refine (PL.out _ K1.out).mono ?_; rintro ed w2 ⟨a2, c2, b2, d2, rfl, k2, la2, lw2⟩
  have K2 := Lib.hid (K1.out.trans k2)
  have LA := Lib.hid la2
  have LW := Lib.hid lw2
  clear k2 la2 lw2
  go_wp2_with fail
  go_loopw [9, 10, 11] (fun v u i wr => OrdRel w2 (1 + r0) n l v u i wr) (fun _ _ i _ => n - (intOf i).toNat)
  case atStart => exact ⟨0, Nat.zero_le _, rfl, none, 0, 0, 0, [], rfl, rfl, rfl, World.ownsRow_nil _ _ _ _, rfl, Nat.le_refl _, Nat.le_refl _, Kept.refl _⟩
  case round =>
    obtain ⟨k, hk, rfl, b, m, d, out, IN, rfl, rfl, hp⟩ := hrel
    have P := Lib.hid hp
    have hle := hp.le
    have hfew := hp.few
    clear hp
    by_cases hlt : k < n
    · obtain ⟨o, ho⟩ : ∃ o, l[k]? = some o := ⟨_, List.getElem?_eq_getElem (by rw [HN.out]; exact hlt)⟩
      have hl' := HL.out.kept (K2.out.trans P.out.kept)
      rw [← HN.out] at hl'
      obtain ⟨g, off, c', e, h1, h2, hc⟩ := hl'.op (by rw [HN.out]; omega)
      cases e
      obtain ⟨o0, o1, o2, o3⟩ := hc k o ho
      have la' := LA.out.kept P.out.kept
      have hpl : n = (playA (1 + r0) l).length := by rw [playA_length]; exact HN.out.symm
      obtain ⟨t, ht⟩ : ∃ t, tell (1 + r0) (playQ (1 + r0) (l.take k)) o = t := ⟨_, rfl⟩
      obtain ⟨g3, off3, c3, e3, hcell⟩ : ∃ g3 off3 c3, Value.slice a2 n c2 = .slice (some ⟨g3, off3, none⟩) n c3 ∧ AnAt wr g3 (off3 + k * 3) t := by
        rw [hpl] at la'
        obtain ⟨g3, off3, c3, e3, _, _, hc3⟩ := la'.an (by omega)
        refine ⟨g3, off3, c3, by rw [← hpl] at e3; exact e3, hc3 k t (by rw [← ht]; exact playA_get _ l k o ho)⟩
      cases e3
      obtain ⟨z0, z1, z2⟩ := hcell
      have HO := Lib.hid ho
      obtain ⟨q, hq0⟩ : ∃ q, playQ (1 + r0) (l.take k) = q := ⟨_, rfl⟩
      have hqq := P.out.queue
      have hroom := playQ_room (1 + r0) (l.take k)
      rw [hq0] at ht hqq hroom
      have hql : q.length = m - out := by rw [hqq, List.length_drop, ← P.out.len]
      have HQ0 := Lib.hid hq0
      have HQQ := Lib.hid hqq
      have hkn : (k : Int) < n := by omega
      have hmr : (m : Int) - (out : Int) ≤ 1 + (r0 : Int) := by omega
      have g0 : ¬ ((out : Int) > (m : Int)) := by omega
      have g1 : ¬ ((m : Int) - (out : Int) > 1 + (r0 : Int)) := by omega
      have hNX : ∀ p, act (1 + r0) q o = some p → playQ (1 + r0) (l.take (k + 1)) = p.2 := fun p h => by rw [take_snoc l k o HO.out, playQ_snoc, HQ0.out]; unfold after; rw [h]; rfl
      have hN0 : act (1 + r0) q o = none → playQ (1 + r0) (l.take (k + 1)) = q := fun h => by rw [take_snoc l k o HO.out, playQ_snoc, HQ0.out]; unfold after; rw [h]; rfl
      have NX := Lib.hid hNX
      have N0 := Lib.hid hN0
      clear hc ho h1 h2 hl' la' hpl hq0 hNX hN0 o1 o2 z1
      by_cases h1 : o.k = 1
      · rw [h1] at o0
        by_cases hf : m - out = 1 + r0
        · have ea : act (1 + r0) q o = some (⟨7, 0, 0⟩, q) := by unfold act; rw [if_pos h1, if_pos (by omega)]
          have HA := Lib.hid (NX.out _ ea)
          have et : t = ⟨7, 0, 0⟩ := by rw [← ht]; unfold tell; rw [ea]; rfl
          subst et
          have bf : ((m : Int) - (out : Int) == 1 + (r0 : Int)) = true := by simp; omega
          clear ea h1 hf hqq ht hql hroom
          go_wp2
          have KW : Kept wr wr := Kept.refl _
          go_roundw
          case rel => exact ⟨k + 1, by omega, by go_num, _, m, _, out, IN, rfl, rfl, P.out.len, own_kept P.out.own KW, by rw [HA.out]; exact HQQ.out, P.out.le, by have := P.out.few; omega, P.out.kept.trans KW⟩
          case measure => simp [intOf]; omega
        · have ea : act (1 + r0) q o = some (⟨0, 0, 0⟩, q ++ [o.u]) := by unfold act; rw [if_pos h1, if_neg (by omega)]
          have HA := Lib.hid (NX.out _ ea)
          have et : t = ⟨0, 0, 0⟩ := by rw [← ht]; unfold tell; rw [ea]; rfl
          subst et
          have bf : ((m : Int) - (out : Int) == 1 + (r0 : Int)) = false := by simp; omega
          obtain ⟨a6, c6, w6, hrun0, own6, but6, at6⟩ := append_lay (P := Try.prog) (wr.alloc (.cells #[.int .u64 o.u] 23)) w2.heap.size 22 22 23 i0 _ 1 8 Try.underlying22 hi0 hz0 hz1 hz2 (by rfl) (by decide)
            (.slice b m d) m (words IN) (own_kept P.out.own ((Kept.refl wr).alloc _ _)) (.slice (some ⟨wr.heap.size, 0, none⟩) 1 1) 1 (words [o.u]) (words_length [_]) (lay_new (heap_alloc_new _ _) (by decide)) (words_one _) (by unfold maxLen; omega) (by omega) (by have := P.out.kept.size; simp; omega)
          have hrun := hrun0
          rw [app_named] at hrun
          have K6 := Lib.hid (show Kept w2 w6 from (P.out.kept.alloc _ _).wrote but6 (fun g hg => (P.out.own.lt g hg).1))
          have O6 := Lib.hid own6
          have g2 : ¬ ((out : Int) > (m : Int) + 1) := by omega
          have g3' : ¬ ((m : Int) + 1 - (out : Int) > 1 + (r0 : Int)) := by omega
          have HH1 := Lib.hid hle
          clear hrun0 own6 but6 at6 ea h1 hf hqq ht hql hroom
          go_wp2
          go_roundw
          case rel => exact ⟨k + 1, by omega, by go_num, a6, m + 1, c6, out, IN ++ [o.u], rfl, rfl, by rw [List.length_append, ← P.out.len]; rfl, by have h := O6.out; rwa [← words_append] at h, by rw [HA.out, HQQ.out, List.drop_append_of_le_length (by rw [← P.out.len]; exact HH1.out)], by omega, by omega, K6.out⟩
          case measure => simp [intOf]; omega
      by_cases h2 : o.k = 2
      · rw [h2] at o0
        cases hc : q with
        | nil =>
          have ea : act (1 + r0) q o = some (⟨15, 0, 0⟩, q) := by unfold act; rw [if_neg h1, if_pos h2, hc]
          have HA := Lib.hid (NX.out _ ea)
          have et : t = ⟨15, 0, 0⟩ := by rw [← ht]; unfold tell; rw [ea]; rfl
          subst et
          have hmo : m = out := by have : q.length = 0 := by rw [hc]; rfl
                                   omega
          have bm : ((m : Int) == (out : Int)) = true := by simp; omega
          clear ea h1 h2 hqq ht hql hroom hc hmo
          go_wp2
          go_quiet (fail)
          go_wp2
          have KW : Kept wr (wr.drewN nq) := (Kept.refl _).drewN _
          go_roundw
          case rel => exact ⟨k + 1, by omega, by go_num, _, m, _, out, IN, rfl, rfl, P.out.len, own_kept P.out.own KW, by rw [HA.out]; exact HQQ.out, P.out.le, by have := P.out.few; omega, P.out.kept.trans KW⟩
          case measure => simp [intOf]; omega
        | cons x rest =>
          have ea : act (1 + r0) q o = some (⟨0, 0, x⟩, q) := by unfold act; rw [if_neg h1, if_pos h2, hc]
          have HA := Lib.hid (NX.out _ ea)
          have et : t = ⟨0, 0, x⟩ := by rw [← ht]; unfold tell; rw [ea]; rfl
          subst et
          have hlt2 : out < m := by have : q.length = rest.length + 1 := by rw [hc]; rfl
                                    omega
          have bm : ((m : Int) == (out : Int)) = false := by simp; omega
          obtain ⟨g5, off5, c5, e5, q1, q2, hin⟩ := (own_lies P.out.own).lay.at (by omega)
          cases e5
          have v0 : wr.cell? ⟨g5, off5 + out, none⟩ = some (.int .u64 x) := hin out _ (words_get IN out x (by
            have : (IN.drop out)[0]? = some x := by rw [← hqq, hc]; rfl
            simpa using this))
          have bx : ((x : Int) != x) = false := by simp
          have go1 : (out : Int) < (m : Int) := by omega
          have bo : decide ((out : Int) ≥ (m : Int)) = false := by simp; omega
          clear ea h1 h2 hqq ht hql hroom hc hin q1 q2
          go_wp2
          go_quiet (fail)
          go_wp2
          have KW : Kept wr (wr.drewN nq) := (Kept.refl _).drewN _
          go_roundw
          case rel => exact ⟨k + 1, by omega, by go_num, _, m, _, out, IN, rfl, rfl, P.out.len, own_kept P.out.own KW, by rw [HA.out]; exact HQQ.out, P.out.le, by have := P.out.few; omega, P.out.kept.trans KW⟩
          case measure => simp [intOf]; omega
      by_cases h3 : o.k = 3
      · rw [h3] at o0
        cases hc : q with
        | nil =>
          have ea : act (1 + r0) q o = some (⟨15, 0, 0⟩, q) := by unfold act; rw [if_neg h1, if_neg h2, if_pos h3, hc]
          have HA := Lib.hid (NX.out _ ea)
          have et : t = ⟨15, 0, 0⟩ := by rw [← ht]; unfold tell; rw [ea]; rfl
          subst et
          have hmo : m = out := by have : q.length = 0 := by rw [hc]; rfl
                                   omega
          have bm : ((m : Int) == (out : Int)) = true := by simp; omega
          clear ea h1 h2 h3 hqq ht hql hroom hc hmo
          go_wp2
          have KW : Kept wr wr := Kept.refl _
          go_roundw
          case rel => exact ⟨k + 1, by omega, by go_num, _, m, _, out, IN, rfl, rfl, P.out.len, own_kept P.out.own KW, by rw [HA.out]; exact HQQ.out, P.out.le, by have := P.out.few; omega, P.out.kept.trans KW⟩
          case measure => simp [intOf]; omega
        | cons x rest =>
          have ea : act (1 + r0) q o = some (⟨0, 0, 0⟩, rest) := by unfold act; rw [if_neg h1, if_neg h2, if_pos h3, hc]
          have HA := Lib.hid (NX.out _ ea)
          have et : t = ⟨0, 0, 0⟩ := by rw [← ht]; unfold tell; rw [ea]; rfl
          subst et
          have hlt2 : out < m := by have : q.length = rest.length + 1 := by rw [hc]; rfl
                                    omega
          have bm : ((m : Int) == (out : Int)) = false := by simp; omega
          have hrest : rest = IN.drop (out + 1) := by
            have h := congrArg (List.drop 1) hqq
            rw [hc, List.drop_drop] at h
            simpa using h
          have HR := Lib.hid hrest
          have g2 : ¬ ((out : Int) + 1 > (m : Int)) := by omega
          have g3' : ¬ ((m : Int) - ((out : Int) + 1) > 1 + (r0 : Int)) := by omega
          clear ea h1 h2 h3 hqq ht hql hroom hc hrest
          go_wp2
          go_roundw
          case rel => exact ⟨k + 1, by omega, by go_num, b, m, d, out + 1, IN, rfl, by go_num, P.out.len, P.out.own, by rw [HA.out]; exact HR.out, by omega, by have := P.out.few; omega, P.out.kept⟩
          case measure => simp [intOf]; omega
      have ea : act (1 + r0) q o = none := by unfold act; rw [if_neg h1, if_neg h2, if_neg h3]
      have HA := Lib.hid (N0.out ea)
      have e1 : (o.k == 1) = false := by simpa using h1
      have e2 : (o.k == 2) = false := by simpa using h2
      have e3 : (o.k == 3) = false := by simpa using h3
      clear ea h1 h2 h3 hqq ht hql hroom
      go_wp2
      have KW : Kept wr wr := Kept.refl _
      go_roundw
      case rel => exact ⟨k + 1, by omega, by go_num, _, m, _, out, IN, rfl, rfl, P.out.len, own_kept P.out.own KW, by rw [HA.out]; exact HQQ.out, P.out.le, by have := P.out.few; omega, P.out.kept.trans KW⟩
      case measure => simp [intOf]; omega
    · have hkn : k = n := by omega
      subst hkn
      have hlk : l.take k = l := by rw [← HN.out]; exact List.take_length
      have hqq := P.out.queue
      rw [hlk] at hqq
      have hql : Q = m - out := by rw [HQ.out, hqq, List.length_drop, ← P.out.len]
      have HQM := Lib.hid hql
      have hlen : Q = (IN.drop out).length := by rw [List.length_drop, ← P.out.len]; exact hql
      have lw := LW.out.kept P.out.kept
      rw [hqq] at lw
      have SW := Lib.hid (fun (v : Value) (h : Lay wr v Q (words (IN.drop out))) => sameWords_n lw h hlen (by have := playQ_room (1 + r0) l; rw [hqq] at this; omega))
      have KP := Lib.hid (K2.out.trans P.out.kept)
      have hown := P.out.own
      rcases hown.2 with ⟨hv, hm0⟩ | ⟨g, cap, cur, hv, hb, hg, hmc, hcm, hcs, htake⟩
      · cases hv
        obtain rfl : out = 0 := by omega
        have HI := Lib.hid (List.eq_nil_of_length_eq_zero (P.out.len.symm) : IN = [])
        clear hm0 hown lw hlen hqq hlk hle hfew hql
        go_wp2_with fail; refine (SW.out _ (.inl (.inl ⟨rfl, by rw [HQM.out], by rw [HI.out]; rfl⟩))).mono ?_; rintro ed w4 ⟨rfl, k4⟩
        go_wp2
        go_ret
        exact ⟨rfl, KP.out.trans k4⟩
      · cases hv
        have hc := (own_lies hown).lay
        have HC := Lib.hid hc
        unfold maxLen at hcm
        have HCM := Lib.hid hcm
        have HMC := Lib.hid hmc
        clear hown lw hlen hqq hlk hb hg hcs htake hc hql
        by_cases hoc : out = d
        · obtain rfl : m = d := by omega
          subst hoc
          clear hcm hmc hle
          have HI := Lib.hid (show IN.drop out = [] from List.eq_nil_of_length_eq_zero (by rw [List.length_drop, ← P.out.len]; omega))
          go_wp2_with fail; refine (SW.out _ ?_).mono ?_
          · exact .inr ⟨⟨g, 0, none⟩, 0, rfl, by rw [HQM.out]; omega, by rw [HI.out]; rfl, Nat.zero_le _⟩
          rintro ed w4 ⟨rfl, k4⟩
          go_wp2
          go_ret
          exact ⟨rfl, KP.out.trans k4⟩
        · go_wp2_with fail; refine (SW.out _ ?_).mono ?_
          · rw [HQM.out]
            refine .inl (.inr ⟨g, out, d - out, rfl, by have := HMC.out; omega, by unfold maxLen; have := HCM.out; omega, fun j u hu => ?_⟩)
            have hj : (words IN)[out + j]? = some u := by
              unfold words at hu ⊢
              rw [List.map_drop, List.getElem?_drop] at hu
              exact hu
            have hpos : 0 < m := by
              have := (List.getElem?_eq_some_iff.1 hj).1
              rw [words_length, ← P.out.len] at this
              omega
            obtain ⟨g', o', c', e, _, _, h⟩ := HC.out.at hpos
            cases e
            have := h (out + j) u hj
            simpa using this
          rintro ed w4 ⟨rfl, k4⟩
          go_wp2
          go_ret
          exact ⟨rfl, KP.out.trans k4⟩
end Go.Proofs.Ytpmalbdnjpbijaa
