/- The document's answers: at, Check. -/
import Derived.Test.YtjbplbfedndjpaaEvKit
import Derived.Deep.RegionHeld3
import Derived.BigRegion
namespace Go.Proofs.Ytjbplbfedndjpaa
open Go.RowKit

set_option maxHeartbeats 2000000 in
theorem at_any {w : World} {a : Option Addr} {n c : Nat} {p : List Ev} (h : Lay w (.slice a n c) n (flatE p)) (hn : p.length = n) (hl : n ≤ 1000000) (id : Int) (b : Bool) :
    Calls Try.prog 36 #[.slice a n c, .int .i64 id, .bool b] w fun e w' => e = .returned (.int .i64 (pos p id b)) ∧ w' = w := by
  by_cases h0 : p = []
  · subst h0
    obtain rfl : 0 = n := hn
    clear h hl
    go_enter Try.func36, Try.ntmps36
    go_wp2
    go_loopw [7] (fun i wr => i = .int .i64 0 ∧ wr = w) (fun _ _ => 0)
    case atStart => exact ⟨rfl, rfl⟩
    case round =>
      obtain ⟨rfl, rfl⟩ := hrel
      go_wp2
      go_ret
      exact ⟨rfl, rfl⟩
  · have hp : 0 < p.length := List.length_pos_iff.2 h0
    subst hn
    obtain ⟨g, o, c, e, _, _, hc⟩ := h.ev hp
    cases e
    have HC := Lib.hid hc
    obtain ⟨n, hn⟩ : ∃ n, n = p.length := ⟨_, rfl⟩
    rw [← hn] at hl ⊢
    have HN := Lib.hid hn
    clear hc h h0 hp hn
    go_enter Try.func36, Try.ntmps36
    go_wp2
    go_loopw [7] (fun i wr => ∃ k : Nat, k ≤ n ∧ i = .int .i64 k ∧ wr = w ∧ Hid (ix (p.take k) id b = none)) (fun i _ => n - (intOf i).toNat)
    case atStart => exact ⟨0, Nat.zero_le _, rfl, rfl, by simp [Hid, ix]⟩
    case round =>
      obtain ⟨k, hk, rfl, rfl, NO⟩ := hrel
      by_cases hlt : k < n
      · obtain ⟨e, he⟩ : ∃ e, p[k]? = some e := ⟨_, List.getElem?_eq_getElem (by rw [← HN.out]; exact hlt)⟩
        have x0 := (HC.out k e he).c0
        have x1 := (HC.out k e he).c1
        have HD := Lib.hid he
        clear he
        cases hx : (e.id == id) with
        | false =>
          have HI := Lib.hid (show is id b e = false by simp [is, hx])
          go_wp2
          go_roundw
          case rel => exact ⟨k + 1, by omega, by go_num, trivial, ix_miss NO.out HD.out HI.out⟩
          case measure => simp [intOf]; omega
        | true =>
          cases hy : (e.ans == b) with
          | false =>
            have HI := Lib.hid (show is id b e = false by simp [is, hy])
            go_wp2
            go_roundw
            case rel => exact ⟨k + 1, by omega, by go_num, trivial, ix_miss NO.out HD.out HI.out⟩
            case measure => simp [intOf]; omega
          | true =>
            have HI := Lib.hid (show is id b e = true by simp [is, hx, hy])
            go_wp2
            go_ret
            refine ⟨?_, rfl⟩
            show _ = Ending.returned (.int .i64 (pos p id b))
            have : pos p id b = k := by unfold pos; rw [ix_hit NO.out HD.out HI.out]
            rw [this]
            rfl
      · have hkn : k = n := by omega
        have HK := Lib.hid hkn
        clear hkn
        go_wp2
        go_ret
        refine ⟨?_, rfl⟩
        have e1 := NO.out
        rw [HK.out, HN.out, List.take_length] at e1
        unfold pos
        rw [e1]
        rfl

theorem pos_has {p : List Ev} {id : Int} {b : Bool} : has p id b = true ↔ 0 ≤ pos p id b := by
  have h := pos_neg p id b
  cases hh : has p id b with
  | true => rw [hh] at h; simp at h; simpa using h
  | false => rw [hh] at h; simp at h; simp; exact h

/-- The document's Check. -/
def ChkAt (w : World) (h : List Ev) (i : Value) (W : World) : Prop := ∃ k : Nat, k ≤ h.length ∧ i = .int .i64 k ∧ Kept w W ∧ chks (h.take k) (h.drop k) = chks [] h ∧ Vd (h.take k)

set_option maxHeartbeats 4000000 in
theorem refCheck_any {w : World} {a : Option Addr} {c : Nat} {h : List Ev} (hE : Lay w (.slice a h.length c) h.length (flatE h)) (hl : h.length ≤ 5000) :
    Calls Try.prog 16 #[.slice a h.length c] w fun e w' => e = .returned (.int .i64 (chk h)) ∧ Kept w w' := by
  by_cases h4 : 4096 < h.length
  · have hk : chk h = 4 := by unfold chk; rw [if_pos h4]
    rw [hk]
    clear hk hE
    go_enter Try.func16, Try.ntmps16
    go_wp2
    go_ret
    exact ⟨rfl, Kept.refl _⟩
  have hchk : chk h = chks [] h := by unfold chk; rw [if_neg h4]
  rw [hchk]
  clear hchk
  by_cases h0 : h = []
  · subst h0
    clear hE hl h4
    go_enter Try.func16, Try.ntmps16
    go_wp2
    go_loopw [3] (fun i wr => i = .int .i64 0 ∧ wr = w) (fun _ _ => 0)
    case atStart => exact ⟨rfl, rfl⟩
    case round =>
      obtain ⟨rfl, rfl⟩ := hrel
      go_wp2
      go_ret
      exact ⟨rfl, Kept.refl _⟩
  · have hp : 0 < h.length := List.length_pos_iff.2 h0
    obtain ⟨g, o, c, e, h1, h2, hc⟩ := hE.ev hp
    cases e
    have HC := Lib.hid hc
    have HL := Lib.hid hE
    obtain ⟨n, hn⟩ : ∃ n, n = h.length := ⟨_, rfl⟩
    have HN := Lib.hid hn
    rw [← hn] at hl h1 h4 ⊢
    clear hc hE h0 hp hn
    unfold maxLen at h2
    obtain ⟨R, hR⟩ : ∃ R, R = chks [] h := ⟨_, rfl⟩
    have HR := Lib.hid hR
    rw [← hR]
    clear hR
    go_enter Try.func16, Try.ntmps16
    go_wp2
    go_loopw [3] (fun i wr => ChkAt w h i wr) (fun i _ => n - (intOf i).toNat)
    case atStart => exact ⟨0, Nat.zero_le _, rfl, Kept.refl _, by simp, by simp [vd_nil]⟩
    case round =>
      obtain ⟨k, hk, rfl, hkept, hck, hvd⟩ := hrel
      rw [← HN.out] at hk
      have KR := Lib.hid hkept
      have CK := Lib.hid hck
      have VD := Lib.hid hvd
      clear hkept hck hvd
      by_cases hlt : k < n
      · obtain ⟨e, he⟩ : ∃ e, h[k]? = some e := ⟨_, List.getElem?_eq_getElem (by rw [← HN.out]; exact hlt)⟩
        have ets := take_snoc h k e he
        have eds := drop_cons h k e he
        have ETS := Lib.hid ets
        have HK := Lib.hid (show (h.take k).length = k by rw [List.length_take, ← HN.out]; omega)
        have CK2 := Lib.hid (CK.out.symm.trans (by rw [eds]; rfl : chks (h.take k) (h.drop k) = if stp (h.take k) e = 0 then chks (h.take k ++ [e]) (h.drop (k + 1)) else stp (h.take k) e))
        have x0 := ((HC.out k e he).kept KR.out).c0
        have x1 := ((HC.out k e he).kept KR.out).c1
        have LP := Lib.hid (show Lay wr (.slice (some ⟨g, o, none⟩) k c) k (flatE (h.take k)) from (HL.out.kept KR.out).pre (by rw [← HN.out]; omega) (fun e => by subst e; simp [flatE]) (fun j u hu => by
          obtain ⟨t, ht⟩ : ∃ t, h = h.take k ++ t := ⟨h.drop k, by rw [List.take_append_drop]⟩
          rw [ht]
          unfold flatE at hu ⊢
          rw [List.flatMap_append, List.getElem?_append_left (List.getElem?_eq_some_iff.1 hu).1]
          exact hu))
        clear ets eds he
        obtain ⟨v, hv⟩ : ∃ v, v = pos (h.take k) e.id e.ans := ⟨_, rfl⟩
        have AT := fun W (L : Lay W (.slice (some ⟨g, o, none⟩) k c) k (flatE (h.take k))) => at_any L HK.out (by omega) e.id e.ans
        rw [← hv] at AT
        have HV := Lib.hid hv
        have AT := Lib.hid AT
        clear hv
        by_cases hz : 0 ≤ v
        · go_wp2
          go_quiet ((go_at_call 36; exact Calls.quiet_of_same (AT.out _ (LP.out.kept ((Kept.refl _).drewN _)))))
          go_wp2
          go_ret
          refine ⟨?_, KR.out.drewN _⟩
          have hh := pos_has.2 (by rw [← HV.out]; exact hz)
          have e8 : stp (h.take k) e = 8 := by unfold stp; rw [hh]; rfl
          have e9 : R = 8 := by rw [HR.out, CK2.out, e8]; rfl
          rw [e9]
          rfl
        · have hneg : v < 0 := by omega
          have hno : has (h.take k) e.id e.ans = false := by
            have := pos_neg (h.take k) e.id e.ans
            rw [← HV.out] at this
            simpa [hneg] using this
          have NO := Lib.hid hno
          clear hno
          cases ha : e.ans with
          | false =>
            have e0 : stp (h.take k) e = 0 := by unfold stp; rw [NO.out, ha]; rfl
            have E0 := Lib.hid e0
            rw [ha] at x1
            clear e0
            have AT2 := Lib.hid (ha ▸ AT.out)
            clear ha
            go_wp2
            go_quiet ((go_at_call 36; exact Calls.quiet_of_same (AT2.out _ (LP.out.kept ((Kept.refl _).drewN _)))))
            obtain ⟨W1, hW1⟩ : ∃ W1, wr.drewN nq = W1 := ⟨_, rfl⟩
            have k1 : Kept wr W1 := by rw [← hW1]; exact (Kept.refl _).drewN _
            rw [hW1]
            clear hW1
            have x1' := k1.some x1
            have K1 := Lib.hid k1
            clear k1
            go_wp2
            go_quiet (fail)
            go_wp2
            go_roundw
            case rel =>
              refine ⟨k + 1, by rw [← HN.out]; omega, by go_num, (KR.out.trans K1.out).drewN _, ?_, ?_⟩
              · rw [CK2.out, if_pos E0.out, ETS.out]
              · rw [ETS.out]; exact (vd_snoc _ _).2 ⟨VD.out, E0.out⟩
            case measure => simp [intOf]; omega
          | true =>
            rw [ha] at x1
            have AT2 := Lib.hid (ha ▸ AT.out)
            obtain ⟨u, hu⟩ : ∃ u, u = pos (h.take k) e.id false := ⟨_, rfl⟩
            have AT3 := fun W (L : Lay W (.slice (some ⟨g, o, none⟩) k c) k (flatE (h.take k))) => at_any L HK.out (by omega) e.id false
            rw [← hu] at AT3
            have AT3 := Lib.hid AT3
            have HU := Lib.hid hu
            have HA := Lib.hid ha
            clear hu ha
            by_cases hz2 : u < 0
            · go_wp2
              go_quiet ((go_at_call 36; exact Calls.quiet_of_same (AT2.out _ (LP.out.kept ((Kept.refl _).drewN _)))))
              obtain ⟨W1, hW1⟩ : ∃ W1, wr.drewN nq = W1 := ⟨_, rfl⟩
              have k1 : Kept wr W1 := by rw [← hW1]; exact (Kept.refl _).drewN _
              rw [hW1]
              clear hW1
              have x0' := k1.some x0
              have x1' := k1.some x1
              have K1 := Lib.hid k1
              clear k1
              go_wp2
              go_quiet ((go_at_call 36; exact Calls.quiet_of_same (AT3.out _ (LP.out.kept (K1.out.drewN _)))))
              go_wp2
              go_ret
              refine ⟨?_, (KR.out.trans K1.out).drewN _⟩
              have h2 : has (h.take k) e.id false = false := by
                have := pos_neg (h.take k) e.id false
                rw [← HU.out] at this
                simpa [hz2] using this
              have e8 : stp (h.take k) e = 10 := by unfold stp; rw [NO.out, HA.out, h2]; rfl
              have e9 : R = 10 := by rw [HR.out, CK2.out, e8]; rfl
              rw [e9]
              rfl
            · go_wp2
              go_quiet ((go_at_call 36; exact Calls.quiet_of_same (AT2.out _ (LP.out.kept ((Kept.refl _).drewN _)))))
              obtain ⟨W1, hW1⟩ : ∃ W1, wr.drewN nq = W1 := ⟨_, rfl⟩
              have k1 : Kept wr W1 := by rw [← hW1]; exact (Kept.refl _).drewN _
              rw [hW1]
              clear hW1
              have x0' := k1.some x0
              have x1' := k1.some x1
              have K1 := Lib.hid k1
              clear k1
              go_wp2
              go_quiet ((go_at_call 36; exact Calls.quiet_of_same (AT3.out _ (LP.out.kept (K1.out.drewN _)))))
              go_wp2
              go_roundw
              case rel =>
                have h2 := pos_has.2 (show 0 ≤ pos (h.take k) e.id false by rw [← HU.out]; omega)
                have e0 : stp (h.take k) e = 0 := by unfold stp; rw [NO.out, HA.out, h2]; rfl
                refine ⟨k + 1, by rw [← HN.out]; omega, by go_num, (KR.out.trans K1.out).drewN _, ?_, ?_⟩
                · rw [CK2.out, if_pos e0, ETS.out]
                · rw [ETS.out]; exact (vd_snoc _ _).2 ⟨VD.out, e0⟩
              case measure => simp [intOf]; omega
      · have hkn : k = n := by omega
        have HKN := Lib.hid hkn
        clear hkn
        go_wp2
        go_ret
        refine ⟨?_, KR.out⟩
        have e1 := CK.out
        rw [HKN.out, HN.out, List.drop_length] at e1
        have e2 : R = 0 := by rw [HR.out, ← e1]; rfl
        rw [e2]
        rfl
end Go.Proofs.Ytjbplbfedndjpaa
