/- tower's apart. Written by gen15s.py. -/
import Derived.Test.YtejiogggocnldaaGreatG17
set_option linter.unusedVariables false
set_option linter.unusedSimpArgs false

namespace Go.Proofs.YtejiogggocnldaaGreat.Tw
set_option maxRecDepth 20000
open Go.RowKit

def ApFrom (l o : List Spn) (n : Nat) : Prop := ∀ i (hi : i < l.length), i < n → ∀ s ∈ l.take i ++ o, meetB l[i] s = false
def TAparts (l o : List Spn) (w : World) (e : Ending) (w' : World) : Prop := ∃ b, e = .returned (.bool b) ∧ (b = true ↔ ApFrom l o l.length) ∧ Kept w w'
set_option maxHeartbeats 2000000 in
theorem tapart_any (g h : Nat) (l o : List Spn) (hl : l.length ≤ 100) (hm : o.length ≤ 100) (h0 : 0 < o.length) (hok : ∀ s ∈ l, Spn.Ok s) (hoo : ∀ s ∈ o, Spn.Ok s) (w : World) (hL : SpAt w g l) (hO : SpAt w h o) : Calls Tryz.prog 72 #[.slice (some ⟨g, 0, none⟩) l.length l.length, .slice (some ⟨h, 0, none⟩) o.length o.length] w (TAparts l o w) := by
  obtain ⟨i0, hi0, hz0, hz1, hz2⟩ := info_parts infoSp
  have H := Lib.hid hL
  have HO := Lib.hid hO
  have HOK := Lib.hid hok
  have HOO := Lib.hid hoo
  obtain ⟨n, hn⟩ : ∃ n, n = l.length := ⟨_, rfl⟩
  obtain ⟨m, hme⟩ : ∃ m, m = o.length := ⟨_, rfl⟩
  rw [← hn] at hl ⊢
  rw [← hme] at hm h0 ⊢
  have HN := Lib.hid hn
  have HM := Lib.hid hme
  clear hL hO hok hoo hn hme
  go_enter Tryz.func72, Tryz.ntmps72
  go_wp2_with fail
  go_loopw [11] (fun i wr => ∃ k : Nat, k ≤ n ∧ i = .int .i64 k ∧ Kept w wr ∧ Hid (ApFrom l o k)) (fun i _ => n - (intOf i).toNat)
  case atStart => exact ⟨0, Nat.zero_le _, rfl, Kept.refl _, Lib.hid (fun i hi h => absurd h (Nat.not_lt_zero _))⟩
  case round =>
    obtain ⟨k, hk, rfl, kr, ha⟩ := hrel
    have KR := Lib.hid kr
    by_cases hlt : k < n
    · have hl2 : (k : Int) < (n : Int) := by omega
      have hkl : k < l.length := by rw [← HN.out]; exact hlt
      have ca := kr.some (H.out.a k hkl)
      have cb := kr.some (H.out.b k hkl)
      obtain ⟨s, hs⟩ : ∃ s, s = l[k] := ⟨_, rfl⟩
      rw [← hs] at ca cb
      have HS := Lib.hid hs
      have lg := lt_of_cell ca
      have OS : Hid (Spn.Ok s) := Lib.hid (by rw [HS.out]; exact HOK.out _ (List.getElem_mem hkl))
      have s1 := run_head_sp (some ⟨g, 0, none⟩) n n k (by omega)
      have HA := Lib.hid ha
      clear hs kr ha
      have LT := Lib.hid ((H.out.pre k).kept (KR.out.alloc #[.int .i64 s.1, .int .i64 s.2] 118) |>.lay (n := k) (c := k) (by rw [List.length_take]; omega) (Nat.le_refl _) (by omega))
      have LO := Lib.hid ((HO.out.kept (KR.out.alloc #[.int .i64 s.1, .int .i64 s.2] 118)).lay (n := m) (c := m) HM.out (Nat.le_refl _) (by omega))
      have e1 : (flatS (l.take k)).length = k * 2 := by rw [flatS_length, List.length_take]; omega
      have e2 : (flatS o).length = m * 2 := by rw [flatS_length, HM.out]
      have hmx : k + m ≤ maxLen := by unfold maxLen; omega
      have E1 := Lib.hid e1
      have E2 := Lib.hid e2
      clear e1 e2
      go_wp2_with (at_builtin; refine twpList_append_full _ rfl _ _ _ (by rfl) 118 i0 _ 2 16 Tryz.underlying129 hi0 hz0 hz1 hz2 (by rfl) (some ⟨g, 0, none⟩) k k (flatS (l.take k)) (by simp [Act.eval]) E1.out LT.out (.slice (some ⟨h, 0, none⟩) m m) m (flatS o) (by simp [Act.eval]) E2.out LO.out (flatS_one _) (by omega) hmx (by omega) ?_; intro b3 c3 w3 own3 k3)
      have s0 : w3.cell? ⟨wr.heap.size, 0, none⟩ = some (.int .i64 s.1) := k3.some (cell_new wr #[.int .i64 s.1, .int .i64 s.2] 118 wr.heap.size 0 rfl)
      have s1 : w3.cell? ⟨wr.heap.size, 1, none⟩ = some (.int .i64 s.2) := k3.some (cell_new wr #[.int .i64 s.1, .int .i64 s.2] 118 wr.heap.size 1 rfl)
      have K0 := Lib.hid ((KR.out.alloc #[.int .i64 s.1, .int .i64 s.2] 118).trans k3)
      obtain ⟨L, hL⟩ : ∃ L, L = l.take k ++ o := ⟨_, rfl⟩
      obtain ⟨p, hp⟩ : ∃ p, p = k + m := ⟨_, rfl⟩
      have hpL : p = L.length := by rw [hL, List.length_append, List.length_take, ← HM.out]; omega
      have hLok : ∀ x ∈ L, Spn.Ok x := by
        intro x hx
        rw [hL, List.mem_append] at hx
        rcases hx with hx | hx
        · exact HOK.out x (List.mem_of_mem_take hx)
        · exact HOO.out x hx
      rw [← flatS_append, ← hL, ← hp] at own3
      have SP := Lib.hid (spat_own own3 hpL)
      have LOK := Lib.hid hLok
      have HPL := Lib.hid hpL
      have HL := Lib.hid hL
      have hpi : (k : Int) + (m : Int) = (p : Int) := by omega
      have hp2 : p ≤ 200 := by omega
      rw [← hp, hpi]
      clear own3 k3 hp hpi hpL hLok hL LT LO E1 E2 hmx ca cb lg
      go_loopw [23] (fun i w2 => ∃ j : Nat, j ≤ p ∧ i = .int .i64 j ∧ Kept w3 w2 ∧ Hid (∀ q (hq : q < L.length), q < j → meetB s L[q] = false)) (fun i _ => p - (intOf i).toNat)
      case atStart => exact ⟨0, Nat.zero_le _, rfl, Kept.refl _, Lib.hid (fun q hq h => absurd h (Nat.not_lt_zero _))⟩
      case round =>
        obtain ⟨j, hj, rfl, k2, hm2⟩ := hrel
        have z0 := k2.some s0
        have z1 := k2.some s1
        have K2 := Lib.hid k2
        have HQ := Lib.hid hm2
        by_cases hjk : j < p
        · have hj2 : (j : Int) < (p : Int) := by omega
          have hjl : j < L.length := by rw [← HPL.out]; exact hjk
          have oa := k2.some (SP.out.a j hjl)
          have ob := k2.some (SP.out.b j hjl)
          obtain ⟨x, hx⟩ : ∃ x, x = L[j] := ⟨_, rfl⟩
          rw [← hx] at oa ob
          have HX := Lib.hid hx
          have lo := lt_of_cell oa
          have lz := lt_of_cell z0
          have MT := fun W => Lib.hid (meets_t s x OS.out (by rw [HX.out]; exact LOK.out _ (List.getElem_mem hjl)) W)
          obtain ⟨b, hb⟩ : ∃ b, b = meetB s x := ⟨_, rfl⟩
          rw [← hb] at MT
          have HB := Lib.hid hb
          clear hx hb k2 hm2
          go_wp2_with fail
          refine (MT _).out.mono ?_
          rintro e w4 ⟨rfl, k4⟩
          have K4 : Hid (Kept w3 w4) := Lib.hid (K2.out.trans (Kept.trans (b := _) (by first | exact Kept.refl _ | (go_light; repeat (first | (with_reducible exact Kept.refl _) | (with_reducible assumption) | (with_reducible refine Kept.alloc ?_ _ _) | (with_reducible refine Kept.drew ?_) | (with_reducible refine Kept.drewN ?_ _) | ((with_reducible refine Kept.setCell ?_ ?_ _); rotate_left; focus (first | (simp; done) | (simp; omega))) | refine Kept.trans ?_ (by assumption)))) k4))
          clear k4
          cases b
          · go_wp2
            go_roundw
            case rel => exact ⟨j + 1, by omega, by go_num, K4.out, Lib.hid (fun q h1 h2 => by
              by_cases e : q = j
              · subst e; rw [← HX.out]; exact HB.out.symm
              · exact HQ.out.out q h1 (by omega))⟩
            case measure => simp [intOf]; omega
          · go_wp2
            go_ret
            exact ⟨false, rfl, ⟨fun h => absurd h (by decide), fun h => by
              have h1 := h k hkl hkl x (by rw [← HL.out, HX.out]; exact List.getElem_mem hjl)
              rw [← HS.out, ← HB.out] at h1
              exact absurd h1 (by decide)⟩, K0.out.trans K4.out⟩
        · have hjn : ¬ (j : Int) < (p : Int) := by omega
          clear k2 hm2
          go_wp2
          go_roundw
          case rel => exact ⟨k + 1, by omega, by go_num, K0.out.trans K2.out, Lib.hid (fun i hi h1 y hy => by
            by_cases e : i = k
            · subst e
              rw [← HL.out] at hy
              obtain ⟨q, hq, rfl⟩ := List.mem_iff_getElem.1 hy
              rw [← HS.out]
              exact HQ.out.out q hq (by have := HPL.out; omega)
            · exact HA.out.out i hi (by omega) y hy)⟩
          case measure => simp [intOf]; omega
    · have hl2 : ¬ (k : Int) < (n : Int) := by omega
      have HA := Lib.hid ha
      clear kr ha
      go_wp2
      go_ret
      exact ⟨true, rfl, ⟨fun _ i hi j => HA.out.out i hi (by have := HN.out; omega), fun _ => rfl⟩, KR.out⟩
end Go.Proofs.YtejiogggocnldaaGreat.Tw
