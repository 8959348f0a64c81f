/- The document's Fill and All. Written by gen14u.py. -/
import Derived.Test.YtlfdiffbepfgbaaGreatG14
import Derived.Test.YtlfdiffbepfgbaaGreatG17
import Derived.Test.YtlfdiffbepfgbaaGreatG21
import Derived.Deep.AppendSrc
import Derived.Deep.RegionHeld3
import Derived.Test.YtlfdiffbepfgbaaGreatG22
import Derived.Test.YtlfdiffbepfgbaaGreatG15
import Derived.Test.YtlfdiffbepfgbaaGreatG19
import Derived.Deep.MidRow
set_option linter.unusedVariables false
set_option linter.unusedSimpArgs false

namespace Go.Proofs.YtlfdiffbepfgbaaGreat.Ri
set_option maxRecDepth 20000
open Go.RowKit
open Wo (St acc wordAt PMem RefIs)
open Sk (Wd r_load r_store r_cas r_at ref_frame ref_kept ref_lt)

set_option maxHeartbeats 2000000 in
theorem r_fill (M B n : Nat) (R : Rng) (s : St) (w : World) (hm : RefIs w M B n s) (h0 : 0 ≤ s.cnt) (h1 : s.cnt ≤ 900000) (n1 : 1 ≤ n) (hR : R.Ok n) :
    Calls Tryz.prog 110 #[ringV R, .pointer (some ⟨M, 0, none⟩)] w fun e w' => e = .returned (.tuple #[]) ∧ RefIs w' M B n (fillSt n R s) ∧ But (fun k => k = M ∨ k = B) w w' := by
  have N1 := hR.N1
  have N2 := hR.N2
  have K1 := hR.K1
  have K2 := hR.K2
  have n2 := hR.n2
  have hlt := ref_lt hm n1
  have hne : ¬ (w.heap.size = M ∨ w.heap.size = B) := by omega
  have SZ : ∀ W, Hid (Calls Tryz.prog 106 #[.int .i64 R.N] W fun e w' => e = .returned (.bool true) ∧ W = w') := fun W => Lib.hid (by have := rsize_any R.N W; rwa [show decide (1 ≤ R.N ∧ R.N ≤ 4096) = true from by simp; omega] at this)
  have C2 : ∀ k : Nat, k ≤ 4096 → 0 ≤ (fillTo n R s k).cnt ∧ (fillTo n R s k).cnt ≤ 1000000 := fun k hk => by rw [fillTo_cnt]; omega
  have HC2 := Lib.hid C2
  have CA : Hid (0 ≤ (acc n s 2 R.H true 0).cnt ∧ (acc n s 2 R.H true 0).cnt ≤ 1000000) := Lib.hid (by rw [Sk.acc_cnt]; omega)
  have HM := Lib.hid hm
  clear hm hR hlt C2
  go_enter Tryz.func110, Tryz.ntmps110
  go_wp2_with fail
  refine (SZ _).out.mono ?_
  rintro e w1 ⟨rfl, rfl⟩
  obtain ⟨W1, hW1⟩ : ∃ W1, W1 = w.alloc (.cells #[.int .i64 R.H, .int .i64 R.T, .int .i64 R.K, .int .i64 R.N] 114) := ⟨_, rfl⟩
  have a0 : W1.cell? ⟨w.heap.size, 0, none⟩ = some (.int .i64 R.H) := by rw [hW1]; exact cell_new w _ _ _ 0 rfl
  have a1 : W1.cell? ⟨w.heap.size, 1, none⟩ = some (.int .i64 R.T) := by rw [hW1]; exact cell_new w _ _ _ 1 rfl
  have a2 : W1.cell? ⟨w.heap.size, 2, none⟩ = some (.int .i64 R.K) := by rw [hW1]; exact cell_new w _ _ _ 2 rfl
  have a3 : W1.cell? ⟨w.heap.size, 3, none⟩ = some (.int .i64 R.N) := by rw [hW1]; exact cell_new w _ _ _ 3 rfl
  have KT : Hid (Kept w W1) := Lib.hid (by rw [hW1]; exact (Kept.refl w).alloc _ _)
  rw [← hW1]
  clear hW1
  go_wp2_with fail
  refine (r_store M B n s R.H 0 _ (ref_kept HM.out n1 KT.out) h0 (by omega) n2).mono ?_
  rintro e w2 ⟨rfl, m2, b2⟩
  have a0 := b2.some a0 hne
  have a1 := b2.some a1 hne
  have a2 := b2.some a2 hne
  have a3 := b2.some a3 hne
  have M2 := Lib.hid m2
  have B2 := Lib.hid ((KT.out.but (fun k => k = M ∨ k = B)).trans b2 (fun _ _ h => h))
  clear m2 b2 KT
  go_wp2_with fail
  refine (r_store M B n _ R.T 0 _ M2.out CA.out.1 CA.out.2 n2).mono ?_
  rintro e w3 ⟨rfl, m3, b3⟩
  have a0 := b3.some a0 hne
  have a1 := b3.some a1 hne
  have a2 := b3.some a2 hne
  have a3 := b3.some a3 hne
  have M3 : Hid (RefIs w3 M B n (fillTo n R s 0)) := Lib.hid m3
  have B3 := Lib.hid (B2.out.trans b3 (fun _ _ h => h))
  obtain ⟨m, hmm⟩ : ∃ m : Nat, (m : Int) = R.N := ⟨R.N.toNat, by omega⟩
  have HMM := Lib.hid hmm
  clear m3 b3 B2 M2 hmm
  go_wp2_with fail
  go_loopw [4] (fun i wr => ∃ k : Nat, k ≤ m ∧ i = .int .i64 k ∧ RefIs wr M B n (fillTo n R s k) ∧ But (fun k => k = M ∨ k = B) w3 wr) (fun i _ => m - (intOf i).toNat)
  case atStart => exact ⟨0, Nat.zero_le _, rfl, M3.out, But.refl _ _⟩
  case round =>
    obtain ⟨k, hk, rfl, mr, br⟩ := hrel
    have e0 := br.some a0 hne
    have e1 := br.some a1 hne
    have e2 := br.some a2 hne
    have e3 := br.some a3 hne
    have hmm := HMM.out
    have MR := Lib.hid mr
    have BR := Lib.hid br
    have hc := Lib.hid (HC2.out k (by omega))
    clear mr br a0 a1 a2 a3
    by_cases hlt : k < m
    · have hl : (k : Int) < R.N := by omega
      have hsum : IntKind.i64.wrap (R.K + (k : Int)) = R.K + (k : Int) := by rw [IntKind.wrap_i64]; omega
      have ST : ∀ W, Hid (RefIs W M B n (fillTo n R s k) → Calls Tryz.prog 79 #[.pointer (some ⟨M, 0, none⟩), .int .i64 (R.K + (k : Int)), .int .u64 0] W fun e w' => e = .returned (.tuple #[]) ∧ RefIs w' M B n (fillTo n R s (k + 1)) ∧ But (fun k => k = M ∨ k = B) W w') := fun W => Lib.hid (fun m => r_store M B n _ (R.K + (k : Int)) 0 W m hc.out.1 hc.out.2 n2)
      clear hmm
      go_wp2_with fail
      refine ((ST _).out MR.out).mono ?_
      rintro e w7 ⟨rfl, m7, b7⟩
      have M7 := Lib.hid m7
      have B7 := Lib.hid (BR.out.trans b7 (fun _ _ h => h))
      clear m7 b7
      go_wp2
      go_roundw
      case rel => exact ⟨k + 1, by omega, by go_num, M7.out, B7.out⟩
      case measure => simp [intOf]; omega
    · have hl : R.N ≤ (k : Int) := by omega
      have hkm : k = R.N.toNat := by omega
      have HKM := Lib.hid hkm
      clear hmm hkm
      go_wp2
      go_end0
      refine ⟨rfl, ?_, B3.out.trans BR.out (fun _ _ h => h)⟩
      have := MR.out
      rw [HKM.out] at this
      exact this

def lenV : Value → Nat
  | .slice _ n _ => n
  | _ => 0
theorem r_at_k (M B n : Nat) (s : St) (a : Int) (w : World) (hm : RefIs w M B n s) : Calls Tryz.prog 135 #[.pointer (some ⟨M, 0, none⟩), .int .i64 a] w fun e w' => e = .returned (.int .u64 (wordAt n s a)) ∧ Kept w w' := (r_at M B n s a w hm).mono fun _ _ ⟨x, k⟩ => ⟨x, k ▸ Kept.refl _⟩
theorem wd_word {R : Rng} {n : Nat} (h : R.Ok n) (s : St) (t : Int) : wd n s.ws R t = wordAt n s (cell R t) := by
  have a := cell_in h t
  have b := h.n2
  unfold wd
  rw [show wrap64 (cell R t) = cell R t by unfold wrap64; omega]
  rfl
theorem vals_succ (n : Nat) (f : Nat → Int) (R : Rng) (h : Int) (k : Nat) : vals n f R (nums h (k + 1)) = vals n f R (nums h k) ++ [wd n f R (num h k) % 65536] := by rw [nums_succ]; simp [vals]
theorem vals_len (n : Nat) (f : Nat → Int) (R : Rng) (h : Int) (k : Nat) : (vals n f R (nums h k)).length = k := by simp [vals, nums_length]
theorem num_succ (h : Int) (k : Nat) : IntKind.u64.wrap (num h k + 1) = num h (k + 1) := by rw [IntKind.wrap_u64]; unfold num; omega
set_option maxHeartbeats 4000000 in
theorem rall_any {w : World} {M B n : Nat} {s : St} (R : Rng) (hm : RefIs w M B n s) (hs : Wd n s) (n1 : 1 ≤ n) (hR : R.Ok n) :
    Calls Tryz.prog 52 #[ringV R, .pointer (some ⟨M, 0, none⟩)] w (RetI w (allL n s.ws R)) := by
  obtain ⟨i0, hi, hz0, hz1, hz2⟩ := info_parts infoInt
  have N1 := hR.N1
  have N2 := hR.N2
  have K1 := hR.K1
  have K2 := hR.K2
  have n2 := hR.n2
  have HM := Lib.hid hm
  have HW := Lib.hid hs
  have HR := Lib.hid hR
  have SZ : ∀ W, Hid (Calls Tryz.prog 106 #[.int .i64 R.N] W fun e w' => e = .returned (.bool true) ∧ W = w') := fun W => Lib.hid (by have := rsize_any R.N W; rwa [show decide (1 ≤ R.N ∧ R.N ≤ 4096) = true from by simp; omega] at this)
  clear hm hs hR
  go_enter Tryz.func52, Tryz.ntmps52
  go_wp2_with fail
  refine (SZ _).out.mono ?_
  rintro e w1 ⟨rfl, rfl⟩
  obtain ⟨W1, hW1⟩ : ∃ W1, W1 = w.alloc (.cells #[.int .i64 R.H, .int .i64 R.T, .int .i64 R.K, .int .i64 R.N] 114) := ⟨_, rfl⟩
  have t0 : W1.cell? ⟨w.heap.size, 0, none⟩ = some (.int .i64 R.H) := by rw [hW1]; exact cell_new w _ _ _ 0 rfl
  have t1 : W1.cell? ⟨w.heap.size, 1, none⟩ = some (.int .i64 R.T) := by rw [hW1]; exact cell_new w _ _ _ 1 rfl
  have t2 : W1.cell? ⟨w.heap.size, 2, none⟩ = some (.int .i64 R.K) := by rw [hW1]; exact cell_new w _ _ _ 2 rfl
  have t3 : W1.cell? ⟨w.heap.size, 3, none⟩ = some (.int .i64 R.N) := by rw [hW1]; exact cell_new w _ _ _ 3 rfl
  have k1 : Kept w W1 := by rw [hW1]; exact (Kept.refl w).alloc _ _
  have z1 : W1.heap.size = w.heap.size + 1 := by rw [hW1]; simp
  rw [← hW1]
  have K1' := Lib.hid k1
  have Z1 := Lib.hid z1
  clear hW1 k1 z1
  go_wp2_with fail
  refine (r_at_k M B n s R.H _ (ref_kept HM.out n1 K1'.out)).mono ?_
  rintro e w2 ⟨rfl, k2⟩
  have T0 := Lib.hid (k2.some t0)
  have T1 := Lib.hid (k2.some t1)
  have T2 := Lib.hid (k2.some t2)
  have T3 := Lib.hid (k2.some t3)
  have K2' := Lib.hid (K1'.out.trans k2)
  have Z2 : Hid (w.heap.size < w2.heap.size) := Lib.hid (lt_of_cell (k2.some t0))
  obtain ⟨h, hh⟩ : ∃ h, h = wordAt n s R.H := ⟨_, rfl⟩
  have hw := HW.out.word R.H
  rw [← hh] at hw
  have HH := Lib.hid hh
  rw [← hh]
  have hn0 : num h 0 = h := by unfold num; omega
  clear k2 t0 t1 t2 t3 hh
  go_wp2_with fail
  go_loopw [5, 6] (fun v x wr => ∃ k : Nat, k ≤ R.N.toNat ∧ x = .int .u64 (num h k) ∧ (∀ i, i < k → tkB n s.ws R h i = true) ∧ wr.ownsRow w2.heap.size 3 1 v k (ints (vals n s.ws R (nums h k))) ∧ Kept w2 wr) (fun v _ _ => R.N.toNat - lenV v)
  case atStart => exact ⟨0, Nat.zero_le _, by rw [hn0], fun i h => absurd h (Nat.not_lt_zero _), World.ownsRow_nil _ _ _ _, Kept.refl _⟩
  case round =>
    obtain ⟨k, hk, rfl, hall, hrow, kr⟩ := hrel
    obtain ⟨a, c, rfl⟩ := own_form hrow
    have d0 := kr.some T0.out
    have d1 := kr.some T1.out
    have d2 := kr.some T2.out
    have d3 := kr.some T3.out
    have KR := Lib.hid kr
    have HO := Lib.hid hrow
    have HA := Lib.hid hall
    have x0 := num_lo h k
    have x1 := num_hi h k
    have NS := num_succ h k
    have x2 := Int.emod_nonneg (num h k) (show R.N ≠ 0 by omega)
    have x3 := Int.emod_lt_of_pos (num h k) (show 0 < R.N by omega)
    have HT : Hid (tkB n s.ws R h k = (wlap (wordAt n s (R.K + num h k % R.N)) == num h k / R.N % 4294967296 && full (wordAt n s (R.K + num h k % R.N)))) := Lib.hid (by unfold tkB; rw [wd_word HR.out, ← taken_eq]; rfl)
    have HV : Hid (wd n s.ws R (num h k) = wordAt n s (R.K + num h k % R.N)) := Lib.hid (by rw [wd_word HR.out]; rfl)
    have wb := HW.out.word (R.K + num h k % R.N)
    have W0 := wb.1
    have W1' := wb.2
    obtain ⟨x, hx⟩ : ∃ x, x = num h k := ⟨_, rfl⟩
    have HX := Lib.hid hx
    have HK := Lib.hid hk
    clear hk hrow hall kr
    by_cases hfull : k = R.N.toNat
    · have hfl2 : R.N ≤ (k : Int) := by omega
      have hfl : ¬ (k : Int) < R.N := by omega
      have HF := Lib.hid hfull
      clear hfull wb W0 W1' x2 x3
      go_wp2_with fail
      have hd : decide ((k : Int) < R.N) = false := by simpa using hfl2
      go_quiet (fail)
      go_wp2
      go_ret
      have he : allL n s.ws R = vals n s.ws R (nums h k) := by
        have := allL_eq (n := n) (f := s.ws) (R := R) (k := k) (by have := HF.out; omega) (by rw [hv_word, ← HH.out]; exact HA.out) (.inr HF.out)
        rw [hv_word, ← HH.out] at this
        exact this
      rw [he]
      refine ⟨a, c, by first | (rw [vals_len]; rfl) | rw [vals_len], (K2'.out.trans KR.out).drewN _, ?_⟩
      rw [vals_len]
      exact own_mono (own_keep HO.out ((Kept.refl _).drewN _)) (by have := Z2.out; omega)
    · have hk := HK.out
      have hlt : (k : Int) < R.N := by omega
      have HKN : Hid (k < R.N.toNat) := Lib.hid (by omega)
      have hk2 : k ≤ 4096 := by omega
      have PL : ∀ W, Hid (Calls Tryz.prog 137 #[.agg #[.int .i64 R.H, .int .i64 R.T, .int .i64 R.K, .int .i64 R.N], .int .u64 (num h k)] W fun e w' => e = .returned (.int .i64 (R.K + num h k % R.N)) ∧ Kept W w') := fun W => Lib.hid (rplace_any R.H R.T R.K R.N (num h k) W N1 N2 x0 x1 K1 (by omega))
      have LA : ∀ W, Hid (Calls Tryz.prog 138 #[.agg #[.int .i64 R.H, .int .i64 R.T, .int .i64 R.K, .int .i64 R.N], .int .u64 (num h k)] W fun e w' => e = .returned (.int .u64 (num h k / R.N % 4294967296)) ∧ Kept W w') := fun W => Lib.hid (rlap_any R.H R.T R.K R.N (num h k) W N1 N2 x0 x1)
      have AT : ∀ W, Kept wr W → Hid (Calls Tryz.prog 135 #[.pointer (some ⟨M, 0, none⟩), .int .i64 (R.K + num h k % R.N)] W fun e w' => e = .returned (.int .u64 (wordAt n s (R.K + num h k % R.N))) ∧ Kept W w') := fun W kk => Lib.hid (r_at_k M B n s _ W (ref_kept HM.out n1 ((K2'.out.trans KR.out).trans kk)))
      by_cases htk : tkB n s.ws R h k = true
      · have FU : ∀ W, Hid (Calls Tryz.prog 136 #[.int .u64 (wordAt n s (R.K + num h k % R.N)), .int .u64 (num h k / R.N % 4294967296)] W fun e w' => e = .returned (.bool true) ∧ Kept W w') := fun W => Lib.hid (by have := rfull_any (wordAt n s (R.K + num h k % R.N)) (num h k / R.N % 4294967296) W W0 W1'; rwa [← HT.out, htk] at this)
        have HTK := Lib.hid htk
        generalize wordAt n s (R.K + num h k % R.N) = q at *
        generalize R.K + num h k % R.N = pl at *
        generalize num h k / R.N % 4294967296 = lp at *
        clear hfull htk wb hx hk
        have KT : Kept wr wr := Kept.refl _
        go_wp2_with fail
        go_region_held3 (fun w' => w'.cell? ⟨w.heap.size, 0, none⟩ = some (.int .i64 R.H) ∧ w'.cell? ⟨w.heap.size, 1, none⟩ = some (.int .i64 R.T) ∧ w'.cell? ⟨w.heap.size, 2, none⟩ = some (.int .i64 R.K) ∧ w'.cell? ⟨w.heap.size, 3, none⟩ = some (.int .i64 R.N)) (first | go_keep | (exact ⟨KT.some d0, KT.some d1, KT.some d2, KT.some d3⟩)) (first
          | (go_at_call 137; refine (PL _).out.mono ?_; rintro e z1 ⟨rfl, kz1⟩; have KT : Kept wr z1 := Kept.trans (b := _) (by first | exact KT | exact KT.drew | exact KT.drewN _) kz1)
          | (go_at_call 135; refine (AT _ (by first | exact KT | exact KT.drew | exact KT.drewN _)).out.mono ?_; rintro e z2 ⟨rfl, kz2⟩; have KT : Kept wr z2 := Kept.trans (b := _) (by first | exact KT | exact KT.drew | exact KT.drewN _) kz2)
          | (go_at_call 138; refine (LA _).out.mono ?_; rintro e z3 ⟨rfl, kz3⟩; have KT : Kept wr z3 := Kept.trans (b := _) (by first | exact KT | exact KT.drew | exact KT.drewN _) kz3)
          | (go_at_call 136; refine (FU _).out.mono ?_; rintro e z4 ⟨rfl, kz4⟩; have KT : Kept wr z4 := Kept.trans (b := _) (by first | exact KT | exact KT.drew | exact KT.drewN _) kz4))
        have d0 := KT.some d0
        have d1 := KT.some d1
        have d2 := KT.some d2
        have d3 := KT.some d3
        have KX := Lib.hid KT
        go_wp2_with fail
        refine (PL _).out.mono ?_
        rintro e y1 ⟨rfl, g1⟩
        have KX := Lib.hid (KX.out.trans g1)
        clear g1 KT
        go_wp2_with fail
        refine (AT _ KX.out).out.mono ?_
        rintro e y2 ⟨rfl, g2⟩
        have KX := Lib.hid (KX.out.trans g2)
        clear g2
        have HO := Lib.hid (own_keep HO.out KX.out)
        go_wp2_with (at_builtin; refine wpList_append_own _ rfl _ _ 22 rfl w2.heap.size 3 i0 (.int .i64 0) 1 8 Tryz.underlying22 hi hz0 hz1 hz2 rfl (by decide) _ _ _ rfl (HO.out.alloc _) ⟨y2.heap.size, 0, none⟩ 1 1 [.int .i64 (q % 65536)] rfl ?qc1 ?qc2 ?qc3 ?qc4 ?qc5 ?qc6 ?_)
        case qc1 => rfl
        case qc2 =>
          intro j u hj
          cases j with
          | zero => rw [← hj]; exact cell_new _ _ _ _ 0 rfl
          | succ j => simp at hj
        case qc3 => intro u hu; simp at hu; subst hu; rfl
        case qc4 => unfold maxLen; omega
        case qc5 => omega
        case qc6 => have := KR.out.size; have := KX.out.size; simp; omega
        intro v' w4 hown hgrow hnil
        have hKz : Kept w2 (y2.alloc (.cells #[.int .i64 (q % 65536)] 3)) := (KR.out.trans KX.out).alloc _ _
        have k4 : Kept w2 w4 := ⟨hKz.below.grown hgrow hKz.size (fun j e => (HO.out.lt j e).1)⟩
        obtain ⟨a4, c4, rfl⟩ := own_form hown
        have HO4 := Lib.hid hown
        have K4 := Lib.hid k4
        clear hown hgrow hnil hKz k4 d0 d1 d2 d3
        go_wp2_with fail
        go_roundw
        case rel =>
          refine ⟨k + 1, by have := HKN.out; omega, by first | rfl | rw [NS], fun i hi => ?_, ?_, K4.out⟩
          · by_cases e : i = k
            · rw [e]; exact HTK.out
            · exact HA.out i (by omega)
          · rw [vals_succ, ints_append, HV.out]
            exact HO4.out
        case measure => simp [lenV]; have := HKN.out; omega
      · have htk' : tkB n s.ws R h k = false := by simpa using htk
        have FU : ∀ W, Hid (Calls Tryz.prog 136 #[.int .u64 (wordAt n s (R.K + num h k % R.N)), .int .u64 (num h k / R.N % 4294967296)] W fun e w' => e = .returned (.bool false) ∧ Kept W w') := fun W => Lib.hid (by have := rfull_any (wordAt n s (R.K + num h k % R.N)) (num h k / R.N % 4294967296) W W0 W1'; rwa [← HT.out, htk'] at this)
        have HTK := Lib.hid htk'
        generalize wordAt n s (R.K + num h k % R.N) = q at *
        generalize R.K + num h k % R.N = pl at *
        generalize num h k / R.N % 4294967296 = lp at *
        clear hfull htk htk' wb hx hk
        have KT : Kept wr wr := Kept.refl _
        go_wp2_with fail
        go_region_held3 (fun w' => w'.cell? ⟨w.heap.size, 0, none⟩ = some (.int .i64 R.H) ∧ w'.cell? ⟨w.heap.size, 1, none⟩ = some (.int .i64 R.T) ∧ w'.cell? ⟨w.heap.size, 2, none⟩ = some (.int .i64 R.K) ∧ w'.cell? ⟨w.heap.size, 3, none⟩ = some (.int .i64 R.N)) (first | go_keep | (exact ⟨KT.some d0, KT.some d1, KT.some d2, KT.some d3⟩)) (first
          | (go_at_call 137; refine (PL _).out.mono ?_; rintro e z1 ⟨rfl, kz1⟩; have KT : Kept wr z1 := Kept.trans (b := _) (by first | exact KT | exact KT.drew | exact KT.drewN _) kz1)
          | (go_at_call 135; refine (AT _ (by first | exact KT | exact KT.drew | exact KT.drewN _)).out.mono ?_; rintro e z2 ⟨rfl, kz2⟩; have KT : Kept wr z2 := Kept.trans (b := _) (by first | exact KT | exact KT.drew | exact KT.drewN _) kz2)
          | (go_at_call 138; refine (LA _).out.mono ?_; rintro e z3 ⟨rfl, kz3⟩; have KT : Kept wr z3 := Kept.trans (b := _) (by first | exact KT | exact KT.drew | exact KT.drewN _) kz3)
          | (go_at_call 136; refine (FU _).out.mono ?_; rintro e z4 ⟨rfl, kz4⟩; have KT : Kept wr z4 := Kept.trans (b := _) (by first | exact KT | exact KT.drew | exact KT.drewN _) kz4))
        have KX := Lib.hid KT
        have HO := Lib.hid (own_keep HO.out KX.out)
        go_wp2
        go_ret
        have he : allL n s.ws R = vals n s.ws R (nums h k) := by
          have := allL_eq (n := n) (f := s.ws) (R := R) (k := k) (by have := HKN.out; omega) (by rw [hv_word, ← HH.out]; exact HA.out) (.inl (by rw [hv_word, ← HH.out]; exact HTK.out))
          rw [hv_word, ← HH.out] at this
          exact this
        rw [he]
        refine ⟨a, c, by first | (rw [vals_len]; rfl) | rw [vals_len], (K2'.out.trans KR.out).trans KX.out, ?_⟩
        rw [vals_len]
        exact own_mono HO.out (by have := Z2.out; omega)
end Go.Proofs.YtlfdiffbepfgbaaGreat.Ri

namespace Go.Proofs.YtlfdiffbepfgbaaGreat.Ri
set_option maxRecDepth 20000
open Go.RowKit
open Wo (St acc wordAt PMem RefIs)
open Sk (Wd pmem_kept pmem_lt pmem_frame ref_frame ref_kept ref_lt p_new r_new p_store r_store)

def firstOwn (M B M2 B2 : Nat) (k : Nat) : Nat := if k = M ∨ k = B then 0 else if k = M2 ∨ k = B2 then 1 else 2
def LaidPost (n : Nat) (w : World) (e : Ending) (w' : World) : Prop :=
  ∃ (M B M2 B2 : Nat) (s : St), e = .returned (.tuple #[.pointer (some ⟨M, 0, none⟩), .pointer (some ⟨M2, 0, none⟩)]) ∧ Duo (firstOwn M B M2 B2) w' M B M2 B2 n s ∧ s.cnt ≤ 10000 ∧ Kept w w' ∧
    w.heap.size ≤ M ∧ w.heap.size ≤ B ∧ w.heap.size ≤ M2 ∧ w.heap.size ≤ B2

set_option maxHeartbeats 4000000 in
theorem laid_any (R : Rng) (n : Nat) (hS : R.Ok n) (l : List Int) (hl : l.length ≤ 60) (a : Option Addr) (c : Nat) (w : World) (hv : Lay w (.slice a l.length c) l.length (words l)) (hr : ∀ x ∈ l, 0 ≤ x ∧ x < 18446744073709551616) :
    Calls Tryz.prog 47 #[ringV R, .int .i64 n, .slice a l.length c] w (LaidPost n w) := by
  have n1 : 1 ≤ n := by have := hS.H1; have := hS.H2; omega
  have n2 := hS.n2
  have N1 := hS.N1
  have N2 := hS.N2
  have HS := Lib.hid hS
  have HV := Lib.hid hv
  have HR := Lib.hid hr
  obtain ⟨m, hm⟩ : ∃ m, m = l.length := ⟨_, rfl⟩
  have HMl := Lib.hid hm
  rw [← hm] at hl ⊢
  clear hS hv hr hm
  go_enter Tryz.func47, Tryz.ntmps47
  go_wp2_with fail
  refine (p_new n n1 n2 _).mono ?_
  rintro e w1 ⟨rfl, m1, z1, k1⟩
  have M1 : Hid (PMem w1 (w.heap.size + 1 + 1) (w.heap.size + 1) n Wo.St.zero) := Lib.hid (by simpa using m1)
  have K1 : Hid (Kept w w1) := Lib.hid (Kept.trans ((Kept.refl w).alloc _ _) k1)
  have Z1 : Hid (w1.heap.size = w.heap.size + 3) := Lib.hid (by simpa using z1)
  have s0 := k1.some (cell_new w #[.int .i64 R.H, .int .i64 R.T, .int .i64 R.K, .int .i64 R.N] 114 w.heap.size 0 rfl)
  have s1 := k1.some (cell_new w #[.int .i64 R.H, .int .i64 R.T, .int .i64 R.K, .int .i64 R.N] 114 w.heap.size 1 rfl)
  have s2 := k1.some (cell_new w #[.int .i64 R.H, .int .i64 R.T, .int .i64 R.K, .int .i64 R.N] 114 w.heap.size 2 rfl)
  have s3 := k1.some (cell_new w #[.int .i64 R.H, .int .i64 R.T, .int .i64 R.K, .int .i64 R.N] 114 w.heap.size 3 rfl)
  clear m1 k1 z1
  go_wp2_with fail
  refine (r_new n n1 n2 _).mono ?_
  rintro e w2 ⟨M2, B2, rfl, m2, l1, l2, g1, g2, k2⟩
  have q1 : w1.heap.size ≤ M2 ∧ w1.heap.size ≤ B2 := ⟨l1, l2⟩
  have zz := Z1.out
  have R2 := Lib.hid m2
  have K2 := Lib.hid k2
  have t0 := k2.some s0
  have t1 := k2.some s1
  have t2 := k2.some s2
  have t3 := k2.some s3
  clear m2 k2 s0 s1 s2 s3 l1 l2 g1 g2
  obtain ⟨q1, q2⟩ := q1
  go_wp2_with fail
  refine (p_fill _ _ n R Wo.St.zero _ (pmem_kept M1.out K2.out) (by decide) (by decide) HS.out).mono ?_
  rintro e w3 ⟨rfl, m3, b3⟩
  have hsz : w.heap.size < w2.heap.size := by have := K2.out.size; omega
  have u0 := b3.some t0 (by omega)
  have u1 := b3.some t1 (by omega)
  have u2 := b3.some t2 (by omega)
  have u3 := b3.some t3 (by omega)
  have M3 := Lib.hid m3
  have R3 := Lib.hid (ref_frame R2.out n1 b3 (by omega) (by omega))
  have K3 : Hid (Kept w w3) := Lib.hid ((((K1.out.trans K2.out).but (fun k => k = w.heap.size + 1)).trans b3 (fun _ _ h => h)).kept (fun k hk h => by omega))
  clear m3 b3 t0 t1 t2 t3
  go_wp2_with fail
  refine (r_fill M2 B2 n R Wo.St.zero _ R3.out (by decide) (by decide) n1 HS.out).mono ?_
  rintro e w4 ⟨rfl, r4, b4⟩
  have M4 := Lib.hid (pmem_frame M3.out b4 (by omega) (by omega))
  have R4 := Lib.hid r4
  have K4 : Hid (Kept w w4) := Lib.hid (((K3.out.but (fun k => k = M2 ∨ k = B2)).trans b4 (fun _ _ h => h)).kept (fun k hk h => by omega))
  have WD : Hid (Wd n (fillSt n R Wo.St.zero)) := Lib.hid (fillTo_wd (wd_zero n) _)
  have CN : Hid ((fillSt n R Wo.St.zero).cnt = 0 + 2 + R.N) := Lib.hid (by unfold fillSt; rw [fillTo_cnt]; show (0 : Int) + 2 + _ = _; omega)
  clear r4 b4 u0 u1 u2 u3
  go_wp2_with fail
  go_loopw [12] (fun i wr => ∃ (k : Nat) (s : St), k ≤ m ∧ i = .int .i64 k ∧ PMem wr (w.heap.size + 1 + 1) (w.heap.size + 1) n s ∧ RefIs wr M2 B2 n s ∧ Wd n s ∧ s.cnt = 2 + R.N + k ∧ Kept w wr) (fun i _ => m - (intOf i).toNat)
  case atStart => exact ⟨0, fillSt n R Wo.St.zero, Nat.zero_le _, rfl, M4.out, R4.out, WD.out, by rw [CN.out]; omega, K4.out⟩
  case round =>
    obtain ⟨k, s, hk, rfl, mr, rr, wr', hc, kr⟩ := hrel
    have MR := Lib.hid mr
    have RR := Lib.hid rr
    have WR := Lib.hid wr'
    have KR := Lib.hid kr
    have c0 : 0 ≤ s.cnt := by omega
    have c1 : s.cnt ≤ 1000000 := by omega
    have HC := Lib.hid hc
    clear mr rr wr' kr hc
    by_cases hlt : k < m
    · obtain ⟨g, o, c', e', h1, h2, hcell⟩ := HV.out.at (by have := HMl.out; omega)
      cases e'
      have hcw0 := hcell k _ (words_at l k (by have := HMl.out; omega))
      have hg := lt_of_cell hcw0
      have hcw := KR.out.some hcw0
      have hx := HR.out (l.getD k 0) (by
        have h3 : k < l.length := by have := HMl.out; omega
        simp [h3])
      clear hcell h1 h2 hcw0
      go_wp2_with fail
      refine (p_store _ _ n s k (l.getD k 0) _ MR.out c0 c1).mono ?_
      rintro e w5 ⟨rfl, m5, b5⟩
      have hcw5 := b5.some hcw (by omega)
      have M5 := Lib.hid m5
      have R5 := Lib.hid (ref_frame RR.out n1 b5 (by omega) (by omega))
      have K5 : Hid (Kept w w5) := Lib.hid (((KR.out.but (fun k => k = w.heap.size + 1)).trans b5 (fun _ _ h => h)).kept (fun k hk h => by omega))
      clear m5 b5 hcw
      go_wp2_with fail
      refine (r_store M2 B2 n s k (l.getD k 0) _ R5.out c0 c1 n2).mono ?_
      rintro e w6 ⟨rfl, r6, b6⟩
      have M6 := Lib.hid (pmem_frame M5.out b6 (by omega) (by omega))
      have R6 := Lib.hid r6
      have K6 : Hid (Kept w w6) := Lib.hid (((K5.out.but (fun k => k = M2 ∨ k = B2)).trans b6 (fun _ _ h => h)).kept (fun k hk h => by omega))
      clear r6 b6 hcw5
      go_wp2
      go_roundw
      case rel => exact ⟨k + 1, acc n s 2 k true (l.getD k 0), by omega, by go_num, M6.out, R6.out, WR.out.acc _ _ _ _ hx.1 hx.2, by rw [Sk.acc_cnt, HC.out]; omega, K6.out⟩
      case measure => simp [intOf]; omega
    · go_wp2
      go_ret2
      have hcc := HC.out
      refine ⟨w.heap.size + 1 + 1, w.heap.size + 1, M2, B2, s, rfl, ⟨MR.out, RR.out, WR.out, c0, ?_, ?_, ?_, ?_, n1, n2⟩, by omega, KR.out, by omega, by omega, by omega, by omega⟩
      · unfold firstOwn; rw [if_pos (.inl rfl)]
      · unfold firstOwn; rw [if_pos (.inr rfl)]
      · unfold firstOwn; rw [if_neg (by omega), if_pos (.inl rfl)]
      · unfold firstOwn; rw [if_neg (by omega), if_pos (.inr rfl)]
end Go.Proofs.YtlfdiffbepfgbaaGreat.Ri

namespace Go.Proofs.YtlfdiffbepfgbaaGreat.Ri
set_option maxRecDepth 20000
open Go.RowKit
open Wo (St acc wordAt PMem RefIs)
open Sk (Wd pmem_kept pmem_lt pmem_frame ref_frame ref_kept ref_lt)

def ldP (p : Value) : Sem Value := Instr.loadAt 128 p
def stP (p v : Value) : Sem Unit := Instr.storeAt 128 p v
theorem ldP_named (p : Value) : Instr.loadAt 128 p = ldP p := rfl
theorem stP_named (p v : Value) : Instr.storeAt 128 p v = stP p v := rfl
theorem infoPair : (Tryz.prog.info? 128).map (fun i => (i.zero, i.size, i.bytes)) = some (some (.agg #[.pointer none, .pointer none, .pointer none, .pointer none, .pointer none, .pointer none]), 6, 48) := by kernel_rfl
theorem sizePair : (Tryz.prog.info? 128).map (·.size) = some 6 := by
  obtain ⟨i0, hi, hz0, hz1, hz2⟩ := info_parts infoPair
  rw [hi]; simp [hz1]
theorem ld_pair {w : World} {C o : Nat} {p : PS} (h : w.rangeAt C o p.cells) : (ldP (.pointer (some ⟨C, o, none⟩))).run Tryz.prog w = .ok (.agg p.cells.toArray) w :=
  run_loadAt_mid w C o _ p.cells _ h Tryz.underlying128 rfl (by rw [PS.cells_len]; exact sizePair)
theorem st_pair {w : World} {C o : Nat} {p : PS} (h : w.there C o 6) : (stP (.pointer (some ⟨C, o, none⟩)) (.agg p.cells.toArray)).run Tryz.prog w = .ok () (w.setCells C o p.cells) :=
  run_storeAt_mid _ _ _ _ _ (by rw [List.size_toArray, PS.cells_len]; exact h) (by rw [List.size_toArray, PS.cells_len]; exact sizePair) (all_oneCell_toArray p.cells_one)

theorem but_setCells {S : Nat → Prop} {C : Nat} {a : World} (hC : S C) : ∀ (vs : List Value) (o : Nat) (w : World), But S a w → But S a (w.setCells C o vs)
  | [], _, _, h => h
  | v :: r, o, w, h => but_setCells hC r (o + 1) _ (h.setCell (p := ⟨C, o, none⟩) (.inl hC) v)
theorem set_range {w : World} {C o : Nat} {p : PS} (h : w.there C o 6) : (w.setCells C o p.cells).rangeAt C o p.cells := World.rangeAt_setCells_same _ _ _ _ (by rw [PS.cells_len]; exact h)
theorem setCells_off : ∀ (vs : List Value) (o : Nat) (w : World) (C x : Nat), (x < o ∨ o + vs.length ≤ x) → (w.setCells C o vs).cell? ⟨C, x, none⟩ = w.cell? ⟨C, x, none⟩
  | [], _, _, _, _, _ => rfl
  | v :: r, o, w, C, x, h => by
    show ((w.setCell ⟨C, o, none⟩ v).setCells C (o + 1) r).cell? ⟨C, x, none⟩ = _
    rw [setCells_off r (o + 1) _ C x (by simp at h; omega), cell_set, if_neg (by simp at h; omega)]

structure Cores (w : World) (C : Nat) (st : Nat → PS) : Prop where
  at_ : ∀ c, c < 4 → w.rangeAt C (c * 6) (st c).cells
  f : ∀ i, w.frozen? ⟨C, i, none⟩ = false
  lt : C < w.heap.size
theorem range_but {w w' : World} {C o : Nat} {cs : List Value} (h : w.rangeAt C o cs) {T : Nat → Prop} (hb : But T w w') (hC : ¬ T C) : w'.rangeAt C o cs := fun j v hv => hb.some (h j v hv) hC
theorem Cores.frame {w w' : World} {C : Nat} {st : Nat → PS} (h : Cores w C st) {T : Nat → Prop} (hb : But T w w') (hC : ¬ T C) : Cores w' C st :=
  ⟨fun c hc => range_but (h.at_ c hc) hb hC, fun i => hb.soft h.lt (h.f i), Nat.lt_of_lt_of_le h.lt hb.size⟩
theorem Cores.kept {w w' : World} {C : Nat} {st : Nat → PS} (h : Cores w C st) (k : Kept w w') : Cores w' C st := h.frame (k.but (fun _ => False)) id
theorem Cores.there {w : World} {C : Nat} {st : Nat → PS} (h : Cores w C st) (c : Nat) (hc : c < 4) : w.there C (c * 6) 6 := by
  intro j hj
  have h1 := h.at_ c hc j
  have : j < (st c).cells.length := by rw [PS.cells_len]; exact hj
  refine ⟨?_, h.f _⟩
  have h2 := h1 _ (List.getElem?_eq_getElem this)
  rw [h2]; rfl
def put (st : Nat → PS) (c : Nat) (p : PS) (k : Nat) : PS := if k = c then p else st k
theorem Cores.set {w : World} {C : Nat} {st : Nat → PS} (h : Cores w C st) {c : Nat} (hc : c < 4) (p : PS) : Cores (w.setCells C (c * 6) p.cells) C (put st c p) := by
  have hb : But (fun k => k = C) w (w.setCells C (c * 6) p.cells) := but_setCells (S := fun k => k = C) rfl _ _ _ (But.refl _ _)
  refine ⟨fun k hk => ?_, fun i => hb.soft h.lt (h.f i), Nat.lt_of_lt_of_le h.lt hb.size⟩
  unfold put
  by_cases e : k = c
  · subst e
    rw [if_pos rfl]
    exact set_range (h.there k hk)
  · rw [if_neg e]
    intro j v hv
    have hj : j < 6 := by
      have := (List.getElem?_eq_some_iff.1 hv).1
      rw [PS.cells_len] at this; exact this
    rw [setCells_off _ _ _ _ _ (by rw [PS.cells_len]; omega)]
    exact h.at_ k hk j v hv

theorem told_idle (own : Nat → Nat) (c : Nat) (R : Rng) (M B M2 B2 n : Nat) (s : St) (b : Bool) (w : World) (hd : Duo own w M B M2 B2 n s) :
    Calls Tryz.prog 49 #[.agg #[.pointer none, .pointer none, .pointer none, .pointer none, .pointer none, .pointer none], .pointer (some ⟨M, 0, none⟩), .pointer (some ⟨M2, 0, none⟩), .bool b] w (ToldPost own c R M B M2 B2 n s .idle b w) := by
  have HD := Lib.hid hd
  clear hd
  go_enter Tryz.func49, Tryz.ntmps49
  go_wp2
  go_ret
  have k : Kept w (w.alloc (.cells #[.pointer none, .pointer none, .pointer none, .pointer none, .pointer none, .pointer none] 128)) := (Kept.refl w).alloc _ _
  exact ⟨rfl, .idle, s, rfl, fun _ => rfl, trivial, HD.out.kept k, by omega, k.but _⟩
theorem told_step_any (own : Nat → Nat) (c : Nat) (R : Rng) (M B M2 B2 n : Nat) (s : St) (p : PS) (w : World) (h : p.Is own c R w) (hd : Duo own w M B M2 B2 n s) (hS : R.Ok n) (c1 : s.cnt ≤ 900000) :
    Calls Tryz.prog 49 #[.agg p.cells.toArray, .pointer (some ⟨M, 0, none⟩), .pointer (some ⟨M2, 0, none⟩), .bool true] w (ToldPost own c R M B M2 B2 n s p true w) := by
  cases p with
  | idle => exact told_idle own c R M B M2 B2 n s true w hd
  | push x P Q => exact same_push_step own c R M B M2 B2 n s x P Q w h hd hS c1
  | front x P Q => exact same_front_step own c R M B M2 B2 n s x P Q w h hd hS c1
  | drop x P Q => exact same_drop_step own c R M B M2 B2 n s x P Q w h hd hS c1
theorem told_rest_any (own : Nat → Nat) (c : Nat) (R : Rng) (M B M2 B2 n : Nat) (s : St) (p : PS) (w : World) (h : p.Is own c R w) (hd : Duo own w M B M2 B2 n s) (hS : R.Ok n) (c1 : s.cnt ≤ 900000) :
    Calls Tryz.prog 49 #[.agg p.cells.toArray, .pointer (some ⟨M, 0, none⟩), .pointer (some ⟨M2, 0, none⟩), .bool false] w (ToldPost own c R M B M2 B2 n s p false w) := by
  cases p with
  | idle => exact told_idle own c R M B M2 B2 n s false w hd
  | push x P Q => exact same_push_rest own c R M B M2 B2 n s x P Q w h hd hS c1
  | front x P Q => exact same_front_rest own c R M B M2 B2 n s x P Q w h hd hS c1
  | drop x P Q => exact same_drop_rest own c R M B M2 B2 n s x P Q w h hd hS c1
theorem told_any (own : Nat → Nat) (c : Nat) (R : Rng) (M B M2 B2 n : Nat) (s : St) (p : PS) (b : Bool) (w : World) (h : p.Is own c R w) (hd : Duo own w M B M2 B2 n s) (hS : R.Ok n) (c1 : s.cnt ≤ 900000) :
    Calls Tryz.prog 49 #[.agg p.cells.toArray, .pointer (some ⟨M, 0, none⟩), .pointer (some ⟨M2, 0, none⟩), .bool b] w (ToldPost own c R M B M2 B2 n s p b w) := by
  cases b
  · exact told_rest_any own c R M B M2 B2 n s p w h hd hS c1
  · exact told_step_any own c R M B M2 B2 n s p w h hd hS c1

theorem access_same (k a o n : Int) (h : Bool) (w : World) : (binOp .neq 72 (.agg #[.int .i64 k, .int .i64 a, .int .u64 o, .int .u64 n, .bool h]) (.agg #[.int .i64 k, .int .i64 a, .int .u64 o, .int .u64 n, .bool h])).run Tryz.prog w = .ok (.bool false) w := by
  cases h <;> go_simp
theorem pick4 (co : Int) : ∃ c : Nat, c < 4 ∧ ∀ w, Hid (Calls Tryz.prog 12 #[.int .i64 co, .int .i64 4] w fun e w' => e = .returned (.int .i64 (c : Int)) ∧ w = w') := by
  refine ⟨(co % 4).toNat, by omega, fun w => Lib.hid ?_⟩
  have h := Wo.pick_any co 4 (by decide) (by decide) w
  rw [show (((co % 4).toNat : Nat) : Int) = co % 4 by omega]
  exact h
theorem ints_at (l : List Int) (j : Nat) (h : j < l.length) : (ints l)[j]? = some (.int .i64 (l.getD j 0)) := by
  simp [ints, h]
theorem overInts_own {w : World} {base : Nat} {a : Option Addr} {l : List Int} {c : Nat} (h : w.ownsRow base 3 1 (.slice a l.length c) l.length (ints l)) (hl : l.length ≤ 4096) :
    Calls Tryz.prog 53 #[.slice a l.length c] w fun e w' => e = .returned (.tuple #[]) ∧ But (fun k => base ≤ k) w w' := by
  rcases h.2 with ⟨e, h0⟩ | ⟨g, cap, cur, e, hb, hg, _⟩
  · injection e with e1 e2 e3
    subst e1 e3
    rw [h0]
    go_enter Tryz.func53, Tryz.ntmps53
    go_wp2
    go_loopw [2] (fun i wr => i = .int .i64 0 ∧ wr = w) (fun _ _ => 0)
    case atStart => exact ⟨rfl, rfl⟩
    case round =>
      obtain ⟨rfl, rfl⟩ := hrel
      go_wp2
      go_end0
      exact ⟨rfl, But.refl _ _⟩
  · have hs := own_soft h g (by rw [e]; rfl)
    injection e with e1 e2 e3
    subst e1 e3
    have hg2 := (h.lt g rfl).2
    rcases own_lies h with ⟨e, _⟩ | ⟨g', o, c', e, _, _, hc⟩
    · injection e with e1 _ _
      cases e1
    · injection e with e1 _ _
      injection e1 with e1
      injection e1 with e1 e2 _
      subst e1 e2
      refine (overInts_any _ c l.length (fun i => l.getD i 0) w (by omega) (fun i hi => ?_) hg2 hs).mono fun _ _ ⟨x, k⟩ => ⟨x, k.mono fun _ _ e => by rw [e]; exact hb⟩
      have := hc i _ (ints_at l i hi)
      rw [Nat.zero_add] at this
      exact this
end Go.Proofs.YtlfdiffbepfgbaaGreat.Ri
