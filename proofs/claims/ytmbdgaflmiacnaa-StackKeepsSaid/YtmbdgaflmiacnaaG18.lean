/- A stack that has just been filled: all is on it, and nobody has anything. -/
import Derived.Test.YtmbdgaflmiacnaaG17
set_option linter.unusedVariables false
set_option linter.unusedSimpArgs false

namespace Go.Proofs.Ytmbdgaflmiacnaa.Sk
set_option maxRecDepth 20000
open Go.RowKit
open Wo (St acc wordAt PMem RefIs)

theorem fillTo_top {n : Nat} {S : Stk} (hS : S.Ok n) (s : St) : ∀ k : Nat, (k : Int) ≤ S.N - 1 → top S (fillTo n S s k).ws = 1
  | 0, _ => by
    show top S (acc n s 2 S.T true 1).ws = 1
    rw [acc_upd _ _ _ _ _ hS.T1 hS.T2, top_upd]
  | k + 1, hk => by
    show top S (acc n (fillTo n S s k) 2 (S.K + k) true (k + 2)).ws = 1
    rw [acc_upd _ _ _ _ _ (by have := hS.K1; omega) (by have := hS.K2; omega), top_upd_link hS _ _ (by omega) (by omega)]
    exact fillTo_top hS s k (by omega)
theorem fillTo_lk {n : Nat} {S : Stk} (hS : S.Ok n) (s : St) : ∀ k : Nat, (k : Int) ≤ S.N - 1 → ∀ i : Nat, i < k → lk S (fillTo n S s k).ws i = i + 2
  | 0, _, i, hi => absurd hi (Nat.not_lt_zero _)
  | k + 1, hk, i, hi => by
    show lk S (acc n (fillTo n S s k) 2 (S.K + k) true (k + 2)).ws i = _
    rw [acc_upd _ _ _ _ _ (by have := hS.K1; omega) (by have := hS.K2; omega)]
    by_cases e : i = k
    · subst e; rw [lk_upd_self]
    · rw [lk_upd_link hS _ _ (by omega) (by omega) (by omega)]
      exact fillTo_lk hS s k (by omega) i (by omega)
theorem fillSt_top {n : Nat} {S : Stk} (hS : S.Ok n) (s : St) : top S (fillSt n S s).ws = 1 := by
  have := hS.N1
  unfold fillSt
  rw [acc_upd _ _ _ _ _ (by have := hS.K1; omega) (by have := hS.K2; omega), top_upd_link hS _ _ (by omega) (by omega)]
  exact fillTo_top hS s _ (by omega)
theorem fillSt_lk {n : Nat} {S : Stk} (hS : S.Ok n) (s : St) (i : Nat) (hi : (i : Int) < S.N) : lk S (fillSt n S s).ws i = if (i : Int) = S.N - 1 then (0 : Int) else (i : Int) + 2 := by
  have := hS.N1
  unfold fillSt
  rw [acc_upd _ _ _ _ _ (by have := hS.K1; omega) (by have := hS.K2; omega)]
  by_cases e : (i : Int) = S.N - 1
  · rw [if_pos e, e, lk_upd_self]
  · rw [if_neg e, lk_upd_link hS _ _ (by omega) (by omega) e]
    exact fillTo_lk hS s _ (by omega) i (by omega)
theorem run_full {n : Nat} {S : Stk} (hS : S.Ok n) {f : Nat → Int} (hf : ∀ i : Nat, (i : Int) < S.N → lk S f i = if (i : Int) = S.N - 1 then (0 : Int) else (i : Int) + 2) : ∀ (m i : Nat), ((i + m : Nat) : Int) = S.N → Run S f (if m = 0 then -1 else (i : Int)) ((List.range' i m).map Int.ofNat)
  | 0, i, _ => rfl
  | m + 1, i, h => by
    have hN2 := hS.N2
    refine ⟨by simp, by simp, ?_, ?_⟩
    · show ((i : Nat) : Int) < S.N
      omega
    · show Run S f (idx S.N (lk S f (i : Int))) ((List.range' (i + 1) m).map Int.ofNat)
      rw [hf i (by omega)]
      have r := run_full hS hf m (i + 1) (by omega)
      by_cases e : m = 0
      · subst e
        rw [if_pos (by omega)]
        rw [if_pos rfl] at r
        have : idx S.N 0 = -1 := by unfold idx; rw [if_pos (by omega)]; rfl
        rw [this]; exact r
      · rw [if_neg (by omega)]
        rw [if_neg e] at r
        have : idx S.N ((i : Int) + 2) = ((i + 1 : Nat) : Int) := by unfold idx; rw [if_pos (by omega)]; omega
        rw [this]; exact r
def cs0 : Nat → Cr := fun _ => ⟨.idle, [], 0⟩
theorem fill_inv {n : Nat} {S : Stk} (hS : S.Ok n) : Inv n S (fillSt n S Wo.St.zero) 0 (full S) (l3 cs0) := by
  have hN := hS.N1
  refine ⟨?_, ?_, ?_, fillSt_wd (wd_zero n) hS.N2, ?_⟩
  · rw [fillSt_top hS]
    have r := run_full hS (fillSt_lk hS Wo.St.zero) S.N.toNat 0 (by omega)
    rw [if_neg (by omega)] at r
    have : idx S.N 1 = 0 := by unfold idx; rw [if_pos (by omega)]; rfl
    rw [this]
    unfold full
    rw [List.range_eq_range']
    exact r
  · simp [l3, cs0, Cr.hold, Cr.pend]
  · rw [fillSt_top hS]; rfl
  · intro c hc
    simp [l3, cs0] at hc
    subst hc
    trivial

theorem infoCore : (Try.prog.info? 76).map (fun i => (i.zero, i.size, i.bytes)) = some (some (.agg #[.pointer none, .pointer none, .pointer none, .slice none 0 0, .int .i64 0]), 5, 56) := by kernel_rfl
theorem make_cores : ∃ Z : Array Value, (∀ c, c ≤ 2 → Z[5 * c]? = some (.pointer none) ∧ Z[5 * c + 1]? = some (.pointer none) ∧ Z[5 * c + 2]? = some (.pointer none) ∧ Z[5 * c + 3]? = some (.slice none 0 0) ∧ Z[5 * c + 4]? = some (.int .i64 0)) ∧
    ∀ w : World, (Instr.makeSlice 74 (.int .i64 3) (.int .i64 3)).run Try.prog w = .ok (.slice (some ⟨w.heap.size, 0, none⟩) 3 3) (w.alloc (.cells Z 76)) := by
  obtain ⟨i0, hi, hz0, hz1, hz2⟩ := info_parts infoCore
  refine ⟨madeCells #[.pointer none, .pointer none, .pointer none, .slice none 0 0, .int .i64 0] 15, fun c hc => ?_, fun w => ?_⟩
  · have : c = 0 ∨ c = 1 ∨ c = 2 := by omega
    rcases this with rfl | rfl | rfl <;> exact ⟨by kernel_rfl, by kernel_rfl, by kernel_rfl, by kernel_rfl, by kernel_rfl⟩
  · have h := run_makeSlice (P := Try.prog) w 74 76 i0 (.agg #[.pointer none, .pointer none, .pointer none, .slice none 0 0, .int .i64 0]) Try.underlying74 hi hz0 .i64 .i64 3 3 (by omega) (Int.le_refl _) (by rw [hz1]; decide) (by rw [hz2]; decide) (by decide)
    rw [h, hz1]
    rfl
theorem crew_start {w0 w : World} {R M B n : Nat} {S : Stk} (hS : S.Ok n) (hm : PMem w M B n (fillSt n S Wo.St.zero)) (k : Kept w0 w) (hM : w0.heap.size ≤ M) (hB : w0.heap.size ≤ B) (hR : w0.heap.size ≤ R) (hRM : R ≠ M) (hRB : R ≠ B) (hf : ∀ i, w.frozen? ⟨R, i, none⟩ = false)
    (hc : ∀ c, c ≤ 2 → Cells5 w R (5 * c) (.pointer none) (.pointer none) (.pointer none) (.slice none 0 0) 0) :
    Crew w0 (fun k => if k = R then 1 else if k = M ∨ k = B then 0 else 3) w R M B n S (fillSt n S Wo.St.zero) 0 (full S) cs0 := by
  refine ⟨fun c hc' => ⟨0, none, 0, hc c hc', trivial, fun h => absurd h (by simp [cs0, Kd.busy]), ⟨by simp [cs0, ints], .inl ⟨rfl, rfl⟩⟩, fun g hg => by cases hg⟩, hm, fill_inv hS, hS, ?_, hf, by simp, ?_, ?_, fun k hk => ?_, k⟩
  · rw [fillSt_cnt hS.N1]
    have := hS.N1
    show 0 ≤ (0 : Int) + 1 + S.N
    omega
  · show (if M = R then 1 else if M = M ∨ M = B then 0 else 3) = 0
    rw [if_neg (fun e => hRM e.symm), if_pos (.inl rfl)]
  · show (if B = R then 1 else if B = M ∨ B = B then 0 else 3) = 0
    rw [if_neg (fun e => hRB e.symm), if_pos (.inr rfl)]
  · show (if k = R then 1 else if k = M ∨ k = B then 0 else 3) = 3
    rw [if_neg (by omega), if_neg (by omega)]

theorem crew_start2 {w0 w : World} {R M B n : Nat} {S : Stk} (hS : S.Ok n) (hm : PMem w M B n (fillSt n S Wo.St.zero)) (k : Kept w0 w) (hM : w0.heap.size ≤ M) (hB : w0.heap.size ≤ B) (hR : w0.heap.size ≤ R) (hRM : R ≠ M) (hRB : R ≠ B) (hf : ∀ i, w.frozen? ⟨R, i, none⟩ = false)
    (hc : ∀ c, c ≤ 2 → Cells5 w R (5 * c) (.pointer none) (.pointer none) (.pointer none) (.slice none 0 0) 0) {i j : Nat} (hi : w.heap.size ≤ i) (hj : w.heap.size ≤ j) (hiw : w0.heap.size ≤ i) (hjw : w0.heap.size ≤ j) :
    Crew w0 (fun k => if k = R then 1 else if k = M ∨ k = B then 0 else if k = i ∨ k = j then 4 else 3) w R M B n S (fillSt n S Wo.St.zero) 0 (full S) cs0 := by
  refine ⟨fun c hc' => ⟨0, none, 0, hc c hc', trivial, fun h => absurd h (by simp [cs0, Kd.busy]), ⟨by simp [cs0, ints], .inl ⟨rfl, rfl⟩⟩, fun g hg => by cases hg⟩, hm, fill_inv hS, hS, ?_, hf, by simp, ?_, ?_, fun k hk => ?_, k⟩
  · rw [fillSt_cnt hS.N1]
    have := hS.N1
    show 0 ≤ (0 : Int) + 1 + S.N
    omega
  · rw [if_neg (fun e => hRM e.symm), if_pos (.inl rfl)]
  · rw [if_neg (fun e => hRB e.symm), if_pos (.inr rfl)]
  · rw [if_neg (by omega), if_neg (by omega), if_neg (by omega)]

def KeepRel (w0 : World) (R M B n : Nat) (S : Stk) (len : Nat) (i : Value) (wr : World) : Prop :=
  ∃ (k : Nat) (own : Nat → Nat) (s : St) (t : Int) (ch : List Int) (cs : Nat → Cr), k ≤ len ∧ i = .int .i64 k ∧ Crew w0 own wr R M B n S s t ch cs ∧ 0 ≤ t ∧ t ≤ k ∧ s.cnt ≤ 100 + k
theorem len_big (size : Int) (a : Option Addr) (len cap : Nat) (w : World) (h : 300 < len) :
    Calls Try.prog 5 #[.int .i64 size, .slice a len cap] w fun e w' => e = .returned (.bool true) ∧ Kept w w' := by
  have h2 : (300 : Int) < len := by omega
  go_enter Try.func5, Try.ntmps5
  go_wp2_with fail
  refine (known_any _).mono ?_
  rintro e w1 ⟨rfl, k1⟩
  go_wp2
  go_ret
  exact ⟨rfl, k1⟩

set_option maxHeartbeats 1000000 in
theorem keeps_any (size : Int) {a : Option Addr} {len cap : Nat} {f : Nat → Int} {w : World} (hr : Row w a len cap f) (hl : len ≤ 300) :
    Calls Try.prog 5 #[.int .i64 size, .slice a len cap] w fun e w' => e = .returned (.bool true) ∧ Kept w w' := by
  have h2 : (len : Int) ≤ 300 := by omega
  have HR := Lib.hid hr
  clear hr
  go_enter Try.func5, Try.ntmps5
  go_wp2_with fail
  refine (known_any _).mono ?_
  rintro e w1 ⟨rfl, k1⟩
  have K1 := Lib.hid k1
  clear k1
  go_wp2_with fail
  refine (Wo.pick_any size 12 (by omega) (by omega) _).mono ?_
  rintro e _ ⟨rfl, rfl⟩
  obtain ⟨q, hq⟩ : ∃ q, q = size % 12 := ⟨_, rfl⟩
  have q0 : 0 ≤ q := by omega
  have q1 : q < 12 := by omega
  rw [← hq]
  clear hq
  obtain ⟨S, hS1⟩ : ∃ S : Stk, S = ⟨2, 4, 1 + q⟩ := ⟨_, rfl⟩
  have hS : S.Ok 20 := by subst hS1; exact ⟨by omega, by omega, by show 1 ≤ 1 + q; omega, by show 1 + q ≤ 4096; omega, by show (0:Int) ≤ 2; omega, by show (2:Int) < 20; omega, by show (0:Int) ≤ 4; omega, by show 4 + (1 + q) ≤ 20; omega, .inl (by show (2:Int) < 4; omega)⟩
  go_wp2_with fail
  obtain ⟨W0, hW0⟩ : ∃ W0, w1.alloc (.cells #[.int .i64 2, .int .i64 4, .int .i64 (1 + q)] 23) = W0 := ⟨_, rfl⟩
  have z0 : W0.cell? ⟨w1.heap.size, 0, none⟩ = some (.int .i64 2) := by rw [← hW0]; exact cell_new _ _ _ _ 0 rfl
  have z1 : W0.cell? ⟨w1.heap.size, 1, none⟩ = some (.int .i64 4) := by rw [← hW0]; exact cell_new _ _ _ _ 1 rfl
  have z2 : W0.cell? ⟨w1.heap.size, 2, none⟩ = some (.int .i64 (1 + q)) := by rw [← hW0]; exact cell_new _ _ _ _ 2 rfl
  have K0 : Hid (Kept w W0) := Lib.hid (by rw [← hW0]; exact K1.out.alloc _ _)
  rw [hW0]
  obtain ⟨o, ho⟩ : ∃ o, w1.heap.size = o := ⟨_, rfl⟩
  rw [ho] at z0 z1 z2 ⊢
  clear hW0 ho
  have y0 := z0
  have y1 := z1
  have y2 := z2
  refine (p_new 20 (by omega) (by omega) _).mono ?_
  rintro e w2 ⟨rfl, m2, n2, k2⟩
  have z0 := k2.some z0
  have z1 := k2.some z1
  have z2 := k2.some z2
  have M2 := Lib.hid m2
  have K2 := Lib.hid k2
  have N2 := Lib.hid n2
  clear m2 k2 n2
  go_wp2_with fail
  have FL : ∀ W, Hid (PMem W (W0.heap.size + 1) W0.heap.size 20 Wo.St.zero → Calls Try.prog 17 #[.agg #[.int .i64 2, .int .i64 4, .int .i64 (1 + q)], .pointer (some ⟨W0.heap.size + 1, 0, none⟩)] W fun e w' => e = .returned (.tuple #[]) ∧ PMem w' (W0.heap.size + 1) W0.heap.size 20 (fillSt 20 S Wo.St.zero) ∧ But (fun k => k = W0.heap.size) W w') := fun W => Lib.hid (fun hm => by
    have k := p_fill _ _ 20 S Wo.St.zero W hm (by decide) (by decide) hS
    rw [hS1] at k ⊢
    exact k)
  refine ((FL _).out M2.out).mono ?_
  rintro e w3 ⟨rfl, m3, b3⟩
  have ol := Nat.lt_of_lt_of_le (lt_of_cell z0) (Nat.le_refl _)
  have k3 : Kept W0 w3 := ((K2.out.but (fun k => k = W0.heap.size)).trans b3 (fun _ _ h => h)).kept fun j hj e => by have e : j = W0.heap.size := e; omega
  have K3 := Lib.hid k3
  have M3 := Lib.hid m3
  have N3 : Hid (W0.heap.size + 2 ≤ w3.heap.size) := Lib.hid (by have := b3.size; have := N2.out; omega)
  have Z0 := Lib.hid (show W0.cell? _ = _ ∧ W0.cell? _ = _ ∧ W0.cell? _ = _ from ⟨y0, y1, y2⟩)
  clear k3 m3 b3 z0 z1 z2 ol y0 y1 y2
  obtain ⟨Z, hZ, hmk⟩ := make_cores
  have HZ := Lib.hid hZ
  clear hZ
  go_wp2
  obtain ⟨R, hR⟩ : ∃ R, w3.heap.size = R := ⟨_, rfl⟩
  obtain ⟨w4, hw4⟩ : ∃ w4, w3.alloc (.cells Z 76) = w4 := ⟨_, rfl⟩
  have CR0 : Hid (Crew W0 (fun k => if k = R then 1 else if k = W0.heap.size + 1 ∨ k = W0.heap.size then 0 else 3) w4 R (W0.heap.size + 1) W0.heap.size 20 S (fillSt 20 S Wo.St.zero) 0 (full S) cs0) := Lib.hid (by
    have n3 := N3.out
    refine crew_start hS ?_ ?_ (by omega) (by omega) (by omega) (by omega) (by omega) (fun i => ?_) (fun c hc => ?_)
    · rw [← hw4]; exact pmem_kept M3.out ((Kept.refl _).alloc _ _)
    · rw [← hw4]; exact K3.out.alloc _ _
    · rw [← hw4, ← hR]; simp
    · obtain ⟨q0, q1, q2, q3, q4⟩ := HZ.out c hc
      rw [← hw4]
      exact ⟨by rw [cell_new _ _ _ _ _ hR.symm]; exact q0, by rw [cell_new _ _ _ _ _ hR.symm]; exact q1, by rw [cell_new _ _ _ _ _ hR.symm]; exact q2, by rw [cell_new _ _ _ _ _ hR.symm]; exact q3, by rw [cell_new _ _ _ _ _ hR.symm]; exact q4⟩)
  rw [hw4, hR]
  obtain ⟨M, hM⟩ : ∃ M, W0.heap.size + 1 = M := ⟨_, rfl⟩
  obtain ⟨B, hB⟩ : ∃ B, W0.heap.size = B := ⟨_, rfl⟩
  rw [hM, hB] at CR0
  rw [hM]
  clear hw4 hR hM hB hmk HZ N3 K3 M3 N2 K2 M2 FL
  have hcn : (fillSt 20 S Wo.St.zero).cnt ≤ 100 := by
    rw [fillSt_cnt hS.N1]
    have : S.N ≤ 12 := by rw [hS1]; show 1 + q ≤ 12; omega
    show (0 : Int) + 1 + S.N ≤ 100
    omega
  go_loopw [10] (KeepRel W0 R M B 20 S len) (fun i _ => len - (intOf i).toNat)
  case atStart =>
    exact ⟨0, _, _, 0, _, cs0, Nat.zero_le _, rfl, CR0.out, by omega, by omega, by omega⟩
  case round =>
    obtain ⟨k, own, s, t, ch, cs, hk, rfl, hcr, t0, t1, hcnt⟩ := hrel
    have C1 := Lib.hid hcr
    by_cases hlt : k < len
    · obtain ⟨b, off, rfl, hcc⟩ : ∃ b off, a = some ⟨b, off, none⟩ ∧ ∀ i, i < len → w.cell? ⟨b, off + i, none⟩ = some (.int .i64 (f i)) := by
        rcases HR.out.2.2.2 with ⟨_, h, _⟩ | ⟨_, _, h⟩ | ⟨b, off, h, _, hc⟩
        · omega
        · omega
        · exact ⟨b, off, h, hc⟩
      have cl := hcr.kept.some (K0.out.some (hcc k hlt))
      clear hcc hcr
      go_wp2_with fail
      refine (Wo.pick_any (f k) 300 (by omega) (by omega) _).mono ?_
      rintro e _ ⟨rfl, rfl⟩
      obtain ⟨m, hm⟩ : ∃ m, m = f k % 300 := ⟨_, rfl⟩
      have m0 : 0 ≤ m := by omega
      have m1 : m < 300 := by omega
      rw [← hm]
      clear hm
      have tm3 : Int.tmod m 3 = m % 3 := Int.tmod_eq_emod_of_nonneg m0
      have td3 : Int.tdiv m 3 = m / 3 := Int.tdiv_eq_ediv_of_nonneg m0
      obtain ⟨c, hc⟩ : ∃ c : Nat, m % 3 = c := ⟨(m % 3).toNat, by omega⟩
      have hc2 : c ≤ 2 := by omega
      have hc3 : (c : Int) < 3 := by omega
      rw [hc] at tm3
      have d0 : 0 ≤ m / 3 := by omega
      have d1 : m / 3 < 300 := by omega
      clear hc
      have BS : ∀ own s t ch cs W, Hid (Crew W0 own W R M B 20 S s t ch cs → Calls Try.prog 28 #[.pointer (some ⟨R, c * 5, none⟩)] W fun e w' => e = .returned (.bool (cs c).k.busy) ∧ W = w') := fun own s t ch cs W => Lib.hid (fun k => by
        obtain ⟨P, a, cap, hh⟩ := k.core c hc2
        have kk := busy_any hh
        rw [Nat.mul_comm] at kk
        exact kk)
      go_wp2_with fail
      refine ((BS _ _ _ _ _ _).out C1.out).mono ?_
      rintro e _ ⟨rfl, rfl⟩
      cases hb : (cs c).k.busy with
      | true =>
        have STP : ∀ W, Hid (Kept wr W → Calls Try.prog 30 #[.pointer (some ⟨R, c * 5, none⟩), .agg #[.int .i64 2, .int .i64 4, .int .i64 (1 + q)], .pointer (some ⟨M, 0, none⟩)] W (Stepd W0 own W R M B 20 S s t cs c)) := fun W => Lib.hid (fun k => by
          have kk := crew_step (C1.out.grow k) hc2 hb t0 (by omega) (by omega)
          rw [hS1, Nat.mul_comm] at kk
          rw [hS1]
          exact kk)
        have EAC : ∀ own s t ch cs W, Hid (Crew W0 own W R M B 20 S s t ch cs → Calls Try.prog 31 #[.agg #[.int .i64 2, .int .i64 4, .int .i64 (1 + q)], .pointer (some ⟨M, 0, none⟩), .slice (some ⟨R, 0, none⟩) 3 3] W fun e w' => e = .returned (.bool true) ∧ Kept W w') := fun own s t ch cs W => Lib.hid (fun k => by
          have kk := each_any k
          rw [hS1] at kk
          exact kk)
        have z0 := C1.out.kept.some Z0.out.1
        have z1 := C1.out.kept.some Z0.out.2.1
        have z2 := C1.out.kept.some Z0.out.2.2
        go_upto_region 17 with fail
        go_region_held3 (fun w' => w'.cell? ⟨o, 0, none⟩ = some (.int .i64 2) ∧ w'.cell? ⟨o, 1, none⟩ = some (.int .i64 4) ∧ w'.cell? ⟨o, 2, none⟩ = some (.int .i64 (1 + q))) (first | go_keep | (with_reducible exact ⟨g0, g1, g2⟩) | (with_reducible exact ⟨f0, f1, f2⟩)) (first
          | (go_at_call 30; (with_reducible refine ((STP _).out (by first | exact Kept.refl _ | exact (Kept.refl _).drew | exact (Kept.refl _).drewN _)).mono ?_); rintro e w7 ⟨rfl, own2, s2, t2, ch2, cr2, ⟨C2, _⟩, ht0, ht1, hcn2, _⟩; have f0 := C2.kept.some Z0.out.1; have f1 := C2.kept.some Z0.out.2.1; have f2 := C2.kept.some Z0.out.2.2)
          | (go_at_call 31; (with_reducible refine ((EAC _ _ _ _ _ _).out (C2.grow (by first | exact Kept.refl _ | exact (Kept.refl _).drew | exact (Kept.refl _).drewN _))).mono ?_); rintro e w8 ⟨rfl, k8⟩; have KU : Kept w7 w8 := Kept.trans (b := _) (by first | exact Kept.refl _ | exact (Kept.refl _).drew | exact (Kept.refl _).drewN _) k8; have g0 := KU.some f0; have g1 := KU.some f1; have g2 := KU.some f2))
        rename_i hcells
        clear hcells
        have C3 := Lib.hid (C2.grow KU)
        clear C2 KU k8 f0 f1 f2 g0 g1 g2
        have k3 : k < 300 := by omega
        go_wp2
        go_roundw
        case rel =>
          refine ⟨k + 1, own2, s2, t2, ch2, _, by omega, by rw [Int.natCast_add]; rfl, C3.out, by omega, by omega, by omega⟩
        case measure => simp [intOf]; omega
      | false =>
        have z0 := C1.out.kept.some Z0.out.1
        have z1 := C1.out.kept.some Z0.out.2.1
        have z2 := C1.out.kept.some Z0.out.2.2
        have BGN : ∀ W, Hid (Kept wr W → Calls Try.prog 29 #[.pointer (some ⟨R, c * 5, none⟩), .agg #[.int .i64 2, .int .i64 4, .int .i64 (1 + q)], .int .i64 (IntKind.i64.wrap (m / 3))] W (Begund W0 own W R M B 20 S s t ch cs c)) := fun W => Lib.hid (fun k => by
          rw [show IntKind.i64.wrap (m / 3) = m / 3 from by rw [IntKind.wrap_i64]; omega]
          have kk := crew_begin (C1.out.grow k) hc2 hb (m / 3) d0 d1 (by omega)
          rw [hS1, Nat.mul_comm] at kk
          rw [hS1]
          exact kk)
        go_upto_region 16 with fail
        go_region_held3 (fun w' => w'.cell? ⟨o, 0, none⟩ = some (.int .i64 2) ∧ w'.cell? ⟨o, 1, none⟩ = some (.int .i64 4) ∧ w'.cell? ⟨o, 2, none⟩ = some (.int .i64 (1 + q))) (first | go_keep | (with_reducible exact ⟨f0, f1, f2⟩)) (first
          | (go_at_call 29; (with_reducible refine ((BGN _).out (by first | exact Kept.refl _ | exact (Kept.refl _).drew | exact (Kept.refl _).drewN _)).mono ?_); rintro e w6 ⟨rfl, own1, cr1, ⟨C6, _⟩, hfresh⟩; have f0 := C6.kept.some Z0.out.1; have f1 := C6.kept.some Z0.out.2.1; have f2 := C6.kept.some Z0.out.2.2))
        rename_i hcells
        clear hcells
        have C6 := Lib.hid C6
        clear f0 f1 f2 z0 z1 z2 BGN
        have hb1 : (putC cs c cr1 c).k.busy = true := by
          rw [putC_at]
          rcases hfresh with e | e | e <;> rw [e] <;> rfl
        have STP : ∀ W, Hid (Kept w6 W → Calls Try.prog 30 #[.pointer (some ⟨R, c * 5, none⟩), .agg #[.int .i64 2, .int .i64 4, .int .i64 (1 + q)], .pointer (some ⟨M, 0, none⟩)] W (Stepd W0 own1 W R M B 20 S s t (putC cs c cr1) c)) := fun W => Lib.hid (fun k => by
          have kk := crew_step (C6.out.grow k) hc2 hb1 t0 (by omega) (by omega)
          rw [hS1, Nat.mul_comm] at kk
          rw [hS1]
          exact kk)
        have EAC : ∀ own s t ch cs W, Hid (Crew W0 own W R M B 20 S s t ch cs → Calls Try.prog 31 #[.agg #[.int .i64 2, .int .i64 4, .int .i64 (1 + q)], .pointer (some ⟨M, 0, none⟩), .slice (some ⟨R, 0, none⟩) 3 3] W fun e w' => e = .returned (.bool true) ∧ Kept W w') := fun own s t ch cs W => Lib.hid (fun k => by
          have kk := each_any k
          rw [hS1] at kk
          exact kk)
        have z0 := C6.out.kept.some Z0.out.1
        have z1 := C6.out.kept.some Z0.out.2.1
        have z2 := C6.out.kept.some Z0.out.2.2
        go_upto_region 17 with fail
        go_region_held3 (fun w' => w'.cell? ⟨o, 0, none⟩ = some (.int .i64 2) ∧ w'.cell? ⟨o, 1, none⟩ = some (.int .i64 4) ∧ w'.cell? ⟨o, 2, none⟩ = some (.int .i64 (1 + q))) (first | go_keep | (with_reducible exact ⟨g0, g1, g2⟩) | (with_reducible exact ⟨f0, f1, f2⟩)) (first
          | (go_at_call 30; (with_reducible refine ((STP _).out (by first | exact Kept.refl _ | exact (Kept.refl _).drew | exact (Kept.refl _).drewN _)).mono ?_); rintro e w7 ⟨rfl, own2, s2, t2, ch2, cr2, ⟨C2, _⟩, ht0, ht1, hcn2, _⟩; have f0 := C2.kept.some Z0.out.1; have f1 := C2.kept.some Z0.out.2.1; have f2 := C2.kept.some Z0.out.2.2)
          | (go_at_call 31; (with_reducible refine ((EAC _ _ _ _ _ _).out (C2.grow (by first | exact Kept.refl _ | exact (Kept.refl _).drew | exact (Kept.refl _).drewN _))).mono ?_); rintro e w8 ⟨rfl, k8⟩; have KU : Kept w7 w8 := Kept.trans (b := _) (by first | exact Kept.refl _ | exact (Kept.refl _).drew | exact (Kept.refl _).drewN _) k8; have g0 := KU.some f0; have g1 := KU.some f1; have g2 := KU.some f2))
        rename_i hcells
        clear hcells
        have C3 := Lib.hid (C2.grow KU)
        clear C2 KU k8 f0 f1 f2 g0 g1 g2
        have k3 : k < 300 := by omega
        go_wp2
        go_roundw
        case rel =>
          refine ⟨k + 1, own2, s2, t2, ch2, _, by omega, by rw [Int.natCast_add]; rfl, C3.out, by omega, by omega, by omega⟩
        case measure => simp [intOf]; omega
    · obtain rfl : k = len := by omega
      go_wp2
      go_ret
      exact ⟨rfl, K0.out.trans hcr.kept⟩
theorem keeps_law (size : Int) {a : Option Addr} {len cap : Nat} {f : Nat → Int} {w : World} (hr : Row w a len cap f) :
    Calls Try.prog 5 #[.int .i64 size, .slice a len cap] w fun e w' => e = .returned (.bool true) ∧ Kept w w' := by
  by_cases h : len ≤ 300
  · exact keeps_any size hr h
  · exact len_big size a len cap w (by omega)
end Go.Proofs.Ytmbdgaflmiacnaa.Sk

namespace Go.Proofs.Ytmbdgaflmiacnaa.Sk
set_option maxRecDepth 20000
open Go.RowKit
open Wo (St acc wordAt PMem RefIs)

def Cr.rnk (S : Stk) (f : Nat → Int) (c : Cr) : Nat := match c.k with
  | .idle => 0
  | .pop x => rank S f 3 x
  | .push x => rank S f 3 x
  | .all x => rank S f 2 x
def hit (s : St) : Int := if s.kind = 3 ∧ s.held = true then 1 else 0
theorem l3_mem (cs : Nat → Cr) {c : Nat} (hc : c ≤ 2) : cs c ∈ l3 cs := by
  have : c = 0 ∨ c = 1 ∨ c = 2 := by omega
  rcases this with rfl | rfl | rfl <;> simp [l3]
theorem rnk_le {n : Nat} {S : Stk} {s : St} {t : Int} {ch : List Int} {cs : Nat → Cr} (h : Inv n S s t ch (l3 cs)) {c : Nat} (hc : c ≤ 2) : (cs c).rnk S s.ws ≤ 5 := by
  have hk := h.core _ (l3_mem cs hc)
  obtain ⟨cr, hcr⟩ : ∃ cr, cr = cs c := ⟨_, rfl⟩
  rw [← hcr] at hk ⊢
  obtain ⟨k, has, lays⟩ := cr
  cases k with
  | idle => exact Nat.zero_le _
  | pop x => obtain ⟨_, hl, _⟩ := hk; exact rank_le _ _ _ _ (by omega) (by rcases hl with e | e | e | e <;> rw [e] <;> decide)
  | push x => obtain ⟨_, hl, _⟩ := hk; exact rank_le _ _ _ _ (by omega) (by rcases hl with e | e | e | e <;> rw [e] <;> decide)
  | all x => obtain ⟨_, hl, _⟩ := hk; exact rank_le _ _ _ _ (by omega) (by rcases hl with e | e | e | e <;> rw [e] <;> decide)
theorem rnk_pos {n : Nat} {S : Stk} {s : St} {t : Int} {ch : List Int} {cs : Nat → Cr} (h : Inv n S s t ch (l3 cs)) {c : Nat} (hc : c ≤ 2) (hb : (cs c).k.busy = true) : 1 ≤ (cs c).rnk S s.ws := by
  have hk := h.core _ (l3_mem cs hc)
  obtain ⟨cr, hcr⟩ : ∃ cr, cr = cs c := ⟨_, rfl⟩
  rw [← hcr] at hk hb ⊢
  obtain ⟨k, has, lays⟩ := cr
  cases k with
  | idle => exact absurd hb (by simp [Kd.busy])
  | pop x => obtain ⟨_, hl, h9, _⟩ := hk; exact rank_pos _ _ _ _ (by omega) (by rcases hl with e | e | e | e <;> first | (rw [e]; decide) | exact absurd e h9)
  | push x => obtain ⟨_, hl, h9, _⟩ := hk; exact rank_pos _ _ _ _ (by omega) (by rcases hl with e | e | e | e <;> first | (rw [e]; decide) | exact absurd e h9)
  | all x => obtain ⟨_, hl, h9, h3, _⟩ := hk; exact rank_pos _ _ _ _ (by omega) (by rcases hl with e | e | e | e <;> first | (rw [e]; decide) | exact absurd e h9 | exact absurd e h3)
theorem alone_crew {n : Nat} {S : Stk} (hS : S.Ok n) {s s' : St} {t : Int} {ch : List Int} {cs : Nat → Cr} (h : Inv n S s t ch (l3 cs)) {c : Nat} (hc : c ≤ 2) {c' : Cr} {md ot : Nat → Int} (al : ∀ d, d ≤ 2 → (cs d).Al S s.ws (md d) (ot d)) (st : Stp n S s s' (cs c) c') :
    md c + 1 ≤ 3 * ot c + 3 ∧ c'.Al S s'.ws (md c + 1) (ot c) ∧ (c'.k.busy = true → c'.rnk S s'.ws + 1 ≤ (cs c).rnk S s.ws) ∧ (∀ d, d ≤ 2 → (cs d).Al S s'.ws (md d) (ot d + hit s')) := by
  have hk := h.core _ (l3_mem cs hc)
  have ha := al c hc
  have oth : (top S s'.ws = top S s.ws ∨ (s'.kind = 3 ∧ s'.held = true)) → ∀ d, d ≤ 2 → (cs d).Al S s'.ws (md d) (ot d + hit s') := fun ht d hd => (al d hd).other (by
    unfold hit
    rcases ht with e | e
    · refine .inl ⟨e, ?_⟩; split <;> omega
    · rw [if_pos e]; exact .inr (by omega))
  obtain ⟨cr, hcr⟩ : ∃ cr, cr = cs c := ⟨_, rfl⟩
  rw [← hcr] at hk ha st ⊢
  obtain ⟨k, has, lays⟩ := cr
  obtain ⟨k', has', lays'⟩ := c'
  cases k with
  | idle => exact absurd st id
  | pop x =>
    obtain ⟨_, hl, h9, _⟩ := hk
    obtain ⟨rfl, hs⟩ := st
    obtain ⟨p1, p2⟩ := pop_alone hS hl h9 ha
    refine ⟨p1, ?_, ?_, oth (popSt_told hS s x)⟩
    · rcases hs with ⟨_, e⟩ | ⟨hn, e⟩ <;> cases e
      · trivial
      · exact (p2 hn).1
    · rcases hs with ⟨_, e⟩ | ⟨hn, e⟩ <;> cases e
      · exact fun e => absurd e (by simp [Kd.busy])
      · exact fun _ => (p2 hn).2
  | push x =>
    obtain ⟨_, hl, h9, l0, l1, _⟩ := hk
    obtain ⟨rfl, _, hs⟩ := st
    obtain ⟨p1, p2⟩ := push_alone hS hl h9 l0 l1 ha
    refine ⟨p1, ?_, ?_, oth (pushSt_told hS s x l0 l1)⟩
    · rcases hs with ⟨_, e⟩ | ⟨hn, e⟩ <;> cases e
      · trivial
      · exact (p2 hn).1
    · rcases hs with ⟨_, e⟩ | ⟨hn, e⟩ <;> cases e
      · exact fun e => absurd e (by simp [Kd.busy])
      · exact fun _ => (p2 hn).2
  | all x =>
    obtain ⟨_, hl, h9, h3, _⟩ := hk
    obtain ⟨rfl, hs⟩ := st
    obtain ⟨p1, p2⟩ := all_alone hS hl h9 h3 ha
    refine ⟨p1, ?_, ?_, oth (allSt_told hS s x)⟩
    · rcases hs with ⟨_, e⟩ | ⟨hn, e⟩ <;> cases e
      · trivial
      · exact (p2 hn).1
    · rcases hs with ⟨_, e⟩ | ⟨hn, e⟩ <;> cases e
      · exact fun e => absurd e (by simp [Kd.busy])
      · exact fun _ => (p2 hn).2
theorem fresh_al (S : Stk) (f : Nat → Int) {c : Cr} (h : c.k.fresh) : c.Al S f 0 0 := by
  obtain ⟨k, has, lays⟩ := c
  rcases h with e | e | e <;> cases e
  · exact AlOp.new S f 3
  · exact AlOp.new S f 3
  · exact AlOp.new S f 2

structure Ct (own : Nat → Nat) (w : World) (G H : Nat) (md ot : Nat → Int) (k : Int) : Prop where
  g : ∀ d, d ≤ 2 → w.cell? ⟨G, d, none⟩ = some (.int .i64 (md d))
  h : ∀ d, d ≤ 2 → w.cell? ⟨H, d, none⟩ = some (.int .i64 (ot d))
  gf : ∀ i, w.frozen? ⟨G, i, none⟩ = false
  hf : ∀ i, w.frozen? ⟨H, i, none⟩ = false
  oG : own G = 4
  oH : own H = 4
  ne : G ≠ H
  m0 : ∀ d, d ≤ 2 → 0 ≤ md d ∧ md d ≤ k
  o0 : ∀ d, d ≤ 2 → 0 ≤ ot d ∧ ot d ≤ k
theorem Ct.lt {own : Nat → Nat} {w : World} {G H : Nat} {md ot : Nat → Int} {k : Int} (c : Ct own w G H md ot k) : G < w.heap.size ∧ H < w.heap.size := ⟨lt_of_cell (c.g 0 (by omega)), lt_of_cell (c.h 0 (by omega))⟩
theorem Ct.moved {own own' : Nat → Nat} {w w' : World} {G H : Nat} {md ot : Nat → Int} {k : Int} (c : Ct own w G H md ot k) (m : Moved own own' w w') : Ct own' w' G H md ot k := by
  have lt := c.lt
  have nG : ¬ (own G ≠ 3 ∧ own G ≠ 4) := fun e => e.2 c.oG
  have nH : ¬ (own H ≠ 3 ∧ own H ≠ 4) := fun e => e.2 c.oH
  exact ⟨fun d hd => m.2.some (c.g d hd) nG, fun d hd => m.2.some (c.h d hd) nH, fun i => m.2.soft lt.1 (c.gf i), fun i => m.2.soft lt.2 (c.hf i), (m.1 _ lt.1).trans c.oG, (m.1 _ lt.2).trans c.oH, c.ne, c.m0, c.o0⟩
theorem Ct.kept {own : Nat → Nat} {w w' : World} {G H : Nat} {md ot : Nat → Int} {k : Int} (c : Ct own w G H md ot k) (m : Kept w w') : Ct own w' G H md ot k :=
  c.moved ⟨fun _ _ => rfl, m.but _⟩
def put1 (f : Nat → Int) (c : Nat) (v : Int) : Nat → Int := fun d => if d = c then v else f d
theorem put1_at (f : Nat → Int) (c : Nat) (v : Int) : put1 f c v c = v := if_pos rfl
theorem put1_ne {f : Nat → Int} {c d : Nat} {v : Int} (h : d ≠ c) : put1 f c v d = f d := if_neg h
theorem Ct.setG {own : Nat → Nat} {w : World} {G H : Nat} {md ot : Nat → Int} {k k' : Int} (c : Ct own w G H md ot k) {j : Nat} (hj : j ≤ 2) (v : Int) (v0 : 0 ≤ v) (v1 : v ≤ k') (hk : k ≤ k') : Ct own (w.setCell ⟨G, j, none⟩ (.int .i64 v)) G H (put1 md j v) ot k' := by
  have lt := c.lt
  have b : But (fun k => k = G) w (w.setCell ⟨G, j, none⟩ (.int .i64 v)) := (But.refl _ _).here _ _
  refine ⟨fun d hd => ?_, fun d hd => b.some (c.h d hd) (fun e => c.ne e.symm), fun i => b.soft lt.1 (c.gf i), fun i => b.soft lt.2 (c.hf i), c.oG, c.oH, c.ne, fun d hd => ?_, fun d hd => by have := c.o0 d hd; omega⟩
  · rw [cell_set, c.g d hd]
    unfold put1
    by_cases e : d = j
    · rw [if_pos e.symm, if_pos e]; rfl
    · rw [if_neg (fun x => e x.symm), if_neg e]
  · unfold put1
    split
    · exact ⟨v0, v1⟩
    · have := c.m0 d hd; omega
theorem Ct.setH {own : Nat → Nat} {w : World} {G H : Nat} {md ot : Nat → Int} {k k' : Int} (c : Ct own w G H md ot k) {j : Nat} (hj : j ≤ 2) (v : Int) (v0 : 0 ≤ v) (v1 : v ≤ k') (hk : k ≤ k') : Ct own (w.setCell ⟨H, j, none⟩ (.int .i64 v)) G H md (put1 ot j v) k' := by
  have lt := c.lt
  have b : But (fun k => k = H) w (w.setCell ⟨H, j, none⟩ (.int .i64 v)) := (But.refl _ _).here _ _
  refine ⟨fun d hd => b.some (c.g d hd) (fun e => c.ne e), fun d hd => ?_, fun i => b.soft lt.1 (c.gf i), fun i => b.soft lt.2 (c.hf i), c.oG, c.oH, c.ne, fun d hd => by have := c.m0 d hd; omega, fun d hd => ?_⟩
  · rw [cell_set, c.h d hd]
    unfold put1
    by_cases e : d = j
    · rw [if_pos e.symm, if_pos e]; rfl
    · rw [if_neg (fun x => e x.symm), if_neg e]
  · unfold put1
    split
    · exact ⟨v0, v1⟩
    · have := c.o0 d hd; omega

def AloneRel (w0 : World) (R M B G H n : Nat) (S : Stk) (len : Nat) (i : Value) (wr : World) : Prop :=
  ∃ (k : Nat) (own : Nat → Nat) (s : St) (t : Int) (ch : List Int) (cs : Nat → Cr) (md ot : Nat → Int), k ≤ len ∧ i = .int .i64 k ∧ Crew w0 own wr R M B n S s t ch cs ∧ Ct own wr G H md ot k ∧ (∀ d, d ≤ 2 → (cs d).Al S s.ws (md d) (ot d)) ∧ 0 ≤ t ∧ t ≤ k ∧ s.cnt ≤ 100 + k
def TellRel (w0 : World) (own : Nat → Nat) (R M B G H n : Nat) (S : Stk) (s : St) (t : Int) (ch : List Int) (cs : Nat → Cr) (md ot : Nat → Int) (c : Nat) (k : Int) (i : Value) (wr : World) : Prop :=
  ∃ j : Nat, j ≤ 3 ∧ i = .int .i64 j ∧ Crew w0 own wr R M B n S s t ch cs ∧ Ct own wr G H md (fun d => if d < j ∧ d ≠ c then ot d + hit s else ot d) k
def RestRel (w0 : World) (R M B n : Nat) (S : Stk) (i : Value) (wr : World) : Prop :=
  ∃ (j : Nat) (own : Nat → Nat) (s : St) (t : Int) (ch : List Int) (cs : Nat → Cr) (md ot : Nat → Int), j ≤ 3 ∧ i = .int .i64 j ∧ Crew w0 own wr R M B n S s t ch cs ∧ (∀ d, d ≤ 2 → (cs d).Al S s.ws (md d) (ot d)) ∧ 0 ≤ t ∧ t ≤ 300 + 5 * j ∧ s.cnt ≤ 400 + 5 * j
def OneRel (w0 : World) (R M B n : Nat) (S : Stk) (c : Nat) (i : Value) (wr : World) : Prop :=
  ∃ (k : Nat) (own : Nat → Nat) (s : St) (t : Int) (ch : List Int) (cs : Nat → Cr) (md ot : Nat → Int), k ≤ 5 ∧ i = .int .i64 k ∧ Crew w0 own wr R M B n S s t ch cs ∧ (∀ d, d ≤ 2 → (cs d).Al S s.ws (md d) (ot d)) ∧ 0 ≤ t ∧ t ≤ 300 + 5 * c + k ∧ s.cnt ≤ 400 + 5 * c + k ∧ ((cs c).k.busy = true → (cs c).rnk S s.ws + k ≤ 5)
end Go.Proofs.Ytmbdgaflmiacnaa.Sk
