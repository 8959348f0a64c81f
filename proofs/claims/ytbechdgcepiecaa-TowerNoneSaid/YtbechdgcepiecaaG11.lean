/- Fill: limbo's, and a tower's: the program's. Written by gen15d.py. -/
import Derived.Test.YtbechdgcepiecaaG08
import Derived.Test.YtbechdgcepiecaaG09
import Derived.Test.YtbechdgcepiecaaG10
import Derived.Test.YtbechdgcepiecaaG06
import Derived.Laws.EntriesVeiled
import Derived.Deep.RegionLaw
set_option linter.unusedVariables false
set_option linter.unusedSimpArgs false

namespace Go.Proofs.Ytbechdgcepiecaa.Tw
set_option maxRecDepth 20000
open Go.RowKit
open Wo (St acc wordAt PMem RefIs)
open Sk (Stk Arn idx Wd p_store pmem_lt pmem_kept pmem_frame p_afill afillSt afillSt_cnt afillSt_wd)

abbrev limV (t : Twr) : Value := .agg #[.int .i64 t.A.F.T, .int .i64 t.A.F.K, .int .i64 t.A.F.N, .int .i64 t.A.G, .int .i64 t.A.V, .int .i64 t.A.L, .int .i64 t.E.T, .int .i64 t.E.K, .int .i64 t.E.N, .int .i64 t.P]
structure LB (w : World) (b : Nat) (t : Twr) : Prop where
  c0 : w.cell? ⟨b, 0, none⟩ = some (.int .i64 t.A.F.T)
  c1 : w.cell? ⟨b, 1, none⟩ = some (.int .i64 t.A.F.K)
  c2 : w.cell? ⟨b, 2, none⟩ = some (.int .i64 t.A.F.N)
  c3 : w.cell? ⟨b, 3, none⟩ = some (.int .i64 t.A.G)
  c4 : w.cell? ⟨b, 4, none⟩ = some (.int .i64 t.A.V)
  c5 : w.cell? ⟨b, 5, none⟩ = some (.int .i64 t.A.L)
  c6 : w.cell? ⟨b, 6, none⟩ = some (.int .i64 t.E.T)
  c7 : w.cell? ⟨b, 7, none⟩ = some (.int .i64 t.E.K)
  c8 : w.cell? ⟨b, 8, none⟩ = some (.int .i64 t.E.N)
  c9 : w.cell? ⟨b, 9, none⟩ = some (.int .i64 t.P)
theorem LB.but {w w' : World} {b : Nat} {t : Twr} (h : LB w b t) {S : Nat → Prop} (k : But S w w') (hS : ¬ S b) : LB w' b t :=
  ⟨k.some h.c0 hS, k.some h.c1 hS, k.some h.c2 hS, k.some h.c3 hS, k.some h.c4 hS, k.some h.c5 hS, k.some h.c6 hS, k.some h.c7 hS, k.some h.c8 hS, k.some h.c9 hS⟩
theorem LB.kept {w w' : World} {b : Nat} {t : Twr} (h : LB w b t) (k : Kept w w') : LB w' b t := h.but (k.but (fun _ => False)) id
theorem LB.new (w : World) (b : Nat) (ty : TypeId) (hb : b = w.heap.size) (t : Twr) : LB (w.alloc (.cells #[.int .i64 t.A.F.T, .int .i64 t.A.F.K, .int .i64 t.A.F.N, .int .i64 t.A.G, .int .i64 t.A.V, .int .i64 t.A.L, .int .i64 t.E.T, .int .i64 t.E.K, .int .i64 t.E.N, .int .i64 t.P] ty)) b t :=
  ⟨cell_new _ _ _ _ 0 hb, cell_new _ _ _ _ 1 hb, cell_new _ _ _ _ 2 hb, cell_new _ _ _ _ 3 hb, cell_new _ _ _ _ 4 hb, cell_new _ _ _ _ 5 hb, cell_new _ _ _ _ 6 hb, cell_new _ _ _ _ 7 hb, cell_new _ _ _ _ 8 hb, cell_new _ _ _ _ 9 hb⟩

def lfillTo (n : Nat) (t : Twr) (s : St) : Nat → St
  | 0 => Ep.fillSt n t.E (afillSt n t.A s)
  | k + 1 => acc n (lfillTo n t s k) 2 (t.P + k) true 0
def lfillSt (n : Nat) (t : Twr) (s : St) : St := lfillTo n t s 3
def tfillTo (n : Nat) (t : Twr) (s : St) : Nat → St
  | 0 => lfillSt n t s
  | k + 1 => acc n (tfillTo n t s k) 2 (nextI t (-1) k) true 0
def tfillSt (n : Nat) (t : Twr) (s : St) : St := tfillTo n t s t.G.toNat
structure LOk (t : Twr) (n : Nat) : Prop where
  A : t.A.Ok n
  N1 : 1 ≤ t.E.N
  N2 : t.E.N ≤ 64
  K0 : 0 ≤ t.E.K
  K1 : t.E.K ≤ 10000
  P0 : 0 ≤ t.P
  P1 : t.P ≤ 10000
theorem lfillTo_cnt {n : Nat} {t : Twr} (s : St) (h : LOk t n) : ∀ k : Nat, (lfillTo n t s k).cnt = s.cnt + 3 + 2 * t.A.F.N + t.E.N + k
  | 0 => by
    show (Ep.fillTo n t.E (afillSt n t.A s) t.E.N.toNat).cnt = _
    have := h.N1
    rw [Ep.fillTo_cnt, afillSt_cnt h.A.F.N1]; omega
  | k + 1 => by
    show (acc n (lfillTo n t s k) 2 (t.P + k) true 0).cnt = _
    rw [Sk.acc_cnt, lfillTo_cnt s h k]; omega
theorem lfillTo_wd {n : Nat} {t : Twr} {s : St} (h : LOk t n) (hs : Wd n s) : ∀ k : Nat, Wd n (lfillTo n t s k)
  | 0 => Ep.fillTo_wd (afillSt_wd hs h.A.F.N2) _
  | k + 1 => (lfillTo_wd h hs k).acc _ _ _ _ (by omega) (by omega)
theorem tfillTo_cnt {n : Nat} {t : Twr} (s : St) (h : LOk t n) : ∀ k : Nat, (tfillTo n t s k).cnt = s.cnt + 6 + 2 * t.A.F.N + t.E.N + k
  | 0 => by show (lfillTo n t s 3).cnt = _; rw [lfillTo_cnt s h]; omega
  | k + 1 => by show (acc n (tfillTo n t s k) 2 (nextI t (-1) k) true 0).cnt = _; rw [Sk.acc_cnt, tfillTo_cnt s h k]; omega
theorem tfillTo_wd {n : Nat} {t : Twr} {s : St} (h : LOk t n) (hs : Wd n s) : ∀ k : Nat, Wd n (tfillTo n t s k)
  | 0 => lfillTo_wd h hs 3
  | k + 1 => (tfillTo_wd h hs k).acc _ _ _ _ (by omega) (by omega)

set_option maxHeartbeats 2000000 in
theorem p_lfill (M B n : Nat) (t : Twr) (s : St) (w : World) (hm : PMem w M B n s) (h0 : 0 ≤ s.cnt) (h1 : s.cnt ≤ 800000) (hL : LOk t n) :
    Calls Try.prog 53 #[limV t, .pointer (some ⟨M, 0, none⟩)] w fun e w' => e = .returned (.tuple #[]) ∧ PMem w' M B n (lfillSt n t s) ∧ But (fun k => k = B) w w' := by
  have hB := pmem_lt hm
  have P0 := hL.P0
  have P1 := hL.P1
  have HF : ∀ W, Kept w W → Hid (Calls Try.prog 93 #[.agg #[.int .i64 t.A.F.T, .int .i64 t.A.F.K, .int .i64 t.A.F.N, .int .i64 t.A.G, .int .i64 t.A.V, .int .i64 t.A.L], .pointer (some ⟨M, 0, none⟩)] W fun e w' => e = .returned (.tuple #[]) ∧ PMem w' M B n (afillSt n t.A s) ∧ But (fun k => k = B) W w') := fun W k => Lib.hid (p_afill M B n t.A s W (pmem_kept hm k) h0 (by omega) hL.A)
  have C1 : 0 ≤ (afillSt n t.A s).cnt ∧ (afillSt n t.A s).cnt ≤ 900000 := by have := hL.A.F.N1; have := hL.A.F.N2; rw [afillSt_cnt hL.A.F.N1]; omega
  have HG : ∀ W, PMem W M B n (afillSt n t.A s) → Hid (Calls Try.prog 94 #[.agg #[.int .i64 t.E.T, .int .i64 t.E.K, .int .i64 t.E.N], .pointer (some ⟨M, 0, none⟩)] W fun e w' => e = .returned (.tuple #[]) ∧ PMem w' M B n (lfillTo n t s 0) ∧ But (fun k => k = B) W w') := fun W m => Lib.hid (Ep.p_fill M B n t.E _ W m C1.1 C1.2 hL.N1 hL.N2 hL.K0 hL.K1)
  have C2 : ∀ k : Nat, k ≤ 4096 → 0 ≤ (lfillTo n t s k).cnt ∧ (lfillTo n t s k).cnt ≤ 1000000 := fun k hk => by have := hL.A.F.N1; have := hL.A.F.N2; have := hL.N1; have := hL.N2; rw [lfillTo_cnt s hL]; omega
  have HC2 := Lib.hid C2
  have hne : w.heap.size ≠ B := by omega
  clear hm hL C1 C2
  go_enter Try.func53, Try.ntmps53
  go_wp2_with fail
  refine (HF _ (by (go_light; repeat (first | (with_reducible exact Kept.refl _) | (with_reducible assumption) | (with_reducible refine Kept.alloc ?_ _ _) | (with_reducible refine Kept.drew ?_) | (with_reducible refine Kept.drewN ?_ _) | ((with_reducible refine Kept.setCell ?_ ?_ _); rotate_left; focus (first | (simp; done) | (simp; omega))) | refine Kept.trans ?_ (by assumption))))).out.mono ?_
  rintro e w1 ⟨rfl, m1, b1⟩
  obtain ⟨l0, l1, l2, l3, l4, l5, l6, l7, l8, l9⟩ := (LB.new w w.heap.size 29 rfl t).but b1 hne
  have BW1 : Hid (But (fun k => k = B) w w1) := Lib.hid ((Kept.but ((Kept.refl w).alloc _ _) _).trans b1 (fun _ _ h => h))
  have M1 := Lib.hid m1
  have hz1 := b1.size
  simp at hz1
  clear m1 b1 HF
  go_wp2_with fail
  refine (HG _ M1.out).out.mono ?_
  rintro e w2 ⟨rfl, m2, b2⟩
  obtain ⟨l0, l1, l2, l3, l4, l5, l6, l7, l8, l9⟩ := LB.but ⟨l0, l1, l2, l3, l4, l5, l6, l7, l8, l9⟩ b2 hne
  have BW2 := Lib.hid (BW1.out.trans b2 (fun _ _ h => h))
  have M2 := Lib.hid m2
  have hz2 := b2.size
  clear m2 b2 HG M1
  go_wp2_with fail
  have LL := Lib.hid (LB.mk l0 l1 l2 l3 l4 l5 l6 l7 l8 l9)
  have lz := lt_of_cell l0
  have hl9 := l9
  clear l0 l1 l2 l3 l4 l5 l6 l7 l8 l9
  go_loopw [13, 4] (fun i _ wr => ∃ k : Nat, k ≤ 3 ∧ i = .int .i64 k ∧ PMem wr M B n (lfillTo n t s k) ∧ But (fun k => k = B) w2 wr) (fun i _ _ => 3 - (intOf i).toNat)
  case atStart => exact ⟨0, Nat.zero_le _, rfl, M2.out, But.refl _ _⟩
  case round =>
    obtain ⟨k, hk, rfl, mr, br⟩ := hrel
    have LR := LB.but LL.out br hne
    have MR := Lib.hid mr
    have BR := Lib.hid br
    have hc := Lib.hid (HC2.out k (by omega))
    obtain ⟨l0, l1, l2, l3, l4, l5, l6, l7, l8, l9⟩ := LR
    clear mr br hl9
    by_cases hlt : k < 3
    · have hl : (k : Int) < 3 := by omega
      go_wp2_with fail
      refine (p_store M B n _ (t.P + k) 0 _ MR.out hc.out.1 hc.out.2).mono ?_
      rintro e w7 ⟨rfl, m7, b7⟩
      have M7 := Lib.hid m7
      have B7 := Lib.hid (BR.out.trans b7 (fun _ _ h => h))
      clear m7 b7
      go_wp2
      go_roundw
      case rel => exact ⟨k + 1, by omega, by go_num, M7.out, B7.out⟩
      case measure => simp [intOf]; omega
    · have hl : ¬ (k : Int) < 3 := by omega
      have hkm : k = 3 := by omega
      have HKM := Lib.hid hkm
      clear hkm
      go_wp2
      go_end0
      refine ⟨rfl, ?_, BW2.out.trans BR.out (fun _ _ h => h)⟩
      have := MR.out
      rw [HKM.out] at this
      exact this

set_option maxHeartbeats 2000000 in
theorem p_tfill (M B n : Nat) (t : Twr) (s : St) (w : World) (hm : PMem w M B n s) (h0 : 0 ≤ s.cnt) (h1 : s.cnt ≤ 800000) (hL : LOk t n) (hS : t.Sound) :
    Calls Try.prog 24 #[towV t, .pointer (some ⟨M, 0, none⟩)] w fun e w' => e = .returned (.tuple #[]) ∧ PMem w' M B n (tfillSt n t s) ∧ But (fun k => k = B) w w' := by
  have hB := pmem_lt hm
  have G1 := hS.G1
  have G2 := hS.G2
  have SY := fun W => Lib.hid (sound_in t hS W)
  have HF : ∀ W, Kept w W → Hid (Calls Try.prog 53 #[limV t, .pointer (some ⟨M, 0, none⟩)] W fun e w' => e = .returned (.tuple #[]) ∧ PMem w' M B n (tfillTo n t s 0) ∧ But (fun k => k = B) W w') := fun W k => Lib.hid (p_lfill M B n t s W (pmem_kept hm k) h0 h1 hL)
  have C2 : ∀ k : Nat, k ≤ 4096 → 0 ≤ (tfillTo n t s k).cnt ∧ (tfillTo n t s k).cnt ≤ 1000000 := fun k hk => by have := hL.A.F.N1; have := hL.A.F.N2; have := hL.N1; have := hL.N2; rw [tfillTo_cnt s hL]; omega
  have HC2 := Lib.hid C2
  have hne : w.heap.size ≠ B := by omega
  clear hm hL C2 hS
  go_enter Try.func24, Try.ntmps24
  go_wp2_with fail
  refine (SY _).out.mono ?_
  rintro e w0 ⟨rfl, k0⟩
  obtain ⟨a0, a1, a2, a3, a4, a5, a6, a7, a8, a9, a10, a11, a12⟩ := TB.kept (TB.new w w.heap.size 31 rfl t) k0
  have K0 : Hid (Kept w w0) := Lib.hid (((Kept.refl w).alloc _ _).trans k0)
  clear k0
  go_wp2_with fail
  refine (HF _ K0.out).out.mono ?_
  rintro e w1 ⟨rfl, m1, b1⟩
  have T1 := TB.but ⟨a0, a1, a2, a3, a4, a5, a6, a7, a8, a9, a10, a11, a12⟩ b1 hne
  have BW1 : Hid (But (fun k => k = B) w w1) := Lib.hid ((K0.out.but _).trans b1 (fun _ _ h => h))
  have M1 := Lib.hid m1
  have hz1 := (TB.c0 T1)
  have lz := lt_of_cell hz1
  obtain ⟨m, hmm⟩ : ∃ m : Nat, (m : Int) = t.G := ⟨t.G.toNat, by omega⟩
  have HMM := Lib.hid hmm
  have TT := Lib.hid T1
  have hg2 := T1.c2
  clear T1 m1 b1 HF a0 a1 a2 a3 a4 a5 a6 a7 a8 a9 a10 a11 a12 hz1 hmm
  go_wp2_with fail
  go_loopw [14, 4] (fun i _ wr => ∃ k : Nat, k ≤ m ∧ i = .int .i64 k ∧ PMem wr M B n (tfillTo n t s k) ∧ But (fun k => k = B) w1 wr) (fun i _ _ => m - (intOf i).toNat)
  case atStart => exact ⟨0, Nat.zero_le _, rfl, M1.out, But.refl _ _⟩
  case round =>
    obtain ⟨k, hk, rfl, mr, br⟩ := hrel
    have TR := TB.but TT.out br hne
    have hmm := HMM.out
    have MR := Lib.hid mr
    have BR := Lib.hid br
    have hc := Lib.hid (HC2.out k (by omega))
    obtain ⟨a0, a1, a2, a3, a4, a5, a6, a7, a8, a9, a10, a11, a12⟩ := TR
    clear mr br hg2
    by_cases hlt : k < m
    · have hl : (k : Int) < t.G := by omega
      have HN := fun W => Lib.hid (next_any t (-1) (k : Int) (by unfold I64; omega) W)
      clear hmm
      go_wp2_with fail
      refine (HN _).out.mono ?_
      rintro e w5 ⟨rfl, k5⟩
      have K5 := Lib.hid k5
      clear k5
      go_wp2_with fail
      refine (p_store M B n _ (nextI t (-1) k) 0 _ (pmem_kept MR.out K5.out) hc.out.1 hc.out.2).mono ?_
      rintro e w7 ⟨rfl, m7, b7⟩
      have M7 := Lib.hid m7
      have B7 := Lib.hid ((BR.out.then K5.out).trans b7 (fun _ _ h => h))
      clear m7 b7
      go_wp2
      go_roundw
      case rel => exact ⟨k + 1, by omega, by go_num, M7.out, B7.out⟩
      case measure => simp [intOf]; omega
    · have hl : t.G ≤ (k : Int) := by omega
      have hkm : k = t.G.toNat := by omega
      have HKM := Lib.hid hkm
      clear hmm hkm
      go_wp2
      go_end0
      refine ⟨rfl, ?_, BW1.out.trans BR.out (fun _ _ h => h)⟩
      have := MR.out
      rw [HKM.out] at this
      exact this
theorem tfill_bad (t : Twr) (h : ¬ t.Sound) (m : Value) (w : World) (hm : m = .pointer none ∨ ∃ M, m = .pointer (some ⟨M, 0, none⟩)) : Calls Try.prog 24 #[towV t, m] w fun e w' => e = .returned (.tuple #[]) ∧ Kept w w' := by
  have SN := fun W => Lib.hid (sound_no t h W)
  clear h
  rcases hm with rfl | ⟨M, rfl⟩
  all_goals
    go_enter Try.func24, Try.ntmps24
    go_wp2_with fail
    refine (SN _).out.mono ?_
    rintro e w1 ⟨rfl, k1⟩
    go_wp2
    exact bodyPost_ret (v := .tuple #[]) (by simp [results, Try.results24, go_sem]) rfl ⟨rfl, by (go_light; repeat (first | (with_reducible exact Kept.refl _) | (with_reducible assumption) | (with_reducible refine Kept.alloc ?_ _ _) | (with_reducible refine Kept.drew ?_) | (with_reducible refine Kept.drewN ?_ _) | ((with_reducible refine Kept.setCell ?_ ?_ _); rotate_left; focus (first | (simp; done) | (simp; omega))) | refine Kept.trans ?_ (by assumption)))⟩
end Go.Proofs.Ytbechdgcepiecaa.Tw

namespace Go.Proofs.Ytbechdgcepiecaa.Tw
set_option maxRecDepth 20000
open Go.RowKit
open Wo (St acc wordAt PMem RefIs)
open Sk (Stk Arn idx Wd p_store pmem_lt pmem_kept pmem_frame kept_of)

theorem nx_nil (w : World) : (binOp .eql 43 .nilFunc .nilFunc).run Try.prog w = .ok (.bool true) w := by
  kernel_rfl
theorem nx_func (f : Fn) (x y : Array Value) (w : World) : (binOp .eql 43 (.func f x y) .nilFunc).run Try.prog w = .ok (.bool false) w := by
  kernel_rfl
def gri (n : Int) : Int := bif Wo.goodRef n then Wo.rIdx n else 0
def grg (n : Int) : Int := bif Wo.goodRef n then Wo.rGen n else 0
def grm (n : Int) : Bool := bif Wo.goodRef n then Wo.markOf n else false
def gre (n : Int) : Int := bif Wo.goodRef n then 0 else 5
theorem get_ref (n : Int) (w : World) (h0 : 0 ≤ n) (h1 : n < 18446744073709551616) : Calls Try.prog 85 #[.int .u64 n] w fun e w' => e = .returned (.tuple #[.agg #[.int .i64 (gri n), .int .i64 (grg n), .bool (grm n)], .int .i64 (gre n)]) ∧ Kept w w' := by
  cases hg : Wo.goodRef n with
  | true =>
    have h := Wo.get_ref_yes n w h0 h1 hg
    simp only [gri, grg, grm, gre, hg, cond_true]
    exact h.mono fun _ _ ⟨x, k⟩ => ⟨x, kept_of k⟩
  | false =>
    simp only [gri, grg, grm, gre, hg, cond_false]
    by_cases hb : (Wo.putRef (Wo.rIdx n) (Wo.rGen n) (Wo.markOf n)).2 = 0
    · by_cases ha : (Wo.putRef (Wo.rIdx n) (Wo.rGen n) (Wo.markOf n)).1 = n
      · exfalso
        have : Wo.putRef (Wo.rIdx n) (Wo.rGen n) (Wo.markOf n) = (n, 0) := Prod.ext ha hb
        unfold Wo.goodRef at hg
        rw [this] at hg
        simp at hg
      · exact (Wo.get_ref_word n w h0 h1 hb ha).mono fun _ _ ⟨x, k⟩ => ⟨x, kept_of k⟩
    · exact (Wo.get_ref_err n w h0 h1 hb).mono fun _ _ ⟨x, k⟩ => ⟨x, kept_of k⟩
def laidE (t : Twr) (r j h : Int) : Int :=
  if ¬ t.Sound then 2 else if gre r ≠ 0 then gre r else if grm r = true ∨ gri r < 0 ∨ t.A.F.N ≤ gri r then 3 else if j < 0 ∨ 65534 < j then 3 else if h < 1 ∨ t.G < h then 3 else 0
def laidI (t : Twr) (r j h : Int) : Int := if laidE t r j h = 0 then gri r else -1
set_option maxHeartbeats 1000000 in
theorem laid_s (t : Twr) (r j h : Int) (hs : ¬ t.Sound) (w : World) : Calls Try.prog 42 #[towV t, .int .u64 r, .int .i64 j, .int .i64 h] w fun e w' => e = .returned (.tuple #[.int .i64 (-1), .int .i64 2]) ∧ Kept w w' := by
  have HS := fun W => Lib.hid (sound_no t hs W)
  clear hs
  go_enter Try.func42, Try.ntmps42
  go_wp2_with fail
  refine (HS _).out.mono ?_
  rintro e w1 ⟨rfl, k1⟩
  obtain ⟨a0, a1, a2, a3, a4, a5, a6, a7, a8, a9, a10, a11, a12⟩ := TB.kept (TB.new w _ _ rfl t) k1
  go_wp2
  go_ret2
  exact ⟨rfl, by (go_light; repeat (first | (with_reducible exact Kept.refl _) | (with_reducible assumption) | (with_reducible refine Kept.alloc ?_ _ _) | (with_reducible refine Kept.drew ?_) | (with_reducible refine Kept.drewN ?_ _) | ((with_reducible refine Kept.setCell ?_ ?_ _); rotate_left; focus (first | (simp; done) | (simp; omega))) | refine Kept.trans ?_ (by assumption)))⟩
set_option maxHeartbeats 1000000 in
theorem laid_f (t : Twr) (r j h : Int) (hs : t.Sound) (er : Int) (he : er ≠ 0) (m : Bool) (i g : Int) (hr : ∀ W, Calls Try.prog 85 #[.int .u64 r] W fun e w' => e = .returned (.tuple #[.agg #[.int .i64 i, .int .i64 g, .bool m], .int .i64 er]) ∧ Kept W w') (w : World) : Calls Try.prog 42 #[towV t, .int .u64 r, .int .i64 j, .int .i64 h] w fun e w' => e = .returned (.tuple #[.int .i64 (-1), .int .i64 er]) ∧ Kept w w' := by
  have HS := fun W => Lib.hid (sound_in t hs W)
  have HR := fun W => Lib.hid (show Calls Try.prog 85 #[.int .u64 r] W fun e w' => e = .returned (.tuple #[.agg #[.int .i64 i, .int .i64 g, .bool m], .int .i64 er]) ∧ Kept W w' from hr W)
  have hb : (er != 0) = true := by simpa using he
  clear hs hr
  go_enter Try.func42, Try.ntmps42
  go_wp2_with fail
  refine (HS _).out.mono ?_
  rintro e w1 ⟨rfl, k1⟩
  obtain ⟨a0, a1, a2, a3, a4, a5, a6, a7, a8, a9, a10, a11, a12⟩ := TB.kept (TB.new w _ _ rfl t) k1
  go_wp2_with fail
  refine (HR _).out.mono ?_
  rintro e w2 ⟨rfl, k2⟩
  obtain ⟨a0, a1, a2, a3, a4, a5, a6, a7, a8, a9, a10, a11, a12⟩ := TB.kept ⟨a0, a1, a2, a3, a4, a5, a6, a7, a8, a9, a10, a11, a12⟩ k2
  have lz := lt_of_cell a0
  go_wp2
  go_ret2
  exact ⟨rfl, by (go_light; repeat (first | (with_reducible exact Kept.refl _) | (with_reducible assumption) | (with_reducible refine Kept.alloc ?_ _ _) | (with_reducible refine Kept.drew ?_) | (with_reducible refine Kept.drewN ?_ _) | ((with_reducible refine Kept.setCell ?_ ?_ _); rotate_left; focus (first | (simp; done) | (simp; omega))) | refine Kept.trans ?_ (by assumption)))⟩
set_option maxHeartbeats 1000000 in
theorem laid_m (t : Twr) (r j h : Int) (hs : t.Sound) (i g : Int) (hr : ∀ W, Calls Try.prog 85 #[.int .u64 r] W fun e w' => e = .returned (.tuple #[.agg #[.int .i64 i, .int .i64 g, .bool true], .int .i64 0]) ∧ Kept W w') (w : World) : Calls Try.prog 42 #[towV t, .int .u64 r, .int .i64 j, .int .i64 h] w fun e w' => e = .returned (.tuple #[.int .i64 (-1), .int .i64 3]) ∧ Kept w w' := by
  have HS := fun W => Lib.hid (sound_in t hs W)
  have HR := fun W => Lib.hid (show Calls Try.prog 85 #[.int .u64 r] W fun e w' => e = .returned (.tuple #[.agg #[.int .i64 i, .int .i64 g, .bool true], .int .i64 0]) ∧ Kept W w' from hr W)
  clear hs hr
  go_enter Try.func42, Try.ntmps42
  go_wp2_with fail
  refine (HS _).out.mono ?_
  rintro e w1 ⟨rfl, k1⟩
  obtain ⟨a0, a1, a2, a3, a4, a5, a6, a7, a8, a9, a10, a11, a12⟩ := TB.kept (TB.new w _ _ rfl t) k1
  go_wp2_with fail
  refine (HR _).out.mono ?_
  rintro e w2 ⟨rfl, k2⟩
  obtain ⟨a0, a1, a2, a3, a4, a5, a6, a7, a8, a9, a10, a11, a12⟩ := TB.kept ⟨a0, a1, a2, a3, a4, a5, a6, a7, a8, a9, a10, a11, a12⟩ k2
  have lz := lt_of_cell a0
  go_wp2
  go_ret2
  exact ⟨rfl, by (go_light; repeat (first | (with_reducible exact Kept.refl _) | (with_reducible assumption) | (with_reducible refine Kept.alloc ?_ _ _) | (with_reducible refine Kept.drew ?_) | (with_reducible refine Kept.drewN ?_ _) | ((with_reducible refine Kept.setCell ?_ ?_ _); rotate_left; focus (first | (simp; done) | (simp; omega))) | refine Kept.trans ?_ (by assumption)))⟩
set_option maxHeartbeats 1000000 in
theorem laid_n (t : Twr) (r j h : Int) (hs : t.Sound) (i g : Int) (hr : ∀ W, Calls Try.prog 85 #[.int .u64 r] W fun e w' => e = .returned (.tuple #[.agg #[.int .i64 i, .int .i64 g, .bool false], .int .i64 0]) ∧ Kept W w') (hi : i < 0 ∨ t.A.F.N ≤ i) (w : World) : Calls Try.prog 42 #[towV t, .int .u64 r, .int .i64 j, .int .i64 h] w fun e w' => e = .returned (.tuple #[.int .i64 (-1), .int .i64 3]) ∧ Kept w w' := by
  have HS := fun W => Lib.hid (sound_in t hs W)
  have HR := fun W => Lib.hid (show Calls Try.prog 85 #[.int .u64 r] W fun e w' => e = .returned (.tuple #[.agg #[.int .i64 i, .int .i64 g, .bool false], .int .i64 0]) ∧ Kept W w' from hr W)
  have HN := fun W => Lib.hid (isNode_no t i hi W)
  clear hs hr hi
  go_enter Try.func42, Try.ntmps42
  go_wp2_with fail
  refine (HS _).out.mono ?_
  rintro e w1 ⟨rfl, k1⟩
  obtain ⟨a0, a1, a2, a3, a4, a5, a6, a7, a8, a9, a10, a11, a12⟩ := TB.kept (TB.new w _ _ rfl t) k1
  go_wp2_with fail
  refine (HR _).out.mono ?_
  rintro e w2 ⟨rfl, k2⟩
  obtain ⟨a0, a1, a2, a3, a4, a5, a6, a7, a8, a9, a10, a11, a12⟩ := TB.kept ⟨a0, a1, a2, a3, a4, a5, a6, a7, a8, a9, a10, a11, a12⟩ k2
  have lz := lt_of_cell a0
  go_wp2_with fail
  refine (HN _).out.mono ?_
  rintro e w3 ⟨rfl, k3⟩
  obtain ⟨a0, a1, a2, a3, a4, a5, a6, a7, a8, a9, a10, a11, a12⟩ := TB.kept ⟨a0, a1, a2, a3, a4, a5, a6, a7, a8, a9, a10, a11, a12⟩ (Kept.trans (b := _) (by (go_light; repeat (first | (with_reducible exact Kept.refl _) | (with_reducible assumption) | (with_reducible refine Kept.alloc ?_ _ _) | (with_reducible refine Kept.drew ?_) | (with_reducible refine Kept.drewN ?_ _) | ((with_reducible refine Kept.setCell ?_ ?_ _); rotate_left; focus (first | (simp; done) | (simp; omega))) | refine Kept.trans ?_ (by assumption)))) k3)
  have r0 : w3.cell? ⟨w2.heap.size, 0, none⟩ = some (.int .i64 i) := k3.some (by simp)
  go_wp2
  go_ret2
  exact ⟨rfl, by (go_light; repeat (first | (with_reducible exact Kept.refl _) | (with_reducible assumption) | (with_reducible refine Kept.alloc ?_ _ _) | (with_reducible refine Kept.drew ?_) | (with_reducible refine Kept.drewN ?_ _) | ((with_reducible refine Kept.setCell ?_ ?_ _); rotate_left; focus (first | (simp; done) | (simp; omega))) | refine Kept.trans ?_ (by assumption)))⟩
set_option maxHeartbeats 1000000 in
theorem laid_j1 (t : Twr) (r j h : Int) (hs : t.Sound) (i g : Int) (hr : ∀ W, Calls Try.prog 85 #[.int .u64 r] W fun e w' => e = .returned (.tuple #[.agg #[.int .i64 i, .int .i64 g, .bool false], .int .i64 0]) ∧ Kept W w') (hi : 0 ≤ i ∧ i < t.A.F.N) (hj : j < 0) (w : World) : Calls Try.prog 42 #[towV t, .int .u64 r, .int .i64 j, .int .i64 h] w fun e w' => e = .returned (.tuple #[.int .i64 (-1), .int .i64 3]) ∧ Kept w w' := by
  have HS := fun W => Lib.hid (sound_in t hs W)
  have HR := fun W => Lib.hid (show Calls Try.prog 85 #[.int .u64 r] W fun e w' => e = .returned (.tuple #[.agg #[.int .i64 i, .int .i64 g, .bool false], .int .i64 0]) ∧ Kept W w' from hr W)
  have HN := fun W => Lib.hid (isNode_yes t i hi.1 hi.2 W)
  clear hs hr hi
  go_enter Try.func42, Try.ntmps42
  go_wp2_with fail
  refine (HS _).out.mono ?_
  rintro e w1 ⟨rfl, k1⟩
  obtain ⟨a0, a1, a2, a3, a4, a5, a6, a7, a8, a9, a10, a11, a12⟩ := TB.kept (TB.new w _ _ rfl t) k1
  go_wp2_with fail
  refine (HR _).out.mono ?_
  rintro e w2 ⟨rfl, k2⟩
  obtain ⟨a0, a1, a2, a3, a4, a5, a6, a7, a8, a9, a10, a11, a12⟩ := TB.kept ⟨a0, a1, a2, a3, a4, a5, a6, a7, a8, a9, a10, a11, a12⟩ k2
  have lz := lt_of_cell a0
  go_wp2_with fail
  refine (HN _).out.mono ?_
  rintro e w3 ⟨rfl, k3⟩
  obtain ⟨a0, a1, a2, a3, a4, a5, a6, a7, a8, a9, a10, a11, a12⟩ := TB.kept ⟨a0, a1, a2, a3, a4, a5, a6, a7, a8, a9, a10, a11, a12⟩ (Kept.trans (b := _) (by (go_light; repeat (first | (with_reducible exact Kept.refl _) | (with_reducible assumption) | (with_reducible refine Kept.alloc ?_ _ _) | (with_reducible refine Kept.drew ?_) | (with_reducible refine Kept.drewN ?_ _) | ((with_reducible refine Kept.setCell ?_ ?_ _); rotate_left; focus (first | (simp; done) | (simp; omega))) | refine Kept.trans ?_ (by assumption)))) k3)
  have r0 : w3.cell? ⟨w2.heap.size, 0, none⟩ = some (.int .i64 i) := k3.some (by simp)
  go_wp2
  go_ret2
  exact ⟨rfl, by (go_light; repeat (first | (with_reducible exact Kept.refl _) | (with_reducible assumption) | (with_reducible refine Kept.alloc ?_ _ _) | (with_reducible refine Kept.drew ?_) | (with_reducible refine Kept.drewN ?_ _) | ((with_reducible refine Kept.setCell ?_ ?_ _); rotate_left; focus (first | (simp; done) | (simp; omega))) | refine Kept.trans ?_ (by assumption)))⟩
set_option maxHeartbeats 1000000 in
theorem laid_j2 (t : Twr) (r j h : Int) (hs : t.Sound) (i g : Int) (hr : ∀ W, Calls Try.prog 85 #[.int .u64 r] W fun e w' => e = .returned (.tuple #[.agg #[.int .i64 i, .int .i64 g, .bool false], .int .i64 0]) ∧ Kept W w') (hi : 0 ≤ i ∧ i < t.A.F.N) (hj0 : 0 ≤ j) (hj : 65534 < j) (w : World) : Calls Try.prog 42 #[towV t, .int .u64 r, .int .i64 j, .int .i64 h] w fun e w' => e = .returned (.tuple #[.int .i64 (-1), .int .i64 3]) ∧ Kept w w' := by
  have HS := fun W => Lib.hid (sound_in t hs W)
  have HR := fun W => Lib.hid (show Calls Try.prog 85 #[.int .u64 r] W fun e w' => e = .returned (.tuple #[.agg #[.int .i64 i, .int .i64 g, .bool false], .int .i64 0]) ∧ Kept W w' from hr W)
  have HN := fun W => Lib.hid (isNode_yes t i hi.1 hi.2 W)
  clear hs hr hi
  go_enter Try.func42, Try.ntmps42
  go_wp2_with fail
  refine (HS _).out.mono ?_
  rintro e w1 ⟨rfl, k1⟩
  obtain ⟨a0, a1, a2, a3, a4, a5, a6, a7, a8, a9, a10, a11, a12⟩ := TB.kept (TB.new w _ _ rfl t) k1
  go_wp2_with fail
  refine (HR _).out.mono ?_
  rintro e w2 ⟨rfl, k2⟩
  obtain ⟨a0, a1, a2, a3, a4, a5, a6, a7, a8, a9, a10, a11, a12⟩ := TB.kept ⟨a0, a1, a2, a3, a4, a5, a6, a7, a8, a9, a10, a11, a12⟩ k2
  have lz := lt_of_cell a0
  go_wp2_with fail
  refine (HN _).out.mono ?_
  rintro e w3 ⟨rfl, k3⟩
  obtain ⟨a0, a1, a2, a3, a4, a5, a6, a7, a8, a9, a10, a11, a12⟩ := TB.kept ⟨a0, a1, a2, a3, a4, a5, a6, a7, a8, a9, a10, a11, a12⟩ (Kept.trans (b := _) (by (go_light; repeat (first | (with_reducible exact Kept.refl _) | (with_reducible assumption) | (with_reducible refine Kept.alloc ?_ _ _) | (with_reducible refine Kept.drew ?_) | (with_reducible refine Kept.drewN ?_ _) | ((with_reducible refine Kept.setCell ?_ ?_ _); rotate_left; focus (first | (simp; done) | (simp; omega))) | refine Kept.trans ?_ (by assumption)))) k3)
  have r0 : w3.cell? ⟨w2.heap.size, 0, none⟩ = some (.int .i64 i) := k3.some (by simp)
  go_wp2
  go_ret2
  exact ⟨rfl, by (go_light; repeat (first | (with_reducible exact Kept.refl _) | (with_reducible assumption) | (with_reducible refine Kept.alloc ?_ _ _) | (with_reducible refine Kept.drew ?_) | (with_reducible refine Kept.drewN ?_ _) | ((with_reducible refine Kept.setCell ?_ ?_ _); rotate_left; focus (first | (simp; done) | (simp; omega))) | refine Kept.trans ?_ (by assumption)))⟩
set_option maxHeartbeats 1000000 in
theorem laid_h1 (t : Twr) (r j h : Int) (hs : t.Sound) (i g : Int) (hr : ∀ W, Calls Try.prog 85 #[.int .u64 r] W fun e w' => e = .returned (.tuple #[.agg #[.int .i64 i, .int .i64 g, .bool false], .int .i64 0]) ∧ Kept W w') (hi : 0 ≤ i ∧ i < t.A.F.N) (hj0 : 0 ≤ j) (hj : j ≤ 65534) (hh : h < 1) (w : World) : Calls Try.prog 42 #[towV t, .int .u64 r, .int .i64 j, .int .i64 h] w fun e w' => e = .returned (.tuple #[.int .i64 (-1), .int .i64 3]) ∧ Kept w w' := by
  have HS := fun W => Lib.hid (sound_in t hs W)
  have HR := fun W => Lib.hid (show Calls Try.prog 85 #[.int .u64 r] W fun e w' => e = .returned (.tuple #[.agg #[.int .i64 i, .int .i64 g, .bool false], .int .i64 0]) ∧ Kept W w' from hr W)
  have HN := fun W => Lib.hid (isNode_yes t i hi.1 hi.2 W)
  have d1 : decide (65534 < j) = false := by simp; omega
  clear hs hr hi
  go_enter Try.func42, Try.ntmps42
  go_wp2_with fail
  refine (HS _).out.mono ?_
  rintro e w1 ⟨rfl, k1⟩
  obtain ⟨a0, a1, a2, a3, a4, a5, a6, a7, a8, a9, a10, a11, a12⟩ := TB.kept (TB.new w _ _ rfl t) k1
  go_wp2_with fail
  refine (HR _).out.mono ?_
  rintro e w2 ⟨rfl, k2⟩
  obtain ⟨a0, a1, a2, a3, a4, a5, a6, a7, a8, a9, a10, a11, a12⟩ := TB.kept ⟨a0, a1, a2, a3, a4, a5, a6, a7, a8, a9, a10, a11, a12⟩ k2
  have lz := lt_of_cell a0
  go_wp2_with fail
  refine (HN _).out.mono ?_
  rintro e w3 ⟨rfl, k3⟩
  obtain ⟨a0, a1, a2, a3, a4, a5, a6, a7, a8, a9, a10, a11, a12⟩ := TB.kept ⟨a0, a1, a2, a3, a4, a5, a6, a7, a8, a9, a10, a11, a12⟩ (Kept.trans (b := _) (by (go_light; repeat (first | (with_reducible exact Kept.refl _) | (with_reducible assumption) | (with_reducible refine Kept.alloc ?_ _ _) | (with_reducible refine Kept.drew ?_) | (with_reducible refine Kept.drewN ?_ _) | ((with_reducible refine Kept.setCell ?_ ?_ _); rotate_left; focus (first | (simp; done) | (simp; omega))) | refine Kept.trans ?_ (by assumption)))) k3)
  have r0 : w3.cell? ⟨w2.heap.size, 0, none⟩ = some (.int .i64 i) := k3.some (by simp)
  go_wp2
  go_ret2
  exact ⟨rfl, by (go_light; repeat (first | (with_reducible exact Kept.refl _) | (with_reducible assumption) | (with_reducible refine Kept.alloc ?_ _ _) | (with_reducible refine Kept.drew ?_) | (with_reducible refine Kept.drewN ?_ _) | ((with_reducible refine Kept.setCell ?_ ?_ _); rotate_left; focus (first | (simp; done) | (simp; omega))) | refine Kept.trans ?_ (by assumption)))⟩
set_option maxHeartbeats 1000000 in
theorem laid_h2 (t : Twr) (r j h : Int) (hs : t.Sound) (i g : Int) (hr : ∀ W, Calls Try.prog 85 #[.int .u64 r] W fun e w' => e = .returned (.tuple #[.agg #[.int .i64 i, .int .i64 g, .bool false], .int .i64 0]) ∧ Kept W w') (hi : 0 ≤ i ∧ i < t.A.F.N) (hj0 : 0 ≤ j) (hj : j ≤ 65534) (hh0 : 1 ≤ h) (hh : t.G < h) (w : World) : Calls Try.prog 42 #[towV t, .int .u64 r, .int .i64 j, .int .i64 h] w fun e w' => e = .returned (.tuple #[.int .i64 (-1), .int .i64 3]) ∧ Kept w w' := by
  have HS := fun W => Lib.hid (sound_in t hs W)
  have HR := fun W => Lib.hid (show Calls Try.prog 85 #[.int .u64 r] W fun e w' => e = .returned (.tuple #[.agg #[.int .i64 i, .int .i64 g, .bool false], .int .i64 0]) ∧ Kept W w' from hr W)
  have HN := fun W => Lib.hid (isNode_yes t i hi.1 hi.2 W)
  have d1 : decide (65534 < j) = false := by simp; omega
  clear hs hr hi
  go_enter Try.func42, Try.ntmps42
  go_wp2_with fail
  refine (HS _).out.mono ?_
  rintro e w1 ⟨rfl, k1⟩
  obtain ⟨a0, a1, a2, a3, a4, a5, a6, a7, a8, a9, a10, a11, a12⟩ := TB.kept (TB.new w _ _ rfl t) k1
  go_wp2_with fail
  refine (HR _).out.mono ?_
  rintro e w2 ⟨rfl, k2⟩
  obtain ⟨a0, a1, a2, a3, a4, a5, a6, a7, a8, a9, a10, a11, a12⟩ := TB.kept ⟨a0, a1, a2, a3, a4, a5, a6, a7, a8, a9, a10, a11, a12⟩ k2
  have lz := lt_of_cell a0
  go_wp2_with fail
  refine (HN _).out.mono ?_
  rintro e w3 ⟨rfl, k3⟩
  obtain ⟨a0, a1, a2, a3, a4, a5, a6, a7, a8, a9, a10, a11, a12⟩ := TB.kept ⟨a0, a1, a2, a3, a4, a5, a6, a7, a8, a9, a10, a11, a12⟩ (Kept.trans (b := _) (by (go_light; repeat (first | (with_reducible exact Kept.refl _) | (with_reducible assumption) | (with_reducible refine Kept.alloc ?_ _ _) | (with_reducible refine Kept.drew ?_) | (with_reducible refine Kept.drewN ?_ _) | ((with_reducible refine Kept.setCell ?_ ?_ _); rotate_left; focus (first | (simp; done) | (simp; omega))) | refine Kept.trans ?_ (by assumption)))) k3)
  have r0 : w3.cell? ⟨w2.heap.size, 0, none⟩ = some (.int .i64 i) := k3.some (by simp)
  go_wp2
  go_ret2
  exact ⟨rfl, by (go_light; repeat (first | (with_reducible exact Kept.refl _) | (with_reducible assumption) | (with_reducible refine Kept.alloc ?_ _ _) | (with_reducible refine Kept.drew ?_) | (with_reducible refine Kept.drewN ?_ _) | ((with_reducible refine Kept.setCell ?_ ?_ _); rotate_left; focus (first | (simp; done) | (simp; omega))) | refine Kept.trans ?_ (by assumption)))⟩
set_option maxHeartbeats 1000000 in
theorem laid_yes (t : Twr) (r j h : Int) (hs : t.Sound) (i g : Int) (hr : ∀ W, Calls Try.prog 85 #[.int .u64 r] W fun e w' => e = .returned (.tuple #[.agg #[.int .i64 i, .int .i64 g, .bool false], .int .i64 0]) ∧ Kept W w') (hi : 0 ≤ i ∧ i < t.A.F.N) (hj0 : 0 ≤ j) (hj : j ≤ 65534) (hh0 : 1 ≤ h) (hh : h ≤ t.G) (w : World) : Calls Try.prog 42 #[towV t, .int .u64 r, .int .i64 j, .int .i64 h] w fun e w' => e = .returned (.tuple #[.int .i64 (i), .int .i64 0]) ∧ Kept w w' := by
  have HS := fun W => Lib.hid (sound_in t hs W)
  have HR := fun W => Lib.hid (show Calls Try.prog 85 #[.int .u64 r] W fun e w' => e = .returned (.tuple #[.agg #[.int .i64 i, .int .i64 g, .bool false], .int .i64 0]) ∧ Kept W w' from hr W)
  have HN := fun W => Lib.hid (isNode_yes t i hi.1 hi.2 W)
  have d1 : decide (65534 < j) = false := by simp; omega
  have d2 : decide (t.G < h) = false := by simp; omega
  clear hs hr hi
  go_enter Try.func42, Try.ntmps42
  go_wp2_with fail
  refine (HS _).out.mono ?_
  rintro e w1 ⟨rfl, k1⟩
  obtain ⟨a0, a1, a2, a3, a4, a5, a6, a7, a8, a9, a10, a11, a12⟩ := TB.kept (TB.new w _ _ rfl t) k1
  go_wp2_with fail
  refine (HR _).out.mono ?_
  rintro e w2 ⟨rfl, k2⟩
  obtain ⟨a0, a1, a2, a3, a4, a5, a6, a7, a8, a9, a10, a11, a12⟩ := TB.kept ⟨a0, a1, a2, a3, a4, a5, a6, a7, a8, a9, a10, a11, a12⟩ k2
  have lz := lt_of_cell a0
  go_wp2_with fail
  refine (HN _).out.mono ?_
  rintro e w3 ⟨rfl, k3⟩
  obtain ⟨a0, a1, a2, a3, a4, a5, a6, a7, a8, a9, a10, a11, a12⟩ := TB.kept ⟨a0, a1, a2, a3, a4, a5, a6, a7, a8, a9, a10, a11, a12⟩ (Kept.trans (b := _) (by (go_light; repeat (first | (with_reducible exact Kept.refl _) | (with_reducible assumption) | (with_reducible refine Kept.alloc ?_ _ _) | (with_reducible refine Kept.drew ?_) | (with_reducible refine Kept.drewN ?_ _) | ((with_reducible refine Kept.setCell ?_ ?_ _); rotate_left; focus (first | (simp; done) | (simp; omega))) | refine Kept.trans ?_ (by assumption)))) k3)
  have r0 : w3.cell? ⟨w2.heap.size, 0, none⟩ = some (.int .i64 i) := k3.some (by simp)
  go_wp2
  go_ret2
  exact ⟨rfl, by (go_light; repeat (first | (with_reducible exact Kept.refl _) | (with_reducible assumption) | (with_reducible refine Kept.alloc ?_ _ _) | (with_reducible refine Kept.drew ?_) | (with_reducible refine Kept.drewN ?_ _) | ((with_reducible refine Kept.setCell ?_ ?_ _); rotate_left; focus (first | (simp; done) | (simp; omega))) | refine Kept.trans ?_ (by assumption)))⟩
theorem laid_any (t : Twr) (r j h : Int) (r0 : 0 ≤ r) (r1 : r < 18446744073709551616) (w : World) : Calls Try.prog 42 #[towV t, .int .u64 r, .int .i64 j, .int .i64 h] w fun e w' => e = .returned (.tuple #[.int .i64 (laidI t r j h), .int .i64 (laidE t r j h)]) ∧ Kept w w' := by
  have G := fun W => get_ref r W r0 r1
  have fin : ∀ (c : Int), laidE t r j h = c → c ≠ 0 → (Calls Try.prog 42 #[towV t, .int .u64 r, .int .i64 j, .int .i64 h] w fun e w' => e = .returned (.tuple #[.int .i64 (-1), .int .i64 c]) ∧ Kept w w') → Calls Try.prog 42 #[towV t, .int .u64 r, .int .i64 j, .int .i64 h] w fun e w' => e = .returned (.tuple #[.int .i64 (laidI t r j h), .int .i64 (laidE t r j h)]) ∧ Kept w w' := by
    intro c he h0 k
    rw [he, show laidI t r j h = -1 from by unfold laidI; rw [he, if_neg h0]]
    exact k
  by_cases hs : t.Sound
  · have s1 : ¬ ¬ t.Sound := by simpa using hs
    by_cases he : gre r ≠ 0
    · exact fin (gre r) (by unfold laidE; rw [if_neg s1, if_pos he]) he (laid_f t r j h hs _ he _ _ _ G w)
    · have e0 : gre r = 0 := by omega
      rw [e0] at G
      by_cases hm : grm r = true
      · rw [hm] at G
        exact fin 3 (by unfold laidE; rw [if_neg s1, if_neg he, if_pos (Or.inl hm)]) (by decide) (laid_m t r j h hs _ _ G w)
      · have m0 : grm r = false := by simpa using hm
        rw [m0] at G
        by_cases hi : gri r < 0 ∨ t.A.F.N ≤ gri r
        · exact fin 3 (by unfold laidE; rw [if_neg s1, if_neg he, if_pos (Or.inr hi)]) (by decide) (laid_n t r j h hs _ _ G hi w)
        · have s3 : ¬ (grm r = true ∨ gri r < 0 ∨ t.A.F.N ≤ gri r) := by rw [m0]; simp; omega
          by_cases j1 : j < 0
          · exact fin 3 (by unfold laidE; rw [if_neg s1, if_neg he, if_neg s3, if_pos (Or.inl j1)]) (by decide) (laid_j1 t r j h hs _ _ G (by omega) j1 w)
          by_cases j2 : 65534 < j
          · exact fin 3 (by unfold laidE; rw [if_neg s1, if_neg he, if_neg s3, if_pos (Or.inr j2)]) (by decide) (laid_j2 t r j h hs _ _ G (by omega) (by omega) j2 w)
          have s4 : ¬ (j < 0 ∨ 65534 < j) := by omega
          by_cases h1 : h < 1
          · exact fin 3 (by unfold laidE; rw [if_neg s1, if_neg he, if_neg s3, if_neg s4, if_pos (Or.inl h1)]) (by decide) (laid_h1 t r j h hs _ _ G (by omega) (by omega) (by omega) h1 w)
          by_cases h2 : t.G < h
          · exact fin 3 (by unfold laidE; rw [if_neg s1, if_neg he, if_neg s3, if_neg s4, if_pos (Or.inr h2)]) (by decide) (laid_h2 t r j h hs _ _ G (by omega) (by omega) (by omega) (by omega) h2 w)
          have s5 : ¬ (h < 1 ∨ t.G < h) := by omega
          have E0 : laidE t r j h = 0 := by unfold laidE; rw [if_neg s1, if_neg he, if_neg s3, if_neg s4, if_neg s5]
          rw [E0, show laidI t r j h = gri r from by unfold laidI; rw [if_pos E0]]
          exact laid_yes t r j h hs _ _ G (by omega) (by omega) (by omega) (by omega) (by omega) w
  · exact fin 2 (by unfold laidE; rw [if_pos hs]) (by decide) (laid_s t r j h hs w)
end Go.Proofs.Ytbechdgcepiecaa.Tw
