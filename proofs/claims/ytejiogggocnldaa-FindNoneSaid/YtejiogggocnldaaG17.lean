/- Fill: limbo's, and a tower's: the program's. Written by gen15d.py. -/
import Derived.Test.YtejiogggocnldaaG08
import Derived.Test.YtejiogggocnldaaG16
import Derived.Test.YtejiogggocnldaaG05
import Derived.Laws.EntriesVeiled
import Derived.Deep.RegionLaw
import Derived.Test.YtejiogggocnldaaG14
import Derived.Test.YtejiogggocnldaaG10
set_option linter.unusedVariables false
set_option linter.unusedSimpArgs false

namespace Go.Proofs.Ytejiogggocnldaa.Tw
set_option maxRecDepth 20000
open Go.RowKit
open Wo (St acc wordAt PMem RefIs)
open Sk (Stk Arn idx Wd p_store pmem_lt pmem_kept pmem_frame p_afill afillSt afillSt_cnt afillSt_wd)

abbrev limV (t : Twr) : Value := .agg #[.int .i64 t.A.F.T, .int .i64 t.A.F.K, .int .i64 t.A.F.N, .int .i64 t.A.G, .int .i64 t.A.V, .int .i64 t.A.L, .int .i64 t.E.T, .int .i64 t.E.K, .int .i64 t.E.N, .int .i64 t.P]
structure LB (w : World) (b : Nat) (t : Twr) : Prop where
  c0 : w.cell? ⟨b, 0, none⟩ = some (.int .i64 t.A.F.T)
  c1 : w.cell? ⟨b, 1, none⟩ = some (.int .i64 t.A.F.K)
  c2 : w.cell? ⟨b, 2, none⟩ = some (.int .i64 t.A.F.N)
  c3 : w.cell? ⟨b, 3, none⟩ = some (.int .i64 t.A.G)
  c4 : w.cell? ⟨b, 4, none⟩ = some (.int .i64 t.A.V)
  c5 : w.cell? ⟨b, 5, none⟩ = some (.int .i64 t.A.L)
  c6 : w.cell? ⟨b, 6, none⟩ = some (.int .i64 t.E.T)
  c7 : w.cell? ⟨b, 7, none⟩ = some (.int .i64 t.E.K)
  c8 : w.cell? ⟨b, 8, none⟩ = some (.int .i64 t.E.N)
  c9 : w.cell? ⟨b, 9, none⟩ = some (.int .i64 t.P)
theorem LB.but {w w' : World} {b : Nat} {t : Twr} (h : LB w b t) {S : Nat → Prop} (k : But S w w') (hS : ¬ S b) : LB w' b t :=
  ⟨k.some h.c0 hS, k.some h.c1 hS, k.some h.c2 hS, k.some h.c3 hS, k.some h.c4 hS, k.some h.c5 hS, k.some h.c6 hS, k.some h.c7 hS, k.some h.c8 hS, k.some h.c9 hS⟩
theorem LB.kept {w w' : World} {b : Nat} {t : Twr} (h : LB w b t) (k : Kept w w') : LB w' b t := h.but (k.but (fun _ => False)) id
theorem LB.new (w : World) (b : Nat) (ty : TypeId) (hb : b = w.heap.size) (t : Twr) : LB (w.alloc (.cells #[.int .i64 t.A.F.T, .int .i64 t.A.F.K, .int .i64 t.A.F.N, .int .i64 t.A.G, .int .i64 t.A.V, .int .i64 t.A.L, .int .i64 t.E.T, .int .i64 t.E.K, .int .i64 t.E.N, .int .i64 t.P] ty)) b t :=
  ⟨cell_new _ _ _ _ 0 hb, cell_new _ _ _ _ 1 hb, cell_new _ _ _ _ 2 hb, cell_new _ _ _ _ 3 hb, cell_new _ _ _ _ 4 hb, cell_new _ _ _ _ 5 hb, cell_new _ _ _ _ 6 hb, cell_new _ _ _ _ 7 hb, cell_new _ _ _ _ 8 hb, cell_new _ _ _ _ 9 hb⟩

def lfillTo (n : Nat) (t : Twr) (s : St) : Nat → St
  | 0 => Ep.fillSt n t.E (afillSt n t.A s)
  | k + 1 => acc n (lfillTo n t s k) 2 (t.P + k) true 0
def lfillSt (n : Nat) (t : Twr) (s : St) : St := lfillTo n t s 3
def tfillTo (n : Nat) (t : Twr) (s : St) : Nat → St
  | 0 => lfillSt n t s
  | k + 1 => acc n (tfillTo n t s k) 2 (nextI t (-1) k) true 0
def tfillSt (n : Nat) (t : Twr) (s : St) : St := tfillTo n t s t.G.toNat
structure LOk (t : Twr) (n : Nat) : Prop where
  A : t.A.Ok n
  N1 : 1 ≤ t.E.N
  N2 : t.E.N ≤ 64
  K0 : 0 ≤ t.E.K
  K1 : t.E.K ≤ 10000
  P0 : 0 ≤ t.P
  P1 : t.P ≤ 10000
theorem lfillTo_cnt {n : Nat} {t : Twr} (s : St) (h : LOk t n) : ∀ k : Nat, (lfillTo n t s k).cnt = s.cnt + 3 + 2 * t.A.F.N + t.E.N + k
  | 0 => by
    show (Ep.fillTo n t.E (afillSt n t.A s) t.E.N.toNat).cnt = _
    have := h.N1
    rw [Ep.fillTo_cnt, afillSt_cnt h.A.F.N1]; omega
  | k + 1 => by
    show (acc n (lfillTo n t s k) 2 (t.P + k) true 0).cnt = _
    rw [Sk.acc_cnt, lfillTo_cnt s h k]; omega
theorem lfillTo_wd {n : Nat} {t : Twr} {s : St} (h : LOk t n) (hs : Wd n s) : ∀ k : Nat, Wd n (lfillTo n t s k)
  | 0 => Ep.fillTo_wd (afillSt_wd hs h.A.F.N2) _
  | k + 1 => (lfillTo_wd h hs k).acc _ _ _ _ (by omega) (by omega)
theorem tfillTo_cnt {n : Nat} {t : Twr} (s : St) (h : LOk t n) : ∀ k : Nat, (tfillTo n t s k).cnt = s.cnt + 6 + 2 * t.A.F.N + t.E.N + k
  | 0 => by show (lfillTo n t s 3).cnt = _; rw [lfillTo_cnt s h]; omega
  | k + 1 => by show (acc n (tfillTo n t s k) 2 (nextI t (-1) k) true 0).cnt = _; rw [Sk.acc_cnt, tfillTo_cnt s h k]; omega
theorem tfillTo_wd {n : Nat} {t : Twr} {s : St} (h : LOk t n) (hs : Wd n s) : ∀ k : Nat, Wd n (tfillTo n t s k)
  | 0 => lfillTo_wd h hs 3
  | k + 1 => (tfillTo_wd h hs k).acc _ _ _ _ (by omega) (by omega)

set_option maxHeartbeats 2000000 in
theorem p_lfill (M B n : Nat) (t : Twr) (s : St) (w : World) (hm : PMem w M B n s) (h0 : 0 ≤ s.cnt) (h1 : s.cnt ≤ 800000) (hL : LOk t n) :
    Calls Try.prog 94 #[limV t, .pointer (some ⟨M, 0, none⟩)] w fun e w' => e = .returned (.tuple #[]) ∧ PMem w' M B n (lfillSt n t s) ∧ But (fun k => k = B) w w' := by
  have hB := pmem_lt hm
  have P0 := hL.P0
  have P1 := hL.P1
  have HF : ∀ W, Kept w W → Hid (Calls Try.prog 125 #[.agg #[.int .i64 t.A.F.T, .int .i64 t.A.F.K, .int .i64 t.A.F.N, .int .i64 t.A.G, .int .i64 t.A.V, .int .i64 t.A.L], .pointer (some ⟨M, 0, none⟩)] W fun e w' => e = .returned (.tuple #[]) ∧ PMem w' M B n (afillSt n t.A s) ∧ But (fun k => k = B) W w') := fun W k => Lib.hid (p_afill M B n t.A s W (pmem_kept hm k) h0 (by omega) hL.A)
  have C1 : 0 ≤ (afillSt n t.A s).cnt ∧ (afillSt n t.A s).cnt ≤ 900000 := by have := hL.A.F.N1; have := hL.A.F.N2; rw [afillSt_cnt hL.A.F.N1]; omega
  have HG : ∀ W, PMem W M B n (afillSt n t.A s) → Hid (Calls Try.prog 126 #[.agg #[.int .i64 t.E.T, .int .i64 t.E.K, .int .i64 t.E.N], .pointer (some ⟨M, 0, none⟩)] W fun e w' => e = .returned (.tuple #[]) ∧ PMem w' M B n (lfillTo n t s 0) ∧ But (fun k => k = B) W w') := fun W m => Lib.hid (Ep.p_fill M B n t.E _ W m C1.1 C1.2 hL.N1 hL.N2 hL.K0 hL.K1)
  have C2 : ∀ k : Nat, k ≤ 4096 → 0 ≤ (lfillTo n t s k).cnt ∧ (lfillTo n t s k).cnt ≤ 1000000 := fun k hk => by have := hL.A.F.N1; have := hL.A.F.N2; have := hL.N1; have := hL.N2; rw [lfillTo_cnt s hL]; omega
  have HC2 := Lib.hid C2
  have hne : w.heap.size ≠ B := by omega
  clear hm hL C1 C2
  go_enter Try.func94, Try.ntmps94
  go_wp2_with fail
  refine (HF _ (by (go_light; repeat (first | (with_reducible exact Kept.refl _) | (with_reducible assumption) | (with_reducible refine Kept.alloc ?_ _ _) | (with_reducible refine Kept.drew ?_) | (with_reducible refine Kept.drewN ?_ _) | ((with_reducible refine Kept.setCell ?_ ?_ _); rotate_left; focus (first | (simp; done) | (simp; omega))) | refine Kept.trans ?_ (by assumption))))).out.mono ?_
  rintro e w1 ⟨rfl, m1, b1⟩
  obtain ⟨l0, l1, l2, l3, l4, l5, l6, l7, l8, l9⟩ := (LB.new w w.heap.size 49 rfl t).but b1 hne
  have BW1 : Hid (But (fun k => k = B) w w1) := Lib.hid ((Kept.but ((Kept.refl w).alloc _ _) _).trans b1 (fun _ _ h => h))
  have M1 := Lib.hid m1
  have hz1 := b1.size
  simp at hz1
  clear m1 b1 HF
  go_wp2_with fail
  refine (HG _ M1.out).out.mono ?_
  rintro e w2 ⟨rfl, m2, b2⟩
  obtain ⟨l0, l1, l2, l3, l4, l5, l6, l7, l8, l9⟩ := LB.but ⟨l0, l1, l2, l3, l4, l5, l6, l7, l8, l9⟩ b2 hne
  have BW2 := Lib.hid (BW1.out.trans b2 (fun _ _ h => h))
  have M2 := Lib.hid m2
  have hz2 := b2.size
  clear m2 b2 HG M1
  go_wp2_with fail
  have LL := Lib.hid (LB.mk l0 l1 l2 l3 l4 l5 l6 l7 l8 l9)
  have lz := lt_of_cell l0
  have hl9 := l9
  clear l0 l1 l2 l3 l4 l5 l6 l7 l8 l9
  go_loopw [13, 4] (fun i _ wr => ∃ k : Nat, k ≤ 3 ∧ i = .int .i64 k ∧ PMem wr M B n (lfillTo n t s k) ∧ But (fun k => k = B) w2 wr) (fun i _ _ => 3 - (intOf i).toNat)
  case atStart => exact ⟨0, Nat.zero_le _, rfl, M2.out, But.refl _ _⟩
  case round =>
    obtain ⟨k, hk, rfl, mr, br⟩ := hrel
    have LR := LB.but LL.out br hne
    have MR := Lib.hid mr
    have BR := Lib.hid br
    have hc := Lib.hid (HC2.out k (by omega))
    obtain ⟨l0, l1, l2, l3, l4, l5, l6, l7, l8, l9⟩ := LR
    clear mr br hl9
    by_cases hlt : k < 3
    · have hl : (k : Int) < 3 := by omega
      go_wp2_with fail
      refine (p_store M B n _ (t.P + k) 0 _ MR.out hc.out.1 hc.out.2).mono ?_
      rintro e w7 ⟨rfl, m7, b7⟩
      have M7 := Lib.hid m7
      have B7 := Lib.hid (BR.out.trans b7 (fun _ _ h => h))
      clear m7 b7
      go_wp2
      go_roundw
      case rel => exact ⟨k + 1, by omega, by go_num, M7.out, B7.out⟩
      case measure => simp [intOf]; omega
    · have hl : ¬ (k : Int) < 3 := by omega
      have hkm : k = 3 := by omega
      have HKM := Lib.hid hkm
      clear hkm
      go_wp2
      go_end0
      refine ⟨rfl, ?_, BW2.out.trans BR.out (fun _ _ h => h)⟩
      have := MR.out
      rw [HKM.out] at this
      exact this

set_option maxHeartbeats 2000000 in
theorem p_tfill (M B n : Nat) (t : Twr) (s : St) (w : World) (hm : PMem w M B n s) (h0 : 0 ≤ s.cnt) (h1 : s.cnt ≤ 800000) (hL : LOk t n) (hS : t.Sound) :
    Calls Try.prog 61 #[towV t, .pointer (some ⟨M, 0, none⟩)] w fun e w' => e = .returned (.tuple #[]) ∧ PMem w' M B n (tfillSt n t s) ∧ But (fun k => k = B) w w' := by
  have hB := pmem_lt hm
  have G1 := hS.G1
  have G2 := hS.G2
  have SY := fun W => Lib.hid (sound_in t hS W)
  have HF : ∀ W, Kept w W → Hid (Calls Try.prog 94 #[limV t, .pointer (some ⟨M, 0, none⟩)] W fun e w' => e = .returned (.tuple #[]) ∧ PMem w' M B n (tfillTo n t s 0) ∧ But (fun k => k = B) W w') := fun W k => Lib.hid (p_lfill M B n t s W (pmem_kept hm k) h0 h1 hL)
  have C2 : ∀ k : Nat, k ≤ 4096 → 0 ≤ (tfillTo n t s k).cnt ∧ (tfillTo n t s k).cnt ≤ 1000000 := fun k hk => by have := hL.A.F.N1; have := hL.A.F.N2; have := hL.N1; have := hL.N2; rw [tfillTo_cnt s hL]; omega
  have HC2 := Lib.hid C2
  have hne : w.heap.size ≠ B := by omega
  clear hm hL C2 hS
  go_enter Try.func61, Try.ntmps61
  go_wp2_with fail
  refine (SY _).out.mono ?_
  rintro e w0 ⟨rfl, k0⟩
  obtain ⟨a0, a1, a2, a3, a4, a5, a6, a7, a8, a9, a10, a11, a12⟩ := TB.kept (TB.new w w.heap.size 51 rfl t) k0
  have K0 : Hid (Kept w w0) := Lib.hid (((Kept.refl w).alloc _ _).trans k0)
  clear k0
  go_wp2_with fail
  refine (HF _ K0.out).out.mono ?_
  rintro e w1 ⟨rfl, m1, b1⟩
  have T1 := TB.but ⟨a0, a1, a2, a3, a4, a5, a6, a7, a8, a9, a10, a11, a12⟩ b1 hne
  have BW1 : Hid (But (fun k => k = B) w w1) := Lib.hid ((K0.out.but _).trans b1 (fun _ _ h => h))
  have M1 := Lib.hid m1
  have hz1 := (TB.c0 T1)
  have lz := lt_of_cell hz1
  obtain ⟨m, hmm⟩ : ∃ m : Nat, (m : Int) = t.G := ⟨t.G.toNat, by omega⟩
  have HMM := Lib.hid hmm
  have TT := Lib.hid T1
  have hg2 := T1.c2
  clear T1 m1 b1 HF a0 a1 a2 a3 a4 a5 a6 a7 a8 a9 a10 a11 a12 hz1 hmm
  go_wp2_with fail
  go_loopw [14, 4] (fun i _ wr => ∃ k : Nat, k ≤ m ∧ i = .int .i64 k ∧ PMem wr M B n (tfillTo n t s k) ∧ But (fun k => k = B) w1 wr) (fun i _ _ => m - (intOf i).toNat)
  case atStart => exact ⟨0, Nat.zero_le _, rfl, M1.out, But.refl _ _⟩
  case round =>
    obtain ⟨k, hk, rfl, mr, br⟩ := hrel
    have TR := TB.but TT.out br hne
    have hmm := HMM.out
    have MR := Lib.hid mr
    have BR := Lib.hid br
    have hc := Lib.hid (HC2.out k (by omega))
    obtain ⟨a0, a1, a2, a3, a4, a5, a6, a7, a8, a9, a10, a11, a12⟩ := TR
    clear mr br hg2
    by_cases hlt : k < m
    · have hl : (k : Int) < t.G := by omega
      have HN := fun W => Lib.hid (next_any t (-1) (k : Int) (by unfold I64; omega) W)
      clear hmm
      go_wp2_with fail
      refine (HN _).out.mono ?_
      rintro e w5 ⟨rfl, k5⟩
      have K5 := Lib.hid k5
      clear k5
      go_wp2_with fail
      refine (p_store M B n _ (nextI t (-1) k) 0 _ (pmem_kept MR.out K5.out) hc.out.1 hc.out.2).mono ?_
      rintro e w7 ⟨rfl, m7, b7⟩
      have M7 := Lib.hid m7
      have B7 := Lib.hid ((BR.out.then K5.out).trans b7 (fun _ _ h => h))
      clear m7 b7
      go_wp2
      go_roundw
      case rel => exact ⟨k + 1, by omega, by go_num, M7.out, B7.out⟩
      case measure => simp [intOf]; omega
    · have hl : t.G ≤ (k : Int) := by omega
      have hkm : k = t.G.toNat := by omega
      have HKM := Lib.hid hkm
      clear hmm hkm
      go_wp2
      go_end0
      refine ⟨rfl, ?_, BW1.out.trans BR.out (fun _ _ h => h)⟩
      have := MR.out
      rw [HKM.out] at this
      exact this
theorem tfill_bad (t : Twr) (h : ¬ t.Sound) (m : Value) (w : World) (hm : m = .pointer none ∨ ∃ M, m = .pointer (some ⟨M, 0, none⟩)) : Calls Try.prog 61 #[towV t, m] w fun e w' => e = .returned (.tuple #[]) ∧ Kept w w' := by
  have SN := fun W => Lib.hid (sound_no t h W)
  clear h
  rcases hm with rfl | ⟨M, rfl⟩
  all_goals
    go_enter Try.func61, Try.ntmps61
    go_wp2_with fail
    refine (SN _).out.mono ?_
    rintro e w1 ⟨rfl, k1⟩
    go_wp2
    exact bodyPost_ret (v := .tuple #[]) (by simp [results, Try.results61, go_sem]) rfl ⟨rfl, by (go_light; repeat (first | (with_reducible exact Kept.refl _) | (with_reducible assumption) | (with_reducible refine Kept.alloc ?_ _ _) | (with_reducible refine Kept.drew ?_) | (with_reducible refine Kept.drewN ?_ _) | ((with_reducible refine Kept.setCell ?_ ?_ _); rotate_left; focus (first | (simp; done) | (simp; omega))) | refine Kept.trans ?_ (by assumption)))⟩
end Go.Proofs.Ytejiogggocnldaa.Tw

namespace Go.Proofs.Ytejiogggocnldaa.Tw
set_option maxRecDepth 20000
open Go.RowKit
open Wo (St acc wordAt PMem RefIs)
open Sk (Stk Arn idx Wd p_store pmem_lt pmem_kept pmem_frame kept_of)

def gri (n : Int) : Int := bif Wo.goodRef n then Wo.rIdx n else 0
def grg (n : Int) : Int := bif Wo.goodRef n then Wo.rGen n else 0
def grm (n : Int) : Bool := bif Wo.goodRef n then Wo.markOf n else false
def gre (n : Int) : Int := bif Wo.goodRef n then 0 else 5
def laidE (t : Twr) (r j h : Int) : Int :=
  if ¬ t.Sound then 2 else if gre r ≠ 0 then gre r else if grm r = true ∨ gri r < 0 ∨ t.A.F.N ≤ gri r then 3 else if j < 0 ∨ 65534 < j then 3 else if h < 1 ∨ t.G < h then 3 else 0
def laidI (t : Twr) (r j h : Int) : Int := if laidE t r j h = 0 then gri r else -1
end Go.Proofs.Ytejiogggocnldaa.Tw

namespace Go.Proofs.Ytejiogggocnldaa.Tw
set_option maxRecDepth 20000
open Go.RowKit
open Wo (St acc wordAt PMem RefIs)
open Sk (Stk Arn idx Wd p_store pmem_lt pmem_kept pmem_frame kept_of)

end Go.Proofs.Ytejiogggocnldaa.Tw

namespace Go.Proofs.Ytejiogggocnldaa.Tw
set_option maxRecDepth 20000
open Go.RowKit
open Wo (St acc wordAt PMem RefIs)
open Sk (Stk Arn idx Wd p_store pmem_lt pmem_kept pmem_frame)

def newL (t : Twr) (r k j h : Int) : LOp := if laidE t r j h = 0 then ⟨0, r, gri r, k, j, h, 14⟩ else ⟨4, 0, -1, 0, 0, 0, laidE t r j h⟩
theorem newL_ok (t : Twr) (r k j h : Int) : (newL t r k j h).line ≤ 4 ∧ ((newL t r k j h).line < 4 → (newL t r k j h).er = 14) := by
  unfold newL
  split
  · exact ⟨Nat.zero_le _, fun _ => rfl⟩
  · exact ⟨Nat.le_refl _, fun h => absurd h (by show ¬ 4 < 4; decide)⟩
theorem layOp_ok {x : LOp} (h : x.line ≤ 4 ∧ (x.line < 4 → x.er = 14)) : (layOp x).line ≤ 4 ∧ ((layOp x).line < 4 → (layOp x).er = 14) := by
  unfold layOp
  split
  · refine ⟨by show x.line + 1 ≤ 4; omega, fun h' => ?_⟩
    have h' : x.line + 1 < 4 := h'
    show (if x.line = 3 then (0 : Int) else 14) = 14
    rw [if_neg (by omega)]
  · exact h
end Go.Proofs.Ytejiogggocnldaa.Tw

namespace Go.Proofs.Ytejiogggocnldaa.Tw
set_option maxRecDepth 20000
open Go.RowKit Go.Shelf
open Wo (St acc wordAt PMem RefIs)
open Sk (Stk Arn idx Wd pmem_kept p_words Blk g_top)

def Wds (w : World) (v : Value) (n : Nat) (f : Nat → Int) : Prop :=
  (n = 0 ∧ v = .slice none 0 0) ∨ ∃ g c, v = .slice (some ⟨g, 0, none⟩) n c ∧ g < w.heap.size ∧ ∀ i, i < n → w.cell? ⟨g, i, none⟩ = some (.int .u64 (f i))
theorem Wds.but {w w' : World} {v : Value} {n : Nat} {f : Nat → Int} (h : Wds w v n f) {T : Nat → Prop} (k : But T w w') (hT : ∀ g, v.ownBlock = some g → ¬ T g) : Wds w' v n f := by
  rcases h with h | ⟨g, c, rfl, h2, h3⟩
  · exact .inl h
  · exact .inr ⟨g, c, rfl, Nat.lt_of_lt_of_le h2 k.size, fun i hi => k.some (h3 i hi) (hT g rfl)⟩
theorem Wds.form {w : World} {v : Value} {n : Nat} {f : Nat → Int} (h : Wds w v n f) : ∃ a c, v = .slice a n c := by
  rcases h with ⟨rfl, rfl⟩ | ⟨g, c, rfl, _⟩
  · exact ⟨none, 0, rfl⟩
  · exact ⟨_, c, rfl⟩
theorem Wds.kept {w w' : World} {v : Value} {n : Nat} {f : Nat → Int} (h : Wds w v n f) (k : Kept w w') : Wds w' v n f := h.but (k.but (fun _ => False)) (fun _ _ => id)
def GivesWords (mv : Value) (n : Nat) (f : Nat → Int) (w : World) : Prop :=
  ∀ W, Kept w W → Calls Try.prog 48 #[mv] W fun e w' => ∃ v, e = .returned v ∧ Wds w' v n f ∧ (∀ g, v.ownBlock = some g → W.heap.size ≤ g) ∧ Kept W w'
theorem gives_words {w : World} {M B n : Nat} {s : St} (hm : PMem w M B n s) : GivesWords (.pointer (some ⟨M, 0, none⟩)) n s.ws w := fun W k =>
  (p_words M B n s W (pmem_kept hm k)).mono fun _ _ ⟨b, c, e, h1, h2, h3, _, k2⟩ => ⟨_, e, .inr ⟨b, c, rfl, h2, h3⟩, fun g hg => by
    have : b = g := by simpa [Value.ownBlock] using hg
    omega, k2⟩
theorem GivesWords.kept {mv : Value} {n : Nat} {f : Nat → Int} {w w' : World} (h : GivesWords mv n f w) (k : Kept w w') : GivesWords mv n f w' := fun W k2 => h W (k.trans k2)
def Wf (n : Nat) (f : Nat → Int) : Prop := ∀ i, i < n → 0 ≤ f i ∧ f i < 18446744073709551616
theorem hw_in {n : Nat} {f : Nat → Int} (h : Wf n f) (x : Int) : 0 ≤ hw n f x ∧ hw n f x < 18446744073709551616 := by
  unfold hw
  split
  · exact h _ (by omega)
  · omega
abbrev viewV (t : Twr) (v : Value) : Value := .agg #[.int .i64 t.D, .int .i64 t.H, .int .i64 t.G, .int .i64 t.A.F.T, .int .i64 t.A.F.K, .int .i64 t.A.F.N, .int .i64 t.A.G, .int .i64 t.A.V, .int .i64 t.A.L, .int .i64 t.E.T, .int .i64 t.E.K, .int .i64 t.E.N, .int .i64 t.P, v]
structure VB (w : World) (b : Nat) (t : Twr) (v : Value) : Prop where
  t : TB w b t
  v : w.cell? ⟨b, 13, none⟩ = some v
theorem VB.but {w w' : World} {b : Nat} {t : Twr} {v : Value} (h : VB w b t v) {S : Nat → Prop} (k : But S w w') (hS : ¬ S b) : VB w' b t v := ⟨h.t.but k hS, k.some h.v hS⟩
theorem VB.kept {w w' : World} {b : Nat} {t : Twr} {v : Value} (h : VB w b t v) (k : Kept w w') : VB w' b t v := h.but (k.but (fun _ => False)) id
theorem VB.new (w : World) (b : Nat) (ty : TypeId) (hb : b = w.heap.size) (t : Twr) (v : Value) : VB (w.alloc (.cells #[.int .i64 t.D, .int .i64 t.H, .int .i64 t.G, .int .i64 t.A.F.T, .int .i64 t.A.F.K, .int .i64 t.A.F.N, .int .i64 t.A.G, .int .i64 t.A.V, .int .i64 t.A.L, .int .i64 t.E.T, .int .i64 t.E.K, .int .i64 t.E.N, .int .i64 t.P, v] ty)) b t v :=
  ⟨⟨cell_new _ _ _ _ 0 hb, cell_new _ _ _ _ 1 hb, cell_new _ _ _ _ 2 hb, cell_new _ _ _ _ 3 hb, cell_new _ _ _ _ 4 hb, cell_new _ _ _ _ 5 hb, cell_new _ _ _ _ 6 hb, cell_new _ _ _ _ 7 hb, cell_new _ _ _ _ 8 hb, cell_new _ _ _ _ 9 hb, cell_new _ _ _ _ 10 hb, cell_new _ _ _ _ 11 hb, cell_new _ _ _ _ 12 hb⟩, cell_new _ _ _ _ 13 hb⟩
set_option maxHeartbeats 1000000 in
theorem held_lo (t : Twr) (a : Option Addr) (n c : Nat) (x : Int) (w : World) (h : x < 0) : Calls Try.prog 129 #[viewV t (.slice a n c), .int .i64 x] w fun e w' => e = .returned (.int .u64 0) ∧ Kept w w' := by
  go_enter Try.func129, Try.ntmps129
  go_wp2
  go_ret
  exact ⟨rfl, by (go_light; repeat (first | (with_reducible exact Kept.refl _) | (with_reducible assumption) | (with_reducible refine Kept.alloc ?_ _ _) | (with_reducible refine Kept.drew ?_) | (with_reducible refine Kept.drewN ?_ _) | ((with_reducible refine Kept.setCell ?_ ?_ _); rotate_left; focus (first | (simp; done) | (simp; omega))) | refine Kept.trans ?_ (by assumption)))⟩
set_option maxHeartbeats 1000000 in
theorem held_hi (t : Twr) (a : Option Addr) (n c k : Nat) (w : World) (h : n ≤ k) (hn : n ≤ 100000) : Calls Try.prog 129 #[viewV t (.slice a n c), .int .i64 k] w fun e w' => e = .returned (.int .u64 0) ∧ Kept w w' := by
  have h2 : (n : Int) ≤ (k : Int) := by omega
  go_enter Try.func129, Try.ntmps129
  go_wp2
  go_ret
  exact ⟨rfl, by (go_light; repeat (first | (with_reducible exact Kept.refl _) | (with_reducible assumption) | (with_reducible refine Kept.alloc ?_ _ _) | (with_reducible refine Kept.drew ?_) | (with_reducible refine Kept.drewN ?_ _) | ((with_reducible refine Kept.setCell ?_ ?_ _); rotate_left; focus (first | (simp; done) | (simp; omega))) | refine Kept.trans ?_ (by assumption)))⟩
set_option maxHeartbeats 1000000 in
theorem held_in (t : Twr) (g n c k : Nat) (u : Int) (w : World) (h2 : k < n) (hn : n ≤ 100000) (hg : g < w.heap.size) (ck : w.cell? ⟨g, k, none⟩ = some (.int .u64 u)) : Calls Try.prog 129 #[viewV t (.slice (some ⟨g, 0, none⟩) n c), .int .i64 k] w fun e w' => e = .returned (.int .u64 u) ∧ Kept w w' := by
  have h3 : ¬ (n : Int) ≤ (k : Int) := by omega
  go_enter Try.func129, Try.ntmps129
  go_wp2
  go_ret
  exact ⟨rfl, by (go_light; repeat (first | (with_reducible exact Kept.refl _) | (with_reducible assumption) | (with_reducible refine Kept.alloc ?_ _ _) | (with_reducible refine Kept.drew ?_) | (with_reducible refine Kept.drewN ?_ _) | ((with_reducible refine Kept.setCell ?_ ?_ _); rotate_left; focus (first | (simp; done) | (simp; omega))) | refine Kept.trans ?_ (by assumption)))⟩
theorem held_any {w : World} {v : Value} {n : Nat} {f : Nat → Int} (t : Twr) (h : Wds w v n f) (hn : n ≤ 100000) (x : Int) : Calls Try.prog 129 #[viewV t v, .int .i64 x] w fun e w' => e = .returned (.int .u64 (hw n f x)) ∧ Kept w w' := by
  by_cases h0 : x < 0
  · have E : hw n f x = 0 := by unfold hw; rw [if_neg (by omega)]
    obtain ⟨a, c, rfl⟩ := h.form
    rw [E]; exact held_lo t a n c x w h0
  · obtain ⟨k, rfl⟩ := Int.eq_ofNat_of_zero_le (show 0 ≤ x by omega)
    by_cases h1 : n ≤ k
    · have E : hw n f k = 0 := by unfold hw; rw [if_neg (by omega)]
      obtain ⟨a, c, rfl⟩ := h.form
      rw [E]; exact held_hi t a n c k w h1 hn
    · have E : hw n f k = f k := by unfold hw; rw [if_pos (by omega), Int.toNat_natCast]
      rcases h with ⟨rfl, rfl⟩ | ⟨g, cc, rfl, hg, hc⟩
      · omega
      · rw [E]; exact held_in t g n cc k _ w (by omega) hn hg (hc k (by omega))
set_option maxHeartbeats 2000000 in
theorem vnext_any {w : World} {a : Option Addr} {c n : Nat} {f : Nat → Int} (t : Twr) (hW : Wds w (.slice a n c) n f) (hn : n ≤ 100000) (i p : Int) (hp : I64 p) : Calls Try.prog 100 #[viewV t (.slice a n c), .int .i64 i, .int .i64 p] w fun e w' => e = .returned (.int .u64 (hw n f (nextI t i p))) ∧ Kept w w' := by
  have HA := fun W => Lib.hid (next_any t i p hp W)
  have HH : ∀ W, Kept w W → Hid (Calls Try.prog 129 #[viewV t (.slice a n c), .int .i64 (nextI t i p)] W fun e w' => e = .returned (.int .u64 (hw n f (nextI t i p))) ∧ Kept W w') := fun W k => Lib.hid (held_any t (hW.kept k) hn _)
  clear hW
  go_enter Try.func100, Try.ntmps100
  go_wp2_with fail
  obtain ⟨⟨a0, a1, a2, a3, a4, a5, a6, a7, a8, a9, a10, a11, a12⟩, a13⟩ := VB.new w w.heap.size 123 rfl t (.slice a n c)
  have K0 : Hid (Kept w (w.alloc (.cells #[.int .i64 t.D, .int .i64 t.H, .int .i64 t.G, .int .i64 t.A.F.T, .int .i64 t.A.F.K, .int .i64 t.A.F.N, .int .i64 t.A.G, .int .i64 t.A.V, .int .i64 t.A.L, .int .i64 t.E.T, .int .i64 t.E.K, .int .i64 t.E.N, .int .i64 t.P, .slice a n c] 123))) := Lib.hid ((Kept.refl w).alloc _ _)
  have KT : Kept (w.alloc (.cells #[.int .i64 t.D, .int .i64 t.H, .int .i64 t.G, .int .i64 t.A.F.T, .int .i64 t.A.F.K, .int .i64 t.A.F.N, .int .i64 t.A.G, .int .i64 t.A.V, .int .i64 t.A.L, .int .i64 t.E.T, .int .i64 t.E.K, .int .i64 t.E.N, .int .i64 t.P, .slice a n c] 123)) (w.alloc (.cells #[.int .i64 t.D, .int .i64 t.H, .int .i64 t.G, .int .i64 t.A.F.T, .int .i64 t.A.F.K, .int .i64 t.A.F.N, .int .i64 t.A.G, .int .i64 t.A.V, .int .i64 t.A.L, .int .i64 t.E.T, .int .i64 t.E.K, .int .i64 t.E.N, .int .i64 t.P, .slice a n c] 123)) := Kept.refl _
  obtain ⟨W0, hW0⟩ : ∃ W0, W0 = (w.alloc (.cells #[.int .i64 t.D, .int .i64 t.H, .int .i64 t.G, .int .i64 t.A.F.T, .int .i64 t.A.F.K, .int .i64 t.A.F.N, .int .i64 t.A.G, .int .i64 t.A.V, .int .i64 t.A.L, .int .i64 t.E.T, .int .i64 t.E.K, .int .i64 t.E.N, .int .i64 t.P, .slice a n c] 123)) := ⟨_, rfl⟩
  simp only [← hW0] at *
  clear hW0
  go_region_held3 (fun w' => w'.cell? ⟨w.heap.size, 0, none⟩ = some (.int .i64 t.D) ∧ w'.cell? ⟨w.heap.size, 1, none⟩ = some (.int .i64 t.H) ∧ w'.cell? ⟨w.heap.size, 2, none⟩ = some (.int .i64 t.G) ∧ w'.cell? ⟨w.heap.size, 3, none⟩ = some (.int .i64 t.A.F.T) ∧ w'.cell? ⟨w.heap.size, 4, none⟩ = some (.int .i64 t.A.F.K) ∧ w'.cell? ⟨w.heap.size, 5, none⟩ = some (.int .i64 t.A.F.N) ∧ w'.cell? ⟨w.heap.size, 6, none⟩ = some (.int .i64 t.A.G) ∧ w'.cell? ⟨w.heap.size, 7, none⟩ = some (.int .i64 t.A.V) ∧ w'.cell? ⟨w.heap.size, 8, none⟩ = some (.int .i64 t.A.L) ∧ w'.cell? ⟨w.heap.size, 9, none⟩ = some (.int .i64 t.E.T) ∧ w'.cell? ⟨w.heap.size, 10, none⟩ = some (.int .i64 t.E.K) ∧ w'.cell? ⟨w.heap.size, 11, none⟩ = some (.int .i64 t.E.N) ∧ w'.cell? ⟨w.heap.size, 12, none⟩ = some (.int .i64 t.P) ∧ w'.cell? ⟨w.heap.size, 13, none⟩ = some (.slice a n c)) (first | (with_reducible exact ⟨KT.some a0, KT.some a1, KT.some a2, KT.some a3, KT.some a4, KT.some a5, KT.some a6, KT.some a7, KT.some a8, KT.some a9, KT.some a10, KT.some a11, KT.some a12, KT.some a13⟩) | go_keep) (first
    | (go_at_call 92; refine (HA _).out.mono ?_; rintro e w1 ⟨rfl, k1⟩; have KT : Kept W0 w1 := Kept.trans (b := _) (by first | exact KT | exact KT.drew | exact KT.drewN _) k1)
    | (go_at_call 129; refine ((HH _ (K0.out.trans (by first | exact KT | exact KT.drew | exact KT.drewN _))).out).mono ?_; rintro e w2 ⟨rfl, k2⟩; have KT : Kept W0 w2 := Kept.trans (b := _) (by first | exact KT | exact KT.drew | exact KT.drewN _) k2))
  go_wp2
  go_ret
  exact ⟨rfl, K0.out.trans (by first | exact KT | exact KT.drew | exact KT.drewN _)⟩

def zeroT : Twr := ⟨0, 0, 0, ⟨⟨0, 0, 0⟩, 0, 0, 0⟩, ⟨0, 0, 0⟩, 0⟩
def sto (w : World) (o : Nat) : Nat → List Value → World
  | _, [] => w
  | k, v :: l => sto (w.setCell ⟨o, k, none⟩ v) o (k + 1) l
theorem sto_but (w : World) (o : Nat) : ∀ (l : List Value) (k : Nat), But (fun j => j = o) w (sto w o k l)
  | [], _ => But.refl _ _
  | v :: l, k => ((But.refl (fun j => j = o) w).here k v).trans (sto_but _ o l (k + 1)) (fun _ _ h => h)
theorem sto_cell (w : World) (o : Nat) : ∀ (l : List Value) (k j : Nat), (sto w o k l).cell? ⟨o, j, none⟩ = if k ≤ j ∧ j < k + l.length then (w.cell? ⟨o, j, none⟩).bind (fun _ => l[j - k]?) else w.cell? ⟨o, j, none⟩
  | [], k, j => by rw [if_neg (by simp)]; rfl
  | v :: l, k, j => by
    show (sto (w.setCell ⟨o, k, none⟩ v) o (k + 1) l).cell? ⟨o, j, none⟩ = _
    rw [sto_cell _ o l (k + 1) j, cell_set]
    by_cases hj : k = j
    · subst hj
      rw [if_neg (by omega), if_pos rfl, if_pos (by simp)]
      cases w.cell? ⟨o, k, none⟩ <;> simp
    · rw [if_neg hj]
      by_cases h2 : k + 1 ≤ j ∧ j < k + 1 + l.length
      · rw [if_pos h2, if_pos (by simp; omega), show j - k = (j - (k + 1)) + 1 by omega]
        simp
      · rw [if_neg h2, if_neg (by simp; omega)]
theorem put14_go {P : Program} {F : Func} {Q : Ending → World → Prop} {A : Act} {w : World} {o : Nat} {t : Twr} {v : Value} (h : VB w o zeroT (.slice none 0 0))
    (k : ∀ W9, VB W9 o t v → But (fun k => k = o) w W9 → bodyPost P F Q Exit.ret A W9) :
    bodyPost P F Q Exit.ret A (sto w o 0 [.int .i64 t.D, .int .i64 t.H, .int .i64 t.G, .int .i64 t.A.F.T, .int .i64 t.A.F.K, .int .i64 t.A.F.N, .int .i64 t.A.G, .int .i64 t.A.V, .int .i64 t.A.L, .int .i64 t.E.T, .int .i64 t.E.K, .int .i64 t.E.N, .int .i64 t.P, v]) := by
  have c : ∀ j u, (∃ z, w.cell? ⟨o, j, none⟩ = some z) → [.int .i64 t.D, .int .i64 t.H, .int .i64 t.G, .int .i64 t.A.F.T, .int .i64 t.A.F.K, .int .i64 t.A.F.N, .int .i64 t.A.G, .int .i64 t.A.V, .int .i64 t.A.L, .int .i64 t.E.T, .int .i64 t.E.K, .int .i64 t.E.N, .int .i64 t.P, v][j]? = some u → j < 14 → (sto w o 0 [.int .i64 t.D, .int .i64 t.H, .int .i64 t.G, .int .i64 t.A.F.T, .int .i64 t.A.F.K, .int .i64 t.A.F.N, .int .i64 t.A.G, .int .i64 t.A.V, .int .i64 t.A.L, .int .i64 t.E.T, .int .i64 t.E.K, .int .i64 t.E.N, .int .i64 t.P, v]).cell? ⟨o, j, none⟩ = some u := by
    intro j u ⟨z, hz⟩ hu hj
    rw [sto_cell, if_pos ⟨Nat.zero_le _, by simpa using hj⟩, hz]
    simpa using hu
  exact k _ ⟨⟨c 0 _ ⟨_, h.t.c0⟩ rfl (by decide), c 1 _ ⟨_, h.t.c1⟩ rfl (by decide), c 2 _ ⟨_, h.t.c2⟩ rfl (by decide), c 3 _ ⟨_, h.t.c3⟩ rfl (by decide), c 4 _ ⟨_, h.t.c4⟩ rfl (by decide), c 5 _ ⟨_, h.t.c5⟩ rfl (by decide), c 6 _ ⟨_, h.t.c6⟩ rfl (by decide), c 7 _ ⟨_, h.t.c7⟩ rfl (by decide), c 8 _ ⟨_, h.t.c8⟩ rfl (by decide), c 9 _ ⟨_, h.t.c9⟩ rfl (by decide), c 10 _ ⟨_, h.t.c10⟩ rfl (by decide), c 11 _ ⟨_, h.t.c11⟩ rfl (by decide), c 12 _ ⟨_, h.t.c12⟩ rfl (by decide)⟩, c 13 _ ⟨_, h.v⟩ rfl (by decide)⟩ (sto_but _ _ _ _)
set_option maxHeartbeats 4000000 in
theorem look_any (t : Twr) (mv : Value) (n : Nat) (f : Nat → Int) (w : World) (hg : GivesWords mv n f w) : Calls Try.prog 65 #[towV t, mv] w fun e w' => ∃ v, e = .returned (viewV t v) ∧ Wds w' v n f ∧ (∀ g, v.ownBlock = some g → w.heap.size ≤ g) ∧ Kept w w' := by
  have HG := Lib.hid hg
  clear hg
  go_enter Try.func65, Try.ntmps65
  go_wp2_with fail
  obtain ⟨W0, hW0⟩ : ∃ W0, W0 = ((w.alloc (.cells #[.int .i64 t.D, .int .i64 t.H, .int .i64 t.G, .int .i64 t.A.F.T, .int .i64 t.A.F.K, .int .i64 t.A.F.N, .int .i64 t.A.G, .int .i64 t.A.V, .int .i64 t.A.L, .int .i64 t.E.T, .int .i64 t.E.K, .int .i64 t.E.N, .int .i64 t.P] 51)).alloc (.cells #[.int .i64 0, .int .i64 0, .int .i64 0, .int .i64 0, .int .i64 0, .int .i64 0, .int .i64 0, .int .i64 0, .int .i64 0, .int .i64 0, .int .i64 0, .int .i64 0, .int .i64 0, .slice none 0 0] 123)) := ⟨_, rfl⟩
  have T0 : TB W0 w.heap.size t := by rw [hW0]; exact TB.kept (TB.new w _ _ rfl t) ((Kept.refl _).alloc _ _)
  have R0 : VB W0 (w.heap.size + 1) zeroT (.slice none 0 0) := by rw [hW0]; exact VB.new (w.alloc (.cells #[.int .i64 t.D, .int .i64 t.H, .int .i64 t.G, .int .i64 t.A.F.T, .int .i64 t.A.F.K, .int .i64 t.A.F.N, .int .i64 t.A.G, .int .i64 t.A.V, .int .i64 t.A.L, .int .i64 t.E.T, .int .i64 t.E.K, .int .i64 t.E.N, .int .i64 t.P] 51)) _ 123 (by simp) zeroT _
  have F0 : ∀ i, W0.frozen? ⟨w.heap.size + 1, i, none⟩ = false := by intro i; rw [hW0]; rw [show w.heap.size + 1 = (w.alloc (.cells #[.int .i64 t.D, .int .i64 t.H, .int .i64 t.G, .int .i64 t.A.F.T, .int .i64 t.A.F.K, .int .i64 t.A.F.N, .int .i64 t.A.G, .int .i64 t.A.V, .int .i64 t.A.L, .int .i64 t.E.T, .int .i64 t.E.K, .int .i64 t.E.N, .int .i64 t.P] 51)).heap.size from by simp]; simp
  have L0 : w.heap.size + 1 < W0.heap.size := by rw [hW0]; simp
  have K0 : Hid (Kept w W0) := Lib.hid (by rw [hW0]; exact ((Kept.refl w).alloc _ _).alloc _ _)
  rw [← hW0]
  clear hW0
  have TH := Lib.hid T0
  have RH := Lib.hid R0
  obtain ⟨⟨r0, r1, r2, r3, r4, r5, r6, r7, r8, r9, r10, r11, r12⟩, r13⟩ := R0
  have FH := Lib.hid F0
  obtain ⟨a0, a1, a2, a3, a4, a5, a6, a7, a8, a9, a10, a11, a12⟩ := T0
  have KT : Kept W0 W0 := Kept.refl _
  go_region_law (first | (go_simp; go_at_call 48; refine (HG.out _ (K0.out.trans (by first | exact KT | exact KT.drew | exact KT.drewN _))).mono ?_; rintro e w1 ⟨v, rfl, wv, fv, k1⟩; have KT : Kept W0 w1 := Kept.trans (b := _) (by first | exact KT | exact KT.drew | exact KT.drewN _) k1; obtain ⟨a0, a1, a2, a3, a4, a5, a6, a7, a8, a9, a10, a11, a12⟩ := TB.kept TH.out KT; obtain ⟨⟨r0, r1, r2, r3, r4, r5, r6, r7, r8, r9, r10, r11, r12⟩, r13⟩ := VB.kept RH.out KT; have F0 : (∀ i, w1.frozen? ⟨w.heap.size + 1, i, none⟩ = false) := (fun i => KT.soft L0 (FH.out i)); obtain ⟨av, cv, rfl⟩ := wv.form))
  all_goals
    go_wp2
    refine put14_go (t := t) (v := .slice av n cv) (VB.kept RH.out KT) ?_
    rintro W9 ⟨⟨e0, e1, e2, e3, e4, e5, e6, e7, e8, e9, e10, e11, e12⟩, e13⟩ b9
    refine bodyPost_ret (v := viewV t (.slice av n cv)) (by simp [results, Try.results65, go_sem, e0, e1, e2, e3, e4, e5, e6, e7, e8, e9, e10, e11, e12, e13]) rfl ⟨_, rfl, ?_, fun g hg => ?_, ?_⟩
    · refine wv.but b9 (fun g hg e => ?_)
      have e : g = w.heap.size + 1 := e
      have h1 : W0.heap.size ≤ g := fv g hg
      omega
    · have h1 : W0.heap.size ≤ g := fv g hg
      have := K0.out.size
      omega
    · exact (((K0.out.trans KT).but (fun k => k = w.heap.size + 1)).trans b9 (fun _ _ h => h)).kept (fun i hi e => by have e : i = w.heap.size + 1 := e; omega)
end Go.Proofs.Ytejiogggocnldaa.Tw
