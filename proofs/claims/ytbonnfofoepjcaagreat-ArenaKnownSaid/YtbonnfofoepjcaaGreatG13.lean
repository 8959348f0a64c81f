/- Fill: the program's and the document's. -/
import Derived.Test.YtbonnfofoepjcaaGreatG11
import Derived.Test.YtbonnfofoepjcaaGreatG12
import Derived.Deep.RegionHeld3
set_option linter.unusedVariables false
set_option linter.unusedSimpArgs false

namespace Go.Proofs.YtbonnfofoepjcaaGreat.Sk
set_option maxRecDepth 20000
open Go.RowKit
open Wo (St acc wordAt PMem RefIs)

def afillTo (n : Nat) (A : Arn) (s : St) : Nat → St
  | 0 => acc n (fillSt n A.F s) 2 A.V true 0
  | k + 1 => acc n (afillTo n A s k) 2 (A.G + k) true 1
def afillSt (n : Nat) (A : Arn) (s : St) : St := afillTo n A s A.F.N.toNat
theorem afillTo_cnt (n : Nat) (A : Arn) (s : St) (k : Nat) (h : 1 ≤ A.F.N) : (afillTo n A s k).cnt = s.cnt + 2 + A.F.N + k := by
  induction k with
  | zero => show (acc n (fillSt n A.F s) 2 A.V true 0).cnt = _; rw [acc_cnt, fillSt_cnt h]; omega
  | succ k ih => show (acc n (afillTo n A s k) 2 (A.G + k) true 1).cnt = _; rw [acc_cnt, ih]; omega
theorem afillTo_wd {n : Nat} {A : Arn} {s : St} (h : Wd n s) (hN : A.F.N ≤ 4096) : ∀ k, Wd n (afillTo n A s k)
  | 0 => (fillSt_wd h hN).acc _ _ _ _ (by omega) (by omega)
  | k + 1 => (afillTo_wd h hN k).acc _ _ _ _ (by omega) (by omega)
theorem afillSt_wd {n : Nat} {A : Arn} {s : St} (h : Wd n s) (hN : A.F.N ≤ 4096) : Wd n (afillSt n A s) := afillTo_wd h hN _
theorem afillSt_cnt {n : Nat} {A : Arn} {s : St} (h : 1 ≤ A.F.N) : (afillSt n A s).cnt = s.cnt + 2 + 2 * A.F.N := by
  unfold afillSt; rw [afillTo_cnt _ _ _ _ h]; omega

set_option maxHeartbeats 2000000 in
theorem p_afill (M B n : Nat) (A : Arn) (s : St) (w : World) (hm : PMem w M B n s) (h0 : 0 ≤ s.cnt) (h1 : s.cnt ≤ 900000) (hA : A.Ok n) :
    Calls Tryz.prog 60 #[.agg #[.int .i64 A.F.T, .int .i64 A.F.K, .int .i64 A.F.N, .int .i64 A.G, .int .i64 A.V, .int .i64 A.L], .pointer (some ⟨M, 0, none⟩)] w fun e w' => e = .returned (.tuple #[]) ∧ PMem w' M B n (afillSt n A s) ∧ But (fun k => k = B) w w' := by
  have N1 := hA.F.N1
  have N2 := hA.F.N2
  have G1 := hA.G1
  have G2 := hA.G2
  have n2 := hA.F.n2
  have hB := pmem_lt hm
  have HF : ∀ W, Kept w W → Hid (Calls Tryz.prog 124 #[.agg #[.int .i64 A.F.T, .int .i64 A.F.K, .int .i64 A.F.N], .pointer (some ⟨M, 0, none⟩)] W fun e w' => e = .returned (.tuple #[]) ∧ PMem w' M B n (fillSt n A.F s) ∧ But (fun k => k = B) W w') := fun W k => Lib.hid (p_fill M B n A.F s W (pmem_kept hm k) h0 h1 hA.F)
  have C1 : 0 ≤ (fillSt n A.F s).cnt ∧ (fillSt n A.F s).cnt ≤ 1000000 := by rw [fillSt_cnt N1]; omega
  have C2 : ∀ k : Nat, k ≤ 4096 → 0 ≤ (afillTo n A s k).cnt ∧ (afillTo n A s k).cnt ≤ 1000000 := fun k hk => by rw [afillTo_cnt _ _ _ _ N1]; omega
  have HC1 := Lib.hid C1
  have HC2 := Lib.hid C2
  have hne : w.heap.size ≠ B := by omega
  clear hm hA C1 C2
  go_enter Tryz.func60, Tryz.ntmps60
  go_wp2_with fail
  refine (HF _ (by (go_light; repeat (first | (with_reducible exact Kept.refl _) | (with_reducible assumption) | (with_reducible refine Kept.alloc ?_ _ _) | (with_reducible refine Kept.drew ?_) | (with_reducible refine Kept.drewN ?_ _) | ((with_reducible refine Kept.setCell ?_ ?_ _); rotate_left; focus (first | (simp; done) | (simp; omega))) | refine Kept.trans ?_ (by assumption))))).out.mono ?_
  rintro e w1 ⟨rfl, m1, b1⟩
  have a0 := b1.some (cell_new w #[.int .i64 A.F.T, .int .i64 A.F.K, .int .i64 A.F.N, .int .i64 A.G, .int .i64 A.V, .int .i64 A.L] 25 w.heap.size 0 rfl) hne
  have a1 := b1.some (cell_new w #[.int .i64 A.F.T, .int .i64 A.F.K, .int .i64 A.F.N, .int .i64 A.G, .int .i64 A.V, .int .i64 A.L] 25 w.heap.size 1 rfl) hne
  have a2 := b1.some (cell_new w #[.int .i64 A.F.T, .int .i64 A.F.K, .int .i64 A.F.N, .int .i64 A.G, .int .i64 A.V, .int .i64 A.L] 25 w.heap.size 2 rfl) hne
  have a3 := b1.some (cell_new w #[.int .i64 A.F.T, .int .i64 A.F.K, .int .i64 A.F.N, .int .i64 A.G, .int .i64 A.V, .int .i64 A.L] 25 w.heap.size 3 rfl) hne
  have a4 := b1.some (cell_new w #[.int .i64 A.F.T, .int .i64 A.F.K, .int .i64 A.F.N, .int .i64 A.G, .int .i64 A.V, .int .i64 A.L] 25 w.heap.size 4 rfl) hne
  have a5 := b1.some (cell_new w #[.int .i64 A.F.T, .int .i64 A.F.K, .int .i64 A.F.N, .int .i64 A.G, .int .i64 A.V, .int .i64 A.L] 25 w.heap.size 5 rfl) hne
  have BW1 : Hid (But (fun k => k = B) w w1) := Lib.hid ((Kept.but ((Kept.refl w).alloc _ _) _).trans b1 (fun _ _ h => h))
  have M1 := Lib.hid m1
  have hz1 := b1.size
  simp at hz1
  clear m1 b1 HF
  go_wp2_with fail
  refine (p_store M B n _ A.V 0 _ M1.out HC1.out.1 HC1.out.2).mono ?_
  rintro e w2 ⟨rfl, m2, b2⟩
  have d0 := b2.some a0 hne
  have d1 := b2.some a1 hne
  have d2 := b2.some a2 hne
  have d3 := b2.some a3 hne
  have d4 := b2.some a4 hne
  have d5 := b2.some a5 hne
  have BW2 := Lib.hid (BW1.out.trans b2 (fun _ _ h => h))
  have M2 : Hid (PMem w2 M B n (afillTo n A s 0)) := Lib.hid m2
  have hz2 := b2.size
  obtain ⟨m, hmm⟩ : ∃ m : Nat, (m : Int) = A.F.N := ⟨A.F.N.toNat, by omega⟩
  have HMM := Lib.hid hmm
  clear m2 b2 a0 a1 a2 a3 a4 a5 hmm M1
  go_wp2_with fail
  go_loopw [27, 4, 5] (fun i _ _ wr => ∃ k : Nat, k ≤ m ∧ i = .int .i64 k ∧ PMem wr M B n (afillTo n A s k) ∧ But (fun k => k = B) w2 wr) (fun i _ _ _ => m - (intOf i).toNat)
  case atStart => exact ⟨0, Nat.zero_le _, rfl, M2.out, But.refl _ _⟩
  case round =>
    obtain ⟨k, hk, rfl, mr, br⟩ := hrel
    have e0 := br.some d0 hne
    have e1 := br.some d1 hne
    have e2 := br.some d2 hne
    have e3 := br.some d3 hne
    have e4 := br.some d4 hne
    have e5 := br.some d5 hne
    have hmm := HMM.out
    have MR := Lib.hid mr
    have BR := Lib.hid br
    have hc := Lib.hid (HC2.out k (by omega))
    clear mr br d0 d1 d2 d3 d4 d5
    by_cases hlt : k < m
    · have hl : (k : Int) < A.F.N := by omega
      have hk2 : (k : Int) ≤ 65534 := by omega
      have HG : ∀ W, Hid (Calls Tryz.prog 126 #[.agg #[.int .i64 A.F.T, .int .i64 A.F.K, .int .i64 A.F.N, .int .i64 A.G, .int .i64 A.V, .int .i64 A.L], .int .i64 (k : Int)] W fun e w' => e = .returned (.int .i64 (A.G + k)) ∧ Kept W w') := fun W => Lib.hid (gen_in _ _ _ _ _ _ _ W G1 (by omega) (by omega) (by omega))
      clear hmm
      go_wp2_with fail
      refine (generations_any 0 _).mono ?_
      rintro e w4 ⟨b, rfl, hb, cb, fb, k4⟩
      have hbu := lt_of_cell cb
      have g0 := k4.some e0
      have g1 := k4.some e1
      have g2 := k4.some e2
      have g3 := k4.some e3
      have g4 := k4.some e4
      have g5 := k4.some e5
      have K4 := Lib.hid k4
      have FB := Lib.hid fb
      clear k4 fb
      go_wp2_with fail
      refine (HG _).out.mono ?_
      rintro e w5 ⟨rfl, k5⟩
      have cb5 := k5.some cb
      have fb5 : ∀ i, w5.frozen? ⟨b, i, none⟩ = false := fun j => k5.soft hbu (FB.out j)
      have K5 := Lib.hid (K4.out.trans k5)
      clear k5
      go_wp2_with fail
      refine (generations1_any 0 b _ cb5 fb5).mono ?_
      rintro e w6 ⟨rfl, h6⟩
      have K6 := Lib.hid (show Kept _ w6 by rw [h6]; exact Kept.setCell K5.out (p := ⟨b, 0, none⟩) hb _)
      clear h6 cb5 fb5 cb g0 g1 g2 g3 g4 g5
      go_wp2_with fail
      refine (p_store M B n _ (A.G + k) 1 _ (pmem_kept MR.out K6.out) hc.out.1 hc.out.2).mono ?_
      rintro e w7 ⟨rfl, m7, b7⟩
      have M7 := Lib.hid m7
      have B7 := Lib.hid ((BR.out.then K6.out).trans b7 (fun _ _ h => h))
      clear m7 b7
      go_wp2
      go_roundw
      case rel => exact ⟨k + 1, by omega, by go_num, M7.out, B7.out⟩
      case measure => simp [intOf]; omega
    · have hl : A.F.N ≤ (k : Int) := by omega
      have hkm : k = A.F.N.toNat := by omega
      have HKM := Lib.hid hkm
      clear hmm hkm
      go_wp2
      go_end0
      refine ⟨rfl, ?_, BW2.out.trans BR.out (fun _ _ h => h)⟩
      have := MR.out
      rw [HKM.out] at this
      exact this

set_option maxHeartbeats 2000000 in
theorem r_afill (M B n : Nat) (A : Arn) (s : St) (w : World) (hm : RefIs w M B n s) (h0 : 0 ≤ s.cnt) (h1 : s.cnt ≤ 900000) (hA : A.Ok n) :
    Calls Tryz.prog 67 #[.agg #[.int .i64 A.F.T, .int .i64 A.F.K, .int .i64 A.F.N, .int .i64 A.G, .int .i64 A.V, .int .i64 A.L], .pointer (some ⟨M, 0, none⟩)] w fun e w' => e = .returned (.tuple #[]) ∧ RefIs w' M B n (afillSt n A s) ∧ But (fun k => k = M ∨ k = B) w w' := by
  have N1 := hA.F.N1
  have N2 := hA.F.N2
  have G1 := hA.G1
  have G2 := hA.G2
  have n1 := hA.F.n1
  have n2 := hA.F.n2
  have hB := ref_lt hm n1
  have HF : ∀ W, Kept w W → Hid (Calls Tryz.prog 133 #[.agg #[.int .i64 A.F.T, .int .i64 A.F.K, .int .i64 A.F.N], .pointer (some ⟨M, 0, none⟩)] W fun e w' => e = .returned (.tuple #[]) ∧ RefIs w' M B n (fillSt n A.F s) ∧ But (fun k => k = M ∨ k = B) W w') := fun W k => Lib.hid (r_fill M B n A.F s W (ref_kept hm n1 k) h0 h1 hA.F)
  have C1 : 0 ≤ (fillSt n A.F s).cnt ∧ (fillSt n A.F s).cnt ≤ 1000000 := by rw [fillSt_cnt N1]; omega
  have C2 : ∀ k : Nat, k ≤ 4096 → 0 ≤ (afillTo n A s k).cnt ∧ (afillTo n A s k).cnt ≤ 1000000 := fun k hk => by rw [afillTo_cnt _ _ _ _ N1]; omega
  have HC1 := Lib.hid C1
  have HC2 := Lib.hid C2
  have hne : ¬ (w.heap.size = M ∨ w.heap.size = B) := by omega
  clear hm hA C1 C2
  go_enter Tryz.func67, Tryz.ntmps67
  go_wp2_with fail
  refine (HF _ (by (go_light; repeat (first | (with_reducible exact Kept.refl _) | (with_reducible assumption) | (with_reducible refine Kept.alloc ?_ _ _) | (with_reducible refine Kept.drew ?_) | (with_reducible refine Kept.drewN ?_ _) | ((with_reducible refine Kept.setCell ?_ ?_ _); rotate_left; focus (first | (simp; done) | (simp; omega))) | refine Kept.trans ?_ (by assumption))))).out.mono ?_
  rintro e w1 ⟨rfl, m1, b1⟩
  have a0 := b1.some (cell_new w #[.int .i64 A.F.T, .int .i64 A.F.K, .int .i64 A.F.N, .int .i64 A.G, .int .i64 A.V, .int .i64 A.L] 25 w.heap.size 0 rfl) hne
  have a1 := b1.some (cell_new w #[.int .i64 A.F.T, .int .i64 A.F.K, .int .i64 A.F.N, .int .i64 A.G, .int .i64 A.V, .int .i64 A.L] 25 w.heap.size 1 rfl) hne
  have a2 := b1.some (cell_new w #[.int .i64 A.F.T, .int .i64 A.F.K, .int .i64 A.F.N, .int .i64 A.G, .int .i64 A.V, .int .i64 A.L] 25 w.heap.size 2 rfl) hne
  have a3 := b1.some (cell_new w #[.int .i64 A.F.T, .int .i64 A.F.K, .int .i64 A.F.N, .int .i64 A.G, .int .i64 A.V, .int .i64 A.L] 25 w.heap.size 3 rfl) hne
  have a4 := b1.some (cell_new w #[.int .i64 A.F.T, .int .i64 A.F.K, .int .i64 A.F.N, .int .i64 A.G, .int .i64 A.V, .int .i64 A.L] 25 w.heap.size 4 rfl) hne
  have a5 := b1.some (cell_new w #[.int .i64 A.F.T, .int .i64 A.F.K, .int .i64 A.F.N, .int .i64 A.G, .int .i64 A.V, .int .i64 A.L] 25 w.heap.size 5 rfl) hne
  have BW1 : Hid (But (fun k => k = M ∨ k = B) w w1) := Lib.hid ((Kept.but ((Kept.refl w).alloc _ _) _).trans b1 (fun _ _ h => h))
  have M1 := Lib.hid m1
  have hz1 := b1.size
  simp at hz1
  clear m1 b1 HF
  go_wp2_with fail
  refine (r_store M B n _ A.V 0 _ M1.out HC1.out.1 HC1.out.2 n2).mono ?_
  rintro e w2 ⟨rfl, m2, b2⟩
  have d0 := b2.some a0 hne
  have d1 := b2.some a1 hne
  have d2 := b2.some a2 hne
  have d3 := b2.some a3 hne
  have d4 := b2.some a4 hne
  have d5 := b2.some a5 hne
  have BW2 := Lib.hid (BW1.out.trans b2 (fun _ _ h => h))
  have M2 : Hid (RefIs w2 M B n (afillTo n A s 0)) := Lib.hid m2
  have hz2 := b2.size
  obtain ⟨m, hmm⟩ : ∃ m : Nat, (m : Int) = A.F.N := ⟨A.F.N.toNat, by omega⟩
  have HMM := Lib.hid hmm
  clear m2 b2 a0 a1 a2 a3 a4 a5 hmm M1
  go_wp2_with fail
  go_loopw [4] (fun i wr => ∃ k : Nat, k ≤ m ∧ i = .int .i64 k ∧ RefIs wr M B n (afillTo n A s k) ∧ But (fun k => k = M ∨ k = B) w2 wr) (fun i _ => m - (intOf i).toNat)
  case atStart => exact ⟨0, Nat.zero_le _, rfl, M2.out, But.refl _ _⟩
  case round =>
    obtain ⟨k, hk, rfl, mr, br⟩ := hrel
    have e0 := br.some d0 hne
    have e1 := br.some d1 hne
    have e2 := br.some d2 hne
    have e3 := br.some d3 hne
    have e4 := br.some d4 hne
    have e5 := br.some d5 hne
    have hmm := HMM.out
    have MR := Lib.hid mr
    have BR := Lib.hid br
    have hc := Lib.hid (HC2.out k (by omega))
    clear mr br d0 d1 d2 d3 d4 d5
    by_cases hlt : k < m
    · have hl : (k : Int) < A.F.N := by omega
      have hk2 : (k : Int) ≤ 65534 := by omega
      clear hmm
      go_wp2_with fail
      refine (r_store M B n _ (A.G + k) 1 _ MR.out hc.out.1 hc.out.2 n2).mono ?_
      rintro e w7 ⟨rfl, m7, b7⟩
      have M7 := Lib.hid m7
      have B7 := Lib.hid (BR.out.trans b7 (fun _ _ h => h))
      clear m7 b7
      go_wp2
      go_roundw
      case rel => exact ⟨k + 1, by omega, by go_num, M7.out, B7.out⟩
      case measure => simp [intOf]; omega
    · have hl : A.F.N ≤ (k : Int) := by omega
      have hkm : k = A.F.N.toNat := by omega
      have HKM := Lib.hid hkm
      clear hmm hkm
      go_wp2
      go_end0
      refine ⟨rfl, ?_, BW2.out.trans BR.out (fun _ _ h => h)⟩
      have := MR.out
      rw [HKM.out] at this
      exact this
end Go.Proofs.YtbonnfofoepjcaaGreat.Sk

namespace Go.Proofs.YtbonnfofoepjcaaGreat.Sk
set_option maxRecDepth 20000
open Go.RowKit
open Wo (St acc wordAt PMem RefIs)

theorem OpAt.set {w : World} {P o : Nat} {S : Stk} {W L : Int} {nx : Value} {er : Int} (h : OpAt w P o S W L nx er) (j : Nat) (hj : j < o ∨ o + 8 ≤ j) (v : Value) : OpAt (w.setCell ⟨P, j, none⟩ v) P o S W L nx er := by
  obtain ⟨c0, c1, c2, c3, c4, c5, c6, c7, f⟩ := h
  refine ⟨?_, ?_, ?_, ?_, ?_, ?_, ?_, ?_, fun i => ?_⟩
  all_goals first | (rw [cell_set, if_neg (by omega)]; assumption) | (simp [f])

structure AlRaw (w : World) (P : Nat) (A : Arn) (q : Op) (v : Value) (er r : Int) : Prop where
  op : PopAt w P 0 A.F q
  c8 : w.cell? ⟨P, 8, none⟩ = some (.bool true)
  c9 : w.cell? ⟨P, 9, none⟩ = some (.int .i64 A.F.T)
  c10 : w.cell? ⟨P, 10, none⟩ = some (.int .i64 A.F.K)
  c11 : w.cell? ⟨P, 11, none⟩ = some (.int .i64 A.F.N)
  c12 : w.cell? ⟨P, 12, none⟩ = some (.int .i64 A.G)
  c13 : w.cell? ⟨P, 13, none⟩ = some (.int .i64 A.V)
  c14 : w.cell? ⟨P, 14, none⟩ = some (.int .i64 A.L)
  c15 : w.cell? ⟨P, 15, none⟩ = some v
  c16 : w.cell? ⟨P, 16, none⟩ = some (.int .i64 er)
  c17 : w.cell? ⟨P, 17, none⟩ = some (.int .u64 r)
theorem AlRaw.lt {w : World} {P : Nat} {A : Arn} {q : Op} {v : Value} {er r : Int} (h : AlRaw w P A q v er r) : P < w.heap.size := lt_of_cell h.c8
theorem AlRaw.soft {w : World} {P : Nat} {A : Arn} {q : Op} {v : Value} {er r : Int} (h : AlRaw w P A q v er r) : ∀ i, w.frozen? ⟨P, i, none⟩ = false := h.op.f
theorem AlRaw.frame {w w' : World} {P : Nat} {A : Arn} {q : Op} {v : Value} {er r : Int} (h : AlRaw w P A q v er r) {T : Nat → Prop} (hb : But T w w') (hP : ¬ T P) : AlRaw w' P A q v er r :=
  ⟨OpAt.frame h.op hb hP, hb.some h.c8 hP, hb.some h.c9 hP, hb.some h.c10 hP, hb.some h.c11 hP, hb.some h.c12 hP, hb.some h.c13 hP, hb.some h.c14 hP, hb.some h.c15 hP, hb.some h.c16 hP, hb.some h.c17 hP⟩
theorem AlRaw.kept {w w' : World} {P : Nat} {A : Arn} {q : Op} {v : Value} {er r : Int} (h : AlRaw w P A q v er r) (k : Kept w w') : AlRaw w' P A q v er r := h.frame (k.but (fun _ => False)) id
theorem AlRaw.pop {w w' : World} {P B : Nat} {A : Arn} {q q' : Op} {v : Value} {er r : Int} (h : AlRaw w P A q v er r) (g : Chg P 0 8 B w w') (o : PopAt w' P 0 A.F q') : AlRaw w' P A q' v er r :=
  ⟨o, g.some h.c8 (by omega), g.some h.c9 (by omega), g.some h.c10 (by omega), g.some h.c11 (by omega), g.some h.c12 (by omega), g.some h.c13 (by omega), g.some h.c14 (by omega), g.some h.c15 (by omega), g.some h.c16 (by omega), g.some h.c17 (by omega)⟩
theorem AlRaw.set15 {w : World} {P : Nat} {A : Arn} {q : Op} {v : Value} {er r : Int} (h : AlRaw w P A q v er r) (v' : Value) : AlRaw (w.setCell ⟨P, 15, none⟩ v') P A q v' er r := by
  obtain ⟨o, c8, c9, c10, c11, c12, c13, c14, c15, c16, c17⟩ := h
  refine ⟨OpAt.set o 15 (by omega) _, ?_, ?_, ?_, ?_, ?_, ?_, ?_, ?_, ?_, ?_⟩ <;> (simp [cell_set, *]; done)
theorem AlRaw.set16 {w : World} {P : Nat} {A : Arn} {q : Op} {v : Value} {er r : Int} (h : AlRaw w P A q v er r) (er' : Int) : AlRaw (w.setCell ⟨P, 16, none⟩ (.int .i64 er')) P A q v er' r := by
  obtain ⟨o, c8, c9, c10, c11, c12, c13, c14, c15, c16, c17⟩ := h
  refine ⟨OpAt.set o 16 (by omega) _, ?_, ?_, ?_, ?_, ?_, ?_, ?_, ?_, ?_, ?_⟩ <;> (simp [cell_set, *]; done)
theorem AlRaw.set17 {w : World} {P : Nat} {A : Arn} {q : Op} {v : Value} {er r : Int} (h : AlRaw w P A q v er r) (r' : Int) : AlRaw (w.setCell ⟨P, 17, none⟩ (.int .u64 r')) P A q v er r' := by
  obtain ⟨o, c8, c9, c10, c11, c12, c13, c14, c15, c16, c17⟩ := h
  refine ⟨OpAt.set o 17 (by omega) _, ?_, ?_, ?_, ?_, ?_, ?_, ?_, ?_, ?_, ?_⟩ <;> (simp [cell_set, *]; done)

structure FrRaw (w : World) (P : Nat) (A : Arn) (i : Int) (e0 : Int) (q : Op) (v : Value) (er g : Int) : Prop where
  op : PushAt w P 0 A.F i e0 q
  c9 : w.cell? ⟨P, 9, none⟩ = some (.bool true)
  c10 : w.cell? ⟨P, 10, none⟩ = some (.int .i64 A.F.T)
  c11 : w.cell? ⟨P, 11, none⟩ = some (.int .i64 A.F.K)
  c12 : w.cell? ⟨P, 12, none⟩ = some (.int .i64 A.F.N)
  c13 : w.cell? ⟨P, 13, none⟩ = some (.int .i64 A.G)
  c14 : w.cell? ⟨P, 14, none⟩ = some (.int .i64 A.V)
  c15 : w.cell? ⟨P, 15, none⟩ = some (.int .i64 A.L)
  c16 : w.cell? ⟨P, 16, none⟩ = some v
  c17 : w.cell? ⟨P, 17, none⟩ = some (.int .i64 er)
  c18 : w.cell? ⟨P, 18, none⟩ = some (.int .i64 i)
  c19 : w.cell? ⟨P, 19, none⟩ = some (.int .u64 g)
theorem PushAt.but {w w' : World} {P o : Nat} {S : Stk} {i e0 : Int} {x : Op} (h : PushAt w P o S i e0 x) {T : Nat → Prop} (hb : But T w w') (hP : ¬ T P) : PushAt w' P o S i e0 x := ⟨h.op.frame hb hP, hb.some h.i hP⟩
theorem PushAt.set {w : World} {P o : Nat} {S : Stk} {i e0 : Int} {x : Op} (h : PushAt w P o S i e0 x) (j : Nat) (hj : j < o ∨ o + 9 ≤ j) (v : Value) : PushAt (w.setCell ⟨P, j, none⟩ v) P o S i e0 x :=
  ⟨h.op.set j (by omega) v, by rw [cell_set, if_neg (by omega)]; exact h.i⟩
theorem FrRaw.lt {w : World} {P : Nat} {A : Arn} {i e0 : Int} {q : Op} {v : Value} {er g : Int} (h : FrRaw w P A i e0 q v er g) : P < w.heap.size := lt_of_cell h.c9
theorem FrRaw.soft {w : World} {P : Nat} {A : Arn} {i e0 : Int} {q : Op} {v : Value} {er g : Int} (h : FrRaw w P A i e0 q v er g) : ∀ i, w.frozen? ⟨P, i, none⟩ = false := h.op.op.f
theorem FrRaw.frame {w w' : World} {P : Nat} {A : Arn} {i e0 : Int} {q : Op} {v : Value} {er g : Int} (h : FrRaw w P A i e0 q v er g) {T : Nat → Prop} (hb : But T w w') (hP : ¬ T P) : FrRaw w' P A i e0 q v er g :=
  ⟨h.op.but hb hP, hb.some h.c9 hP, hb.some h.c10 hP, hb.some h.c11 hP, hb.some h.c12 hP, hb.some h.c13 hP, hb.some h.c14 hP, hb.some h.c15 hP, hb.some h.c16 hP, hb.some h.c17 hP, hb.some h.c18 hP, hb.some h.c19 hP⟩
theorem FrRaw.kept {w w' : World} {P : Nat} {A : Arn} {i e0 : Int} {q : Op} {v : Value} {er g : Int} (h : FrRaw w P A i e0 q v er g) (k : Kept w w') : FrRaw w' P A i e0 q v er g := h.frame (k.but (fun _ => False)) id
theorem FrRaw.push {w w' : World} {P B : Nat} {A : Arn} {i e0 : Int} {q q' : Op} {v : Value} {er g : Int} (h : FrRaw w P A i e0 q v er g) (k : Chg P 0 8 B w w') (o : PushAt w' P 0 A.F i e0 q') : FrRaw w' P A i e0 q' v er g :=
  ⟨o, k.some h.c9 (by omega), k.some h.c10 (by omega), k.some h.c11 (by omega), k.some h.c12 (by omega), k.some h.c13 (by omega), k.some h.c14 (by omega), k.some h.c15 (by omega), k.some h.c16 (by omega), k.some h.c17 (by omega), k.some h.c18 (by omega), k.some h.c19 (by omega)⟩
theorem FrRaw.set16 {w : World} {P : Nat} {A : Arn} {i e0 : Int} {q : Op} {v : Value} {er g : Int} (h : FrRaw w P A i e0 q v er g) (v' : Value) : FrRaw (w.setCell ⟨P, 16, none⟩ v') P A i e0 q v' er g := by
  obtain ⟨o, c9, c10, c11, c12, c13, c14, c15, c16, c17, c18, c19⟩ := h
  refine ⟨o.set 16 (by omega) _, ?_, ?_, ?_, ?_, ?_, ?_, ?_, ?_, ?_, ?_, ?_⟩ <;> (simp [cell_set, *]; done)
theorem FrRaw.set17 {w : World} {P : Nat} {A : Arn} {i e0 : Int} {q : Op} {v : Value} {er g : Int} (h : FrRaw w P A i e0 q v er g) (er' : Int) : FrRaw (w.setCell ⟨P, 17, none⟩ (.int .i64 er')) P A i e0 q v er' g := by
  obtain ⟨o, c9, c10, c11, c12, c13, c14, c15, c16, c17, c18, c19⟩ := h
  refine ⟨o.set 17 (by omega) _, ?_, ?_, ?_, ?_, ?_, ?_, ?_, ?_, ?_, ?_, ?_⟩ <;> (simp [cell_set, *]; done)
theorem FrRaw.set19 {w : World} {P : Nat} {A : Arn} {i e0 : Int} {q : Op} {v : Value} {er g : Int} (h : FrRaw w P A i e0 q v er g) (g' : Int) : FrRaw (w.setCell ⟨P, 19, none⟩ (.int .u64 g')) P A i e0 q v er g' := by
  obtain ⟨o, c9, c10, c11, c12, c13, c14, c15, c16, c17, c18, c19⟩ := h
  refine ⟨o.set 19 (by omega) _, ?_, ?_, ?_, ?_, ?_, ?_, ?_, ?_, ?_, ?_, ?_⟩ <;> (simp [cell_set, *]; done)

def Rowed (At : World → Prop) (M B n : Nat) (s' : St) (P m : Nat) (w : World) (e : Ending) (w' : World) : Prop :=
  e = .returned (.tuple #[]) ∧ At w' ∧ PMem w' M B n s' ∧ Chg P 0 m B w w'
def Went (At : World → Prop) (M B n : Nat) (s' : St) (P m : Nat) (b : Bool) (w : World) (e : Ending) (w' : World) : Prop :=
  e = .returned (.bool b) ∧ At w' ∧ PMem w' M B n s' ∧ Chg P 0 m B w w'

theorem ref_put (i g : Int) (h0 : 0 ≤ i) (h1 : i ≤ 65534) (w : World) : Calls Tryz.prog 217 #[.agg #[.int .i64 i, .int .i64 (gen g), .bool false]] w fun e w' => e = .returned (.tuple #[.int .u64 (refW i (gen g)), .int .i64 0]) ∧ Kept w w' :=
  (Wo.put_ref_good i (gen g) false w ⟨by omega, h1, gen_lo g, by have := gen_hi g; omega⟩ (by omega)).mono fun _ _ ⟨x, k⟩ => ⟨by rw [x]; unfold refW; simp [Wo.bitOf], kept_of k⟩
end Go.Proofs.YtbonnfofoepjcaaGreat.Sk
