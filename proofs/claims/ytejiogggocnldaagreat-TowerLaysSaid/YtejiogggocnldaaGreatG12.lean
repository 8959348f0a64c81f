/- Fill: the program's and the document's. -/
import Derived.Test.YtejiogggocnldaaGreatG10
import Derived.Test.YtejiogggocnldaaGreatG11
import Derived.Deep.RegionHeld3
import Derived.Test.YtejiogggocnldaaGreatG00
import Derived.RangeFuncNested
import Derived.RangeFuncBound
import Derived.RangeFuncCalls
import Derived.RangeFuncLeaves
import Derived.Shelf.Abstract
import Derived.Shelf.RegionOpen
import Derived.OwnWalkIn
import Derived.TacticsInMore
import Derived.LoopNIn
import Derived.LoopIn
set_option linter.unusedVariables false
set_option linter.unusedSimpArgs false

namespace Go.Proofs.YtejiogggocnldaaGreat.Sk
set_option maxRecDepth 20000
open Go.RowKit
open Wo (St acc wordAt PMem RefIs)

def afillTo (n : Nat) (A : Arn) (s : St) : Nat → St
  | 0 => acc n (fillSt n A.F s) 2 A.V true 0
  | k + 1 => acc n (afillTo n A s k) 2 (A.G + k) true 1
def afillSt (n : Nat) (A : Arn) (s : St) : St := afillTo n A s A.F.N.toNat
theorem afillTo_cnt (n : Nat) (A : Arn) (s : St) (k : Nat) (h : 1 ≤ A.F.N) : (afillTo n A s k).cnt = s.cnt + 2 + A.F.N + k := by
  induction k with
  | zero => show (acc n (fillSt n A.F s) 2 A.V true 0).cnt = _; rw [acc_cnt, fillSt_cnt h]; omega
  | succ k ih => show (acc n (afillTo n A s k) 2 (A.G + k) true 1).cnt = _; rw [acc_cnt, ih]; omega
theorem afillTo_wd {n : Nat} {A : Arn} {s : St} (h : Wd n s) (hN : A.F.N ≤ 4096) : ∀ k, Wd n (afillTo n A s k)
  | 0 => (fillSt_wd h hN).acc _ _ _ _ (by omega) (by omega)
  | k + 1 => (afillTo_wd h hN k).acc _ _ _ _ (by omega) (by omega)
theorem afillSt_wd {n : Nat} {A : Arn} {s : St} (h : Wd n s) (hN : A.F.N ≤ 4096) : Wd n (afillSt n A s) := afillTo_wd h hN _
theorem afillSt_cnt {n : Nat} {A : Arn} {s : St} (h : 1 ≤ A.F.N) : (afillSt n A s).cnt = s.cnt + 2 + 2 * A.F.N := by
  unfold afillSt; rw [afillTo_cnt _ _ _ _ h]; omega

set_option maxHeartbeats 2000000 in
theorem p_afill (M B n : Nat) (A : Arn) (s : St) (w : World) (hm : PMem w M B n s) (h0 : 0 ≤ s.cnt) (h1 : s.cnt ≤ 900000) (hA : A.Ok n) :
    Calls Tryz.prog 169 #[.agg #[.int .i64 A.F.T, .int .i64 A.F.K, .int .i64 A.F.N, .int .i64 A.G, .int .i64 A.V, .int .i64 A.L], .pointer (some ⟨M, 0, none⟩)] w fun e w' => e = .returned (.tuple #[]) ∧ PMem w' M B n (afillSt n A s) ∧ But (fun k => k = B) w w' := by
  have N1 := hA.F.N1
  have N2 := hA.F.N2
  have G1 := hA.G1
  have G2 := hA.G2
  have n2 := hA.F.n2
  have hB := pmem_lt hm
  have HF : ∀ W, Kept w W → Hid (Calls Tryz.prog 202 #[.agg #[.int .i64 A.F.T, .int .i64 A.F.K, .int .i64 A.F.N], .pointer (some ⟨M, 0, none⟩)] W fun e w' => e = .returned (.tuple #[]) ∧ PMem w' M B n (fillSt n A.F s) ∧ But (fun k => k = B) W w') := fun W k => Lib.hid (p_fill M B n A.F s W (pmem_kept hm k) h0 h1 hA.F)
  have C1 : 0 ≤ (fillSt n A.F s).cnt ∧ (fillSt n A.F s).cnt ≤ 1000000 := by rw [fillSt_cnt N1]; omega
  have C2 : ∀ k : Nat, k ≤ 4096 → 0 ≤ (afillTo n A s k).cnt ∧ (afillTo n A s k).cnt ≤ 1000000 := fun k hk => by rw [afillTo_cnt _ _ _ _ N1]; omega
  have HC1 := Lib.hid C1
  have HC2 := Lib.hid C2
  have hne : w.heap.size ≠ B := by omega
  clear hm hA C1 C2
  go_enter Tryz.func169, Tryz.ntmps169
  go_wp2_with fail
  refine (HF _ (by (go_light; repeat (first | (with_reducible exact Kept.refl _) | (with_reducible assumption) | (with_reducible refine Kept.alloc ?_ _ _) | (with_reducible refine Kept.drew ?_) | (with_reducible refine Kept.drewN ?_ _) | ((with_reducible refine Kept.setCell ?_ ?_ _); rotate_left; focus (first | (simp; done) | (simp; omega))) | refine Kept.trans ?_ (by assumption))))).out.mono ?_
  rintro e w1 ⟨rfl, m1, b1⟩
  have a0 := b1.some (cell_new w #[.int .i64 A.F.T, .int .i64 A.F.K, .int .i64 A.F.N, .int .i64 A.G, .int .i64 A.V, .int .i64 A.L] 25 w.heap.size 0 rfl) hne
  have a1 := b1.some (cell_new w #[.int .i64 A.F.T, .int .i64 A.F.K, .int .i64 A.F.N, .int .i64 A.G, .int .i64 A.V, .int .i64 A.L] 25 w.heap.size 1 rfl) hne
  have a2 := b1.some (cell_new w #[.int .i64 A.F.T, .int .i64 A.F.K, .int .i64 A.F.N, .int .i64 A.G, .int .i64 A.V, .int .i64 A.L] 25 w.heap.size 2 rfl) hne
  have a3 := b1.some (cell_new w #[.int .i64 A.F.T, .int .i64 A.F.K, .int .i64 A.F.N, .int .i64 A.G, .int .i64 A.V, .int .i64 A.L] 25 w.heap.size 3 rfl) hne
  have a4 := b1.some (cell_new w #[.int .i64 A.F.T, .int .i64 A.F.K, .int .i64 A.F.N, .int .i64 A.G, .int .i64 A.V, .int .i64 A.L] 25 w.heap.size 4 rfl) hne
  have a5 := b1.some (cell_new w #[.int .i64 A.F.T, .int .i64 A.F.K, .int .i64 A.F.N, .int .i64 A.G, .int .i64 A.V, .int .i64 A.L] 25 w.heap.size 5 rfl) hne
  have BW1 : Hid (But (fun k => k = B) w w1) := Lib.hid ((Kept.but ((Kept.refl w).alloc _ _) _).trans b1 (fun _ _ h => h))
  have M1 := Lib.hid m1
  have hz1 := b1.size
  simp at hz1
  clear m1 b1 HF
  go_wp2_with fail
  refine (p_store M B n _ A.V 0 _ M1.out HC1.out.1 HC1.out.2).mono ?_
  rintro e w2 ⟨rfl, m2, b2⟩
  have d0 := b2.some a0 hne
  have d1 := b2.some a1 hne
  have d2 := b2.some a2 hne
  have d3 := b2.some a3 hne
  have d4 := b2.some a4 hne
  have d5 := b2.some a5 hne
  have BW2 := Lib.hid (BW1.out.trans b2 (fun _ _ h => h))
  have M2 : Hid (PMem w2 M B n (afillTo n A s 0)) := Lib.hid m2
  have hz2 := b2.size
  obtain ⟨m, hmm⟩ : ∃ m : Nat, (m : Int) = A.F.N := ⟨A.F.N.toNat, by omega⟩
  have HMM := Lib.hid hmm
  clear m2 b2 a0 a1 a2 a3 a4 a5 hmm M1
  go_wp2_with fail
  go_loopw [27, 4, 5] (fun i _ _ wr => ∃ k : Nat, k ≤ m ∧ i = .int .i64 k ∧ PMem wr M B n (afillTo n A s k) ∧ But (fun k => k = B) w2 wr) (fun i _ _ _ => m - (intOf i).toNat)
  case atStart => exact ⟨0, Nat.zero_le _, rfl, M2.out, But.refl _ _⟩
  case round =>
    obtain ⟨k, hk, rfl, mr, br⟩ := hrel
    have e0 := br.some d0 hne
    have e1 := br.some d1 hne
    have e2 := br.some d2 hne
    have e3 := br.some d3 hne
    have e4 := br.some d4 hne
    have e5 := br.some d5 hne
    have hmm := HMM.out
    have MR := Lib.hid mr
    have BR := Lib.hid br
    have hc := Lib.hid (HC2.out k (by omega))
    clear mr br d0 d1 d2 d3 d4 d5
    by_cases hlt : k < m
    · have hl : (k : Int) < A.F.N := by omega
      have hk2 : (k : Int) ≤ 65534 := by omega
      have HG : ∀ W, Hid (Calls Tryz.prog 204 #[.agg #[.int .i64 A.F.T, .int .i64 A.F.K, .int .i64 A.F.N, .int .i64 A.G, .int .i64 A.V, .int .i64 A.L], .int .i64 (k : Int)] W fun e w' => e = .returned (.int .i64 (A.G + k)) ∧ Kept W w') := fun W => Lib.hid (gen_in _ _ _ _ _ _ _ W G1 (by omega) (by omega) (by omega))
      clear hmm
      go_wp2_with fail
      refine (generations_any 0 _).mono ?_
      rintro e w4 ⟨b, rfl, hb, cb, fb, k4⟩
      have hbu := lt_of_cell cb
      have g0 := k4.some e0
      have g1 := k4.some e1
      have g2 := k4.some e2
      have g3 := k4.some e3
      have g4 := k4.some e4
      have g5 := k4.some e5
      have K4 := Lib.hid k4
      have FB := Lib.hid fb
      clear k4 fb
      go_wp2_with fail
      refine (HG _).out.mono ?_
      rintro e w5 ⟨rfl, k5⟩
      have cb5 := k5.some cb
      have fb5 : ∀ i, w5.frozen? ⟨b, i, none⟩ = false := fun j => k5.soft hbu (FB.out j)
      have K5 := Lib.hid (K4.out.trans k5)
      clear k5
      go_wp2_with fail
      refine (generations1_any 0 b _ cb5 fb5).mono ?_
      rintro e w6 ⟨rfl, h6⟩
      have K6 := Lib.hid (show Kept _ w6 by rw [h6]; exact Kept.setCell K5.out (p := ⟨b, 0, none⟩) hb _)
      clear h6 cb5 fb5 cb g0 g1 g2 g3 g4 g5
      go_wp2_with fail
      refine (p_store M B n _ (A.G + k) 1 _ (pmem_kept MR.out K6.out) hc.out.1 hc.out.2).mono ?_
      rintro e w7 ⟨rfl, m7, b7⟩
      have M7 := Lib.hid m7
      have B7 := Lib.hid ((BR.out.then K6.out).trans b7 (fun _ _ h => h))
      clear m7 b7
      go_wp2
      go_roundw
      case rel => exact ⟨k + 1, by omega, by go_num, M7.out, B7.out⟩
      case measure => simp [intOf]; omega
    · have hl : A.F.N ≤ (k : Int) := by omega
      have hkm : k = A.F.N.toNat := by omega
      have HKM := Lib.hid hkm
      clear hmm hkm
      go_wp2
      go_end0
      refine ⟨rfl, ?_, BW2.out.trans BR.out (fun _ _ h => h)⟩
      have := MR.out
      rw [HKM.out] at this
      exact this

set_option maxHeartbeats 2000000 in
theorem r_afill (M B n : Nat) (A : Arn) (s : St) (w : World) (hm : RefIs w M B n s) (h0 : 0 ≤ s.cnt) (h1 : s.cnt ≤ 900000) (hA : A.Ok n) :
    Calls Tryz.prog 195 #[.agg #[.int .i64 A.F.T, .int .i64 A.F.K, .int .i64 A.F.N, .int .i64 A.G, .int .i64 A.V, .int .i64 A.L], .pointer (some ⟨M, 0, none⟩)] w fun e w' => e = .returned (.tuple #[]) ∧ RefIs w' M B n (afillSt n A s) ∧ But (fun k => k = M ∨ k = B) w w' := by
  have N1 := hA.F.N1
  have N2 := hA.F.N2
  have G1 := hA.G1
  have G2 := hA.G2
  have n1 := hA.F.n1
  have n2 := hA.F.n2
  have hB := ref_lt hm n1
  have HF : ∀ W, Kept w W → Hid (Calls Tryz.prog 214 #[.agg #[.int .i64 A.F.T, .int .i64 A.F.K, .int .i64 A.F.N], .pointer (some ⟨M, 0, none⟩)] W fun e w' => e = .returned (.tuple #[]) ∧ RefIs w' M B n (fillSt n A.F s) ∧ But (fun k => k = M ∨ k = B) W w') := fun W k => Lib.hid (r_fill M B n A.F s W (ref_kept hm n1 k) h0 h1 hA.F)
  have C1 : 0 ≤ (fillSt n A.F s).cnt ∧ (fillSt n A.F s).cnt ≤ 1000000 := by rw [fillSt_cnt N1]; omega
  have C2 : ∀ k : Nat, k ≤ 4096 → 0 ≤ (afillTo n A s k).cnt ∧ (afillTo n A s k).cnt ≤ 1000000 := fun k hk => by rw [afillTo_cnt _ _ _ _ N1]; omega
  have HC1 := Lib.hid C1
  have HC2 := Lib.hid C2
  have hne : ¬ (w.heap.size = M ∨ w.heap.size = B) := by omega
  clear hm hA C1 C2
  go_enter Tryz.func195, Tryz.ntmps195
  go_wp2_with fail
  refine (HF _ (by (go_light; repeat (first | (with_reducible exact Kept.refl _) | (with_reducible assumption) | (with_reducible refine Kept.alloc ?_ _ _) | (with_reducible refine Kept.drew ?_) | (with_reducible refine Kept.drewN ?_ _) | ((with_reducible refine Kept.setCell ?_ ?_ _); rotate_left; focus (first | (simp; done) | (simp; omega))) | refine Kept.trans ?_ (by assumption))))).out.mono ?_
  rintro e w1 ⟨rfl, m1, b1⟩
  have a0 := b1.some (cell_new w #[.int .i64 A.F.T, .int .i64 A.F.K, .int .i64 A.F.N, .int .i64 A.G, .int .i64 A.V, .int .i64 A.L] 25 w.heap.size 0 rfl) hne
  have a1 := b1.some (cell_new w #[.int .i64 A.F.T, .int .i64 A.F.K, .int .i64 A.F.N, .int .i64 A.G, .int .i64 A.V, .int .i64 A.L] 25 w.heap.size 1 rfl) hne
  have a2 := b1.some (cell_new w #[.int .i64 A.F.T, .int .i64 A.F.K, .int .i64 A.F.N, .int .i64 A.G, .int .i64 A.V, .int .i64 A.L] 25 w.heap.size 2 rfl) hne
  have a3 := b1.some (cell_new w #[.int .i64 A.F.T, .int .i64 A.F.K, .int .i64 A.F.N, .int .i64 A.G, .int .i64 A.V, .int .i64 A.L] 25 w.heap.size 3 rfl) hne
  have a4 := b1.some (cell_new w #[.int .i64 A.F.T, .int .i64 A.F.K, .int .i64 A.F.N, .int .i64 A.G, .int .i64 A.V, .int .i64 A.L] 25 w.heap.size 4 rfl) hne
  have a5 := b1.some (cell_new w #[.int .i64 A.F.T, .int .i64 A.F.K, .int .i64 A.F.N, .int .i64 A.G, .int .i64 A.V, .int .i64 A.L] 25 w.heap.size 5 rfl) hne
  have BW1 : Hid (But (fun k => k = M ∨ k = B) w w1) := Lib.hid ((Kept.but ((Kept.refl w).alloc _ _) _).trans b1 (fun _ _ h => h))
  have M1 := Lib.hid m1
  have hz1 := b1.size
  simp at hz1
  clear m1 b1 HF
  go_wp2_with fail
  refine (r_store M B n _ A.V 0 _ M1.out HC1.out.1 HC1.out.2 n2).mono ?_
  rintro e w2 ⟨rfl, m2, b2⟩
  have d0 := b2.some a0 hne
  have d1 := b2.some a1 hne
  have d2 := b2.some a2 hne
  have d3 := b2.some a3 hne
  have d4 := b2.some a4 hne
  have d5 := b2.some a5 hne
  have BW2 := Lib.hid (BW1.out.trans b2 (fun _ _ h => h))
  have M2 : Hid (RefIs w2 M B n (afillTo n A s 0)) := Lib.hid m2
  have hz2 := b2.size
  obtain ⟨m, hmm⟩ : ∃ m : Nat, (m : Int) = A.F.N := ⟨A.F.N.toNat, by omega⟩
  have HMM := Lib.hid hmm
  clear m2 b2 a0 a1 a2 a3 a4 a5 hmm M1
  go_wp2_with fail
  go_loopw [4] (fun i wr => ∃ k : Nat, k ≤ m ∧ i = .int .i64 k ∧ RefIs wr M B n (afillTo n A s k) ∧ But (fun k => k = M ∨ k = B) w2 wr) (fun i _ => m - (intOf i).toNat)
  case atStart => exact ⟨0, Nat.zero_le _, rfl, M2.out, But.refl _ _⟩
  case round =>
    obtain ⟨k, hk, rfl, mr, br⟩ := hrel
    have e0 := br.some d0 hne
    have e1 := br.some d1 hne
    have e2 := br.some d2 hne
    have e3 := br.some d3 hne
    have e4 := br.some d4 hne
    have e5 := br.some d5 hne
    have hmm := HMM.out
    have MR := Lib.hid mr
    have BR := Lib.hid br
    have hc := Lib.hid (HC2.out k (by omega))
    clear mr br d0 d1 d2 d3 d4 d5
    by_cases hlt : k < m
    · have hl : (k : Int) < A.F.N := by omega
      have hk2 : (k : Int) ≤ 65534 := by omega
      clear hmm
      go_wp2_with fail
      refine (r_store M B n _ (A.G + k) 1 _ MR.out hc.out.1 hc.out.2 n2).mono ?_
      rintro e w7 ⟨rfl, m7, b7⟩
      have M7 := Lib.hid m7
      have B7 := Lib.hid (BR.out.trans b7 (fun _ _ h => h))
      clear m7 b7
      go_wp2
      go_roundw
      case rel => exact ⟨k + 1, by omega, by go_num, M7.out, B7.out⟩
      case measure => simp [intOf]; omega
    · have hl : A.F.N ≤ (k : Int) := by omega
      have hkm : k = A.F.N.toNat := by omega
      have HKM := Lib.hid hkm
      clear hmm hkm
      go_wp2
      go_end0
      refine ⟨rfl, ?_, BW2.out.trans BR.out (fun _ _ h => h)⟩
      have := MR.out
      rw [HKM.out] at this
      exact this
end Go.Proofs.YtejiogggocnldaaGreat.Sk

namespace Go.Proofs.YtejiogggocnldaaGreat.Ep
open Wo (St acc wordAt)
open Sk (Stk Wd)

def ep (w : Int) : Int := w % 4294967296
theorem ep_lo (w : Int) : 0 ≤ ep w := by unfold ep; omega
theorem ep_hi (w : Int) : ep w ≤ 4294967295 := by unfold ep; omega
theorem ep_next {w : Int} : ep (ep w + 1) = (ep w + 1) % 4294967296 := rfl

structure EOp where
  line : Nat
  W : Int
  L : Int
  er : Int
def EOp.new : EOp := ⟨1, 0, 0, 14⟩
def EOp.bad : EOp := ⟨9, 0, 0, 3⟩
def EOp.next (x : EOp) : Int := if x.line = 9 then 0 else x.line
structure EOp.Good (x : EOp) : Prop where
  W0 : 0 ≤ x.W
  W1 : x.W < 18446744073709551616

def pinSt (n : Nat) (S : Stk) (c : Int) (s : St) (x : EOp) : St :=
  if x.line = 1 then acc n s 1 S.T false 0
  else if x.line = 2 then acc n s 2 (S.K + c) true (ep x.W + 1)
  else if x.line = 3 then acc n s 1 S.T false 0
  else s
def pinOp (n : Nat) (S : Stk) (s : St) (x : EOp) : EOp :=
  if x.line = 1 then ⟨2, wordAt n s S.T, x.L, x.er⟩
  else if x.line = 2 then ⟨3, x.W, x.L, x.er⟩
  else if x.line = 3 then (if ep (wordAt n s S.T) = ep x.W then ⟨9, wordAt n s S.T, x.L, 0⟩ else ⟨2, wordAt n s S.T, x.L, x.er⟩)
  else x
def unSt (n : Nat) (S : Stk) (c : Int) (s : St) (x : EOp) : St := if x.line = 1 then acc n s 2 (S.K + c) true 0 else s
def unOp (x : EOp) : EOp := if x.line = 1 then ⟨9, x.W, x.L, 0⟩ else x
def skip (c i : Int) : Int := if i = c then i + 1 else i
def seekOp (S : Stk) (c W er i : Int) : EOp := ⟨if skip c i < S.N then 2 else 3, W, skip c i, er⟩
def advSt (n : Nat) (S : Stk) (s : St) (x : EOp) : St :=
  if x.line = 1 then acc n s 1 S.T false 0
  else if x.line = 2 then acc n s 1 (S.K + x.L) false 0
  else if x.line = 3 then acc n s 3 S.T (wordAt n s S.T == x.W) (ep x.W + 1)
  else s
def advOp (n : Nat) (S : Stk) (c p : Int) (s : St) (x : EOp) : EOp :=
  if x.line = 1 then (if ep (wordAt n s S.T) = p then seekOp S c (wordAt n s S.T) x.er x.L else ⟨9, wordAt n s S.T, x.L, 14⟩)
  else if x.line = 2 then (if wordAt n s (S.K + x.L) ≠ 0 ∧ wordAt n s (S.K + x.L) ≠ ep x.W + 1 then ⟨9, x.W, x.L, 14⟩ else seekOp S c x.W x.er (x.L + 1))
  else if x.line = 3 then ⟨9, x.W, x.L, if wordAt n s S.T = x.W then 0 else 14⟩
  else x
def toldAt (x : EOp) : Int := if x.er = 0 then ep x.W else 0

def lines (x : EOp) : Prop := x.line = 1 ∨ x.line = 2 ∨ x.line = 3 ∨ x.line = 9
theorem skip_lo {c i : Int} : i ≤ skip c i ∧ skip c i ≤ i + 1 := by unfold skip; split <;> omega
end Go.Proofs.YtejiogggocnldaaGreat.Ep

namespace Go.Proofs.YtejiogggocnldaaGreat.Sk
set_option maxRecDepth 20000
open Go.RowKit Go.Shelf

theorem but_turned {S : Nat → Prop} {a w : World} {l : Nat} {o o' : Obj} (h : But S a w) (hl : w.heap[l]? = some o) (ho : o.isCells = false) (ho' : o'.isCells = false) (hS : S l ∨ a.heap.size ≤ l) : But S a (w.putObj l o') := by
  have hlt := (Array.getElem?_eq_some_iff.1 hl).1
  refine ⟨h.os, h.tape, h.output, by simpa [World.putObj] using h.size, fun k hk hk' => ?_, fun x hx => ?_⟩
  · have hne : k ≠ l := fun e => hS.elim (fun s => hk' (e ▸ s)) fun s => by omega
    exact (World.putObj_heap_other hne).trans (h.block k hk hk')
  · refine Eq.trans ?_ (h.froze x hx)
    by_cases e : x.block = l
    · have h1 : (w.putObj l o').heap[x.block]? = some o' := by rw [e]; exact World.putObj_heap_same hlt
      have h2 : w.heap[x.block]? = some o := by rw [e]; exact hl
      unfold World.frozen?
      rw [h1, h2]
      cases o <;> cases o' <;> simp_all [Obj.isCells]
    · exact World.frozen?_of_block (World.putObj_heap_other e)

structure Blk (S : Nat → Prop) (w w' : World) : Prop where
  os : w'.os = w.os
  tape : w'.tape = w.tape
  output : w'.output = w.output
  size : w.heap.size ≤ w'.heap.size
  block : ∀ k, k < w.heap.size → ¬ S k → w'.heap[k]? = w.heap[k]?
theorem Blk.of {S : Nat → Prop} {w w' : World} (h : But S w w') : Blk S w w' := ⟨h.os, h.tape, h.output, h.size, h.block⟩
theorem Blk.refl (S : Nat → Prop) (w : World) : Blk S w w := .of (But.refl _ _)
theorem Blk.mono {S T : Nat → Prop} {w w' : World} (h : Blk S w w') (hST : ∀ k, k < w.heap.size → S k → T k) : Blk T w w' :=
  ⟨h.os, h.tape, h.output, h.size, fun k hk hT => h.block k hk (fun hS => hT (hST k hk hS))⟩
theorem Blk.trans {S T : Nat → Prop} {a b c : World} (h : Blk S a b) (k : Blk T b c) (hT : ∀ i, i < a.heap.size → T i → S i) : Blk S a c :=
  ⟨k.os.trans h.os, k.tape.trans h.tape, k.output.trans h.output, Nat.le_trans h.size k.size,
   fun i hi hS => (k.block i (Nat.lt_of_lt_of_le hi h.size) (fun ht => hS (hT i hi ht))).trans (h.block i hi hS)⟩
theorem Blk.then {S : Nat → Prop} {a b c : World} (h : Blk S a b) (k : Kept b c) : Blk S a c := h.trans (.of (k.but S)) (fun _ _ h => h)
theorem Blk.turned {S : Nat → Prop} {a w : World} {l : Nat} {o o' : Obj} (h : Blk S a w) (hl : w.heap[l]? = some o) (hS : S l ∨ a.heap.size ≤ l) : Blk S a (w.putObj l o') := by
  have hlt := (Array.getElem?_eq_some_iff.1 hl).1
  refine ⟨h.os, h.tape, h.output, by simpa [World.putObj] using h.size, fun k hk hk' => ?_⟩
  have hne : k ≠ l := fun e => hS.elim (fun s => hk' (e ▸ s)) fun s => by omega
  exact (World.putObj_heap_other hne).trans (h.block k hk hk')
theorem Blk.kept {S : Nat → Prop} {w w' : World} (h : Blk S w w') (hS : ∀ k, k < w.heap.size → ¬ S k) : Kept w w' :=
  ⟨⟨h.os, h.tape, h.output, h.size, fun k hk => h.block k hk (hS k hk)⟩⟩

def leaves (e : Exit) (c : Code) : Prop := (e = .ret ∧ c = .ret) ∨ ∃ id, e = .exit id ∧ c = .exit id

theorem range_many {α : Type} {Bs : Nat → Prop} {n : Nat} {P : Program} {g : Operand} {p : Tmp} {assign body : Code} {Q : Exit → Act → World → Prop} {a : Act} {w : World} (h1 : 1 ≤ n)
    {gf : Nat} {lb : Array Value} (hg : a.eval g = .func (.func gf) #[] lb) (eg : ∀ args w, (callFunc gf args).run P w = .ok (.enter gf args) w) (enc : α → Value)
    (hBs : ∀ k, Bs k → k < w.heap.size ∨ w.heap.size + 1 + 1 ≤ k)
    (I : List α → World → Prop) (Ix : Code → List α → World → Prop) (So : List α → α → Prop) (Nn : List α → Prop)
    (hI0 : ∀ W, Kept w W → I [] W)
    (hIk : ∀ pre W W', I pre W → Kept W W' → I pre W')
    (hIl : ∀ pre W l y y', w.heap.size ≤ l → W.heap[l]? = some (.loop y) → I pre W → I pre (W.putObj l (.loop y')))
    (hXk : ∀ c pre W W', Ix c pre W → Kept W W' → Ix c pre W')
    (hXl : ∀ c pre W l y y', w.heap.size ≤ l → W.heap[l]? = some (.loop y) → Ix c pre W → Ix c pre (W.putObj l (.loop y')))
    (hseq : ∀ (l : Nat) (W0 : World) (J Jx : List α → World → Prop), Kept w W0 → W0.heap.size = w.heap.size + 1 + 1 → l < W0.heap.size →
      (∀ pre W W', J pre W → Kept W W' → J pre W') → (∀ pre W, J pre W → I pre W ∧ Blk (fun k => Bs k ∨ (w.heap.size ≤ k ∧ k < w.heap.size + 1 + 1)) W0 W) →
      (∀ pre x W1, J pre W1 → So pre x → YieldAt Fence.wide (n - 1 - 1) P l #[enc x] W1 fun e W' => (e = .returned (.bool true) ∧ J (pre ++ [x]) W') ∨ (e = .returned (.bool false) ∧ Jx (pre ++ [x]) W')) →
      J [] W0 →
      CallsIn Fence.wide (n - 1) P gf (#[.func (.yield l) #[] #[]] ++ lb) W0 fun e W' => (∃ v, e = .returned v) ∧ ((∃ xs, Nn xs ∧ J xs W') ∨ ∃ pre W1, Jx pre W1 ∧ Kept W1 W'))
    (a1 : α → Act) (hassign : ∀ (l : Nat) (x : α) (W : World) (K : Act → World → Prop), K (a1 x) W → assign.wpIn (Fence.wide.inRound l) (n - 1 - 1) P (Exit.then K (fun _ _ _ => False)) { tmps := a.tmps.setIfInBounds p (enc x), defers := [] } W)
    (hbody : ∀ (l : Nat) (pre : List α) (x : α) (W : World), I pre W → So pre x → w.heap.size + 1 + 1 ≤ W.heap.size → Blk Bs w W →
      body.wpIn (Fence.wide.inRound l) (n - 1 - 1) P (fun e _ W3 => (e = .normal ∧ I (pre ++ [x]) W3 ∧ Blk Bs W W3) ∨ (∃ c, leaves e c ∧ Ix c (pre ++ [x]) W3 ∧ Blk Bs W W3)) (a1 x) W)
    (hdone : ∀ (D : Nat) (xs : List α) (W : World), Nn xs → I xs W → Blk Bs w W → w.heap.size ≤ D → W.heap[D]? = some (.deferred (some [])) → Q .normal { a with defers := { target := .collected D, args := #[] } :: a.defers } W)
    (hstop : ∀ (D : Nat) (c : Code) (xs : List α) (W : World), Ix c xs W → Blk Bs w W → w.heap.size ≤ D → W.heap[D]? = some (.deferred (some [])) → c.wpIn Fence.wide n P Q { a with defers := { target := .collected D, args := #[] } :: a.defers } W) :
    (Code.rangeFunc g #[p] assign body).wpIn Fence.wide n P Q a w := by
  refine wpIn_rangeFunc fun fn hfn => ?_
  rw [show Fence.wide.round = none from rfl]
  obtain ⟨rc, hrc⟩ : ∃ rc : LoopState → Option Code → Loop, rc = fun st pe => { state := st, pending := pe, fn, tmps := a.tmps, params := #[p], assign, body, defers := w.heap.size } := ⟨_, rfl⟩
  obtain ⟨WD, hWD⟩ : ∃ WD, w.alloc (.deferred (some [])) = WD := ⟨_, rfl⟩
  obtain ⟨W0, hW0⟩ : ∃ W0, WD.alloc (.loop (rc .ready none)) = W0 := ⟨_, rfl⟩
  have sD : WD.heap.size = w.heap.size + 1 := by rw [← hWD]; simp
  have s0 : W0.heap.size = w.heap.size + 1 + 1 := by rw [← hW0]; simp [sD]
  have kD : Kept w WD := by rw [← hWD]; exact ⟨(Kept.refl _).below.alloc (Kept.refl _).below.size _⟩
  have k0 : Kept WD W0 := by rw [← hW0]; exact ⟨(Kept.refl _).below.alloc (Kept.refl _).below.size _⟩
  have kW : Kept w W0 := kD.trans k0
  have bL : W0.heap[w.heap.size + 1]? = some (.loop (rc .ready none)) := by
    rw [← hW0, ← sD]; exact World.alloc_heap_new _ _
  have bD : W0.heap[w.heap.size]? = some (.deferred (some [])) := by
    rw [k0.below.block _ (by omega), ← hWD]; exact World.alloc_heap_new _ _
  have h0 : (Instr.enterLoop fn a.tmps #[p] assign body none).run P w = .ok (w.heap.size + 1, [{ target := .collected w.heap.size, args := #[] }]) W0 := by
    rw [← hW0, ← hWD, hrc]; exact run_enterLoop_outer _ _ _ _ _
  refine ⟨_, _, W0, { target := .fn (.func gf) lb, args := #[.func (.yield (w.heap.size + 1)) #[] #[]] }, W0, gf, #[.func (.yield (w.heap.size + 1)) #[] #[]] ++ lb, W0, h0, ?_, fun _ _ => trivial, ?_, fun _ => h1, ?_⟩
  · simp only [resolve, hg]
    simp [go_sem]
  · simp [invoke, go_sem, eg]
  -- between two rounds, and behind one that leaves
  refine (hseq (w.heap.size + 1) W0
    (fun pre W => I pre W ∧ W.heap[w.heap.size + 1]? = some (.loop (rc .ready none)) ∧ W.heap[w.heap.size]? = some (.deferred (some [])) ∧ Blk (fun k => Bs k ∨ k = w.heap.size + 1) W0 W)
    (fun pre W => ∃ c, Ix c pre W ∧ W.heap[w.heap.size + 1]? = some (.loop (rc .done (some c))) ∧ W.heap[w.heap.size]? = some (.deferred (some [])) ∧ Blk (fun k => Bs k ∨ k = w.heap.size + 1) W0 W)
    kW s0 (by omega) ?_ ?_ ?_ ⟨hI0 _ kW, bL, bD, Blk.refl _ _⟩).mono ?_
  · rintro pre W W' ⟨hi, hl, hd, hb⟩ k
    exact ⟨hIk _ _ _ hi k, (k.below.block _ (Array.getElem?_eq_some_iff.1 hl).1).trans hl, (k.below.block _ (Array.getElem?_eq_some_iff.1 hd).1).trans hd, hb.then k⟩
  · rintro pre W ⟨hi, _, _, hb⟩
    exact ⟨hi, hb.mono fun k _ h => h.imp id (fun e => by subst e; omega)⟩
  · rintro pre x W1 ⟨hi, hl, hd, hb⟩ hso
    have hy := run_yield (P := P) (args := #[enc x]) hl (by rw [hrc]; rfl)
    rw [hrc] at hy
    have e0 : ((#[p]).zip #[enc x]).foldl (fun (t : Array Value) (q : Tmp × Value) => t.setIfInBounds q.1 q.2) a.tmps = a.tmps.setIfInBounds p (enc x) := by simp
    have hy' : (Instr.yield (w.heap.size + 1) #[enc x]).run P W1 = .ok (.round (w.heap.size + 1) fn (a.tmps.setIfInBounds p (enc x)) assign body) W1 := by rw [← e0]; exact hy
    clear hy e0
    refine ⟨fn, _, assign, body, hy', roundIn_of_wpIn hfn (hassign _ x W1 _ ?_)⟩
    have hlt := (Array.getElem?_eq_some_iff.1 hl).1
    have hbg := run_beginRound (P := P) hl (by rw [hrc])
    have e1 : ({ rc .ready none with state := .busy } : Loop) = rc .busy none := by rw [hrc]
    rw [e1] at hbg
    have b2 : Blk (fun k => k = w.heap.size + 1) W1 (W1.putObj (w.heap.size + 1) (.loop (rc .busy none))) := (Blk.refl _ _).turned hl (.inl rfl)
    have z2 : W0.heap.size ≤ (W1.putObj (w.heap.size + 1) (.loop (rc .busy none))).heap.size := Nat.le_trans hb.size b2.size
    have hw2 : Blk Bs w (W1.putObj (w.heap.size + 1) (.loop (rc .busy none))) :=
      ((Blk.of (kW.but Bs)).trans (hb.trans (b2.mono fun k _ h => Or.inr h) (fun _ _ h => h)) fun k hk h => h.elim id (fun e => by omega))
    refine ⟨_, hbg, wpIn_mono (hbody (w.heap.size + 1) pre x _ (hIl _ _ _ _ _ (by omega) hl hi) hso (by omega) hw2) ?_⟩
    have l2 : (W1.putObj (w.heap.size + 1) (.loop (rc .busy none))).heap[w.heap.size + 1]? = some (.loop (rc .busy none)) := World.putObj_heap_same hlt
    have d2 : (W1.putObj (w.heap.size + 1) (.loop (rc .busy none))).heap[w.heap.size]? = some (.deferred (some [])) := (World.putObj_heap_other (by omega)).trans hd
    have no : ∀ k, w.heap.size ≤ k → k < w.heap.size + 1 + 1 → ¬ Bs k := fun k hk hk' h => absurd (hBs k h) (by omega)
    rintro e a3 W3 (⟨rfl, hi3, b3⟩ | ⟨c, hc, hx3, b3⟩)
    · have l3 := (b3.block _ (by omega) (no _ (by omega) (by omega))).trans l2
      have d3 := (b3.block _ (by omega) (no _ (by omega) (by omega))).trans d2
      have he := run_endRound (P := P) none l3
      have e2 : ({ rc .busy none with state := if (none : Option Code).isNone then .ready else .done, pending := none } : Loop) = rc .ready none := by rw [hrc]; rfl
      rw [e2] at he
      refine ⟨_, _, he, .inl ⟨rfl, hIl _ _ _ _ _ (by omega) l3 hi3, World.putObj_heap_same (Array.getElem?_eq_some_iff.1 l3).1, (World.putObj_heap_other (by omega)).trans d3, ?_⟩⟩
      exact (hb.trans ((b2.mono (T := fun k => Bs k ∨ k = w.heap.size + 1) fun k _ h => Or.inr h).trans (b3.mono fun k _ h => Or.inl h) (fun _ _ h => h)) (fun _ _ h => h)).turned l3 (.inl (.inr rfl))
    · have l3 := (b3.block _ (by omega) (no _ (by omega) (by omega))).trans l2
      have d3 := (b3.block _ (by omega) (no _ (by omega) (by omega))).trans d2
      have he := run_endRound (P := P) (some c) l3
      have e2 : ({ rc .busy none with state := if (some c).isNone then .ready else .done, pending := some c } : Loop) = rc .done (some c) := by rw [hrc]; rfl
      rw [e2] at he
      have fin : ∃ v w', (Instr.endRound (w.heap.size + 1) (some c)).run P W3 = .ok v w' ∧ v = .bool false ∧ (∃ c, Ix c (pre ++ [x]) w' ∧ w'.heap[w.heap.size + 1]? = some (.loop (rc .done (some c))) ∧ w'.heap[w.heap.size]? = some (.deferred (some [])) ∧ Blk (fun k => Bs k ∨ k = w.heap.size + 1) W0 w') :=
        ⟨_, _, he, rfl, ⟨c, hXl _ _ _ _ _ _ (by omega) l3 hx3, World.putObj_heap_same (Array.getElem?_eq_some_iff.1 l3).1, (World.putObj_heap_other (by omega)).trans d3,
          (hb.trans ((b2.mono (T := fun k => Bs k ∨ k = w.heap.size + 1) fun k _ h => Or.inr h).trans (b3.mono fun k _ h => Or.inl h) (fun _ _ h => h)) (fun _ _ h => h)).turned l3 (.inl (.inr rfl))⟩⟩
      clear he
      rcases hc with ⟨rfl, rfl⟩ | ⟨id, rfl, rfl⟩
      · obtain ⟨v, w', he, rfl, rest⟩ := fin
        exact ⟨_, _, he, .inr ⟨rfl, rest⟩⟩
      · obtain ⟨v, w', he, rfl, rest⟩ := fin
        exact ⟨_, _, he, .inr ⟨rfl, rest⟩⟩
  · have end1 : ∀ W, Blk (fun k => Bs k ∨ k = w.heap.size + 1) W0 W → Blk Bs w W := fun W hb => (Blk.of (kW.but Bs)).trans hb fun k hk h => h.elim id (fun e => by omega)
    rintro e W2 ⟨⟨v, rfl⟩, ⟨xs, hN, hi, hl, hd, hb⟩ | ⟨pre, W1, ⟨c, hx, hl, hd, hb⟩, k⟩⟩
    · have hen := run_endLoop (P := P) hl (by rw [hrc]; simp)
      have e3 : (rc .ready none).pending = none := by rw [hrc]
      rw [e3] at hen
      exact ⟨none, _, hen, hdone _ _ _ hN (hIl _ _ _ _ _ (by omega) hl hi) ((end1 _ hb).turned hl (.inr (by omega))) (Nat.le_refl _) ((World.putObj_heap_other (by omega)).trans hd)⟩
    · have l2 := (k.below.block _ (Array.getElem?_eq_some_iff.1 hl).1).trans hl
      have d2 := (k.below.block _ (Array.getElem?_eq_some_iff.1 hd).1).trans hd
      have hen := run_endLoop (P := P) l2 (by rw [hrc]; simp)
      have e3 : (rc .done (some c)).pending = some c := by rw [hrc]
      rw [e3] at hen
      exact ⟨some c, _, hen, hstop _ _ _ _ (hXl _ _ _ _ _ _ (by omega) l2 (hXk _ _ _ _ hx k)) ((end1 _ (hb.then k)).turned l2 (.inr (by omega))) (Nat.le_refl _) ((World.putObj_heap_other (by omega)).trans d2)⟩
end Go.Proofs.YtejiogggocnldaaGreat.Sk
