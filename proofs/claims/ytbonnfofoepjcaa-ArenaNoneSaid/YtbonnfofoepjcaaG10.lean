/- The program's Alloc: its rows, its step, what it tells, how it is made. -/
import Derived.Test.YtbonnfofoepjcaaG09
import Derived.Lib.Hide
import Derived.Deep.Light
import Derived.Deep.RegionHeld3
import Derived.Laws.EntriesVeiled
set_option linter.unusedVariables false
set_option linter.unusedSimpArgs false

namespace Go.Proofs.Ytbonnfofoepjcaa.Sk
set_option maxRecDepth 20000
open Go.RowKit
open Wo (St acc wordAt PMem RefIs)

theorem took_yes {S : Stk} {q : Op} (h9 : q.line = 9) (hi : 0 ≤ idx S.N q.W) : tookI S q = idx S.N q.W ∧ tookE S q = 0 := by
  unfold tookI tookE
  rw [if_pos ⟨h9, hi⟩, if_pos h9, if_neg (by omega)]
  exact ⟨rfl, rfl⟩
theorem took_no {S : Stk} {q : Op} (h9 : q.line = 9) (hi : idx S.N q.W < 0) : tookI S q = 0 ∧ tookE S q = 15 := by
  unfold tookI tookE
  rw [if_neg (by omega), if_pos h9, if_pos hi]
  exact ⟨rfl, rfl⟩

set_option maxHeartbeats 2000000 in
theorem name_any (P M B n : Nat) (A : Arn) (s : St) (q : Op) (v : Value) (r : Int) (w : World) (ha : AlRaw w P A q v 14 r) (hm : PMem w M B n s) (h0 : 0 ≤ s.cnt) (h1 : s.cnt ≤ 1000000) (hPM : P ≠ M) (hPB : P ≠ B)
    (hq : q.Good) (h9 : q.line = 9) (hi : 0 ≤ idx A.F.N q.W) (hA : A.Ok n) (hs : Wd n s) :
    Calls Try.prog 34 #[.pointer (some ⟨P, 0, none⟩), .pointer (some ⟨M, 0, none⟩)] w (Rowed (fun w' => AlRaw w' P A q v 0 (refW (idx A.F.N q.W) (gen (wordAt n s (A.G + idx A.F.N q.W))))) M B n (acc n s 1 (A.G + idx A.F.N q.W) false 0) P 18 w) := by
  have HT : Hid (Calls Try.prog 32 #[.pointer (some ⟨P, 0, none⟩)] w fun e w' => e = .returned (.tuple #[.int .i64 (idx A.F.N q.W), .int .i64 0]) ∧ Kept w w') := Lib.hid ((pop_told P 0 A.F q w ha.op hq).mono fun e w' ⟨x, k⟩ => ⟨by rw [x, (took_yes h9 hi).1, (took_yes h9 hi).2], k⟩)
  have hl := idx_le A.F.N q.W
  have hn := idx_hi A.F.N q.W (by have := hA.F.N1; omega)
  have HA := Lib.hid ha
  have HM := Lib.hid hm
  have hP := ha.lt
  have c9 := ha.c9
  have c10 := ha.c10
  have c11 := ha.c11
  have c12 := ha.c12
  have c13 := ha.c13
  have c14 := ha.c14
  have c16 := ha.c16
  have c17 := ha.c17
  have f := ha.soft
  have G1 := hA.G1
  have G2 := hA.G2
  have n2 := hA.F.n2
  have N1 := hA.F.N1
  clear ha hm h9 hq
  generalize idx A.F.N q.W = i at *
  have hw := hs.word (A.G + i)
  have HG : ∀ W, Hid (Calls Try.prog 41 #[.agg #[.int .i64 A.F.T, .int .i64 A.F.K, .int .i64 A.F.N, .int .i64 A.G, .int .i64 A.V, .int .i64 A.L], .int .i64 i] W fun e w' => e = .returned (.int .i64 (A.G + i)) ∧ Kept W w') := fun W => Lib.hid (gen_in _ _ _ _ _ _ _ W G1 (by omega) (by omega) (by omega))
  obtain ⟨x, hx⟩ : ∃ x, x = wordAt n s (A.G + i) := ⟨_, rfl⟩
  have HL : ∀ W, Kept w W → Hid (Calls Try.prog 30 #[.pointer (some ⟨M, 0, none⟩), .int .i64 (A.G + i)] W fun e w' => e = .returned (.int .u64 x) ∧ PMem w' M B n (acc n s 1 (A.G + i) false 0) ∧ But (fun k => k = B) W w') := fun W k => Lib.hid (by rw [hx]; exact p_load M B n s (A.G + i) W (pmem_kept HM.out k) h0 h1)
  rw [← hx] at hw
  have HN : ∀ W, Hid (Calls Try.prog 56 #[.int .u64 x] W fun e w' => e = .returned (.int .i64 (gen x)) ∧ Kept W w') := fun W => Lib.hid (number_any x W hw.1 hw.2)
  have HP : ∀ W, Hid (Calls Try.prog 55 #[.agg #[.int .i64 i, .int .i64 (gen x), .bool false]] W fun e w' => e = .returned (.tuple #[.int .u64 (refW i (gen x)), .int .i64 0]) ∧ Kept W w') := fun W => Lib.hid (ref_put i x hi hl W)
  rw [← hx]
  clear hx hw hA hs G2 n2 N1 hn
  generalize gen x = g at *
  generalize refW i g = z at *
  generalize A.G + i = a at *
  go_enter Try.func34, Try.ntmps34
  go_wp2_with fail
  refine HT.out.mono ?_
  rintro e u1 ⟨rfl, k1⟩
  have d9 := k1.some c9
  have d10 := k1.some c10
  have d11 := k1.some c11
  have d12 := k1.some c12
  have d13 := k1.some c13
  have d14 := k1.some c14
  have df : ∀ j, u1.frozen? ⟨P, j, none⟩ = false := fun j => k1.soft hP (f j)
  have hP1 := lt_of_cell d9
  have K1 := Lib.hid k1
  clear k1 f
  go_wp2_with fail
  refine (HG _).out.mono ?_
  rintro e u2 ⟨rfl, k2⟩
  have K2 := Lib.hid (K1.out.trans k2)
  clear k2
  go_wp2_with fail
  refine (HL _ K2.out).out.mono ?_
  rintro e u3 ⟨rfl, m3, b3⟩
  have M3 := Lib.hid m3
  have B3 := Lib.hid ((K2.out.but _).trans b3 (fun _ _ h => h))
  clear m3 b3
  go_wp2_with fail
  refine (HN _).out.mono ?_
  rintro e u4 ⟨rfl, k4⟩
  have K4 := Lib.hid k4
  clear k4
  go_wp2_with fail
  refine (HP _).out.mono ?_
  rintro e u5 ⟨rfl, k5⟩
  have m5 := pmem_kept M3.out (K4.out.trans k5)
  have KB := B3.out.then (K4.out.trans k5)
  clear k5 d9 d10 d11 d12 d13 d14 df c9 c10 c11 c12 c13 c14 c16 c17
  have a5 := HA.out.frame KB hPB
  have e16 := a5.c16
  have e17 := a5.c17
  have ef := a5.soft
  have A5 := Lib.hid a5
  have M5 := Lib.hid m5
  have C5 : Hid (Chg P 0 18 B w u5) := Lib.hid ((Chg.refl _ _ _ _ _).mem KB hP hPB)
  clear a5 m5 KB
  go_wp2
  go_end0
  go_light
  refine ⟨rfl, ?_, ?_, ?_⟩
  · have a6 := A5.out
    repeat (first | (with_reducible assumption) | (with_reducible refine AlRaw.set16 (er := 14) ?_ _) | (with_reducible refine AlRaw.set17 (r := r) ?_ _) | (with_reducible refine AlRaw.kept ?_ (Kept.refl _).drew))
  · exact pmem_frame M5.out (T := fun k => k = P) (by repeat (first | (with_reducible exact But.refl _ _) | (with_reducible refine But.here ?_ _ _) | (with_reducible refine But.drew ?_) | (with_reducible refine But.drewN ?_ _))) (Ne.symm hPM) (Ne.symm hPB)
  · have g5 := C5.out
    repeat (first | (with_reducible assumption) | (with_reducible refine Chg.set ?_ _ (by omega) _) | (with_reducible refine Chg.drew ?_ (by assumption)) | (with_reducible refine Chg.drewN ?_ (by assumption) _))

set_option maxHeartbeats 2000000 in
theorem refuse_any (P M B n : Nat) (A : Arn) (s : St) (q : Op) (v : Value) (r : Int) (b : Bool) (w : World) (ha : AlRaw w P A q v 14 r) (hm : PMem w M B n s) (h0 : 0 ≤ s.cnt) (h1 : s.cnt ≤ 1000000) (hPM : P ≠ M) (hPB : P ≠ B)
    (hA : A.Ok n) (hs : Wd n s) (hb : decide (A.F.N ≤ wordAt n s A.V) = b) :
    Calls Try.prog 33 #[.pointer (some ⟨P, 0, none⟩), .pointer (some ⟨M, 0, none⟩)] w (Rowed (fun w' => AlRaw w' P A q v (cond b 12 7) r) M B n (acc n s 1 A.V false 0) P 18 w) := by
  have hw := hs.word A.V
  have N1 := hA.F.N1
  have N2 := hA.F.N2
  have hP := ha.lt
  obtain ⟨x, hx⟩ : ∃ x, x = wordAt n s A.V := ⟨_, rfl⟩
  have v1m : PMem (w.setCell ⟨P, 16, none⟩ (.int .i64 7)) M B n s := pmem_frame hm (T := fun k => k = P) ((But.refl _ _).here _ _) (Ne.symm hPM) (Ne.symm hPB)
  have v1a : AlRaw (w.setCell ⟨P, 16, none⟩ (.int .i64 7)) P A q v 7 r := ha.set16 7
  have v1g : Chg P 0 18 B w (w.setCell ⟨P, 16, none⟩ (.int .i64 7)) := (Chg.refl _ _ _ _ _).set _ (by omega) _
  rw [← hx] at hw hb
  have HI : ∀ W, Hid (Calls Try.prog 54 #[.agg #[.int .i64 A.F.T, .int .i64 A.F.K, .int .i64 A.F.N, .int .i64 A.G, .int .i64 A.V, .int .i64 A.L], .int .u64 x] W fun e w' => e = .returned (.bool b) ∧ Kept W w') := fun W => Lib.hid (by rw [← hb]; exact isAll_any _ _ _ _ _ _ x W hw.1 hw.2 N1 N2)
  have c16 := ha.c16
  have c13 := ha.c13
  have f := ha.soft
  have hM := (pmem_lt hm).1
  clear ha hm hw hA hs hb N1 N2
  go_enter Try.func33, Try.ntmps33
  go_upto_region 1 with fail
  generalize w.setCell ⟨P, 16, none⟩ (.int .i64 7) = v1 at *
  have d9 := v1a.c9
  have d10 := v1a.c10
  have d11 := v1a.c11
  have d12 := v1a.c12
  have d13 := v1a.c13
  have d14 := v1a.c14
  have hP1 := v1a.lt
  have V1M := Lib.hid v1m
  have V1A := Lib.hid v1a
  have V1G := Lib.hid v1g
  have HL : ∀ W, Kept v1 W → Hid (Calls Try.prog 30 #[.pointer (some ⟨M, 0, none⟩), .int .i64 A.V] W fun e w' => e = .returned (.int .u64 x) ∧ PMem w' M B n (acc n s 1 A.V false 0) ∧ But (fun k => k = B) W w') := fun W k => Lib.hid (by rw [hx]; exact p_load M B n s A.V W (pmem_kept V1M.out k) h0 h1)
  clear v1m v1a v1g c13 c16 f hx
  go_region_held3 (fun w' => w'.cell? ⟨P, 9, none⟩ = some (.int .i64 A.F.T) ∧ w'.cell? ⟨P, 10, none⟩ = some (.int .i64 A.F.K) ∧ w'.cell? ⟨P, 11, none⟩ = some (.int .i64 A.F.N) ∧ w'.cell? ⟨P, 12, none⟩ = some (.int .i64 A.G) ∧ w'.cell? ⟨P, 13, none⟩ = some (.int .i64 A.V) ∧ w'.cell? ⟨P, 14, none⟩ = some (.int .i64 A.L))
    (first | (with_reducible exact ⟨KB.some d9 hPB, KB.some d10 hPB, KB.some d11 hPB, KB.some d12 hPB, KB.some d13 hPB, KB.some d14 hPB⟩) | go_keep)
    (first
      | (go_at_call 30; (with_reducible refine (HL _ (by first | exact Kept.refl _ | exact (Kept.refl _).drew | exact (Kept.refl _).drewN _)).out.mono ?_); rintro e u3 ⟨rfl, m3, b3⟩; have KB : But (fun k => k = B) v1 u3 := (Kept.but (w' := _) (by first | exact Kept.refl _ | exact (Kept.refl _).drew | exact (Kept.refl _).drewN _) _).trans b3 (fun _ _ h => h))
      | (go_at_call 54; (with_reducible refine (HI _).out.mono ?_); rintro e u4 ⟨rfl, k4⟩; have m4 := pmem_kept m3 (Kept.trans (b := _) (by first | exact Kept.refl _ | exact (Kept.refl _).drew | exact (Kept.refl _).drewN _) k4); have KB : But (fun k => k = B) v1 u4 := KB.then (Kept.trans (b := _) (by first | exact Kept.refl _ | exact (Kept.refl _).drew | exact (Kept.refl _).drewN _) k4)))
  have a4 := V1A.out.frame KB hPB
  have e16 := a4.c16
  have ef := a4.soft
  have A4 := Lib.hid a4
  have M4 := Lib.hid m4
  have C4 : Hid (Chg P 0 18 B w u4) := Lib.hid (V1G.out.mem KB hP hPB)
  clear a4 m4 KB b3 m3
  cases b
  · go_wp2
    go_end0
    go_light
    exact ⟨rfl, A4.out, M4.out, C4.out⟩
  · go_wp2
    go_end0
    go_light
    refine ⟨rfl, A4.out.set16 12, ?_, C4.out.set _ (by omega) _⟩
    exact pmem_frame M4.out (T := fun k => k = P) ((But.refl _ _).here _ _) (Ne.symm hPM) (Ne.symm hPB)

theorem aneq_nil (w : World) : (binOp .neq 39 .nilFunc .nilFunc).run Try.prog w = .ok (.bool false) w := by
  kernel_rfl
theorem aneq_func (f : Fn) (x y : Array Value) (w : World) : (binOp .neq 39 (.func f x y) .nilFunc).run Try.prog w = .ok (.bool true) w := by
  kernel_rfl

set_option maxHeartbeats 1000000 in
theorem popped_some (P : Nat) (A : Arn) (q : Op) (w : World) (ho : PopAt w P 0 A.F q) (hq : q.Good) (h9 : q.line = 9) (hi : 0 ≤ idx A.F.N q.W) :
    Calls Try.prog 16 #[.pointer (some ⟨P, 0, none⟩)] w fun e w' => e = .returned (.func (.func 34) #[] #[]) ∧ Kept w w' := by
  have HT : Hid (Calls Try.prog 32 #[.pointer (some ⟨P, 0, none⟩)] w fun e w' => e = .returned (.tuple #[.int .i64 (idx A.F.N q.W), .int .i64 0]) ∧ Kept w w') := Lib.hid ((pop_told P 0 A.F q w ho hq).mono fun e w' ⟨x, k⟩ => ⟨by rw [x, (took_yes h9 hi).1, (took_yes h9 hi).2], k⟩)
  clear ho hq h9 hi
  go_enter Try.func16, Try.ntmps16
  go_wp2_with fail
  refine HT.out.mono ?_
  rintro e u1 ⟨rfl, k1⟩
  go_wp2
  go_ret
  exact ⟨rfl, by (go_light; repeat (first | (with_reducible exact Kept.refl _) | (with_reducible assumption) | (with_reducible refine Kept.alloc ?_ _ _) | (with_reducible refine Kept.drew ?_) | (with_reducible refine Kept.drewN ?_ _) | ((with_reducible refine Kept.setCell ?_ ?_ _); rotate_left; focus (first | (simp; done) | (simp; omega))) | refine Kept.trans ?_ (by assumption)))⟩
set_option maxHeartbeats 1000000 in
theorem popped_none (P : Nat) (A : Arn) (q : Op) (w : World) (ho : PopAt w P 0 A.F q) (hq : q.Good) (h9 : q.line = 9) (hi : idx A.F.N q.W < 0) :
    Calls Try.prog 16 #[.pointer (some ⟨P, 0, none⟩)] w fun e w' => e = .returned (.func (.func 33) #[] #[]) ∧ Kept w w' := by
  have HT : Hid (Calls Try.prog 32 #[.pointer (some ⟨P, 0, none⟩)] w fun e w' => e = .returned (.tuple #[.int .i64 0, .int .i64 15]) ∧ Kept w w') := Lib.hid ((pop_told P 0 A.F q w ho hq).mono fun e w' ⟨x, k⟩ => ⟨by rw [x, (took_no h9 hi).1, (took_no h9 hi).2], k⟩)
  clear ho hq h9 hi
  go_enter Try.func16, Try.ntmps16
  go_wp2_with fail
  refine HT.out.mono ?_
  rintro e u1 ⟨rfl, k1⟩
  go_wp2
  go_ret
  exact ⟨rfl, by (go_light; repeat (first | (with_reducible exact Kept.refl _) | (with_reducible assumption) | (with_reducible refine Kept.alloc ?_ _ _) | (with_reducible refine Kept.drew ?_) | (with_reducible refine Kept.drewN ?_ _) | ((with_reducible refine Kept.setCell ?_ ?_ _); rotate_left; focus (first | (simp; done) | (simp; omega))) | refine Kept.trans ?_ (by assumption)))⟩

set_option maxHeartbeats 1000000 in
theorem aStep_over (P M : Nat) (A : Arn) (q : Op) (v : Value) (er r : Int) (w : World) (ha : AlRaw w P A q v er r) (he : er ≠ 14) :
    Calls Try.prog 6 #[.pointer (some ⟨P, 0, none⟩), .pointer (some ⟨M, 0, none⟩)] w fun e w' => e = .returned (.bool true) ∧ w = w' := by
  have hb : (er != 14) = true := by simpa using he
  have HE : Hid (Calls Try.prog 14 #[.pointer (some ⟨P, 8, none⟩)] w fun e w' => e = .returned (.bool true) ∧ w = w') := Lib.hid (by have := ended_Alloc P er w ha.c8 ha.c16; rwa [hb] at this)
  clear ha he hb
  go_enter Try.func6, Try.ntmps6
  go_wp2_with fail
  refine HE.out.mono ?_
  rintro e u1 ⟨rfl, rfl⟩
  go_wp2
  go_ret
  exact ⟨rfl, rfl⟩
set_option maxHeartbeats 1000000 in
theorem aStep_row (P M B n : Nat) (K : Nat) (A : Arn) (q : Op) (r er' r' : Int) (s' : St) (w : World) (ha : AlRaw w P A q (.func (.func K) #[] #[]) 14 r) (he : er' ≠ 14)
    (hK : K = 34 ∨ K = 33)
    (HC : Hid (Calls Try.prog K #[.pointer (some ⟨P, 0, none⟩), .pointer (some ⟨M, 0, none⟩)] w (Rowed (fun w' => AlRaw w' P A q (.func (.func K) #[] #[]) er' r') M B n s' P 18 w))) :
    Calls Try.prog 6 #[.pointer (some ⟨P, 0, none⟩), .pointer (some ⟨M, 0, none⟩)] w (Went (fun w' => AlRaw w' P A q (.func (.func K) #[] #[]) er' r') M B n s' P 18 true w) := by
  have hb : (er' != 14) = true := by simpa using he
  have HE : Hid (Calls Try.prog 14 #[.pointer (some ⟨P, 8, none⟩)] w fun e w' => e = .returned (.bool false) ∧ w = w') := Lib.hid (ended_Alloc P 14 w ha.c8 ha.c16)
  have HF : ∀ w', AlRaw w' P A q (.func (.func K) #[] #[]) er' r' → Hid (Calls Try.prog 14 #[.pointer (some ⟨P, 8, none⟩)] w' fun e w'' => e = .returned (.bool true) ∧ w' = w'') := fun w' h => Lib.hid (by have := ended_Alloc P er' w' h.c8 h.c16; rwa [hb] at this)
  have c15 := ha.c15
  have hP := ha.lt
  have q2 := aneq_func
  clear ha he hb
  rcases hK with rfl | rfl
  · go_enter Try.func6, Try.ntmps6
    go_wp2_with fail
    refine HE.out.mono ?_
    rintro e u1 ⟨rfl, rfl⟩
    go_wp2_with fail
    refine HC.out.mono ?_
    rintro e u2 ⟨rfl, h2⟩
    have H2 := Lib.hid h2
    clear h2
    go_wp2_with fail
    refine (HF _ H2.out.1).out.mono ?_
    rintro e u3 ⟨rfl, rfl⟩
    go_wp2
    go_ret
    exact ⟨rfl, H2.out⟩
  · go_enter Try.func6, Try.ntmps6
    go_wp2_with fail
    refine HE.out.mono ?_
    rintro e u1 ⟨rfl, rfl⟩
    go_wp2_with fail
    refine HC.out.mono ?_
    rintro e u2 ⟨rfl, h2⟩
    have H2 := Lib.hid h2
    clear h2
    go_wp2_with fail
    refine (HF _ H2.out.1).out.mono ?_
    rintro e u3 ⟨rfl, rfl⟩
    go_wp2
    go_ret
    exact ⟨rfl, H2.out⟩
set_option maxHeartbeats 1000000 in
theorem aStep_on (P M B n : Nat) (A : Arn) (q q' : Op) (r : Int) (s' : St) (w : World) (ha : AlRaw w P A q .nilFunc 14 r) 
    (HC : Hid (Calls Try.prog 15 #[.pointer (some ⟨P, 0, none⟩), .pointer (some ⟨M, 0, none⟩)] w (Stepped (fun w' => PopAt w' P 0 A.F q') M B n s' P 0 false w))) :
    Calls Try.prog 6 #[.pointer (some ⟨P, 0, none⟩), .pointer (some ⟨M, 0, none⟩)] w (Went (fun w' => AlRaw w' P A q' .nilFunc 14 r) M B n s' P 18 false w) := by
  have HE : ∀ w q, AlRaw w P A q .nilFunc 14 r → Hid (Calls Try.prog 14 #[.pointer (some ⟨P, 8, none⟩)] w fun e w' => e = .returned (.bool false) ∧ w = w') := fun w q ha => Lib.hid (ended_Alloc P 14 w ha.c8 ha.c16)
  have c15 := ha.c15
  have hP := ha.lt
  have q1 := aneq_nil
  have HA := Lib.hid ha
  clear ha
  go_enter Try.func6, Try.ntmps6
  go_wp2_with fail
  refine (HE _ _ HA.out).out.mono ?_
  rintro e u1 ⟨rfl, rfl⟩
  go_wp2_with fail
  refine HC.out.mono ?_
  rintro e u2 ⟨rfl, o2, m2, g2⟩
  have A2 := Lib.hid (HA.out.pop g2 o2)
  have M2 := Lib.hid m2
  have G2 := Lib.hid (g2.wide (o' := 0) (m' := 18) (by omega) (by omega))
  clear o2 m2 g2
  go_wp2_with fail
  refine (HE _ _ A2.out).out.mono ?_
  rintro e u3 ⟨rfl, rfl⟩
  go_wp2
  go_ret
  exact ⟨rfl, A2.out, M2.out, G2.out⟩
set_option maxHeartbeats 1000000 in
theorem aStep_end (P M B n : Nat) (A : Arn) (q q' : Op) (r : Int) (K : Nat) (s' : St) (w : World) (ha : AlRaw w P A q .nilFunc 14 r) (hPM : P ≠ M) (hPB : P ≠ B)
    (HC : Hid (Calls Try.prog 15 #[.pointer (some ⟨P, 0, none⟩), .pointer (some ⟨M, 0, none⟩)] w (Stepped (fun w' => PopAt w' P 0 A.F q') M B n s' P 0 true w)))
    (HP : ∀ w', PopAt w' P 0 A.F q' → Hid (Calls Try.prog 16 #[.pointer (some ⟨P, 0, none⟩)] w' fun e w'' => e = .returned (.func (.func K) #[] #[]) ∧ Kept w' w'')) :
    Calls Try.prog 6 #[.pointer (some ⟨P, 0, none⟩), .pointer (some ⟨M, 0, none⟩)] w (Went (fun w' => AlRaw w' P A q' (.func (.func K) #[] #[]) 14 r) M B n s' P 18 false w) := by
  have HE : ∀ w q v, AlRaw w P A q v 14 r → Hid (Calls Try.prog 14 #[.pointer (some ⟨P, 8, none⟩)] w fun e w' => e = .returned (.bool false) ∧ w = w') := fun w q v ha => Lib.hid (ended_Alloc P 14 w ha.c8 ha.c16)
  have c15 := ha.c15
  have hP := ha.lt
  have q1 := aneq_nil
  have HA := Lib.hid ha
  clear ha
  go_enter Try.func6, Try.ntmps6
  go_wp2_with fail
  refine (HE _ _ _ HA.out).out.mono ?_
  rintro e u1 ⟨rfl, rfl⟩
  go_wp2_with fail
  refine HC.out.mono ?_
  rintro e u2 ⟨rfl, o2, m2, g2⟩
  have HP2 := HP _ o2
  have A2 := Lib.hid (HA.out.pop g2 o2)
  have M2 := Lib.hid m2
  have G2 := Lib.hid (g2.wide (o' := 0) (m' := 18) (by omega) (by omega))
  clear o2 m2 g2 HP
  go_wp2_with fail
  refine HP2.out.mono ?_
  rintro e u3 ⟨rfl, k3⟩
  have a3 := A2.out.kept k3
  have d15 := a3.c15
  have df := a3.soft
  have hP3 := a3.lt
  have a4 := a3.set15 (.func (.func K) #[] #[])
  have m4 : PMem (u3.setCell ⟨P, 15, none⟩ (.func (.func K) #[] #[])) M B n s' := pmem_frame (pmem_kept M2.out k3) (T := fun k => k = P) ((But.refl _ _).here _ _) (Ne.symm hPM) (Ne.symm hPB)
  have g4 : Chg P 0 18 B w (u3.setCell ⟨P, 15, none⟩ (.func (.func K) #[] #[])) := (G2.out.keep k3 hP).set _ (by omega) _
  have A4 := Lib.hid a4
  have M4 := Lib.hid m4
  have G4 := Lib.hid g4
  clear a3 a4 m4 g4 k3 c15
  go_wp2_with fail
  refine (HE _ _ _ A4.out).out.mono ?_
  rintro e u5 ⟨rfl, rfl⟩
  go_wp2
  go_ret
  exact ⟨rfl, A4.out, M4.out, G4.out⟩
theorem aStep_nil (V : Value) (w : World) : Calls Try.prog 6 #[.pointer none, V] w fun e w' => e = .returned (.bool true) ∧ w = w' := by
  go_enter Try.func6, Try.ntmps6
  go_wp2
  go_ret
  exact ⟨rfl, rfl⟩

def nxA (l : Nat) (v : Value) : Prop := (l = 0 → v = .nilFunc) ∧ (l = 1 → v = .func (.func 34) #[] #[]) ∧ (l = 2 → v = .func (.func 33) #[] #[])
def AllocAt (w : World) (P : Nat) (A : Arn) (x : AOp) : Prop := ∃ v, AlRaw w P A x.q v x.er x.r ∧ nxA x.line v
theorem AllocAt.lt {w : World} {P : Nat} {A : Arn} {x : AOp} (h : AllocAt w P A x) : P < w.heap.size := h.elim fun _ h => h.1.lt
theorem AllocAt.frame {w w' : World} {P : Nat} {A : Arn} {x : AOp} (h : AllocAt w P A x) {T : Nat → Prop} (hb : But T w w') (hP : ¬ T P) : AllocAt w' P A x := h.elim fun v h => ⟨v, h.1.frame hb hP, h.2⟩
theorem AllocAt.kept {w w' : World} {P : Nat} {A : Arn} {x : AOp} (h : AllocAt w P A x) (k : Kept w w') : AllocAt w' P A x := h.elim fun v h => ⟨v, h.1.kept k, h.2⟩

theorem alloc_step (P M B n : Nat) (A : Arn) (s : St) (x : AOp) (w : World) (ha : AllocAt w P A x) (hm : PMem w M B n s) (h0 : 0 ≤ s.cnt) (h1 : s.cnt ≤ 1000000) (hPM : P ≠ M) (hPB : P ≠ B) (hx : AGood A x) (hA : A.Ok n) (hs : Wd n s) :
    Calls Try.prog 6 #[.pointer (some ⟨P, 0, none⟩), .pointer (some ⟨M, 0, none⟩)] w (Went (fun w' => AllocAt w' P A (alOp n A s x)) M B n (alSt n A s x) P 18 ((alOp n A s x).line == 9) w) := by
  obtain ⟨v, ha, hv⟩ := ha
  obtain ⟨l, q, r, er⟩ := x
  rcases hx.c with ⟨h, h9, hr, he⟩ | ⟨h, h9, hi, hr, he⟩ | ⟨h, h9, hi, hr, he⟩ | ⟨h, he⟩
  · obtain rfl : l = 0 := h
    obtain rfl : r = 0 := hr
    obtain rfl : er = 14 := he
    obtain rfl := hv.1 rfl
    have e1 : alOp n A s ⟨0, q, 0, 14⟩ = alPop A (popOp n A.F s q) := by unfold alOp; rw [if_pos rfl]
    have e2 : alSt n A s ⟨0, q, 0, 14⟩ = popSt n A.F s q := by unfold alSt; rw [if_pos rfl]
    rw [e1, e2]
    have hq := popOp_good hx.q hx.l hx.t hs
    have hc := pop_step P 0 M B n A.F s q w ha.op hm h0 h1 hPM hPB hx.q hx.l hx.t hA.F hs
    by_cases k : (popOp n A.F s q).line = 9
    · have hk : ((popOp n A.F s q).line == 9) = true := by simpa using k
      rw [hk] at hc
      by_cases j : idx A.F.N (popOp n A.F s q).W < 0
      · have e3 : alPop A (popOp n A.F s q) = ⟨2, popOp n A.F s q, 0, 14⟩ := by unfold alPop; rw [if_pos k, if_pos j]
        rw [e3]
        refine (aStep_end P M B n A q _ 0 _ _ w ha hPM hPB (Lib.hid hc) (fun w' o => Lib.hid (popped_none P A _ w' o hq.1 k j))).mono fun e w' ⟨x1, x2, x3, x4⟩ => ⟨x1, ⟨_, x2, ?_⟩, x3, x4⟩
        exact ⟨fun h => absurd h (by simp), fun h => absurd h (by simp), fun _ => rfl⟩
      · have e3 : alPop A (popOp n A.F s q) = ⟨1, popOp n A.F s q, 0, 14⟩ := by unfold alPop; rw [if_pos k, if_neg j]
        rw [e3]
        refine (aStep_end P M B n A q _ 0 _ _ w ha hPM hPB (Lib.hid hc) (fun w' o => Lib.hid (popped_some P A _ w' o hq.1 k (by omega)))).mono fun e w' ⟨x1, x2, x3, x4⟩ => ⟨x1, ⟨_, x2, ?_⟩, x3, x4⟩
        exact ⟨fun h => absurd h (by simp), fun _ => rfl, fun h => absurd h (by simp)⟩
    · have hk : ((popOp n A.F s q).line == 9) = false := by simpa using k
      rw [hk] at hc
      have e3 : alPop A (popOp n A.F s q) = ⟨0, popOp n A.F s q, 0, 14⟩ := by unfold alPop; rw [if_neg k]
      rw [e3]
      refine (aStep_on P M B n A q _ 0 _ w ha (Lib.hid hc)).mono fun e w' ⟨x1, x2, x3, x4⟩ => ⟨x1, ⟨_, x2, ?_⟩, x3, x4⟩
      exact ⟨fun _ => rfl, fun h => absurd h (by simp), fun h => absurd h (by simp)⟩
  · obtain rfl : l = 1 := h
    obtain rfl : r = 0 := hr
    obtain rfl : er = 14 := he
    obtain rfl := hv.2.1 rfl
    refine (aStep_row P M B n _ A q 0 _ _ _ w ha (by decide) (Or.inl rfl) (Lib.hid (name_any P M B n A s q _ 0 w ha hm h0 h1 hPM hPB hx.q h9 hi hA hs))).mono fun e w' ⟨x1, x2, x3, x4⟩ => ⟨x1, ⟨_, x2, ?_⟩, x3, x4⟩
    exact ⟨fun h => absurd (show (9 : Nat) = 0 from h) (by decide), fun _ => rfl, fun h => absurd (show (9 : Nat) = 2 from h) (by decide)⟩
  · obtain rfl : l = 2 := h
    obtain rfl : r = 0 := hr
    obtain rfl : er = 14 := he
    obtain rfl := hv.2.2 rfl
    have hc := refuse_any P M B n A s q _ 0 _ w ha hm h0 h1 hPM hPB hA hs rfl
    have e3 : (cond (decide (A.F.N ≤ wordAt n s A.V)) 12 7 : Int) = if A.F.N ≤ wordAt n s A.V then 12 else 7 := by
      by_cases k : A.F.N ≤ wordAt n s A.V <;> simp [k]
    rw [e3] at hc
    refine (aStep_row P M B n _ A q 0 _ _ _ w ha (by split <;> decide) (Or.inr rfl) (Lib.hid hc)).mono fun e w' ⟨x1, x2, x3, x4⟩ => ⟨x1, ⟨_, x2, ?_⟩, x3, x4⟩
    exact ⟨fun h => absurd (show (9 : Nat) = 0 from h) (by decide), fun h => absurd (show (9 : Nat) = 1 from h) (by decide), fun _ => rfl⟩
  · obtain rfl : l = 9 := h
    have e1 : alOp n A s ⟨9, q, r, er⟩ = ⟨9, q, r, er⟩ := by unfold alOp; rw [if_neg (show ¬ (9 : Nat) = 0 by decide), if_neg (show ¬ (9 : Nat) = 1 by decide), if_neg (show ¬ (9 : Nat) = 2 by decide)]
    have e2 : alSt n A s ⟨9, q, r, er⟩ = s := by unfold alSt; rw [if_neg (show ¬ (9 : Nat) = 0 by decide), if_neg (show ¬ (9 : Nat) = 1 by decide), if_neg (show ¬ (9 : Nat) = 2 by decide)]
    rw [e1, e2]
    refine (aStep_over P M A q v er r w ha he).mono fun e w' ⟨x1, x2⟩ => ?_
    subst x2
    exact ⟨x1, ⟨v, ha, hv⟩, hm, Chg.refl _ _ _ _ _⟩

theorem alloc_told (P : Nat) (A : Arn) (x : AOp) (w : World) (ha : AllocAt w P A x) : Calls Try.prog 5 #[.pointer (some ⟨P, 0, none⟩)] w fun e w' => e = .returned (.tuple #[.int .u64 x.r, .int .i64 x.er]) ∧ Kept w w' := by
  obtain ⟨v, ha, _⟩ := ha
  have HO : ∀ W, Kept w W → Hid (Calls Try.prog 13 #[.pointer (some ⟨P, 8, none⟩)] W fun e w' => e = .returned (.int .i64 x.er) ∧ W = w') := fun W k => Lib.hid (outcome_Alloc P x.er W (k.some ha.c8) (k.some ha.c16))
  have c17 := ha.c17
  have hP := ha.lt
  clear ha
  go_enter Try.func5, Try.ntmps5
  go_wp2_with fail
  go_region_held3 (fun w' => w'.cell? ⟨P, 17, none⟩ = some (.int .u64 x.r)) (first | go_keep | assumption) (first | (go_at_call 13; refine (HO _ (by first | exact Kept.refl _ | exact (Kept.refl _).drew | exact (Kept.refl _).drewN _)).out.mono ?_; rintro e w' ⟨rfl, rfl⟩))
  go_wp2
  go_ret2
  exact ⟨rfl, by (go_light; repeat (first | (with_reducible exact Kept.refl _) | (with_reducible assumption) | (with_reducible refine Kept.alloc ?_ _ _) | (with_reducible refine Kept.drew ?_) | (with_reducible refine Kept.drewN ?_ _) | ((with_reducible refine Kept.setCell ?_ ?_ _); rotate_left; focus (first | (simp; done) | (simp; omega))) | refine Kept.trans ?_ (by assumption)))⟩

set_option maxHeartbeats 1000000 in
theorem abegun (A : Arn) (w : World) : Calls Try.prog 49 #[.agg #[.int .i64 A.F.T, .int .i64 A.F.K, .int .i64 A.F.N, .int .i64 A.G, .int .i64 A.V, .int .i64 A.L], .nilFunc] w
    fun e w' => e = .returned (.agg #[.bool true, .int .i64 A.F.T, .int .i64 A.F.K, .int .i64 A.F.N, .int .i64 A.G, .int .i64 A.V, .int .i64 A.L, .nilFunc, .int .i64 14]) ∧ Kept w w' := by
  go_enter Try.func49, Try.ntmps49
  go_wp2
  refine bodyPost_ret (v := .agg #[.bool true, .int .i64 A.F.T, .int .i64 A.F.K, .int .i64 A.F.N, .int .i64 A.G, .int .i64 A.V, .int .i64 A.L, .nilFunc, .int .i64 14]) (by simp [results, Try.results49, go_sem]) rfl ⟨rfl, ?_⟩
  (go_light; repeat (first | (with_reducible exact Kept.refl _) | (with_reducible assumption) | (with_reducible refine Kept.alloc ?_ _ _) | (with_reducible refine Kept.drew ?_) | (with_reducible refine Kept.drewN ?_ _) | ((with_reducible refine Kept.setCell ?_ ?_ _); rotate_left; focus (first | (simp; done) | (simp; omega))) | refine Kept.trans ?_ (by assumption)))
end Go.Proofs.Ytbonnfofoepjcaa.Sk

namespace Go.Proofs.Ytbonnfofoepjcaa.Sk
set_option maxRecDepth 20000
open Go.RowKit
open Wo (St acc wordAt PMem RefIs)
set_option maxHeartbeats 1000000 in
theorem newAlloc_any (A : Arn) (w : World) : Calls Try.prog 27 #[.agg #[.int .i64 A.F.T, .int .i64 A.F.K, .int .i64 A.F.N, .int .i64 A.G, .int .i64 A.V, .int .i64 A.L]] w (Made (fun w P => AllocAt w P A AOp.new) w) := by
  have HB := fun w => Lib.hid (abegun A w)
  have HN := fun w => Lib.hid (newPop_any A.F w)
  go_enter Try.func27, Try.ntmps27
  go_wp2_with fail
  have z0 := cell_new w #[.int .i64 A.F.T, .int .i64 A.F.K, .int .i64 A.F.N, .int .i64 A.G, .int .i64 A.V, .int .i64 A.L] 37 w.heap.size 0 rfl
  have z1 := cell_new w #[.int .i64 A.F.T, .int .i64 A.F.K, .int .i64 A.F.N, .int .i64 A.G, .int .i64 A.V, .int .i64 A.L] 37 w.heap.size 1 rfl
  have z2 := cell_new w #[.int .i64 A.F.T, .int .i64 A.F.K, .int .i64 A.F.N, .int .i64 A.G, .int .i64 A.V, .int .i64 A.L] 37 w.heap.size 2 rfl
  have z3 := cell_new w #[.int .i64 A.F.T, .int .i64 A.F.K, .int .i64 A.F.N, .int .i64 A.G, .int .i64 A.V, .int .i64 A.L] 37 w.heap.size 3 rfl
  have z4 := cell_new w #[.int .i64 A.F.T, .int .i64 A.F.K, .int .i64 A.F.N, .int .i64 A.G, .int .i64 A.V, .int .i64 A.L] 37 w.heap.size 4 rfl
  have z5 := cell_new w #[.int .i64 A.F.T, .int .i64 A.F.K, .int .i64 A.F.N, .int .i64 A.G, .int .i64 A.V, .int .i64 A.L] 37 w.heap.size 5 rfl
  simp only [List.getElem?_toArray, List.getElem?_cons_zero, List.getElem?_cons_succ] at z0 z1 z2 z3 z4 z5
  have K0 : Hid (Kept w (w.alloc (.cells #[.int .i64 A.F.T, .int .i64 A.F.K, .int .i64 A.F.N, .int .i64 A.G, .int .i64 A.V, .int .i64 A.L] 37))) := Lib.hid ((Kept.refl w).alloc _ _)
  generalize w.heap.size = W at *
  generalize w.alloc (.cells #[.int .i64 A.F.T, .int .i64 A.F.K, .int .i64 A.F.N, .int .i64 A.G, .int .i64 A.V, .int .i64 A.L] 37) = v0 at *
  go_region_law (first
      | (go_simp; go_at_call 48; refine (HN _).out.mono ?_; rintro e u2 ⟨P0, rfl, y0, y1, o2, k2⟩; have KT : Kept v0 u2 := Kept.trans (b := _) (by first | exact Kept.refl _ | exact (Kept.refl _).drew | exact (Kept.refl _).drewN _) k2; obtain ⟨c0, c1, c2, c3, c4, c5, c6, c7, f⟩ := o2; simp only [Nat.zero_add] at c1 c2 c3 c4 c5 c6 c7; have z0 := KT.some z0; have z1 := KT.some z1; have z2 := KT.some z2; have z3 := KT.some z3; have z4 := KT.some z4; have z5 := KT.some z5)
      | (go_simp; go_at_call 49; refine (HB _).out.mono ?_; rintro e u3 ⟨rfl, k3⟩; have KU : Kept u2 u3 := Kept.trans (b := _) (by first | exact Kept.refl _ | exact (Kept.refl _).drew | exact (Kept.refl _).drewN _) k3; have c0 := KU.some c0; have c1 := KU.some c1; have c2 := KU.some c2; have c3 := KU.some c3; have c4 := KU.some c4; have c5 := KU.some c5; have c6 := KU.some c6; have c7 := KU.some c7; have KV : Kept v0 u3 := KT.trans KU))
  all_goals
    go_wp2
    go_ret
    go_light
    have hz := KV.size
    have hz0 := K0.out.size
    refine ⟨u3.heap.size, rfl, by omega, by simp, ⟨.nilFunc, ⟨?_, ?_, ?_, ?_, ?_, ?_, ?_, ?_, ?_, ?_, ?_⟩, fun _ => rfl, fun h => absurd (show (0 : Nat) = 1 from h) (by decide), fun h => absurd (show (0 : Nat) = 2 from h) (by decide)⟩, Kept.alloc (K0.out.trans (by first | exact KV | exact KV.drew | exact KV.drewN _)) _ _⟩
    · refine ⟨?_, ?_, ?_, ?_, ?_, ?_, ?_, ?_, fun i => ?_⟩ <;> (simp [AOp.new]; done)
    all_goals (simp [AOp.new]; done)
end Go.Proofs.Ytbonnfofoepjcaa.Sk
