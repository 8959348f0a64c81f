/- StackNone's walk. Written by gen10n.py, out of none_walk.txt. -/
import Derived.Test.YtfcompikbeebaaaG14
set_option linter.unusedVariables false
set_option linter.unusedSimpArgs false

namespace Go.Proofs.Ytfcompikbeebaaa.Sk
set_option maxRecDepth 20000
open Go.RowKit
open Wo (St acc wordAt PMem RefIs)

theorem past {w : World} {b o : Nat} {v : Value} (h : w.cell? ⟨b, o, none⟩ = some v) (c : Array Value) (t : TypeId) : (w.alloc (.cells c t)).cell? ⟨b, o, none⟩ = some v := ((Kept.refl w).alloc c t).some h
theorem p_new9 (w : World) : Calls Try.prog 8 #[.int .i64 9] w
    fun e w' => ∃ M B, e = .returned (.tuple #[.pointer (some ⟨M, 0, none⟩), .int .i64 0]) ∧ PMem w' M B 9 Wo.St.zero ∧ Kept w w' :=
  (p_new 9 (by decide) (by decide) w).mono fun _ _ ⟨h1, h2, _, h4⟩ => ⟨_, _, h1, h2, h4⟩
theorem cnt0 {w : World} {M B : Nat} (hm : PMem w M B 9 Wo.St.zero) : Calls Try.prog 16 #[.pointer (some ⟨M, 0, none⟩)] w fun e w' => e = .returned (.int .i64 0) ∧ w = w' := p_count M B 9 _ w hm
theorem over_step (P : Nat) (S : Stk) (i : Int) (m : Value) (w : World) (ho : PushAt w P 0 S i 3 Op.over) : Calls Try.prog 12 #[.pointer (some ⟨P, 0, none⟩), m] w fun e w' => e = .returned (.bool true) ∧ w = w' :=
  Stepz_Push P m w (by have := ho.op.c6; simpa [nxPush, Op.over] using this)
theorem over_told (P : Nat) (S : Stk) (i : Int) (w : World) (ho : PushAt w P 0 S i 3 Op.over) : Calls Try.prog 14 #[.pointer (some ⟨P, 0, none⟩)] w fun e w' => e = .returned (.int .i64 3) ∧ w = w' := push_told P 0 S i 3 Op.over w ho

set_option maxHeartbeats 8000000 in
theorem none_any (T K N i : Int) (w : World) : Calls Try.prog 3 #[.agg #[.int .i64 T, .int .i64 K, .int .i64 N], .int .i64 i] w fun e w' => e = .returned (.bool true) ∧ Kept w w' := by
  have aw := Lib.hid awake_any
  by_cases hN : 100 < N
  · go_enter Try.func3, Try.ntmps3
    go_wp2_with fail
    refine (aw.out _).mono ?_
    rintro e w1 ⟨rfl, k1⟩
    go_wp2
    go_ret
    exact ⟨rfl, Kept.trans ((Kept.refl _).alloc _ _) k1⟩
  have nn := Lib.hid Nat.le_refl
  go_enter Try.func3, Try.ntmps3
  go_wp2_with fail
  refine (p_new9 _).mono ?_
  rintro e w1 ⟨M, B, rfl, m1, k1⟩
  have s0 : w1.cell? ⟨w.heap.size, 0, none⟩ = some (.int .i64 T) := k1.some (by simp)
  have s1 : w1.cell? ⟨w.heap.size, 1, none⟩ = some (.int .i64 K) := k1.some (by simp)
  have s2 : w1.cell? ⟨w.heap.size, 2, none⟩ = some (.int .i64 N) := k1.some (by simp)
  have hlt := lt_of_cell s0
  have M1 := Lib.hid m1
  have K1 := Lib.hid (Kept.trans ((Kept.refl _).alloc _ _) k1)
  have eqn : ∀ W, (binOp .eql 25 (.pointer (some ⟨M, 0, none⟩)) (.pointer none)).run Try.prog W = .ok (.bool false) W := fun W => by kernel_rfl
  clear m1 k1
  go_wp2_with fail
  refine wp_loop_rounds 3 ?_
  rw [rounds_succ]
  go_wp2_with fail
  refine (Index_nil_Pop _).mono ?_
  rintro e _ ⟨rfl, rfl⟩
  go_wp2_with fail
  refine (Index_nil_All _).mono ?_
  rintro e _ ⟨rfl, rfl⟩
  go_wp2_with fail
  refine (Step_Pop_nil _ _).mono ?_
  rintro e _ ⟨rfl, rfl⟩
  go_wp2_with fail
  refine (Step_Push_nil _ _).mono ?_
  rintro e _ ⟨rfl, rfl⟩
  go_wp2_with fail
  refine (Step_All_nil _ _).mono ?_
  rintro e _ ⟨rfl, rfl⟩
  go_wp2_with fail
  refine (Err_nil _).mono ?_
  rintro e _ ⟨rfl, rfl⟩
  go_wp2_with fail
  rw [rounds_succ]
  go_wp2_with fail
  refine (Indexz_Pop _ _ (by repeat (first | (refine (cell_new _ _ _ _ _ ?_).trans ?_ <;> first | (simp; done) | rfl) | refine past ?_ _ _))).mono ?_
  rintro e w2 ⟨rfl, k2⟩
  have r0 : w2.cell? ⟨w1.heap.size + 1, 1, none⟩ = some (.pointer (some ⟨w1.heap.size, 0, none⟩)) := k2.some (by repeat (first | (refine (cell_new _ _ _ _ _ ?_).trans ?_ <;> first | (simp; done) | rfl) | refine past ?_ _ _))
  have r1 : w2.cell? ⟨w1.heap.size + 3, 1, none⟩ = some (.pointer (some ⟨w1.heap.size + 2, 0, none⟩)) := k2.some (by repeat (first | (refine (cell_new _ _ _ _ _ ?_).trans ?_ <;> first | (simp; done) | rfl) | refine past ?_ _ _))
  have r2 : w2.cell? ⟨w1.heap.size + 5, 1, none⟩ = some (.pointer (some ⟨w1.heap.size + 4, 0, none⟩)) := k2.some (by repeat (first | (refine (cell_new _ _ _ _ _ ?_).trans ?_ <;> first | (simp; done) | rfl) | refine past ?_ _ _))
  have z0 : w2.cell? ⟨w1.heap.size, 6, none⟩ = some .nilFunc := k2.some (by repeat (first | (refine (cell_new _ _ _ _ _ ?_).trans ?_ <;> first | (simp; done) | rfl) | refine past ?_ _ _))
  have z1 : w2.cell? ⟨w1.heap.size + 2, 0, none⟩ = some (.bool false) := k2.some (by repeat (first | (refine (cell_new _ _ _ _ _ ?_).trans ?_ <;> first | (simp; done) | rfl) | refine past ?_ _ _))
  have z2 : w2.cell? ⟨w1.heap.size + 2, 6, none⟩ = some .nilFunc := k2.some (by repeat (first | (refine (cell_new _ _ _ _ _ ?_).trans ?_ <;> first | (simp; done) | rfl) | refine past ?_ _ _))
  have z3 : w2.cell? ⟨w1.heap.size + 4, 0, none⟩ = some (.bool false) := k2.some (by repeat (first | (refine (cell_new _ _ _ _ _ ?_).trans ?_ <;> first | (simp; done) | rfl) | refine past ?_ _ _))
  have z4 : w2.cell? ⟨w1.heap.size + 4, 6, none⟩ = some .nilFunc := k2.some (by repeat (first | (refine (cell_new _ _ _ _ _ ?_).trans ?_ <;> first | (simp; done) | rfl) | refine past ?_ _ _))
  have KA := Lib.hid (show Kept w1 w2 from Kept.trans (b := _) (((((((Kept.refl _).alloc _ _).alloc _ _).alloc _ _).alloc _ _).alloc _ _).alloc _ _) k2)
  have s0 := KA.out.some s0
  have s1 := KA.out.some s1
  have s2 := KA.out.some s2
  clear k2
  go_wp2_with fail
  refine (Indexz_All _ _ z3).mono ?_
  rintro e w3 ⟨rfl, k3⟩
  have r0 := k3.some r0
  have r1 := k3.some r1
  have r2 := k3.some r2
  have z0 := k3.some z0
  have z1 := k3.some z1
  have z2 := k3.some z2
  have z4 := k3.some z4
  have s0 := k3.some s0
  have s1 := k3.some s1
  have s2 := k3.some s2
  have KB := Lib.hid (KA.out.trans k3)
  clear k3 z3
  go_wp2_with fail
  refine (Stepz_Pop _ _ _ z0).mono ?_
  rintro e _ ⟨rfl, rfl⟩
  go_wp2_with fail
  refine (Stepz_Push _ _ _ z2).mono ?_
  rintro e _ ⟨rfl, rfl⟩
  go_wp2_with fail
  refine (Stepz_All _ _ _ z4).mono ?_
  rintro e _ ⟨rfl, rfl⟩
  go_wp2_with fail
  refine (Errz _ _ z1).mono ?_
  rintro e _ ⟨rfl, rfl⟩
  clear r0 r1 r2 z0 z1 z2 z4
  go_wp2_with fail
  rw [rounds_succ]
  by_cases hi : i < 0 ∨ N ≤ i
  · go_wp2_with fail
    refine (newPush_out ⟨T, K, N⟩ i hi _).mono ?_
    rintro e w4 ⟨P, rfl, lP, gP, o4, k4⟩
    have s2 := k4.some s2
    have K4 := Lib.hid (KB.out.trans k4)
    have O4 := Lib.hid o4
    clear k4 o4
    rcases hi with hi | hi
    · go_wp2_with fail
      refine (over_step P _ i _ _ O4.out).mono ?_
      rintro e _ ⟨rfl, rfl⟩
      go_wp2_with fail
      refine (over_told P _ i _ O4.out).mono ?_
      rintro e _ ⟨rfl, rfl⟩
      go_wp2_with fail
      refine (cnt0 (pmem_kept M1.out K4.out)).mono ?_
      rintro e _ ⟨rfl, rfl⟩
      go_wp2_with fail
      refine (aw.out _).mono ?_
      rintro e w5 ⟨rfl, k5⟩
      go_wp2
      go_ret
      exact ⟨rfl, K1.out.trans (K4.out.trans k5)⟩
    · by_cases hi0 : i < 0
      · go_wp2_with fail
        refine (over_step P _ i _ _ O4.out).mono ?_
        rintro e _ ⟨rfl, rfl⟩
        go_wp2_with fail
        refine (over_told P _ i _ O4.out).mono ?_
        rintro e _ ⟨rfl, rfl⟩
        go_wp2_with fail
        refine (cnt0 (pmem_kept M1.out K4.out)).mono ?_
        rintro e _ ⟨rfl, rfl⟩
        go_wp2_with fail
        refine (aw.out _).mono ?_
        rintro e w5 ⟨rfl, k5⟩
        go_wp2
        go_ret
        exact ⟨rfl, K1.out.trans (K4.out.trans k5)⟩
      · go_wp2_with fail
        refine (over_step P _ i _ _ O4.out).mono ?_
        rintro e _ ⟨rfl, rfl⟩
        go_wp2_with fail
        refine (over_told P _ i _ O4.out).mono ?_
        rintro e _ ⟨rfl, rfl⟩
        go_wp2_with fail
        refine (cnt0 (pmem_kept M1.out K4.out)).mono ?_
        rintro e _ ⟨rfl, rfl⟩
        go_wp2_with fail
        refine (aw.out _).mono ?_
        rintro e w5 ⟨rfl, k5⟩
        go_wp2
        go_ret
        exact ⟨rfl, K1.out.trans (K4.out.trans k5)⟩
  · have hi0 : ¬ i < 0 := fun h => hi (.inl h)
    have hi1 : ¬ N ≤ i := fun h => hi (.inr h)
    clear hi
    go_wp2_with fail
    refine (newPush_in ⟨T, K, N⟩ i (by omega) (by show i < N; omega) (by omega) _).mono ?_
    rintro e w4 ⟨P, rfl, lP, gP, o4, k4⟩
    have s0 := k4.some s0
    have s1 := k4.some s1
    have s2 := k4.some s2
    have K4 := Lib.hid (KB.out.trans k4)
    clear k4 o4
    go_wp2_with fail
    refine (fill_no ⟨T, K, N⟩ _ (by show 1 ≤ N; omega) (by show N ≤ 4096; omega)).mono ?_
    rintro e w5 ⟨rfl, k5⟩
    have s0 := k5.some s0
    have s1 := k5.some s1
    have s2 := k5.some s2
    have K5 := Lib.hid (K4.out.trans k5)
    clear k5
    go_wp2_with fail
    refine (newPop_any ⟨T, K, N⟩ _).mono ?_
    rintro e w6 ⟨Q, rfl, lQ, gQ, o6, k6⟩
    have s0 := k6.some s0
    have s1 := k6.some s1
    have s2 := k6.some s2
    have K6 := Lib.hid (K5.out.trans k6)
    have O6 := Lib.hid o6
    have lQ1 : w1.heap.size ≤ Q := Nat.le_trans K5.out.size lQ
    clear k6 o6
    go_wp2_with fail
    refine (step_no Q _ _ O6.out).mono ?_
    rintro e w7 ⟨rfl, o7, b7⟩
    have hq : ¬ w.heap.size = Q := by omega
    have s0 := b7.some s0 hq
    have s1 := b7.some s1 hq
    have s2 := b7.some s2 hq
    have K7 : Hid (Kept w1 w7) := Lib.hid (((K6.out.but (fun k => k = Q)).trans b7 (fun _ _ h => h)).kept (fun k hk e => by omega))
    have O7 := Lib.hid o7
    clear b7 o7
    go_wp2_with fail
    refine (told_no Q _ _ O7.out).mono ?_
    rintro e w8 ⟨rfl, k8⟩
    have s0 := k8.some s0
    have s1 := k8.some s1
    have s2 := k8.some s2
    have K8 := Lib.hid (K7.out.trans k8)
    clear k8
    go_wp2_with fail
    refine (chain_no ⟨T, K, N⟩ _ (by show N ≤ 4096; omega)).mono ?_
    rintro e w9 ⟨⟨a, c, rfl⟩, k9⟩
    have K9 := Lib.hid (K8.out.trans k9)
    clear k9
    go_wp2_with fail
    refine (cnt0 (pmem_kept M1.out K9.out)).mono ?_
    rintro e _ ⟨rfl, rfl⟩
    go_wp2_with fail
    refine (aw.out _).mono ?_
    rintro e w10 ⟨rfl, k10⟩
    go_wp2
    go_ret
    exact ⟨rfl, K1.out.trans (K9.out.trans k10)⟩
end Go.Proofs.Ytfcompikbeebaaa.Sk
