/- The kit's functions on lists of ints, and Pick. -/
import Derived.Test.YtbechdgcepiecaaProg
import Derived.Test.YtbechdgcepiecaaG00
import Derived.Test.YtbechdgcepiecaaG19
import Derived.WalkLawsBesides
import Derived.Deep.QuietTactic
import Derived.BigQuiet
import Derived.OwnWalk
import Derived.LoopN
import Derived.Lib.Hide
import Derived.Test.YtbechdgcepiecaaG17
import Derived.Test.YtbechdgcepiecaaG15
set_option linter.unusedVariables false
set_option linter.unusedSimpArgs false

namespace Go.Proofs.Ytbechdgcepiecaa
open Go.RowKit

set_option maxHeartbeats 1000000 in
theorem sameInts_yes (a a' : Option Addr) (n c c' : Nat) (f : Nat → Int) (w : World) (hn : n ≤ 9223372036854775807) (h : Reads w a n f) (h' : Reads w a' n f) :
    Calls Try.prog 29 #[.slice a n c, .slice a' n c'] w fun e w' => e = .returned (.bool true) ∧ Kept w w' := by
  by_cases h0 : n = 0
  · subst h0
    clear h h' hn
    go_enter Try.func29, Try.ntmps29
    go_wp2
    go_loopw [5, 6] (fun s i wr => s = .bool true ∧ i = .int .i64 0 ∧ wr = w) (fun _ _ _ => 0)
    case atStart => exact ⟨rfl, rfl, rfl⟩
    case round =>
      obtain ⟨rfl, rfl, rfl⟩ := hrel
      go_wp2
      go_ret
      exact ⟨rfl, Kept.refl _⟩
  · obtain ⟨b, o, rfl, hc⟩ := h.resolve_left h0
    obtain ⟨b', o', rfl, hc'⟩ := h'.resolve_left h0
    have HC := Lib.hid hc
    have HC' := Lib.hid hc'
    clear hc hc' h h'
    go_enter Try.func29, Try.ntmps29
    go_wp2
    go_loopw [5, 6] (fun s i wr => ∃ k : Nat, k ≤ n ∧ s = .bool true ∧ i = .int .i64 k ∧ (∃ q, wr = w.drewN q)) (fun _ i _ => n - (intOf i).toNat)
    case atStart => exact ⟨0, Nat.zero_le _, rfl, rfl, 0, rfl⟩
    case round =>
      obtain ⟨k, hk, rfl, rfl, q, rfl⟩ := hrel
      by_cases hlt : k < n
      · have h1 := HC.out k hlt
        have h2 := HC'.out k hlt
        go_wp2
        go_quiet (fail)
        go_wp2
        go_roundw
        case rel => exact ⟨k + 1, by omega, rfl, by go_num, q + nq, rfl⟩
        case measure => simp [intOf]; omega
      · go_wp2
        go_ret
        exact ⟨rfl, (Kept.refl _).drewN _⟩

theorem tmod_up (x n : Int) (hn : 0 < n) (hn' : n ≤ 1000000) (h : x.tmod n < 0) : wrap64 (x.tmod n + n) = x % n := by
  have e := Int.tmod_eq_emod (a := x) (b := n)
  have h1 := Int.emod_nonneg x (show n ≠ 0 by omega)
  have h2 := Int.emod_lt_of_pos x hn
  unfold wrap64
  split at e <;> omega
theorem tmod_at (x n : Int) (hn : 0 < n) (h : 0 ≤ x.tmod n) : x.tmod n = x % n := by
  have e := Int.tmod_eq_emod (a := x) (b := n)
  have h1 := Int.emod_nonneg x (show n ≠ 0 by omega)
  have h2 := Int.emod_lt_of_pos x hn
  split at e <;> omega

set_option maxHeartbeats 400000 in
theorem pick_any (x n : Int) (hn : 1 ≤ n) (hn' : n ≤ 1000000) (w : World) :
    Calls Try.prog 19 #[.int .i64 x, .int .i64 n] w fun e w' => e = .returned (.int .i64 (x % n)) ∧ w = w' := by
  go_enter Try.func19, Try.ntmps19
  go_wp2
  · rename_i _ h
    go_ret
    exact ⟨by show Ending.returned (.int .i64 (wrap64 (x.tmod n + n))) = _; rw [tmod_up x n (by omega) hn' h], rfl⟩
  · rename_i _ h
    go_ret
    exact ⟨by show Ending.returned (.int .i64 (x.tmod n)) = _; rw [tmod_at x n (by omega) h], rfl⟩

set_option maxHeartbeats 1000000 in
theorem copyInts_any (a : Option Addr) (n c : Nat) (f : Nat → Int) (w : World) (hn : n ≤ 1000000) (h : Row w a n c f) :
    Calls Try.prog 132 #[.slice a n c] w fun e w' => ∃ b C, e = .returned (.slice (some ⟨b, 0, none⟩) n C) ∧ Kept w w' ∧ Made w w' b n C f := by
  have H := Lib.hid h
  clear h
  go_enter Try.func132, Try.ntmps132
  go_wp2_with (at_builtin; refine wpList_copy rfl _ _ rfl w a n c f H.out hn rfl rfl ?_; rintro b C W' hk hm)
  go_ret
  exact ⟨b, C, rfl, hk, hm⟩
theorem make_ints (n : Nat) (hn : n ≤ 1000000) : ∃ Z : Array Value, (∀ i, i < n → Z[i]? = some (.int .i64 0)) ∧
    ∀ w : World, (Instr.makeSlice 61 (.int .i64 (n : Int)) (.int .i64 (n : Int))).run Try.prog w = .ok (.slice (some ⟨w.heap.size, 0, none⟩) n n) (w.alloc (.cells Z 3)) := by
  obtain ⟨i0, hi, hz0, hz1, hz2⟩ := info_parts infoInt
  refine ⟨madeCells #[.int .i64 0] n, fun i h => ?_, fun w => ?_⟩
  · have e : (madeCells #[.int .i64 0] n)[i]? = (madeCells #[.int .i64 0] n).toList[i]? := by simp
    rw [e, toList_madeCells_one]
    simp [h]
  · have h := run_makeSlice (P := Try.prog) w 61 3 i0 (.int .i64 0) Try.underlying61 hi hz0 .i64 .i64 (n : Int) (n : Int) (by omega) (Int.le_refl _) (by rw [hz1]; omega) (by rw [hz2]; omega) (by omega)
    rw [h, hz1]
    simp [Value.cells]
end Go.Proofs.Ytbechdgcepiecaa

namespace Go.Proofs.Ytbechdgcepiecaa.Tw
set_option maxRecDepth 20000
open Go.RowKit
open Wo (St acc wordAt PMem RefIs)
open Sk (Stk Arn idx Wd p_new p_count pmem_lt pmem_kept pmem_frame)

structure ZLay (w : World) (P : Nat) : Prop where
  c0 : w.cell? ⟨P, 0, none⟩ = some (.bool false)
  c1 : w.cell? ⟨P, 1, none⟩ = some .nilFunc
  c2 : w.cell? ⟨P, 2, none⟩ = some .nilFunc
  c3 : w.cell? ⟨P, 3, none⟩ = some .nilFunc
  c4 : w.cell? ⟨P, 4, none⟩ = some .nilFunc
  c6 : w.cell? ⟨P, 6, none⟩ = some (.int .u64 0)
theorem ZLay.kept {w w' : World} {P : Nat} (h : ZLay w P) (k : Kept w w') : ZLay w' P := ⟨k.some h.c0, k.some h.c1, k.some h.c2, k.some h.c3, k.some h.c4, k.some h.c6⟩
set_option maxHeartbeats 1000000 in
theorem zlay_in (P : Nat) (m : Value) (w : World) (h : ZLay w P) : Calls Try.prog 41 #[.pointer (some ⟨P, 0, none⟩), m] w fun e w' => e = .returned (.bool true) ∧ w = w' := by
  obtain ⟨c0, f0, f1, f2, f3, c6⟩ := h
  have q1 := nx_nil
  have i0 := ix_0
  have i1 := ix_1
  have i2 := ix_2
  have i3 := ix_3
  go_enter Try.func41, Try.ntmps41
  go_wp2_with fail
  refine wp_loop_rounds 5 ?_
  rw [rounds_succ]
  go_wp2_with fail
  rw [rounds_succ]
  go_wp2_with fail
  rw [rounds_succ]
  go_wp2_with fail
  rw [rounds_succ]
  go_wp2_with fail
  rw [rounds_succ]
  go_wp2
  go_ret
  exact ⟨rfl, rfl⟩
theorem zlay_step (P : Nat) (m : Value) (w : World) (h : ZLay w P) : Calls Try.prog 14 #[.pointer (some ⟨P, 0, none⟩), m] w fun e w' => e = .returned (.bool true) ∧ w = w' := by
  have HS := Lib.hid (zlay_in P m w h)
  clear h
  go_enter Try.func14, Try.ntmps14
  go_wp2_with fail
  refine HS.out.mono ?_
  rintro e w1 ⟨rfl, rfl⟩
  go_wp2
  go_ret
  exact ⟨rfl, rfl⟩
theorem over_step (P lo hi : Nat) (t : Twr) (er : Int) (m : Value) (w : World) (h : LayAt w lo hi P t ⟨4, 0, -1, 0, 0, 0, er⟩) : Calls Try.prog 14 #[.pointer (some ⟨P, 0, none⟩), m] w fun e w' => e = .returned (.bool true) ∧ w = w' := by
  have HS := Lib.hid (step_over P lo hi t _ m w h rfl)
  clear h
  go_enter Try.func14, Try.ntmps14
  go_wp2_with fail
  refine HS.out.mono ?_
  rintro e w1 ⟨rfl, rfl⟩
  go_wp2
  go_ret
  exact ⟨rfl, rfl⟩
theorem rng_bad (k : Int) (h0 : 0 ≤ k) (h1 : k < 9) : newL T0 (65540 + k) 1 1 1 = ⟨4, 0, -1, 0, 0, 0, 3⟩ := by
  have : ∀ j : Fin 9, laidE T0 (65540 + (j.val : Int)) 1 1 = 3 := by decide +kernel
  have h := this ⟨k.toNat, by omega⟩
  rw [show (65540 + ((k.toNat : Nat) : Int)) = 65540 + k by omega] at h
  unfold newL
  rw [h, if_neg (by decide)]
def oddT (k : Int) : Twr := { T0 with G := 5 + k }
theorem odd_bad (k : Int) (h0 : 0 ≤ k) : newL (oddT k) 65537 1 1 1 = ⟨4, 0, -1, 0, 0, 0, 2⟩ := by
  have hs : ¬ (oddT k).Sound := fun h => by have := h.G2; have e : (oddT k).G = 5 + k := rfl; omega
  have h : laidE (oddT k) 65537 1 1 = 2 := by unfold laidE; rw [if_pos hs]
  unfold newL
  rw [h, if_neg (by decide)]
theorem nodN : hw 0 (fun _ => 0) (atI T0 1 0) = 0 ∧ hw 0 (fun _ => 0) (atI T0 1 1) = 0 ∧ hw 0 (fun _ => 0) (atI T0 1 2) = 0 ∧ hw 0 (fun _ => 0) (atI T0 1 3) = 0 ∧ nextL 0 (fun _ => 0) T0 1 2 = [0, 0] ∧ (levelL 0 (fun _ => 0) T0 0).filter (fun _ => true) = [] ∧ liveM 0 (fun _ => 0) T0 = [] := by decide +kernel
structure NZ (w : World) (b : Nat) (u : Value) : Prop where
  c0 : w.cell? ⟨b, 0, none⟩ = some (.int .u64 0)
  c1 : w.cell? ⟨b, 1, none⟩ = some (.int .u64 0)
  c2 : w.cell? ⟨b, 2, none⟩ = some (.int .u64 0)
  c3 : w.cell? ⟨b, 3, none⟩ = some (.int .u64 0)
  c4 : w.cell? ⟨b, 4, none⟩ = some u
theorem NZ.kept {w w' : World} {b : Nat} {u : Value} (h : NZ w b u) (k : Kept w w') : NZ w' b u := ⟨k.some h.c0, k.some h.c1, k.some h.c2, k.some h.c3, k.some h.c4⟩
theorem cnt0 {w : World} {M B : Nat} (hm : PMem w M B 34 Wo.St.zero) : Calls Try.prog 21 #[.pointer (some ⟨M, 0, none⟩)] w fun e w' => e = .returned (.int .i64 0) ∧ w = w' := p_count M B 34 _ w hm
set_option maxHeartbeats 8000000 in
theorem none_any (n : Int) (w : World) : Calls Try.prog 4 #[.int .i64 n] w fun e w' => e = .returned (.bool true) ∧ Kept w w' := by
  have aw := Lib.hid awake_any
  have q := eqn
  obtain ⟨k, hk⟩ : ∃ k, k = n % 9 := ⟨_, rfl⟩
  have k0 : 0 ≤ k := by omega
  have k9 : k < 9 := by omega
  have PK := fun W => Lib.hid (show Calls Try.prog 19 #[.int .i64 n, .int .i64 9] W fun e w' => e = .returned (.int .i64 k) ∧ W = w' from by rw [hk]; exact pick_any n 9 (by decide) (by decide) W)
  clear hk
  obtain ⟨T, hT⟩ : ∃ T, T = T0 := ⟨_, rfl⟩
  obtain ⟨r, hr⟩ : ∃ r, r = 65540 + k := ⟨_, rfl⟩
  have CH := fun W => Lib.hid (show Calls Try.prog 17 #[] W fun e w' => e = .returned (towV T) ∧ Kept W w' from by rw [hT]; exact chapter_any W)
  have NL := fun W => Lib.hid (show Calls Try.prog 18 #[towV T, .int .u64 r, .int .u64 1, .int .i64 1, .int .i64 1] W (MadePost W T ⟨4, 0, -1, 0, 0, 0, 3⟩) from by rw [hT, hr]; have := new_any T0 (65540 + k) 1 1 1 (by omega) (by omega) W; rwa [rng_bad k k0 k9] at this)
  have e1 : IntKind.u64.wrap k = k := by rw [IntKind.wrap_u64]; omega
  have e2 : IntKind.u64.wrap (65540 + k) = r := by rw [IntKind.wrap_u64, hr]; omega
  have e3 : IntKind.i64.wrap (5 + k) = 5 + k := by rw [IntKind.wrap_i64]; omega
  have OL := fun W => Lib.hid (show Calls Try.prog 18 #[.agg #[.int .i64 T.D, .int .i64 T.H, .int .i64 (5 + k), .int .i64 T.A.F.T, .int .i64 T.A.F.K, .int .i64 T.A.F.N, .int .i64 T.A.G, .int .i64 T.A.V, .int .i64 T.A.L, .int .i64 T.E.T, .int .i64 T.E.K, .int .i64 T.E.N, .int .i64 T.P], .int .u64 65537, .int .u64 1, .int .i64 1, .int .i64 1] W (MadePost W ⟨T.D, T.H, 5 + k, T.A, T.E, T.P⟩ ⟨4, 0, -1, 0, 0, 0, 2⟩) from by rw [hT]; have := new_any (oddT k) 65537 1 1 1 (by decide) (by decide) W; rwa [odd_bad k k0] at this)
  have ND := fun W => Lib.hid (show Calls Try.prog 20 #[towV T, .int .i64 1, .pointer none] W fun e w' => ∃ a c, e = .returned (.tuple #[.agg #[.int .u64 0, .int .u64 0, .int .u64 0, .int .u64 0, .slice a 2 c], .bool true]) ∧ Kept W w' ∧ w'.ownsRow W.heap.size 45 1 (.slice a 2 c) 2 (words [0, 0]) from by
    rw [hT]
    refine (node_yes T0 sndT0 1 (by decide) _ 0 (fun _ => 0) (by decide) W (gives_nil W)).mono ?_
    rintro e w' ⟨a, c, x, y, z⟩
    obtain ⟨v0, v1, v2, v3, v4, -, -⟩ := nodN
    rw [show T0.G.toNat = 2 from rfl, v4] at z
    rw [v0, v1, v2, v3, show T0.G.toNat = 2 from rfl] at x
    exact ⟨a, c, x, y, z⟩)
  have LV := fun W => Lib.hid (show Calls Try.prog 22 #[towV T, .int .i64 0, .pointer none] W fun e w' => ∃ a c, e = .returned (.slice a 0 c) ∧ Kept W w' from by
    rw [hT]
    refine (level_told T0 (by decide) 0 (by unfold I64; omega) _ 0 (fun _ => 0) (fun i hi => absurd hi (Nat.not_lt_zero _)) (by decide) W (gives_nil W)).mono ?_
    rintro e w' ⟨a, c, x, y, -⟩
    rw [nodN.2.2.2.2.2.1] at x
    exact ⟨a, c, x, y⟩)
  have LI := fun W => Lib.hid (show Calls Try.prog 23 #[towV T, .pointer none] W fun e w' => ∃ a c, e = .returned (.slice a 0 c) ∧ Kept W w' from by
    rw [hT]
    refine (live_told T0 (by decide) _ 0 (fun _ => 0) (fun i hi => absurd hi (Nat.not_lt_zero _)) (by decide) W (gives_nil W)).mono ?_
    rintro e w' ⟨a, c, x, y, -⟩
    rw [nodN.2.2.2.2.2.2] at x
    exact ⟨a, c, x, y⟩)
  have FO := fun W M => Lib.hid (show Calls Try.prog 24 #[.agg #[.int .i64 T.D, .int .i64 T.H, .int .i64 (5 + k), .int .i64 T.A.F.T, .int .i64 T.A.F.K, .int .i64 T.A.F.N, .int .i64 T.A.G, .int .i64 T.A.V, .int .i64 T.A.L, .int .i64 T.E.T, .int .i64 T.E.K, .int .i64 T.E.N, .int .i64 T.P], .pointer (some ⟨M, 0, none⟩)] W fun e w' => e = .returned (.tuple #[]) ∧ Kept W w' from by rw [hT]; exact tfill_bad (oddT k) (fun h => by have := h.G2; have e : (oddT k).G = 5 + k := rfl; omega) _ W (.inr ⟨M, rfl⟩))
  have FN := fun W => Lib.hid (show Calls Try.prog 24 #[towV T, .pointer none] W fun e w' => e = .returned (.tuple #[]) ∧ Kept W w' from by rw [hT]; exact tfill_nil T0 W 34 okT0 sndT0)
  have HT := Lib.hid hT
  have HR := Lib.hid hr
  clear hT hr
  go_enter Try.func4, Try.ntmps4
  go_wp2_with fail
  refine (p_new 34 (by decide) (by decide) _).mono ?_
  rintro e w1 ⟨rfl, m1, z1, k1⟩
  obtain ⟨M, hM⟩ : ∃ M, M = w.heap.size + 1 := ⟨_, rfl⟩
  rw [← hM] at m1 ⊢
  obtain ⟨B, hB⟩ : ∃ B, B = w.heap.size := ⟨_, rfl⟩
  rw [← hB] at m1
  have I1 := Lib.hid (In.mk m1 k1 (by omega) (by omega))
  clear m1 k1 z1 hM hB
  go_wp2_with fail
  obtain ⟨W2, hW2⟩ : ∃ W2, W2 = ((w1.alloc (.cells #[.bool false, .nilFunc, .nilFunc, .nilFunc, .nilFunc, .int .u64 0, .int .u64 0, .int .i64 0] 47)).alloc (.cells #[.pointer none, .pointer (some ⟨w1.heap.size, 0, none⟩)] 41)) := ⟨_, rfl⟩
  have ZL : Hid (ZLay W2 w1.heap.size) := Lib.hid (by
    rw [hW2]
    have k : Kept (w1.alloc (.cells #[.bool false, .nilFunc, .nilFunc, .nilFunc, .nilFunc, .int .u64 0, .int .u64 0, .int .i64 0] 47)) ((w1.alloc (.cells #[.bool false, .nilFunc, .nilFunc, .nilFunc, .nilFunc, .int .u64 0, .int .u64 0, .int .i64 0] 47)).alloc (.cells #[.pointer none, .pointer (some ⟨w1.heap.size, 0, none⟩)] 41)) := (Kept.refl _).alloc _ _
    exact ⟨k.some (cell_new _ _ _ _ 0 rfl), k.some (cell_new _ _ _ _ 1 rfl), k.some (cell_new _ _ _ _ 2 rfl), k.some (cell_new _ _ _ _ 3 rfl), k.some (cell_new _ _ _ _ 4 rfl), k.some (cell_new _ _ _ _ 6 rfl)⟩)
  have s0 : W2.cell? ⟨w1.heap.size + 1, 0, none⟩ = some (.pointer none) := by rw [hW2]; exact cell_new _ _ _ _ 0 (by simp)
  have s1 : W2.cell? ⟨w1.heap.size + 1, 1, none⟩ = some (.pointer (some ⟨w1.heap.size, 0, none⟩)) := by rw [hW2]; exact cell_new _ _ _ _ 1 (by simp)
  have I2 := Lib.hid (I1.out.grow (show Kept w1 W2 by rw [hW2]; exact ((Kept.refl _).alloc _ _).alloc _ _))
  rw [← hW2]
  clear hW2 I1
  refine wp_loop_rounds 3 ?_
  rw [rounds_succ]
  go_wp2_with fail
  refine (step_nil _ _).mono ?_
  rintro e _ ⟨rfl, rfl⟩
  go_wp2_with fail
  refine (err_nil _).mono ?_
  rintro e _ ⟨rfl, rfl⟩
  go_wp2_with fail
  refine (by_nil _).mono ?_
  rintro e _ ⟨rfl, rfl⟩
  go_wp2_with fail
  rw [rounds_succ]
  go_wp2_with fail
  refine (zlay_step _ _ _ ZL.out).mono ?_
  rintro e _ ⟨rfl, rfl⟩
  go_wp2_with fail
  refine (err_none _ _ ZL.out.c0).mono ?_
  rintro e _ ⟨rfl, rfl⟩
  go_wp2_with fail
  refine (by_made _ 0 _ ZL.out.c6).mono ?_
  rintro e _ ⟨rfl, rfl⟩
  go_wp2_with fail
  rw [rounds_succ]
  clear s0 s1 ZL
  go_wp2_with fail
  refine (CH _).out.mono ?_
  rintro e w3 ⟨rfl, k3⟩
  have I3 := Lib.hid (I2.out.grow k3)
  clear k3 I2
  go_wp2_with fail
  obtain ⟨W3, hW3⟩ : ∃ W3, W3 = w3.alloc (.cells #[.int .i64 T.D, .int .i64 T.H, .int .i64 T.G, .int .i64 T.A.F.T, .int .i64 T.A.F.K, .int .i64 T.A.F.N, .int .i64 T.A.G, .int .i64 T.A.V, .int .i64 T.A.L, .int .i64 T.E.T, .int .i64 T.E.K, .int .i64 T.E.N, .int .i64 T.P] 31) := ⟨_, rfl⟩
  have TT := Lib.hid (show TB W3 w3.heap.size T by rw [hW3]; exact TB.new w3 _ _ rfl T)
  have I3 := Lib.hid (I3.out.grow (show Kept w3 W3 by rw [hW3]; exact (Kept.refl _).alloc _ _))
  have hz3 : w3.heap.size < W3.heap.size := by rw [hW3]; simp
  rw [← hW3]
  clear hW3
  obtain ⟨a0, a1, a2, a3, a4, a5, a6, a7, a8, a9, a10, a11, a12⟩ := TT.out
  have KT : Kept W3 W3 := Kept.refl _
  go_region_held3 (fun w' => w'.cell? ⟨w3.heap.size, 0, none⟩ = some (.int .i64 T.D) ∧ w'.cell? ⟨w3.heap.size, 1, none⟩ = some (.int .i64 T.H) ∧ w'.cell? ⟨w3.heap.size, 2, none⟩ = some (.int .i64 T.G) ∧ w'.cell? ⟨w3.heap.size, 3, none⟩ = some (.int .i64 T.A.F.T) ∧ w'.cell? ⟨w3.heap.size, 4, none⟩ = some (.int .i64 T.A.F.K) ∧ w'.cell? ⟨w3.heap.size, 5, none⟩ = some (.int .i64 T.A.F.N) ∧ w'.cell? ⟨w3.heap.size, 6, none⟩ = some (.int .i64 T.A.G) ∧ w'.cell? ⟨w3.heap.size, 7, none⟩ = some (.int .i64 T.A.V) ∧ w'.cell? ⟨w3.heap.size, 8, none⟩ = some (.int .i64 T.A.L) ∧ w'.cell? ⟨w3.heap.size, 9, none⟩ = some (.int .i64 T.E.T) ∧ w'.cell? ⟨w3.heap.size, 10, none⟩ = some (.int .i64 T.E.K) ∧ w'.cell? ⟨w3.heap.size, 11, none⟩ = some (.int .i64 T.E.N) ∧ w'.cell? ⟨w3.heap.size, 12, none⟩ = some (.int .i64 T.P)) (first | (with_reducible exact ⟨KT.some a0, KT.some a1, KT.some a2, KT.some a3, KT.some a4, KT.some a5, KT.some a6, KT.some a7, KT.some a8, KT.some a9, KT.some a10, KT.some a11, KT.some a12⟩) | go_keep) (first
    | (go_at_call 19; refine (PK _).out.mono ?_; rintro e x1 ⟨rfl, rfl⟩)
    | (go_at_call 18; (with_reducible refine Calls.mono (NL _).out ?_); rintro e w4 ⟨P4, lo4, hi4, rfl, l4, h1, h2, h3, h4, h5, k4⟩; have KT : Kept W3 w4 := Kept.trans (b := _) (by first | exact KT | exact KT.drew | exact KT.drewN _) k4))
  have X4 := Lib.hid l4
  have B4 : Hid (P4 < w4.heap.size ∧ hi4 ≤ w4.heap.size) := Lib.hid ⟨h5, h3⟩
  have I4 := Lib.hid (I3.out.grow KT)
  have TT := Lib.hid (TT.out.kept KT)
  clear k4 l4 h1 h2 h3 h4 h5 I3 KT a0 a1 a2 a3 a4 a5 a6 a7 a8 a9 a10 a11 a12
  go_wp2_with fail
  refine (CH _).out.mono ?_
  rintro e w5 ⟨rfl, k5⟩
  have X5 := Lib.hid (X4.out.kept k5)
  have I5 := Lib.hid (I4.out.grow k5)
  have TT := Lib.hid (TT.out.kept k5)
  have B5 : Hid (P4 < w5.heap.size ∧ hi4 ≤ w5.heap.size) := Lib.hid (by have := k5.size; have := B4.out; omega)
  have HM5 := Lib.hid (pmem_lt I5.out.mem)
  have K5Z := Lib.hid I5.out.kept.size
  have HZ35 : Hid (w3.heap.size < w5.heap.size) := Lib.hid (lt_of_cell TT.out.c0)
  clear k5 X4 I4
  go_wp2_with fail
  obtain ⟨W5, hW5⟩ : ∃ W5, W5 = w5.alloc (.cells #[.int .i64 T.D, .int .i64 T.H, .int .i64 T.G, .int .i64 T.A.F.T, .int .i64 T.A.F.K, .int .i64 T.A.F.N, .int .i64 T.A.G, .int .i64 T.A.V, .int .i64 T.A.L, .int .i64 T.E.T, .int .i64 T.E.K, .int .i64 T.E.N, .int .i64 T.P] 31) := ⟨_, rfl⟩
  have k55 : Kept w5 W5 := by rw [hW5]; exact (Kept.refl _).alloc _ _
  have OO : TB W5 w5.heap.size T := by rw [hW5]; exact TB.new w5 _ _ rfl T
  have fo : ∀ i, W5.frozen? ⟨w5.heap.size, i, none⟩ = false := by intro i; rw [hW5]; simp
  have I5 := Lib.hid (I5.out.grow k55)
  have X5 := Lib.hid (X5.out.kept k55)
  have TT := Lib.hid (TT.out.kept k55)
  have hz5 : w5.heap.size < W5.heap.size := lt_of_cell OO.c0
  have hz53 : w3.heap.size < w5.heap.size := HZ35.out
  rw [← hW5]
  clear hW5 k55
  refine (PK _).out.mono ?_
  rintro e _ ⟨rfl, rfl⟩
  obtain ⟨W6, hW6⟩ : ∃ W6, W6 = W5.setCell ⟨w5.heap.size, 2, none⟩ (.int .i64 (5 + k)) := ⟨_, rfl⟩
  have b6 : But (fun j => j = w5.heap.size) W5 W6 := by rw [hW6]; exact (But.refl _ _).here _ _
  have O6 : TB W6 w5.heap.size ⟨T.D, T.H, 5 + k, T.A, T.E, T.P⟩ := by
    rw [hW6]
    exact ⟨by simp [cell_set, OO.c0], by simp [cell_set, OO.c1], by simp [cell_set, OO.c2], by simp [cell_set, OO.c3], by simp [cell_set, OO.c4], by simp [cell_set, OO.c5], by simp [cell_set, OO.c6], by simp [cell_set, OO.c7], by simp [cell_set, OO.c8], by simp [cell_set, OO.c9], by simp [cell_set, OO.c10], by simp [cell_set, OO.c11], by simp [cell_set, OO.c12]⟩
  obtain ⟨a0, a1, a2, a3, a4, a5, a6, a7, a8, a9, a10, a11, a12⟩ := OO
  go_wp2_with fail
  rw [← hW6]
  have M5 := HM5.out
  have Q5 := B5.out
  have I6 := Lib.hid (show In w M B Wo.St.zero W6 from ⟨pmem_frame I5.out.mem b6 (by omega) (by omega), ((I5.out.kept.but (fun j => j = w5.heap.size)).trans b6 (fun _ _ h => h)).kept (fun j hj e => by have e : j = w5.heap.size := e; have := K5Z.out; omega), I5.out.lM, I5.out.lB⟩)
  have X6 := Lib.hid (X5.out.but b6 (by omega) (fun j h1 h2 e => by have e : j = w5.heap.size := e; omega))
  have T6 := Lib.hid (TT.out.but b6 (by omega))
  have O6 := Lib.hid O6
  clear hW6 b6 a0 a1 a2 a3 a4 a5 a6 a7 a8 a9 a10 a11 a12 I5 X5 TT fo M5 Q5 HM5 B5 B4 hz5 hz53 HZ35 e1 e2 e3
  refine (OL _).out.mono ?_
  rintro e w7 ⟨P7, lo7, hi7, rfl, l7, -, -, -, -, -, k7⟩
  have Y7 := Lib.hid l7
  have I7 := Lib.hid (I6.out.grow k7)
  have X7 := Lib.hid (X6.out.kept k7)
  have T7 := T6.out.kept k7
  have O7 := Lib.hid (O6.out.kept k7)
  obtain ⟨a0, a1, a2, a3, a4, a5, a6, a7, a8, a9, a10, a11, a12⟩ := T7
  have T7 := Lib.hid (TB.mk a0 a1 a2 a3 a4 a5 a6 a7 a8 a9 a10 a11 a12)
  clear k7 l7 I6 X6 T6 O6
  go_wp2_with fail
  refine (ND _).out.mono ?_
  rintro e w8 ⟨na, nc, rfl, k8, own8⟩
  have Y8 := Lib.hid (Y7.out.kept k8)
  have I8 := Lib.hid (I7.out.grow k8)
  have X8 := Lib.hid (X7.out.kept k8)
  have T8 := Lib.hid (T7.out.kept k8)
  have O8 := Lib.hid (O7.out.kept k8)
  have N8 := Lib.hid own8
  clear k8 own8 Y7 I7 X7 T7 O7 a0 a1 a2 a3 a4 a5 a6 a7 a8 a9 a10 a11 a12
  go_wp2_with fail
  obtain ⟨W9, hW9⟩ : ∃ W9, W9 = w8.alloc (.cells #[.int .u64 0, .int .u64 0, .int .u64 0, .int .u64 0, .slice na 2 nc] 57) := ⟨_, rfl⟩
  have k9 : Kept w8 W9 := by rw [hW9]; exact (Kept.refl _).alloc _ _
  have Z9 : Hid (NZ W9 w8.heap.size (.slice na 2 nc)) := Lib.hid (by rw [hW9]; exact ⟨cell_new _ _ _ _ 0 rfl, cell_new _ _ _ _ 1 rfl, cell_new _ _ _ _ 2 rfl, cell_new _ _ _ _ 3 rfl, cell_new _ _ _ _ 4 rfl⟩)
  have I9 := Lib.hid (I8.out.grow k9)
  have X9 := Lib.hid (X8.out.kept k9)
  have Y9 := Lib.hid (Y8.out.kept k9)
  have T9 := Lib.hid (T8.out.kept k9)
  have O9 := Lib.hid (O8.out.kept k9)
  have N9 := Lib.hid (own_keep N8.out k9)
  rw [← hW9]
  clear hW9 k9 I8 X8 Y8 T8 O8 N8
  obtain ⟨a0, a1, a2, a3, a4, a5, a6, a7, a8, a9, a10, a11, a12⟩ := T9.out
  obtain ⟨o0, o1, o2, o3, o4, o5, o6, o7, o8, o9, o10, o11, o12⟩ := O9.out
  obtain ⟨z0, z1, z2, z3, z4⟩ := Z9.out
  refine (over_step P4 lo4 hi4 T 3 _ _ X9.out).mono ?_
  rintro e _ ⟨rfl, rfl⟩
  go_wp2_with fail
  refine (err_any lo4 hi4 P4 T _ _ X9.out).mono ?_
  rintro e _ ⟨rfl, rfl⟩
  go_wp2_with fail
  refine (over_step P7 lo7 hi7 _ 2 _ _ Y9.out).mono ?_
  rintro e _ ⟨rfl, rfl⟩
  go_wp2_with fail
  refine (err_any lo7 hi7 P7 _ _ _ Y9.out).mono ?_
  rintro e _ ⟨rfl, rfl⟩
  clear X9 Y9
  go_wp2_with fail
  refine (cnt0 I9.out.mem).mono ?_
  rintro e _ ⟨rfl, rfl⟩
  go_wp2_with fail
  refine (LV _).out.mono ?_
  rintro e w10 ⟨la, lc, rfl, k10⟩
  have I10 := Lib.hid (I9.out.grow k10)
  have T10 := Lib.hid (T9.out.kept k10)
  have O10 := Lib.hid (O9.out.kept k10)
  have N10 := Lib.hid (own_keep N9.out k10)
  have Z10 := Lib.hid (Z9.out.kept k10)
  clear k10 I9 T9 O9 N9 Z9 a0 a1 a2 a3 a4 a5 a6 a7 a8 a9 a10 a11 a12 o0 o1 o2 o3 o4 o5 o6 o7 o8 o9 o10 o11 o12 z0 z1 z2 z3 z4
  obtain ⟨a0, a1, a2, a3, a4, a5, a6, a7, a8, a9, a10, a11, a12⟩ := T10.out
  obtain ⟨o0, o1, o2, o3, o4, o5, o6, o7, o8, o9, o10, o11, o12⟩ := O10.out
  obtain ⟨z0, z1, z2, z3, z4⟩ := Z10.out
  go_wp2_with fail
  refine (LI _).out.mono ?_
  rintro e w11 ⟨ma, mc, rfl, k11⟩
  have I11 := Lib.hid (I10.out.grow k11)
  have T11 := Lib.hid (T10.out.kept k11)
  have O11 := Lib.hid (O10.out.kept k11)
  have N11 := Lib.hid (own_keep N10.out k11)
  have Z11 := Lib.hid (Z10.out.kept k11)
  clear k11 I10 T10 O10 N10 Z10 a0 a1 a2 a3 a4 a5 a6 a7 a8 a9 a10 a11 a12 o0 o1 o2 o3 o4 o5 o6 o7 o8 o9 o10 o11 o12 z0 z1 z2 z3 z4
  obtain ⟨a0, a1, a2, a3, a4, a5, a6, a7, a8, a9, a10, a11, a12⟩ := T11.out
  obtain ⟨o0, o1, o2, o3, o4, o5, o6, o7, o8, o9, o10, o11, o12⟩ := O11.out
  obtain ⟨z0, z1, z2, z3, z4⟩ := Z11.out
  go_wp2_with fail
  refine (FO _ _).out.mono ?_
  rintro e w12 ⟨rfl, k12⟩
  have I12 := Lib.hid (I11.out.grow k12)
  have T12 := Lib.hid (T11.out.kept k12)
  have O12 := Lib.hid (O11.out.kept k12)
  have N12 := Lib.hid (own_keep N11.out k12)
  have Z12 := Lib.hid (Z11.out.kept k12)
  clear k12 I11 T11 O11 N11 Z11 a0 a1 a2 a3 a4 a5 a6 a7 a8 a9 a10 a11 a12 o0 o1 o2 o3 o4 o5 o6 o7 o8 o9 o10 o11 o12 z0 z1 z2 z3 z4
  obtain ⟨a0, a1, a2, a3, a4, a5, a6, a7, a8, a9, a10, a11, a12⟩ := T12.out
  obtain ⟨o0, o1, o2, o3, o4, o5, o6, o7, o8, o9, o10, o11, o12⟩ := O12.out
  obtain ⟨z0, z1, z2, z3, z4⟩ := Z12.out
  go_wp2_with fail
  refine (FN _).out.mono ?_
  rintro e w13 ⟨rfl, k13⟩
  have I13 := Lib.hid (I12.out.grow k13)
  have T13 := Lib.hid (T12.out.kept k13)
  have O13 := Lib.hid (O12.out.kept k13)
  have N13 := Lib.hid (own_keep N12.out k13)
  have Z13 := Lib.hid (Z12.out.kept k13)
  clear k13 I12 T12 O12 N12 Z12 a0 a1 a2 a3 a4 a5 a6 a7 a8 a9 a10 a11 a12 o0 o1 o2 o3 o4 o5 o6 o7 o8 o9 o10 o11 o12 z0 z1 z2 z3 z4
  obtain ⟨a0, a1, a2, a3, a4, a5, a6, a7, a8, a9, a10, a11, a12⟩ := T13.out
  obtain ⟨o0, o1, o2, o3, o4, o5, o6, o7, o8, o9, o10, o11, o12⟩ := O13.out
  obtain ⟨z0, z1, z2, z3, z4⟩ := Z13.out
  have lz := lt_of_cell z0
  have lz4 := z4
  go_wp2_with fail
  refine (zero2 (own_keep N13.out ((Kept.refl _).alloc _ _)) (zz2 rfl)).mono ?_
  rintro e w14 ⟨rfl, k14⟩
  have I14 := Lib.hid (I13.out.grow (((Kept.refl _).alloc _ _).trans k14))
  clear k14
  go_wp2_with fail
  refine (cnt0 I14.out.mem).mono ?_
  rintro e _ ⟨rfl, rfl⟩
  go_wp2_with fail
  refine (aw.out _).mono ?_
  rintro e w15 ⟨rfl, k15⟩
  go_wp2
  go_ret
  exact ⟨rfl, I14.out.kept.trans k15⟩
end Go.Proofs.Ytbechdgcepiecaa.Tw
