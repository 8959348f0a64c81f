/- EpochSteps: where the statement's guard lets go, and all of it. Written by gen12y.py. -/
import Derived.Test.YtmfbjlaajcdbnaaG25
import Derived.Test.YtmfbjlaajcdbnaaG14
set_option linter.unusedVariables false
set_option linter.unusedSimpArgs false

namespace Go.Proofs.Ytmfbjlaajcdbnaa.Ep
set_option maxRecDepth 100000
open Go.RowKit
open Wo (St acc wordAt PMem RefIs)
open Sk (Stk Wd)

set_option maxHeartbeats 4000000 in
theorem early_fits (S : Stk) (sz : Int) (a2 a3 : Option Addr) (m2 m3 c2 c3 : Nat) (w : World) (f : Int) (hF : fitsE S sz = f) (hf : (f != 0) = true) :
    Calls Try.prog 3 #[.agg #[.int .i64 S.T, .int .i64 S.K, .int .i64 S.N], .int .i64 sz, .slice a2 m2 c2, .slice a3 m3 c3] w fun e w' => e = .returned (.bool true) ∧ Kept w w' := by
  have FP : ∀ W, Hid (Calls Try.prog 8 #[.agg #[.int .i64 S.T, .int .i64 S.K, .int .i64 S.N], .int .i64 sz] W fun e w' => e = .returned (.int .i64 f) ∧ Kept W w') := fun W => Lib.hid (by have h := pfits_any S sz W; rw [hF] at h; exact h)
  have FR : ∀ W, Hid (Calls Try.prog 9 #[.agg #[.int .i64 S.T, .int .i64 S.K, .int .i64 S.N], .int .i64 sz] W fun e w' => e = .returned (.int .i64 f) ∧ Kept W w') := fun W => Lib.hid (by have h := rfits_any S sz W; rw [hF] at h; exact h)
  clear hF
  go_enter Try.func3, Try.ntmps3
  go_upto_region 1 with fail
  obtain ⟨W1, hW1⟩ : ∃ W1, W1 = w.alloc (.cells #[.int .i64 S.T, .int .i64 S.K, .int .i64 S.N] 23) := ⟨_, rfl⟩
  have t0 : W1.cell? ⟨w.heap.size, 0, none⟩ = some (.int .i64 S.T) := by rw [hW1]; exact cell_new w _ _ _ 0 rfl
  have t1 : W1.cell? ⟨w.heap.size, 1, none⟩ = some (.int .i64 S.K) := by rw [hW1]; exact cell_new w _ _ _ 1 rfl
  have t2 : W1.cell? ⟨w.heap.size, 2, none⟩ = some (.int .i64 S.N) := by rw [hW1]; exact cell_new w _ _ _ 2 rfl
  have k1 : Kept w W1 := by rw [hW1]; exact (Kept.refl w).alloc _ _
  rw [← hW1]
  have K1 := Lib.hid k1
  clear hW1 k1
  go_region_held3 (fun w' => w'.cell? ⟨w.heap.size, 0, none⟩ = some (.int .i64 S.T) ∧ w'.cell? ⟨w.heap.size, 1, none⟩ = some (.int .i64 S.K) ∧ w'.cell? ⟨w.heap.size, 2, none⟩ = some (.int .i64 S.N)) (first | go_keep | (exact ⟨k2.some t0, k2.some t1, k2.some t2⟩) | (exact ⟨d0, d1, d2⟩)) (first
    | (go_at_call 8; refine (FP _).out.mono ?_; rintro e w2 ⟨rfl, k2⟩; have KT : Kept W1 w2 := Kept.trans (b := _) (by first | exact Kept.refl _ | exact (Kept.refl _).drew | exact (Kept.refl _).drewN _) k2)
    | (go_at_call 9; refine (FR _).out.mono ?_; rintro e w3 ⟨rfl, k3⟩; have KU : Kept W1 w3 := Kept.trans (b := _) (by first | exact KT | exact KT.drew | exact KT.drewN _) k3; have d0 := KU.some t0; have d1 := KU.some t1; have d2 := KU.some t2))
  have K3 := Lib.hid (K1.out.trans KU)
  clear t0 t1 t2 k2 k3 KT KU K1
  rename_i hcells
  clear hcells
  go_wp2_with fail
  refine (FR _).out.mono ?_
  rintro e w4 ⟨rfl, k4⟩
  have t2 := k4.some d2
  have K4 := Lib.hid (K3.out.trans k4)
  clear d0 d1 d2 k4
  go_wp2_with fail
  refine (awake_any _).mono ?_
  rintro e w5 ⟨rfl, k5⟩
  go_wp2
  go_ret
  exact ⟨rfl, K4.out.trans k5⟩

set_option maxHeartbeats 4000000 in
theorem early_wide (S : Stk) (sz : Int) (a2 a3 : Option Addr) (m2 m3 c2 c3 : Nat) (w : World) (hF : fitsE S sz = 0) (g1 : 90 < sz) :
    Calls Try.prog 3 #[.agg #[.int .i64 S.T, .int .i64 S.K, .int .i64 S.N], .int .i64 sz, .slice a2 m2 c2, .slice a3 m3 c3] w fun e w' => e = .returned (.bool true) ∧ Kept w w' := by
  have FP : ∀ W, Hid (Calls Try.prog 8 #[.agg #[.int .i64 S.T, .int .i64 S.K, .int .i64 S.N], .int .i64 sz] W fun e w' => e = .returned (.int .i64 0) ∧ Kept W w') := fun W => Lib.hid (by have h := pfits_any S sz W; rw [hF] at h; exact h)
  have FR : ∀ W, Hid (Calls Try.prog 9 #[.agg #[.int .i64 S.T, .int .i64 S.K, .int .i64 S.N], .int .i64 sz] W fun e w' => e = .returned (.int .i64 0) ∧ Kept W w') := fun W => Lib.hid (by have h := rfits_any S sz W; rw [hF] at h; exact h)
  clear hF
  go_enter Try.func3, Try.ntmps3
  go_upto_region 1 with fail
  obtain ⟨W1, hW1⟩ : ∃ W1, W1 = w.alloc (.cells #[.int .i64 S.T, .int .i64 S.K, .int .i64 S.N] 23) := ⟨_, rfl⟩
  have t0 : W1.cell? ⟨w.heap.size, 0, none⟩ = some (.int .i64 S.T) := by rw [hW1]; exact cell_new w _ _ _ 0 rfl
  have t1 : W1.cell? ⟨w.heap.size, 1, none⟩ = some (.int .i64 S.K) := by rw [hW1]; exact cell_new w _ _ _ 1 rfl
  have t2 : W1.cell? ⟨w.heap.size, 2, none⟩ = some (.int .i64 S.N) := by rw [hW1]; exact cell_new w _ _ _ 2 rfl
  have k1 : Kept w W1 := by rw [hW1]; exact (Kept.refl w).alloc _ _
  rw [← hW1]
  have K1 := Lib.hid k1
  clear hW1 k1
  go_region_held3 (fun w' => w'.cell? ⟨w.heap.size, 0, none⟩ = some (.int .i64 S.T) ∧ w'.cell? ⟨w.heap.size, 1, none⟩ = some (.int .i64 S.K) ∧ w'.cell? ⟨w.heap.size, 2, none⟩ = some (.int .i64 S.N)) (first | go_keep | (exact ⟨k2.some t0, k2.some t1, k2.some t2⟩) | (exact ⟨d0, d1, d2⟩)) (first
    | (go_at_call 8; refine (FP _).out.mono ?_; rintro e w2 ⟨rfl, k2⟩; have KT : Kept W1 w2 := Kept.trans (b := _) (by first | exact Kept.refl _ | exact (Kept.refl _).drew | exact (Kept.refl _).drewN _) k2)
    | (go_at_call 9; refine (FR _).out.mono ?_; rintro e w3 ⟨rfl, k3⟩; have KU : Kept W1 w3 := Kept.trans (b := _) (by first | exact KT | exact KT.drew | exact KT.drewN _) k3; have d0 := KU.some t0; have d1 := KU.some t1; have d2 := KU.some t2))
  have K3 := Lib.hid (K1.out.trans KU)
  clear t0 t1 t2 k2 k3 KT KU K1
  rename_i hcells
  clear hcells
  go_wp2_with fail
  refine (FR _).out.mono ?_
  rintro e w4 ⟨rfl, k4⟩
  have t2 := k4.some d2
  have K4 := Lib.hid (K3.out.trans k4)
  clear d0 d1 d2 k4
  go_wp2_with fail
  refine (awake_any _).mono ?_
  rintro e w5 ⟨rfl, k5⟩
  go_wp2
  go_ret
  exact ⟨rfl, K4.out.trans k5⟩

set_option maxHeartbeats 4000000 in
theorem early_words (S : Stk) (sz : Int) (a2 a3 : Option Addr) (m2 m3 c2 c3 : Nat) (w : World) (hF : fitsE S sz = 0) (g1 : sz ≤ 90) (g2 : (90 : Int) < m2) :
    Calls Try.prog 3 #[.agg #[.int .i64 S.T, .int .i64 S.K, .int .i64 S.N], .int .i64 sz, .slice a2 m2 c2, .slice a3 m3 c3] w fun e w' => e = .returned (.bool true) ∧ Kept w w' := by
  have FP : ∀ W, Hid (Calls Try.prog 8 #[.agg #[.int .i64 S.T, .int .i64 S.K, .int .i64 S.N], .int .i64 sz] W fun e w' => e = .returned (.int .i64 0) ∧ Kept W w') := fun W => Lib.hid (by have h := pfits_any S sz W; rw [hF] at h; exact h)
  have FR : ∀ W, Hid (Calls Try.prog 9 #[.agg #[.int .i64 S.T, .int .i64 S.K, .int .i64 S.N], .int .i64 sz] W fun e w' => e = .returned (.int .i64 0) ∧ Kept W w') := fun W => Lib.hid (by have h := rfits_any S sz W; rw [hF] at h; exact h)
  clear hF
  go_enter Try.func3, Try.ntmps3
  go_upto_region 1 with fail
  obtain ⟨W1, hW1⟩ : ∃ W1, W1 = w.alloc (.cells #[.int .i64 S.T, .int .i64 S.K, .int .i64 S.N] 23) := ⟨_, rfl⟩
  have t0 : W1.cell? ⟨w.heap.size, 0, none⟩ = some (.int .i64 S.T) := by rw [hW1]; exact cell_new w _ _ _ 0 rfl
  have t1 : W1.cell? ⟨w.heap.size, 1, none⟩ = some (.int .i64 S.K) := by rw [hW1]; exact cell_new w _ _ _ 1 rfl
  have t2 : W1.cell? ⟨w.heap.size, 2, none⟩ = some (.int .i64 S.N) := by rw [hW1]; exact cell_new w _ _ _ 2 rfl
  have k1 : Kept w W1 := by rw [hW1]; exact (Kept.refl w).alloc _ _
  rw [← hW1]
  have K1 := Lib.hid k1
  clear hW1 k1
  go_region_held3 (fun w' => w'.cell? ⟨w.heap.size, 0, none⟩ = some (.int .i64 S.T) ∧ w'.cell? ⟨w.heap.size, 1, none⟩ = some (.int .i64 S.K) ∧ w'.cell? ⟨w.heap.size, 2, none⟩ = some (.int .i64 S.N)) (first | go_keep | (exact ⟨k2.some t0, k2.some t1, k2.some t2⟩) | (exact ⟨d0, d1, d2⟩)) (first
    | (go_at_call 8; refine (FP _).out.mono ?_; rintro e w2 ⟨rfl, k2⟩; have KT : Kept W1 w2 := Kept.trans (b := _) (by first | exact Kept.refl _ | exact (Kept.refl _).drew | exact (Kept.refl _).drewN _) k2)
    | (go_at_call 9; refine (FR _).out.mono ?_; rintro e w3 ⟨rfl, k3⟩; have KU : Kept W1 w3 := Kept.trans (b := _) (by first | exact KT | exact KT.drew | exact KT.drewN _) k3; have d0 := KU.some t0; have d1 := KU.some t1; have d2 := KU.some t2))
  have K3 := Lib.hid (K1.out.trans KU)
  clear t0 t1 t2 k2 k3 KT KU K1
  rename_i hcells
  clear hcells
  go_wp2_with fail
  refine (FR _).out.mono ?_
  rintro e w4 ⟨rfl, k4⟩
  have t2 := k4.some d2
  have K4 := Lib.hid (K3.out.trans k4)
  clear d0 d1 d2 k4
  go_wp2_with fail
  refine (awake_any _).mono ?_
  rintro e w5 ⟨rfl, k5⟩
  go_wp2
  go_ret
  exact ⟨rfl, K4.out.trans k5⟩

set_option maxHeartbeats 4000000 in
theorem early_acts (S : Stk) (sz : Int) (a2 a3 : Option Addr) (m2 m3 c2 c3 : Nat) (w : World) (hF : fitsE S sz = 0) (g1 : sz ≤ 90) (g2 : (m2 : Int) ≤ 90) (g3 : (120 : Int) < m3) :
    Calls Try.prog 3 #[.agg #[.int .i64 S.T, .int .i64 S.K, .int .i64 S.N], .int .i64 sz, .slice a2 m2 c2, .slice a3 m3 c3] w fun e w' => e = .returned (.bool true) ∧ Kept w w' := by
  have FP : ∀ W, Hid (Calls Try.prog 8 #[.agg #[.int .i64 S.T, .int .i64 S.K, .int .i64 S.N], .int .i64 sz] W fun e w' => e = .returned (.int .i64 0) ∧ Kept W w') := fun W => Lib.hid (by have h := pfits_any S sz W; rw [hF] at h; exact h)
  have FR : ∀ W, Hid (Calls Try.prog 9 #[.agg #[.int .i64 S.T, .int .i64 S.K, .int .i64 S.N], .int .i64 sz] W fun e w' => e = .returned (.int .i64 0) ∧ Kept W w') := fun W => Lib.hid (by have h := rfits_any S sz W; rw [hF] at h; exact h)
  clear hF
  go_enter Try.func3, Try.ntmps3
  go_upto_region 1 with fail
  obtain ⟨W1, hW1⟩ : ∃ W1, W1 = w.alloc (.cells #[.int .i64 S.T, .int .i64 S.K, .int .i64 S.N] 23) := ⟨_, rfl⟩
  have t0 : W1.cell? ⟨w.heap.size, 0, none⟩ = some (.int .i64 S.T) := by rw [hW1]; exact cell_new w _ _ _ 0 rfl
  have t1 : W1.cell? ⟨w.heap.size, 1, none⟩ = some (.int .i64 S.K) := by rw [hW1]; exact cell_new w _ _ _ 1 rfl
  have t2 : W1.cell? ⟨w.heap.size, 2, none⟩ = some (.int .i64 S.N) := by rw [hW1]; exact cell_new w _ _ _ 2 rfl
  have k1 : Kept w W1 := by rw [hW1]; exact (Kept.refl w).alloc _ _
  rw [← hW1]
  have K1 := Lib.hid k1
  clear hW1 k1
  go_region_held3 (fun w' => w'.cell? ⟨w.heap.size, 0, none⟩ = some (.int .i64 S.T) ∧ w'.cell? ⟨w.heap.size, 1, none⟩ = some (.int .i64 S.K) ∧ w'.cell? ⟨w.heap.size, 2, none⟩ = some (.int .i64 S.N)) (first | go_keep | (exact ⟨k2.some t0, k2.some t1, k2.some t2⟩) | (exact ⟨d0, d1, d2⟩)) (first
    | (go_at_call 8; refine (FP _).out.mono ?_; rintro e w2 ⟨rfl, k2⟩; have KT : Kept W1 w2 := Kept.trans (b := _) (by first | exact Kept.refl _ | exact (Kept.refl _).drew | exact (Kept.refl _).drewN _) k2)
    | (go_at_call 9; refine (FR _).out.mono ?_; rintro e w3 ⟨rfl, k3⟩; have KU : Kept W1 w3 := Kept.trans (b := _) (by first | exact KT | exact KT.drew | exact KT.drewN _) k3; have d0 := KU.some t0; have d1 := KU.some t1; have d2 := KU.some t2))
  have K3 := Lib.hid (K1.out.trans KU)
  clear t0 t1 t2 k2 k3 KT KU K1
  rename_i hcells
  clear hcells
  go_wp2_with fail
  refine (FR _).out.mono ?_
  rintro e w4 ⟨rfl, k4⟩
  have t2 := k4.some d2
  have K4 := Lib.hid (K3.out.trans k4)
  clear d0 d1 d2 k4
  go_wp2_with fail
  refine (awake_any _).mono ?_
  rintro e w5 ⟨rfl, k5⟩
  go_wp2
  go_ret
  exact ⟨rfl, K4.out.trans k5⟩

theorem steps_any (T K N sz : Int) (a2 a3 : Option Addr) (m2 m3 c2 c3 : Nat) (w : World)
    (h2 : ∃ l : List Int, l.length = m2 ∧ Lay w (.slice a2 m2 c2) m2 (words l) ∧ ∀ x ∈ l, 0 ≤ x ∧ x < 18446744073709551616) (h3 : ∃ l : List (Int × Int × Int × Int), l.length = m3 ∧ Lay w (.slice a3 m3 c3) m3 (l.flatMap actc)) :
    Calls Try.prog 3 #[.agg #[.int .i64 T, .int .i64 K, .int .i64 N], .int .i64 sz, .slice a2 m2 c2, .slice a3 m3 c3] w fun e w' => e = .returned (.bool true) ∧ Kept w w' := by
  obtain ⟨li, rfl, h2, hr⟩ := h2
  obtain ⟨la, rfl, h3⟩ := h3
  by_cases hF : fitsE ⟨T, K, N⟩ sz = 0
  · by_cases g1 : sz ≤ 90
    · by_cases g2 : li.length ≤ 90
      · by_cases g3 : la.length ≤ 120
        · obtain ⟨_, _, hn, _⟩ := fitsE_ok hF
          obtain ⟨n, rfl⟩ := Int.eq_ofNat_of_zero_le (show 0 ≤ sz by omega)
          exact steps_main ⟨T, K, N⟩ n li la a2 a3 c2 c3 w h2 hr h3 hF (by omega) g2 g3
        · exact early_acts ⟨T, K, N⟩ sz a2 a3 _ _ c2 c3 w hF g1 (by omega) (by omega)
      · exact early_words ⟨T, K, N⟩ sz a2 a3 _ _ c2 c3 w hF g1 (by omega)
    · exact early_wide ⟨T, K, N⟩ sz a2 a3 _ _ c2 c3 w hF (by omega)
  · exact early_fits ⟨T, K, N⟩ sz a2 a3 _ _ c2 c3 w _ rfl (by simpa using hF)
end Go.Proofs.Ytmfbjlaajcdbnaa.Ep

namespace Go.Proofs.Ytmfbjlaajcdbnaa.Ep
open Wo (St acc wordAt)
open Sk (Stk Wd)

inductive Kd where
  | idle : Kd
  | pin (x : EOp) : Kd
  | unpin (x : EOp) : Kd
  | adv (x : EOp) : Kd
def Kd.busy : Kd → Bool
  | .idle => false
  | _ => true
def putf {α : Type} (f : Nat → α) (c : Nat) (v : α) (d : Nat) : α := if d = c then v else f d
theorem put_self {α : Type} (f : Nat → α) (c : Nat) (v : α) : putf f c v c = v := by unfold putf; rw [if_pos rfl]
theorem put_ne {α : Type} (f : Nat → α) {c d : Nat} (v : α) (h : d ≠ c) : putf f c v d = f d := by unfold putf; rw [if_neg h]
structure Md where
  s : St
  k : Nat → Kd
  at_ : Nat → Int
def Md.E (m : Md) : Int := m.s.ws 0
def Md.pw (m : Md) (c : Nat) : Int := m.s.ws (c + 1)
def Md.step (m : Md) (c : Nat) : Md := match m.k c with
  | .idle => m
  | .pin x => if (pinOp 4 S3 m.s x).line = 9 then ⟨pinSt 4 S3 c m.s x, putf m.k c .idle, putf m.at_ c (toldAt (pinOp 4 S3 m.s x))⟩ else ⟨pinSt 4 S3 c m.s x, putf m.k c (.pin (pinOp 4 S3 m.s x)), m.at_⟩
  | .unpin x => if (unOp x).line = 9 then ⟨unSt 4 S3 c m.s x, putf m.k c .idle, m.at_⟩ else ⟨unSt 4 S3 c m.s x, putf m.k c (.unpin (unOp x)), m.at_⟩
  | .adv x => if (advOp 4 S3 c (m.at_ c) m.s x).line = 9 then ⟨advSt 4 S3 m.s x, putf m.k c .idle, m.at_⟩ else ⟨advSt 4 S3 m.s x, putf m.k c (.adv (advOp 4 S3 c (m.at_ c) m.s x)), m.at_⟩
def Md.on (m : Md) (c : Nat) : Bool := match m.k c with
  | .adv x => (advOp 4 S3 c (m.at_ c) m.s x).line == 9 && (advOp 4 S3 c (m.at_ c) m.s x).er == 0
  | _ => false
def Md.begin (m : Md) (c : Nat) (n : Int) : Md :=
  if m.at_ c < 0 then ⟨m.s, putf m.k c (.pin EOp.new), m.at_⟩
  else if n % 3 = 0 then ⟨m.s, putf m.k c (.unpin EOp.new), putf m.at_ c (-1)⟩
  else ⟨m.s, putf m.k c (.adv EOp.new), m.at_⟩

def CoreOk (m : Md) (c : Nat) : Prop := match m.k c with
  | .idle => m.at_ c < 0 → m.pw c = 0
  | .pin x => m.at_ c < 0 ∧ x.Ok ∧ x.line ≠ 9 ∧ (x.line ≠ 1 → 0 ≤ x.W ∧ x.W ≤ m.E) ∧ (x.line = 3 → m.pw c = x.W + 1)
  | .unpin x => m.at_ c < 0 ∧ x = EOp.new
  | .adv x => 0 ≤ m.at_ c ∧ x.Ok ∧ AOkN S3 x ∧ x.line ≠ 9 ∧ (x.line ≠ 1 → x.W = m.at_ c ∧ ∀ d, d < 3 → d ≠ c → (x.line = 3 ∨ (d : Int) < x.L) → x.W = m.E → 0 ≤ m.at_ d → m.at_ d = x.W)
structure Inv (m : Md) (t : Int) : Prop where
  wd : Wd 4 m.s
  e0 : 0 ≤ m.E
  e1 : m.E ≤ t
  t1 : t ≤ 1000000
  pins : ∀ c, c < 3 → 0 ≤ m.at_ c → m.pw c = m.at_ c + 1 ∧ m.at_ c ≤ m.E ∧ m.E ≤ m.at_ c + 1
  core : ∀ c, c < 3 → CoreOk m c
theorem Inv.more {m : Md} {t t' : Int} (h : Inv m t) (ht : t ≤ t') (h1 : t' ≤ 1000000) : Inv m t' := ⟨h.wd, h.e0, by have := h.e1; omega, h1, h.pins, h.core⟩

theorem word0 (s : St) : wordAt 4 s S3.T = s.ws 0 := rfl
theorem wordc (s : St) (c : Nat) (h : c < 3) : wordAt 4 s (S3.K + (c : Int)) = s.ws (c + 1) := by
  unfold wordAt
  rw [if_pos (by show (0 : Int) ≤ 1 + c ∧ (1 : Int) + c < 4; omega)]
  congr 1
  show ((1 : Int) + c).toNat = c + 1
  omega
theorem ws_keep (s : St) (k a : Int) (v : Int) : (acc 4 s k a false v).ws = s.ws := by
  unfold acc
  split <;> rfl
theorem ws_set (s : St) (k a v : Int) (b : Bool) (i : Nat) (h0 : 0 ≤ a) (h1 : a < 4) : (acc 4 s k a b v).ws i = if b = true ∧ i = a.toNat then v else s.ws i := by
  unfold acc
  rw [if_pos ⟨h0, by omega⟩]
  cases b
  · simp
  · by_cases e : i = a.toNat
    · subst e; simp
    · simp [e]
theorem ep_small {w : Int} (h0 : 0 ≤ w) (h1 : w ≤ 1000000) : ep w = w := by unfold ep; omega
end Go.Proofs.Ytmfbjlaajcdbnaa.Ep

namespace Go.Proofs.Ytmfbjlaajcdbnaa.Ep
open Wo (St acc wordAt)
open Sk (Stk Wd)

theorem CoreOk.idle {m : Md} {c : Nat} (h : CoreOk m c) (e : m.k c = .idle) : m.at_ c < 0 → m.pw c = 0 := by unfold CoreOk at h; rw [e] at h; exact h
theorem CoreOk.pin {m : Md} {c : Nat} {x : EOp} (h : CoreOk m c) (e : m.k c = .pin x) : m.at_ c < 0 ∧ x.Ok ∧ x.line ≠ 9 ∧ (x.line ≠ 1 → 0 ≤ x.W ∧ x.W ≤ m.E) ∧ (x.line = 3 → m.pw c = x.W + 1) := by unfold CoreOk at h; rw [e] at h; exact h
theorem CoreOk.unpin {m : Md} {c : Nat} {x : EOp} (h : CoreOk m c) (e : m.k c = .unpin x) : m.at_ c < 0 ∧ x = EOp.new := by unfold CoreOk at h; rw [e] at h; exact h
theorem CoreOk.adv {m : Md} {c : Nat} {x : EOp} (h : CoreOk m c) (e : m.k c = .adv x) : 0 ≤ m.at_ c ∧ x.Ok ∧ AOkN S3 x ∧ x.line ≠ 9 ∧ (x.line ≠ 1 → x.W = m.at_ c ∧ ∀ d, d < 3 → d ≠ c → (x.line = 3 ∨ (d : Int) < x.L) → x.W = m.E → 0 ≤ m.at_ d → m.at_ d = x.W) := by unfold CoreOk at h; rw [e] at h; exact h
theorem CoreOk.same {m m' : Md} {c : Nat} (h : CoreOk m c) (hk : m'.k c = m.k c) (ha : m'.at_ c = m.at_ c) (hp : m'.pw c = m.pw c) (hE : m'.E = m.E) (hat : ∀ d, d < 3 → 0 ≤ m'.at_ d → m'.at_ d = m.at_ d ∨ m'.at_ d = m.E) : CoreOk m' c := by
  unfold CoreOk
  rw [hk, ha, hp, hE]
  cases e : m.k c with
  | idle => exact h.idle e
  | pin x => exact h.pin e
  | unpin x => exact h.unpin e
  | adv x =>
    obtain ⟨a0, ok, an, l9, hh⟩ := h.adv e
    refine ⟨a0, ok, an, l9, fun l1 => ⟨(hh l1).1, fun d hd hdc hl hw h0 => ?_⟩⟩
    rcases hat d hd h0 with q | q
    · rw [q]; exact (hh l1).2 d hd hdc hl hw (by rw [← q]; exact h0)
    · rw [q, hw]
theorem CoreOk.on {m m' : Md} {c : Nat} (h : CoreOk m c) (hc : c < 3) (hk : m'.k c = m.k c) (ha : m'.at_ c = m.at_ c) (hp : m'.pw c = m.pw c) (hE : m'.E = m.E + 1) (hpin : ∀ c, c < 3 → 0 ≤ m.at_ c → m.at_ c ≤ m.E) : CoreOk m' c := by
  unfold CoreOk
  rw [hk, ha, hp, hE]
  cases e : m.k c with
  | idle => exact h.idle e
  | pin x =>
    obtain ⟨a0, ok, l9, hw, h3⟩ := h.pin e
    exact ⟨a0, ok, l9, fun l1 => by have := hw l1; omega, h3⟩
  | unpin x => exact h.unpin e
  | adv x =>
    obtain ⟨a0, ok, an, l9, hh⟩ := h.adv e
    refine ⟨a0, ok, an, l9, fun l1 => ⟨(hh l1).1, fun d hd hdc hl hw h0 => ?_⟩⟩
    have := (hh l1).1
    have := hpin c hc a0
    omega

theorem E_load (s : St) (a : Int) : (acc 4 s 1 a false 0).ws = s.ws := ws_keep s 1 a 0
theorem store_0 (s : St) (c : Nat) (v : Int) (h : c < 3) : (acc 4 s 2 (S3.K + (c : Int)) true v).ws 0 = s.ws 0 := by
  rw [ws_set s 2 (S3.K + (c : Int)) v true 0 (by show (0 : Int) ≤ 1 + c; omega) (by show (1 : Int) + c < 4; omega)]
  rw [if_neg]
  rintro ⟨_, e⟩
  have : (S3.K + (c : Int)).toNat = c + 1 := by show ((1 : Int) + c).toNat = c + 1; omega
  omega
theorem store_c (s : St) (c d : Nat) (v : Int) (h : c < 3) : (acc 4 s 2 (S3.K + (c : Int)) true v).ws (d + 1) = if d = c then v else s.ws (d + 1) := by
  rw [ws_set s 2 (S3.K + (c : Int)) v true (d + 1) (by show (0 : Int) ≤ 1 + c; omega) (by show (1 : Int) + c < 4; omega)]
  have e : (S3.K + (c : Int)).toNat = c + 1 := by show ((1 : Int) + c).toNat = c + 1; omega
  rw [e]
  by_cases hd : d = c
  · rw [if_pos ⟨rfl, by omega⟩, if_pos hd]
  · rw [if_neg (fun h => hd (by omega)), if_neg hd]
theorem cas_0 (s : St) (b : Bool) (v : Int) (i : Nat) : (acc 4 s 3 S3.T b v).ws i = if b = true ∧ i = 0 then v else s.ws i := ws_set s 3 0 v b i (by decide) (by decide)

theorem begin_inv {m : Md} {t : Int} (h : Inv m t) {c : Nat} (hc : c < 3) (hi : m.k c = .idle) (n : Int) : Inv (m.begin c n) t ∧ (m.begin c n).s = m.s := by
  have hcc := h.core c hc
  unfold Md.begin
  by_cases ha : m.at_ c < 0
  · rw [if_pos ha]
    refine ⟨⟨h.wd, h.e0, h.e1, h.t1, h.pins, fun d hd => ?_⟩, rfl⟩
    by_cases e : d = c
    · subst e
      unfold CoreOk
      show match putf m.k d (.pin EOp.new) d with | .idle => _ | .pin x => _ | .unpin x => _ | .adv x => _
      rw [put_self]
      exact ⟨ha, ok_new, by decide, fun h => absurd rfl h, fun h => absurd h (by decide)⟩
    · exact (h.core d hd).same (put_ne _ _ e) rfl rfl rfl (fun _ _ _ => .inl rfl)
  · rw [if_neg ha]
    by_cases h3 : n % 3 = 0
    · rw [if_pos h3]
      refine ⟨⟨h.wd, h.e0, h.e1, h.t1, fun d hd => ?_, fun d hd => ?_⟩, rfl⟩
      · show 0 ≤ putf m.at_ c (-1) d → m.pw d = putf m.at_ c (-1) d + 1 ∧ putf m.at_ c (-1) d ≤ m.E ∧ m.E ≤ putf m.at_ c (-1) d + 1
        by_cases e : d = c
        · subst e; rw [put_self]; intro h; omega
        · rw [put_ne _ _ e]; exact h.pins d hd
      · by_cases e : d = c
        · subst e
          unfold CoreOk
          show match putf m.k d (.unpin EOp.new) d with | .idle => _ | .pin x => _ | .unpin x => _ | .adv x => _
          rw [put_self]
          exact ⟨by show putf m.at_ d (-1) d < 0; rw [put_self]; omega, rfl⟩
        · refine (h.core d hd).same (put_ne _ _ e) (put_ne _ _ e) rfl rfl (fun q _ h0 => ?_)
          by_cases e2 : q = c
          · subst e2
            have h0 : 0 ≤ putf m.at_ q (-1) q := h0
            rw [put_self] at h0; omega
          · exact .inl (put_ne _ _ e2)
    · rw [if_neg h3]
      refine ⟨⟨h.wd, h.e0, h.e1, h.t1, h.pins, fun d hd => ?_⟩, rfl⟩
      by_cases e : d = c
      · subst e
        unfold CoreOk
        show match putf m.k d (.adv EOp.new) d with | .idle => _ | .pin x => _ | .unpin x => _ | .adv x => _
        rw [put_self]
        exact ⟨by show 0 ≤ m.at_ d; omega, ok_new, at_new S3, by decide, fun h => absurd rfl h⟩
      · exact (h.core d hd).same (put_ne _ _ e) rfl rfl rfl (fun _ _ _ => .inl rfl)

theorem inv_put {m : Md} {t : Int} (h : Inv m t) {c : Nat} {s' : St} {q : Kd} {a : Int} (wd : Wd 4 s') (h0 : s'.ws 0 = m.s.ws 0) (hw : ∀ d, d < 3 → d ≠ c → s'.ws (d + 1) = m.s.ws (d + 1))
    (ha : a = m.at_ c ∨ a = m.E) (hp : 0 ≤ a → s'.ws (c + 1) = a + 1 ∧ a ≤ m.E ∧ m.E ≤ a + 1) (hok : CoreOk ⟨s', putf m.k c q, putf m.at_ c a⟩ c) : Inv ⟨s', putf m.k c q, putf m.at_ c a⟩ t := by
  refine ⟨wd, by show 0 ≤ s'.ws 0; rw [h0]; exact h.e0, by show s'.ws 0 ≤ t; rw [h0]; exact h.e1, h.t1, fun d hd => ?_, fun d hd => ?_⟩
  · show 0 ≤ putf m.at_ c a d → s'.ws (d + 1) = putf m.at_ c a d + 1 ∧ putf m.at_ c a d ≤ s'.ws 0 ∧ s'.ws 0 ≤ putf m.at_ c a d + 1
    by_cases e : d = c
    · subst e; rw [put_self, h0]; exact hp
    · rw [put_ne _ _ e, h0, hw d hd e]; exact h.pins d hd
  · by_cases e : d = c
    · subst e; exact hok
    · refine (h.core d hd).same (put_ne _ _ e) (put_ne _ _ e) (hw d hd e) h0 (fun q' _ h0' => ?_)
      show putf m.at_ c a q' = m.at_ q' ∨ putf m.at_ c a q' = m.E
      by_cases e2 : q' = c
      · subst e2; rw [put_self]; exact ha
      · exact .inl (put_ne _ _ e2)
theorem put_at (f : Nat → Int) (c : Nat) : putf f c (f c) = f := by
  funext d
  unfold putf
  split
  · rename_i e; rw [e]
  · rfl
structure Went (m m' : Md) (c : Nat) (b : Bool) (t : Int) : Prop where
  inv : Inv m' (t + 1)
  on : b = true → m'.E = m.E + 1 ∧ m.E = m.at_ c
  off : b = false → m'.E = m.E
theorem step_pin {m : Md} {t : Int} (h : Inv m t) (ht : t < 1000000) {c : Nat} (hc : c < 3) {x : EOp} (e : m.k c = .pin x) :
    Went m (m.step c) c false t ∧ ((pinOp 4 S3 m.s x).line = 9 → (pinOp 4 S3 m.s x).er = 0 ∧ 0 ≤ toldAt (pinOp 4 S3 m.s x)) := by
  obtain ⟨a0, ok, l9, hw, h3⟩ := (h.core c hc).pin e
  have e0 := h.e0
  have e1 := h.e1
  have t1 := h.t1
  have H2 := h.more (t' := t + 1) (by omega) (by omega)
  have okp := pin_ok (S := S3) ok h.wd
  have wdp : Wd 4 (pinSt 4 S3 c m.s x) := pin_wd h.wd
  have hE : ep m.E = m.E := ep_small e0 (by omega)
  unfold Md.step
  rw [e]
  dsimp only
  rcases ok.ln with l | l | l | l
  · have eo : pinOp 4 S3 m.s x = ⟨2, m.E, x.L, x.er⟩ := by unfold pinOp; rw [if_pos l]; rfl
    have es : pinSt 4 S3 c m.s x = acc 4 m.s 1 S3.T false 0 := by unfold pinSt; rw [if_pos l]
    rw [es] at wdp ⊢
    rw [eo] at okp ⊢
    rw [if_neg (by simp)]
    refine ⟨⟨?_, fun h => absurd h (by decide), fun _ => congrFun (E_load m.s S3.T) 0⟩, fun h => absurd h (by simp)⟩
    rw [← put_at m.at_ c]
    refine inv_put H2 wdp (congrFun (E_load m.s S3.T) 0) (fun d _ _ => congrFun (E_load m.s S3.T) (d + 1)) (.inl rfl) (fun h => absurd h (by omega)) ?_
    unfold CoreOk
    show match putf m.k c (.pin ⟨2, m.E, x.L, x.er⟩) c with | .idle => _ | .pin x => _ | .unpin x => _ | .adv x => _
    rw [put_self]
    refine ⟨by show putf m.at_ c (m.at_ c) c < 0; rw [put_self]; exact a0, okp, by simp, fun _ => ?_, fun h => absurd h (by simp)⟩
    show 0 ≤ m.E ∧ m.E ≤ (acc 4 m.s 1 S3.T false 0).ws 0
    rw [E_load]
    exact ⟨e0, Int.le_refl _⟩
  · have hwx := hw (by omega)
    have hep : ep x.W = x.W := ep_small hwx.1 (by omega)
    have eo : pinOp 4 S3 m.s x = ⟨3, x.W, x.L, x.er⟩ := by unfold pinOp; rw [if_neg (by omega), if_pos l]
    have es : pinSt 4 S3 c m.s x = acc 4 m.s 2 (S3.K + (c : Int)) true (x.W + 1) := by unfold pinSt; rw [if_neg (by omega), if_pos l, hep]
    rw [es] at wdp ⊢
    rw [eo] at okp ⊢
    rw [if_neg (by simp)]
    refine ⟨⟨?_, fun h => absurd h (by decide), fun _ => store_0 m.s c _ hc⟩, fun h => absurd h (by simp)⟩
    rw [← put_at m.at_ c]
    refine inv_put H2 wdp (store_0 m.s c _ hc) (fun d _ hd => by rw [store_c m.s c d _ hc, if_neg hd]) (.inl rfl) (fun h => absurd h (by omega)) ?_
    unfold CoreOk
    show match putf m.k c (.pin ⟨3, x.W, x.L, x.er⟩) c with | .idle => _ | .pin x => _ | .unpin x => _ | .adv x => _
    rw [put_self]
    refine ⟨by show putf m.at_ c (m.at_ c) c < 0; rw [put_self]; exact a0, okp, by simp, fun _ => ?_, fun _ => ?_⟩
    · show 0 ≤ x.W ∧ x.W ≤ (acc 4 m.s 2 (S3.K + (c : Int)) true (x.W + 1)).ws 0
      rw [store_0 m.s c _ hc]
      exact hwx
    · show (acc 4 m.s 2 (S3.K + (c : Int)) true (x.W + 1)).ws (c + 1) = x.W + 1
      rw [store_c m.s c c _ hc, if_pos rfl]
  · have hwx := hw (by omega)
    have hep : ep x.W = x.W := ep_small hwx.1 (by omega)
    have es : pinSt 4 S3 c m.s x = acc 4 m.s 1 S3.T false 0 := by unfold pinSt; rw [if_neg (by omega), if_neg (by omega), if_pos l]
    rw [es] at wdp ⊢
    by_cases he : m.E = x.W
    · have eo : pinOp 4 S3 m.s x = ⟨9, m.E, x.L, 0⟩ := by
        unfold pinOp
        rw [if_neg (by omega), if_neg (by omega), if_pos l, if_pos (by show ep m.E = ep x.W; rw [he])]
        rfl
      have et : toldAt ⟨9, m.E, x.L, 0⟩ = m.E := by unfold toldAt; rw [if_pos rfl]; exact hE
      rw [eo]
      rw [if_pos rfl, et]
      refine ⟨⟨?_, fun h => absurd h (by decide), fun _ => congrFun (E_load m.s S3.T) 0⟩, fun _ => ⟨rfl, e0⟩⟩
      refine inv_put H2 wdp (congrFun (E_load m.s S3.T) 0) (fun d _ _ => congrFun (E_load m.s S3.T) (d + 1)) (.inr rfl) (fun _ => ⟨?_, Int.le_refl _, by omega⟩) ?_
      · rw [E_load, he]; exact h3 l
      · unfold CoreOk
        show match putf m.k c .idle c with | .idle => _ | .pin x => _ | .unpin x => _ | .adv x => _
        rw [put_self]
        intro h
        have h : putf m.at_ c m.E c < 0 := h
        rw [put_self] at h
        omega
    · have eo : pinOp 4 S3 m.s x = ⟨2, m.E, x.L, x.er⟩ := by
        unfold pinOp
        rw [if_neg (by omega), if_neg (by omega), if_pos l, if_neg (by show ¬ ep m.E = ep x.W; rw [hE, hep]; exact he)]
        rfl
      rw [eo] at okp ⊢
      rw [if_neg (by simp)]
      refine ⟨⟨?_, fun h => absurd h (by decide), fun _ => congrFun (E_load m.s S3.T) 0⟩, fun h => absurd h (by simp)⟩
      rw [← put_at m.at_ c]
      refine inv_put H2 wdp (congrFun (E_load m.s S3.T) 0) (fun d _ _ => congrFun (E_load m.s S3.T) (d + 1)) (.inl rfl) (fun h => absurd h (by omega)) ?_
      unfold CoreOk
      show match putf m.k c (.pin ⟨2, m.E, x.L, x.er⟩) c with | .idle => _ | .pin x => _ | .unpin x => _ | .adv x => _
      rw [put_self]
      refine ⟨by show putf m.at_ c (m.at_ c) c < 0; rw [put_self]; exact a0, okp, by simp, fun _ => ?_, fun h => absurd h (by simp)⟩
      show 0 ≤ m.E ∧ m.E ≤ (acc 4 m.s 1 S3.T false 0).ws 0
      rw [E_load]
      exact ⟨e0, Int.le_refl _⟩
  · exact absurd l l9
theorem step_unpin {m : Md} {t : Int} (h : Inv m t) (ht : t < 1000000) {c : Nat} (hc : c < 3) {x : EOp} (e : m.k c = .unpin x) : Went m (m.step c) c false t ∧ (unOp x).line = 9 ∧ (unOp x).er = 0 := by
  obtain ⟨a0, rfl⟩ := (h.core c hc).unpin e
  have H2 := h.more (t' := t + 1) (by omega) (by omega)
  have wdp : Wd 4 (unSt 4 S3 c m.s EOp.new) := un_wd h.wd
  have es : unSt 4 S3 c m.s EOp.new = acc 4 m.s 2 (S3.K + (c : Int)) true 0 := rfl
  unfold Md.step
  rw [e]
  dsimp only
  rw [es] at wdp ⊢
  rw [if_pos (by decide)]
  refine ⟨⟨?_, fun h => absurd h (by decide), fun _ => store_0 m.s c _ hc⟩, by decide, by decide⟩
  rw [← put_at m.at_ c]
  refine inv_put H2 wdp (store_0 m.s c _ hc) (fun d _ hd => by rw [store_c m.s c d _ hc, if_neg hd]) (.inl rfl) (fun h => absurd h (by omega)) ?_
  unfold CoreOk
  show match putf m.k c .idle c with | .idle => _ | .pin x => _ | .unpin x => _ | .adv x => _
  rw [put_self]
  intro _
  show (acc 4 m.s 2 (S3.K + (c : Int)) true 0).ws (c + 1) = 0
  rw [store_c m.s c c _ hc, if_pos rfl]
end Go.Proofs.Ytmfbjlaajcdbnaa.Ep
