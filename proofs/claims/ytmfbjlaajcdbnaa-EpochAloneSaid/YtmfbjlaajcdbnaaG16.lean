/- A memory that is none; operations that are nil, or that nobody made. Written by gen12z.py. -/
import Derived.Test.YtmfbjlaajcdbnaaG11
import Derived.Test.YtmfbjlaajcdbnaaG14
import Derived.Test.YtmfbjlaajcdbnaaG15
import Derived.Test.YtmfbjlaajcdbnaaG06
import Derived.Deep.QuietTactic
import Derived.BigQuiet
import Derived.Deep.RegionHeld3
set_option linter.unusedVariables false
set_option linter.unusedSimpArgs false

namespace Go.Proofs.Ytmfbjlaajcdbnaa.Ep
set_option maxRecDepth 20000
open Go.RowKit Go.Shelf
open Wo (St acc wordAt PMem RefIs)
open Sk (Stk Wd Blk leaves pmem_lt pmem_kept pmem_frame kept_of)
attribute [local go_sem] Oper.semAt_some

theorem nil_store (i x : Int) (w : World) : Calls Try.prog 53 #[.pointer none, .int .i64 i, .int .u64 x] w fun e w' => e = .returned (.tuple #[]) ∧ Kept w w' :=
  (Wo.no_store_nil i x w).mono fun _ _ ⟨a, k⟩ => ⟨a, kept_of k⟩
theorem nil_words (w : World) : Calls Try.prog 21 #[.pointer none] w fun e w' => e = .returned (.slice none 0 0) ∧ w = w' := Wo.no_words_nil w
theorem gives_nil (w : World) : GivesWords (.pointer none) 0 (fun _ => 0) w := fun W _ =>
  (nil_words W).mono fun _ _ ⟨e, k⟩ => ⟨_, e, .inl ⟨rfl, rfl⟩, fun g hg => by simp [Value.ownBlock] at hg, k ▸ Kept.refl _⟩
set_option maxHeartbeats 2000000 in
theorem leave_nil (S : Stk) (c : Int) (made : Bool) (nx W u q er : Int) (w : World) (k0 : -9223372036854775808 ≤ S.K + c) (k1 : S.K + c ≤ 9223372036854775807) :
    Calls Try.prog 75 #[seatV S c, stV made nx W u q er, .pointer none] w fun e w' => e = .returned (stV made 0 W u q 0) ∧ Kept w w' := by
  go_enter Try.func75, Try.ntmps75
  go_upto_region 1 with fail
  obtain ⟨W0, hW0⟩ : ∃ W0, W0 = (((w.alloc (.cells #[.int .i64 S.T, .int .i64 S.K, .int .i64 S.N, .int .i64 c] 134)).alloc (.cells #[.bool made, .int .i64 nx, .int .u64 W, .int .i64 u, .int .i64 q, .int .i64 er] 68)).alloc (.cells #[.bool false, .int .i64 0, .int .u64 0, .int .i64 0, .int .i64 0, .int .i64 0] 68)) := ⟨_, rfl⟩
  have T0 : Three w W0 made nx W u q er := by rw [hW0]; exact three_new ..
  have a0 : W0.cell? ⟨w.heap.size, 0, none⟩ = some (.int .i64 S.T) := by rw [hW0]; exact (((Kept.refl _).alloc _ _).alloc _ _).some (cell_new _ _ _ _ 0 rfl)
  have a1 : W0.cell? ⟨w.heap.size, 1, none⟩ = some (.int .i64 S.K) := by rw [hW0]; exact (((Kept.refl _).alloc _ _).alloc _ _).some (cell_new _ _ _ _ 1 rfl)
  have a2 : W0.cell? ⟨w.heap.size, 2, none⟩ = some (.int .i64 S.N) := by rw [hW0]; exact (((Kept.refl _).alloc _ _).alloc _ _).some (cell_new _ _ _ _ 2 rfl)
  have a3 : W0.cell? ⟨w.heap.size, 3, none⟩ = some (.int .i64 c) := by rw [hW0]; exact (((Kept.refl _).alloc _ _).alloc _ _).some (cell_new _ _ _ _ 3 rfl)
  rw [← hW0]
  clear hW0
  have TT := Lib.hid T0
  obtain ⟨q0, q1, q2, q3, q4, q5⟩ := T0.st
  have KT : Kept W0 W0 := Kept.refl _
  have PIN : ∀ X, Hid (Calls Try.prog 98 #[seatV S c] X fun e w' => e = .returned (.int .i64 (S.K + c)) ∧ Kept X w') := fun X => Lib.hid (seatPin_any S c X k0 k1)
  go_wp2_with fail
  refine (PIN _).out.mono ?_
  rintro e w2 ⟨rfl, k2⟩
  have KT : Kept W0 w2 := k2
  obtain ⟨q0, q1, q2, q3, q4, q5⟩ := Box6.kept ⟨q0, q1, q2, q3, q4, q5⟩ k2
  go_wp2_with fail
  refine (nil_store (S.K + c) 0 _).mono ?_
  rintro e w5 ⟨rfl, k5⟩
  have KT : Kept W0 w5 := KT.trans k5
  obtain ⟨q0, q1, q2, q3, q4, q5⟩ := Box6.kept ⟨q0, q1, q2, q3, q4, q5⟩ k5
  have rf : ∀ i, w5.frozen? ⟨w.heap.size + 1 + 1, i, none⟩ = false := fun i => KT.soft TT.out.lt (TT.out.f2 i)
  have RE := TT.out.re.kept KT
  have lX := Nat.lt_of_lt_of_le TT.out.lt KT.size
  have BX : Hid (Kept w w5) := Lib.hid (TT.out.k.trans KT)
  go_wp2_with fail
  refine (end_any _ _ _ _ _ _ _ _).mono ?_
  rintro e w8 ⟨rfl, k8⟩
  have rf : ∀ i, w8.frozen? ⟨w.heap.size + 1 + 1, i, none⟩ = false := fun i => k8.soft lX (rf i)
  have BY := Lib.hid (BX.out.trans k8)
  have lY := Nat.lt_of_lt_of_le lX k8.size
  obtain ⟨r0, r1, r2, r3, r4, r5⟩ := RE.kept k8
  clear k8
  go_wp2
  refine put6_go ⟨r0, r1, r2, r3, r4, r5⟩ ?_
  rintro W9 ⟨e0, e1, e2, e3, e4, e5⟩ b9
  refine bodyPost_ret (v := stV made 0 W u q 0) (by simp [results, Try.results75, go_sem, e0, e1, e2, e3, e4, e5]) rfl ⟨rfl, ((BY.out.but (fun k => k = w.heap.size + 1 + 1)).trans b9 (fun _ _ h => h)).kept fun i hi e => by have e : i = w.heap.size + 1 + 1 := e; omega⟩
set_option maxHeartbeats 4000000 in
theorem step_leave_nil (P o k : Nat) (j : Nat) (R : Value) (made : Bool) (W u q er : Int) (made' : Bool) (nx' W' u' q' er' : Int) (w : World) (h : Cell6 w P o made (j + 1) W u q er) (hj : j < k) (hk : k ≤ 3)
    (hr : w.cell? ⟨P, j, none⟩ = some (.func (.func 75) #[R] #[])) (hf : ∀ i, w.frozen? ⟨P, i, none⟩ = false) (hR : ∀ X, Calls Try.prog 75 #[R, stV made (j + 1) W u q er, .pointer none] X fun e w' => e = .returned (stV made' nx' W' u' q' er') ∧ Kept X w') :
    Calls Try.prog 74 #[.pointer (some ⟨P, o, none⟩), .slice (some ⟨P, 0, none⟩) k k, .pointer none] w fun e w' => e = .returned (.bool (nx' == 0)) ∧ But (fun k => k = P) w w' := by
  have HR := Lib.hid hR
  obtain ⟨c0, c1, c2, c3, c4, c5⟩ := h
  have hPl := lt_of_cell c0
  clear hR
  go_enter Try.func74, Try.ntmps74
  have jk : (j : Int) < (k : Int) := by omega
  have j3 : j ≤ 2 := by omega
  have qj : IntKind.i64.wrap (j : Int) = j := by rw [IntKind.wrap_i64]; omega
  go_wp2_with fail
  go_region_law (first | (go_simp; go_at_call 75; refine (HR.out _).mono ?_; rintro e v ⟨rfl, k2⟩; have d0 := k2.some c0; have d1 := k2.some c1; have d2 := k2.some c2; have d3 := k2.some c3; have d4 := k2.some c4; have d5 := k2.some c5; have df : (∀ i, v.frozen? ⟨P, i, none⟩ = false) := (fun i => k2.soft hPl (hf i)); have bw : Kept w v := Kept.trans (b := _) (by first | exact Kept.refl _ | exact (Kept.refl _).drew | exact (Kept.refl _).drewN _) k2) | fail)
  all_goals
    obtain ⟨Wn, hWn⟩ : ∃ Wn, Wn = ((((((v.setCell ⟨P, o, none⟩ (.bool made')).setCell ⟨P, o + 1, none⟩ (.int .i64 nx')).setCell ⟨P, o + 2, none⟩ (.int .u64 W')).setCell ⟨P, o + 3, none⟩ (.int .i64 u')).setCell ⟨P, o + 4, none⟩ (.int .i64 q')).setCell ⟨P, o + 5, none⟩ (.int .i64 er')) := ⟨_, rfl⟩
    obtain ⟨CE, bn, rest⟩ := nest_cells ⟨d0, d1, d2, d3, d4, d5⟩ hWn
    have BN : Hid (But (fun k => k = P) w Wn) := Lib.hid ((bw.but (fun k => k = P)).trans bn (fun _ _ h => h))
    have c1' := CE.c1
    have CN := Lib.hid CE
    rw [← hWn]
    clear hWn bn rest bw k2 CE d0 d1 d2 d3 d4 d5 df
    go_wp2
    go_ret
    exact ⟨rfl, BN.out⟩

set_option maxHeartbeats 1000000 in
theorem unpin_step_nil (P : Nat) (S : Stk) (c : Int) (w : World) (h : UnpinAt w P S c EOp.new) (k0 : -9223372036854775808 ≤ S.K + c) (k1 : S.K + c ≤ 9223372036854775807) :
    Calls Try.prog 31 #[.pointer (some ⟨P, 0, none⟩), .pointer none] w fun e w' => e = .returned (.bool true) ∧ But (fun k => k = P) w w' := by
  have hc := h.r0
  have K : ∀ X, Hid (Kept w X → Calls Try.prog 74 #[.pointer (some ⟨P, 1, none⟩), .slice (some ⟨P, 0, none⟩) 1 1, .pointer none] X fun e w' => e = .returned (.bool true) ∧ But (fun k => k = P) X w') := fun X => Lib.hid (fun k => by
    obtain ⟨r0, ⟨u, q, st⟩, hf⟩ := h.kept k
    exact step_leave_nil P 1 1 0 (seatV S c) true 0 u q 14 true 0 0 u q 0 X st (by omega) (by omega) r0 hf (fun Y => leave_nil S c true _ 0 u q 14 Y k0 k1))
  clear h
  go_enter Try.func31, Try.ntmps31
  go_wp2_with fail
  go_region_held3 (fun _ => True) (first | trivial) (first
    | (go_at_call 74; (refine ((K _).out (by first | exact Kept.refl _ | exact (Kept.refl _).drew | exact (Kept.refl _).drewN _)).mono ?_); rintro e v ⟨rfl, c1⟩; have BT : But (fun k => k = P) w v := (Kept.but (w := w) (by first | exact Kept.refl _ | exact (Kept.refl _).drew | exact (Kept.refl _).drewN _) _).trans c1 (fun _ _ h => h)))
  go_wp2
  go_ret
  exact ⟨rfl, BT⟩

set_option maxHeartbeats 1000000 in
theorem pin_nil_step (m : Value) (w : World) : Calls Try.prog 30 #[.pointer none, m] w fun e w' => e = .returned (.bool true) ∧ Kept w w' := by
  go_enter Try.func30, Try.ntmps30
  go_wp2_with fail
  go_quiet (fail)
  go_wp2
  go_ret
  exact ⟨rfl, by first | exact Kept.refl _ | exact (Kept.refl _).drew | exact (Kept.refl _).drewN _⟩
set_option maxHeartbeats 1000000 in
theorem pin_nil_told (w : World) : Calls Try.prog 29 #[.pointer none] w fun e w' => e = .returned (.tuple #[.int .i64 0, .int .i64 1]) ∧ w = w' := by
  go_enter Try.func29, Try.ntmps29
  go_wp2
  go_ret2
  exact ⟨rfl, rfl⟩
set_option maxHeartbeats 1000000 in
theorem pin_over_step (P : Nat) (made : Bool) (W u q er : Int) (m : Value) (w : World) (h : Cell6 w P 3 made 0 W u q er) : Calls Try.prog 30 #[.pointer (some ⟨P, 0, none⟩), m] w fun e w' => e = .returned (.bool true) ∧ Kept w w' := by
  have K : ∀ X, Hid (Kept w X → Calls Try.prog 74 #[.pointer (some ⟨P, 3, none⟩), .slice (some ⟨P, 0, none⟩) 3 3, m] X fun e w' => e = .returned (.bool true) ∧ X = w') := fun X => Lib.hid (fun k => step_over P 3 3 made W u q er m X (h.kept k))
  have c0 := h.c0
  clear h
  go_enter Try.func30, Try.ntmps30
  go_wp2_with fail
  go_region_held3 (fun _ => True) (first | trivial) (first
    | (go_at_call 74; (refine ((K _).out (by first | exact Kept.refl _ | exact (Kept.refl _).drew | exact (Kept.refl _).drewN _)).mono ?_); rintro e _ ⟨rfl, rfl⟩))
  go_wp2
  go_ret
  exact ⟨rfl, by first | exact Kept.refl _ | exact (Kept.refl _).drew | exact (Kept.refl _).drewN _⟩
set_option maxHeartbeats 1000000 in
theorem pin_zero_told (P : Nat) (w : World) (h : Cell6 w P 3 false 0 0 0 0 0) : Calls Try.prog 29 #[.pointer (some ⟨P, 0, none⟩)] w fun e w' => e = .returned (.tuple #[.int .i64 0, .int .i64 1]) ∧ Kept w w' := by
  obtain ⟨c0, c1, c2, c3, c4, c5⟩ := h
  have OC : ∀ X, Hid (Calls Try.prog 72 #[stV false 0 0 0 0 0] X fun e w' => e = .returned (.int .i64 1) ∧ Kept X w') := fun X => Lib.hid (outcome_any false 0 0 0 0 0 X)
  go_enter Try.func29, Try.ntmps29
  go_wp2_with fail
  refine (OC _).out.mono ?_
  rintro e w1 ⟨rfl, k1⟩
  go_wp2
  go_ret2
  exact ⟨rfl, k1⟩
set_option maxHeartbeats 1000000 in
theorem unpin_nil_step (m : Value) (w : World) : Calls Try.prog 31 #[.pointer none, m] w fun e w' => e = .returned (.bool true) ∧ Kept w w' := by
  go_enter Try.func31, Try.ntmps31
  go_wp2_with fail
  go_quiet (fail)
  go_wp2
  go_ret
  exact ⟨rfl, by first | exact Kept.refl _ | exact (Kept.refl _).drew | exact (Kept.refl _).drewN _⟩
set_option maxHeartbeats 1000000 in
theorem unpin_nil_told (w : World) : Calls Try.prog 33 #[.pointer none] w fun e w' => e = .returned (.int .i64 1) ∧ w = w' := by
  go_enter Try.func33, Try.ntmps33
  go_wp2
  go_ret
  exact ⟨rfl, rfl⟩
set_option maxHeartbeats 1000000 in
theorem unpin_over_step (P : Nat) (made : Bool) (W u q er : Int) (m : Value) (w : World) (h : Cell6 w P 1 made 0 W u q er) : Calls Try.prog 31 #[.pointer (some ⟨P, 0, none⟩), m] w fun e w' => e = .returned (.bool true) ∧ Kept w w' := by
  have K : ∀ X, Hid (Kept w X → Calls Try.prog 74 #[.pointer (some ⟨P, 1, none⟩), .slice (some ⟨P, 0, none⟩) 1 1, m] X fun e w' => e = .returned (.bool true) ∧ X = w') := fun X => Lib.hid (fun k => step_over P 1 1 made W u q er m X (h.kept k))
  have c0 := h.c0
  clear h
  go_enter Try.func31, Try.ntmps31
  go_wp2_with fail
  go_region_held3 (fun _ => True) (first | trivial) (first
    | (go_at_call 74; (refine ((K _).out (by first | exact Kept.refl _ | exact (Kept.refl _).drew | exact (Kept.refl _).drewN _)).mono ?_); rintro e _ ⟨rfl, rfl⟩))
  go_wp2
  go_ret
  exact ⟨rfl, by first | exact Kept.refl _ | exact (Kept.refl _).drew | exact (Kept.refl _).drewN _⟩
set_option maxHeartbeats 1000000 in
theorem unpin_zero_told (P : Nat) (w : World) (h : Cell6 w P 1 false 0 0 0 0 0) : Calls Try.prog 33 #[.pointer (some ⟨P, 0, none⟩)] w fun e w' => e = .returned (.int .i64 1) ∧ Kept w w' := by
  obtain ⟨c0, c1, c2, c3, c4, c5⟩ := h
  have OC : ∀ X, Hid (Calls Try.prog 72 #[stV false 0 0 0 0 0] X fun e w' => e = .returned (.int .i64 1) ∧ Kept X w') := fun X => Lib.hid (outcome_any false 0 0 0 0 0 X)
  go_enter Try.func33, Try.ntmps33
  go_wp2_with fail
  refine (OC _).out.mono ?_
  rintro e w1 ⟨rfl, k1⟩
  go_wp2
  go_ret
  exact ⟨rfl, k1⟩
set_option maxHeartbeats 1000000 in
theorem advance_nil_step (m : Value) (w : World) : Calls Try.prog 32 #[.pointer none, m] w fun e w' => e = .returned (.bool true) ∧ Kept w w' := by
  go_enter Try.func32, Try.ntmps32
  go_wp2_with fail
  go_quiet (fail)
  go_wp2
  go_ret
  exact ⟨rfl, by first | exact Kept.refl _ | exact (Kept.refl _).drew | exact (Kept.refl _).drewN _⟩
set_option maxHeartbeats 1000000 in
theorem advance_nil_told (w : World) : Calls Try.prog 34 #[.pointer none] w fun e w' => e = .returned (.int .i64 1) ∧ w = w' := by
  go_enter Try.func34, Try.ntmps34
  go_wp2
  go_ret
  exact ⟨rfl, rfl⟩
set_option maxHeartbeats 1000000 in
theorem advance_over_step (P : Nat) (made : Bool) (W u q er : Int) (m : Value) (w : World) (h : Cell6 w P 3 made 0 W u q er) : Calls Try.prog 32 #[.pointer (some ⟨P, 0, none⟩), m] w fun e w' => e = .returned (.bool true) ∧ Kept w w' := by
  have K : ∀ X, Hid (Kept w X → Calls Try.prog 74 #[.pointer (some ⟨P, 3, none⟩), .slice (some ⟨P, 0, none⟩) 3 3, m] X fun e w' => e = .returned (.bool true) ∧ X = w') := fun X => Lib.hid (fun k => step_over P 3 3 made W u q er m X (h.kept k))
  have c0 := h.c0
  clear h
  go_enter Try.func32, Try.ntmps32
  go_wp2_with fail
  go_region_held3 (fun _ => True) (first | trivial) (first
    | (go_at_call 74; (refine ((K _).out (by first | exact Kept.refl _ | exact (Kept.refl _).drew | exact (Kept.refl _).drewN _)).mono ?_); rintro e _ ⟨rfl, rfl⟩))
  go_wp2
  go_ret
  exact ⟨rfl, by first | exact Kept.refl _ | exact (Kept.refl _).drew | exact (Kept.refl _).drewN _⟩
set_option maxHeartbeats 1000000 in
theorem advance_zero_told (P : Nat) (w : World) (h : Cell6 w P 3 false 0 0 0 0 0) : Calls Try.prog 34 #[.pointer (some ⟨P, 0, none⟩)] w fun e w' => e = .returned (.int .i64 1) ∧ Kept w w' := by
  obtain ⟨c0, c1, c2, c3, c4, c5⟩ := h
  have OC : ∀ X, Hid (Calls Try.prog 72 #[stV false 0 0 0 0 0] X fun e w' => e = .returned (.int .i64 1) ∧ Kept X w') := fun X => Lib.hid (outcome_any false 0 0 0 0 0 X)
  go_enter Try.func34, Try.ntmps34
  go_wp2_with fail
  refine (OC _).out.mono ?_
  rintro e w1 ⟨rfl, k1⟩
  go_wp2
  go_ret
  exact ⟨rfl, k1⟩

structure FzI (w : World) (N0 a b : Nat) (S : Stk) (pre : List Int) (X : World) : Prop where
  le : (pre.length : Int) ≤ S.N
  bx : PBoxes X a b S 0
  kept : Kept w X
  mb : X.cell? ⟨w.heap.size + 1, 0, none⟩ = some (.pointer none)
  sz : N0 ≤ X.heap.size
structure FzB (w : World) (N0 a b : Nat) : Prop where
  la : w.heap.size ≤ a
  lb : w.heap.size ≤ b
  ha : a < N0
  hb : b < N0
  hw : w.heap.size + 1 < N0
theorem FzI.keep {w : World} {N0 a b : Nat} {S : Stk} {pre : List Int} {X X' : World} (h : FzI w N0 a b S pre X) (k : Kept X X') : FzI w N0 a b S pre X' :=
  ⟨h.le, h.bx.kept k, h.kept.trans k, k.some h.mb, Nat.le_trans h.sz k.size⟩
theorem FzI.turn {w : World} {N0 a b : Nat} {S : Stk} {pre : List Int} {X : World} {l : Nat} {y y' : Loop} (h : FzI w N0 a b S pre X) (hb : FzB w N0 a b) (hl : N0 ≤ l) (hy : X.heap[l]? = some (.loop y)) : FzI w N0 a b S pre (X.putObj l (.loop y')) := by
  have k : But (fun k => k = l) X (X.putObj l (.loop y')) := Sk.but_turned (But.refl _ _) hy rfl rfl (.inl rfl)
  have := hb.ha
  have := hb.hb
  have := hb.hw
  exact ⟨h.le, ⟨k.some h.bx.a0 (by omega), k.some h.bx.a1 (by omega), k.some h.bx.a2 (by omega), k.some h.bx.b0 (by omega)⟩, (Sk.but_turned (h.kept.but (fun _ => False)) hy rfl rfl (.inr (by omega))).kept (fun _ _ h => h), k.some h.mb (by omega), Nat.le_trans h.sz k.size⟩
set_option maxHeartbeats 4000000 in
theorem fill_nil (S : Stk) (w : World) (N1 : 1 ≤ S.N) (N2 : S.N ≤ 64) (K0 : 0 ≤ S.K) (K1 : S.K ≤ 10000) :
    Calls Try.prog 35 #[.agg #[.int .i64 S.T, .int .i64 S.K, .int .i64 S.N], .pointer none] w fun e w' => e = .returned (.tuple #[]) ∧ Kept w w' := by
  refine (callsIn_wide (n := 6)).1 ?_
  refine callsIn_of_wp_marks Try.func35 rfl trivial ?_ rfl
  simp only [Try.ntmps35, List.size_toArray, List.length_cons, List.length_nil, Nat.reduceAdd, Nat.reduceSub, Array.replicate_succ, Array.replicate_zero, List.push_toArray, List.append_toArray, List.nil_append, List.cons_append]
  rw [wpIn_wide]
  go_wp2_with fail
  obtain ⟨W0, hW0⟩ : ∃ W0, W0 = ((w.alloc (.cells #[.int .i64 S.T, .int .i64 S.K, .int .i64 S.N] 23)).alloc (.cells #[.pointer none] 29)) := ⟨_, rfl⟩
  have a0 : W0.cell? ⟨w.heap.size, 0, none⟩ = some (.int .i64 S.T) := by rw [hW0]; exact ((Kept.refl _).alloc _ _).some (cell_new _ _ _ _ 0 rfl)
  have a1 : W0.cell? ⟨w.heap.size, 1, none⟩ = some (.int .i64 S.K) := by rw [hW0]; exact ((Kept.refl _).alloc _ _).some (cell_new _ _ _ _ 1 rfl)
  have a2 : W0.cell? ⟨w.heap.size, 2, none⟩ = some (.int .i64 S.N) := by rw [hW0]; exact ((Kept.refl _).alloc _ _).some (cell_new _ _ _ _ 2 rfl)
  have b0 : W0.cell? ⟨w.heap.size + 1, 0, none⟩ = some (.pointer none) := by rw [hW0]; exact cell_new _ _ _ _ 0 (by simp)
  have k0 : Kept w W0 := by rw [hW0]; exact ((Kept.refl w).alloc _ _).alloc _ _
  rw [← hW0]
  clear hW0
  refine (sized_yes S _ N1 N2).mono ?_
  rintro e w1 ⟨rfl, k1⟩
  have a0 := k1.some a0
  have a1 := k1.some a1
  have a2 := k1.some a2
  have b0 := k1.some b0
  have K1 := Lib.hid (k0.trans k1)
  clear k0 k1
  go_wp2_with fail
  refine (nil_store S.T 0 _).mono ?_
  rintro e w2 ⟨rfl, b2⟩
  have a0 := b2.some a0
  have a1 := b2.some a1
  have a2 := b2.some a2
  have b0 := b2.some b0
  have B2 := Lib.hid (K1.out.trans b2)
  have z2 : w.heap.size + 1 < w2.heap.size := lt_of_cell b0
  clear b2 K1
  go_wp2_with fail
  refine (pins_any S 0 _).mono ?_
  rintro e w3 ⟨a, b, rfl, la, lb, ha, hb, bs, k3⟩
  have SI : Hid (FzI w w3.heap.size a b S [] w3) := Lib.hid ⟨by simp; omega, bs, B2.out.trans k3, k3.some b0, Nat.le_refl _⟩
  have SB : Hid (FzB w w3.heap.size a b) := Lib.hid ⟨by have := B2.out.size; omega, by have := B2.out.size; omega, ha, hb, by have := k3.size; omega⟩
  clear a0 a1 a2 b0 la lb ha hb bs k3 B2 z2
  go_wp2_with fail
  rw [← wpIn_wide (n := 6)]
  refine range_manyN (Bs := fun k => w3.heap.size + 1 + 1 ≤ k) (by decide) (gf := 96) (lb := #[.pointer (some ⟨b, 0, none⟩), .pointer (some ⟨a, 0, none⟩)]) rfl (enters_of Try.func96 (by kernel_rfl) rfl) (fun x : Int => #[Value.int .i64 x, Value.int .i64 (S.K + x)]) (fun _ => rfl)
    (fun k h => .inr h)
    (fun pre X => FzI w w3.heap.size a b S pre X)
    (fun cd pre X => False)
    (fun pre x => pre = cs 0 pre.length ∧ x = 0 + (pre.length : Int) ∧ x < S.N) (fun xs => ∃ k : Nat, xs = cs 0 k ∧ S.N ≤ 0 + (k : Int))
    ?_ ?_ ?_ ?_ ?_ ?_
    (fun x => { tmps := #[.agg #[.int .i64 S.T, .int .i64 S.K, .int .i64 S.N], .pointer none, .pointer (some ⟨w.heap.size, 0, none⟩), .pointer (some ⟨w.heap.size + 1, 0, none⟩), undef, .int .i64 (S.K + x), .agg #[.int .i64 S.T, .int .i64 S.K, .int .i64 S.N], .bool true, .bool false, .pointer none, .pointer (some ⟨w.heap.size, 0, none⟩), .int .i64 S.T, .tuple #[], .agg #[.int .i64 S.T, .int .i64 S.K, .int .i64 S.N],
      .func (.func 96) #[] #[.pointer (some ⟨b, 0, none⟩), .pointer (some ⟨a, 0, none⟩)], .int .i64 x, .int .i64 (S.K + x), undef, undef, undef], defers := [] })
    ?_ ?_ ?_ ?_
  · exact fun X k => SI.out.keep k
  · exact fun pre X X' h k => h.keep k
  · exact fun pre X l y y' hl hy h => h.turn SB.out hl hy
  · exact fun cd pre X X' h k => h
  · exact fun cd pre X l y y' hl hy h => h
  · intro l X0 J Jx k0 z0 hl hJk hJb hY h0
    exact pins_in 5 (by decide) l a b S 0 (by omega) (by omega) (by omega) (by omega) (by omega) J Jx hJk (fun pre X h => (hJb pre X h).1.bx) hY X0 h0
  · intro l x X K hK
    gi_wp2
    exact hK
  · intro l pre x X hI hso hsz hbut
    obtain ⟨hso1, hso2, hso3⟩ := hso
    have HI := Lib.hid hI
    have hmb := hI.mb
    have hx : x = (pre.length : Int) := by rw [hso2, Int.zero_add]
    have HX := Lib.hid hx
    have LE := Lib.hid (show ((pre ++ [x]).length : Int) ≤ S.N by simp; omega)
    clear hI hso1 hso2 hso3 hx
    gi_wp2_with (refine ⟨trivial, ?_⟩; gi_at_call 53; refine (CallsIn.inRound l (callsIn_wide.2 (nil_store _ _ _))).mono ?_; rintro e v ⟨rfl, b4⟩)
    exact ⟨⟨LE.out, HI.out.bx.kept b4, HI.out.kept.trans b4, b4.some HI.out.mb, Nat.le_trans HI.out.sz b4.size⟩, (Sk.Blk.of (b4.but (fun _ => False))).mono (fun k _ h => h.elim)⟩
  · intro D xs X hN hI hbut hD hd
    obtain ⟨k, hx, hneg⟩ := hN
    have hk : xs.length = S.N.toNat := by
      have h1 := cs_length 0 k
      rw [← hx] at h1
      have h2 := hI.le
      omega
    have HI := Lib.hid hI
    have hDw : w.heap.size < D := by have := SB.out.hw; omega
    clear hI hx hneg hk hbut
    have kk : Kept w (X.putObj D (.deferred none)) := (Sk.but_turned (HI.out.kept.but (fun _ => False)) hd rfl rfl (.inr (by omega))).kept (fun _ _ h => h)
    go_wp2
    refine ⟨by simp, .inl ⟨_, _, rfl, run_takeDeferred hd, ?_⟩⟩
    exact ⟨.tuple #[], by simp [results, Try.results35, go_sem], rfl, kk⟩
  · intro D cd xs X hI hbut hD hd
    exact hI.elim
end Go.Proofs.Ytmfbjlaajcdbnaa.Ep

namespace Go.Proofs.Ytmfbjlaajcdbnaa.Ep
set_option maxRecDepth 20000
open Go.RowKit
open Wo (St acc wordAt PMem RefIs)
open Sk (Stk Wd pmem_kept pmem_lt pmem_frame p_new p_words p_count)

theorem past {w : World} {b o : Nat} {v : Value} (h : w.cell? ⟨b, o, none⟩ = some v) (c : Array Value) (t : TypeId) : (w.alloc (.cells c t)).cell? ⟨b, o, none⟩ = some v := ((Kept.refl w).alloc c t).some h
theorem p_new9 (w : World) : Calls Try.prog 28 #[.int .i64 9] w
    fun e w' => ∃ M B, e = .returned (.tuple #[.pointer (some ⟨M, 0, none⟩), .int .i64 0]) ∧ PMem w' M B 9 Wo.St.zero ∧ Kept w w' :=
  (p_new 9 (by decide) (by decide) w).mono fun _ _ ⟨h1, h2, _, h4⟩ => ⟨_, _, h1, h2, h4⟩
theorem cnt0 {w : World} {M B : Nat} (hm : PMem w M B 9 Wo.St.zero) : Calls Try.prog 25 #[.pointer (some ⟨M, 0, none⟩)] w fun e w' => e = .returned (.int .i64 0) ∧ w = w' := p_count M B 9 _ w hm
structure NnA (w : World) (M B g1 g2 g3 P U A E : Nat) (T K N : Int) : Prop where
  mem : PMem w M B 9 Wo.St.zero
  a0 : w.cell? ⟨g1, 0, none⟩ = some (.pointer none)
  a1 : w.cell? ⟨g1, 1, none⟩ = some (.pointer (some ⟨P, 0, none⟩))
  b0 : w.cell? ⟨g2, 0, none⟩ = some (.pointer none)
  b1 : w.cell? ⟨g2, 1, none⟩ = some (.pointer (some ⟨U, 0, none⟩))
  d0 : w.cell? ⟨g3, 0, none⟩ = some (.pointer none)
  d1 : w.cell? ⟨g3, 1, none⟩ = some (.pointer (some ⟨A, 0, none⟩))
  zp : Cell6 w P 3 false 0 0 0 0 0
  zu : Cell6 w U 1 false 0 0 0 0 0
  za : Cell6 w A 3 false 0 0 0 0 0
  e0 : w.cell? ⟨E, 0, none⟩ = some (.int .i64 T)
  e1 : w.cell? ⟨E, 1, none⟩ = some (.int .i64 K)
  e2 : w.cell? ⟨E, 2, none⟩ = some (.int .i64 N)
theorem NnA.kept {w w' : World} {M B g1 g2 g3 P U A E : Nat} {T K N : Int} (h : NnA w M B g1 g2 g3 P U A E T K N) (k : Kept w w') : NnA w' M B g1 g2 g3 P U A E T K N :=
  ⟨pmem_kept h.mem k, k.some h.a0, k.some h.a1, k.some h.b0, k.some h.b1, k.some h.d0, k.some h.d1, h.zp.kept k, h.zu.kept k, h.za.kept k, k.some h.e0, k.some h.e1, k.some h.e2⟩

set_option maxHeartbeats 8000000 in
theorem none_any (T K N c p : Int) (w : World) : Calls Try.prog 4 #[.agg #[.int .i64 T, .int .i64 K, .int .i64 N], .int .i64 c, .int .i64 p] w fun e w' => e = .returned (.bool true) ∧ Kept w w' := by
  have aw := Lib.hid awake_any
  go_enter Try.func4, Try.ntmps4
  go_wp2_with fail
  refine (p_new9 _).mono ?_
  rintro e w1 ⟨M, B, rfl, m1, k1⟩
  have eqn : ∀ W, (binOp .eql 29 (.pointer (some ⟨M, 0, none⟩)) (.pointer none)).run Try.prog W = .ok (.bool false) W := fun W => by kernel_rfl
  have lE : w.heap.size < w1.heap.size := by have := k1.size; simp at this; omega
  have E0 : w1.cell? ⟨w.heap.size, 0, none⟩ = some (.int .i64 T) := k1.some (cell_new _ _ _ _ 0 rfl)
  have E1 : w1.cell? ⟨w.heap.size, 1, none⟩ = some (.int .i64 K) := k1.some (cell_new _ _ _ _ 1 rfl)
  have E2 : w1.cell? ⟨w.heap.size, 2, none⟩ = some (.int .i64 N) := k1.some (cell_new _ _ _ _ 2 rfl)
  have M1 := Lib.hid m1
  have K1 : Hid (Kept w w1) := Lib.hid (Kept.trans ((Kept.refl _).alloc _ _) k1)
  clear m1 k1
  go_wp2_with fail
  refine wp_loop_rounds 3 ?_
  rw [rounds_succ]
  go_wp2_with fail
  refine (pin_nil_told _).mono ?_
  rintro e _ ⟨rfl, rfl⟩
  go_wp2_with fail
  refine (pin_nil_step _ _).mono ?_
  rintro e w2 ⟨rfl, k2⟩
  have KA : Kept w1 w2 := Kept.trans (b := _) (((((((Kept.refl w1).alloc _ _).alloc _ _).alloc _ _).alloc _ _).alloc _ _).alloc _ _) k2
  have K2 := Lib.hid (K1.out.trans KA)
  have NN2 : Hid (NnA w2 M B (w1.heap.size + 1) (w1.heap.size + 1 + 1 + 1) (w1.heap.size + 1 + 1 + 1 + 1 + 1) w1.heap.size (w1.heap.size + 1 + 1) (w1.heap.size + 1 + 1 + 1 + 1) w.heap.size T K N) := Lib.hid ⟨pmem_kept M1.out KA, k2.some (by repeat (first | (refine (cell_new _ _ _ _ _ ?_).trans ?_ <;> first | (simp; done) | rfl) | refine past ?_ _ _)), k2.some (by repeat (first | (refine (cell_new _ _ _ _ _ ?_).trans ?_ <;> first | (simp; done) | rfl) | refine past ?_ _ _)), k2.some (by repeat (first | (refine (cell_new _ _ _ _ _ ?_).trans ?_ <;> first | (simp; done) | rfl) | refine past ?_ _ _)), k2.some (by repeat (first | (refine (cell_new _ _ _ _ _ ?_).trans ?_ <;> first | (simp; done) | rfl) | refine past ?_ _ _)), k2.some (by repeat (first | (refine (cell_new _ _ _ _ _ ?_).trans ?_ <;> first | (simp; done) | rfl) | refine past ?_ _ _)), k2.some (by repeat (first | (refine (cell_new _ _ _ _ _ ?_).trans ?_ <;> first | (simp; done) | rfl) | refine past ?_ _ _)),
    ⟨k2.some (by repeat (first | (refine (cell_new _ _ _ _ _ ?_).trans ?_ <;> first | (simp; done) | rfl) | refine past ?_ _ _)), k2.some (by repeat (first | (refine (cell_new _ _ _ _ _ ?_).trans ?_ <;> first | (simp; done) | rfl) | refine past ?_ _ _)), k2.some (by repeat (first | (refine (cell_new _ _ _ _ _ ?_).trans ?_ <;> first | (simp; done) | rfl) | refine past ?_ _ _)), k2.some (by repeat (first | (refine (cell_new _ _ _ _ _ ?_).trans ?_ <;> first | (simp; done) | rfl) | refine past ?_ _ _)), k2.some (by repeat (first | (refine (cell_new _ _ _ _ _ ?_).trans ?_ <;> first | (simp; done) | rfl) | refine past ?_ _ _)), k2.some (by repeat (first | (refine (cell_new _ _ _ _ _ ?_).trans ?_ <;> first | (simp; done) | rfl) | refine past ?_ _ _))⟩, ⟨k2.some (by repeat (first | (refine (cell_new _ _ _ _ _ ?_).trans ?_ <;> first | (simp; done) | rfl) | refine past ?_ _ _)), k2.some (by repeat (first | (refine (cell_new _ _ _ _ _ ?_).trans ?_ <;> first | (simp; done) | rfl) | refine past ?_ _ _)), k2.some (by repeat (first | (refine (cell_new _ _ _ _ _ ?_).trans ?_ <;> first | (simp; done) | rfl) | refine past ?_ _ _)), k2.some (by repeat (first | (refine (cell_new _ _ _ _ _ ?_).trans ?_ <;> first | (simp; done) | rfl) | refine past ?_ _ _)), k2.some (by repeat (first | (refine (cell_new _ _ _ _ _ ?_).trans ?_ <;> first | (simp; done) | rfl) | refine past ?_ _ _)), k2.some (by repeat (first | (refine (cell_new _ _ _ _ _ ?_).trans ?_ <;> first | (simp; done) | rfl) | refine past ?_ _ _))⟩, ⟨k2.some (by repeat (first | (refine (cell_new _ _ _ _ _ ?_).trans ?_ <;> first | (simp; done) | rfl) | refine past ?_ _ _)), k2.some (by repeat (first | (refine (cell_new _ _ _ _ _ ?_).trans ?_ <;> first | (simp; done) | rfl) | refine past ?_ _ _)), k2.some (by repeat (first | (refine (cell_new _ _ _ _ _ ?_).trans ?_ <;> first | (simp; done) | rfl) | refine past ?_ _ _)), k2.some (by repeat (first | (refine (cell_new _ _ _ _ _ ?_).trans ?_ <;> first | (simp; done) | rfl) | refine past ?_ _ _)), k2.some (by repeat (first | (refine (cell_new _ _ _ _ _ ?_).trans ?_ <;> first | (simp; done) | rfl) | refine past ?_ _ _)), k2.some (by repeat (first | (refine (cell_new _ _ _ _ _ ?_).trans ?_ <;> first | (simp; done) | rfl) | refine past ?_ _ _))⟩, KA.some E0, KA.some E1, KA.some E2⟩
  clear k2 E0 E1 E2 KA M1
  obtain ⟨_, a0, a1, b0, b1, d0, d1, _, _, _, e0, e1, e2⟩ := NN2.out
  go_wp2_with fail
  refine (unpin_nil_step _ _).mono ?_
  rintro e w3 ⟨rfl, k3⟩
  have K3 := Lib.hid (K2.out.trans k3)
  have NN3 := Lib.hid (NN2.out.kept k3)
  clear k3
  clear a0 a1 b0 b1 d0 d1 e0 e1 e2
  obtain ⟨_, a0, a1, b0, b1, d0, d1, _, _, _, e0, e1, e2⟩ := NN3.out
  go_wp2_with fail
  refine (advance_nil_step _ _).mono ?_
  rintro e w4 ⟨rfl, k4⟩
  have K4 := Lib.hid (K3.out.trans k4)
  have NN4 := Lib.hid (NN3.out.kept k4)
  clear k4
  clear a0 a1 b0 b1 d0 d1 e0 e1 e2
  obtain ⟨_, a0, a1, b0, b1, d0, d1, _, _, _, e0, e1, e2⟩ := NN4.out
  go_wp2_with fail
  refine (unpin_nil_told _).mono ?_
  rintro e _ ⟨rfl, rfl⟩
  go_wp2_with fail
  refine (advance_nil_told _).mono ?_
  rintro e _ ⟨rfl, rfl⟩
  go_wp2_with fail
  rw [rounds_succ]
  go_wp2_with fail
  refine (pin_zero_told _ _ NN4.out.zp).mono ?_
  rintro e w5 ⟨rfl, k5⟩
  have K5 := Lib.hid (K4.out.trans k5)
  have NN5 := Lib.hid (NN4.out.kept k5)
  clear k5
  clear a0 a1 b0 b1 d0 d1 e0 e1 e2
  obtain ⟨_, a0, a1, b0, b1, d0, d1, _, _, _, e0, e1, e2⟩ := NN5.out
  go_wp2_with fail
  refine (pin_over_step _ _ _ _ _ _ _ _ NN5.out.zp).mono ?_
  rintro e w6 ⟨rfl, k6⟩
  have K6 := Lib.hid (K5.out.trans k6)
  have NN6 := Lib.hid (NN5.out.kept k6)
  clear k6
  clear a0 a1 b0 b1 d0 d1 e0 e1 e2
  obtain ⟨_, a0, a1, b0, b1, d0, d1, _, _, _, e0, e1, e2⟩ := NN6.out
  go_wp2_with fail
  refine (unpin_over_step _ _ _ _ _ _ _ _ NN6.out.zu).mono ?_
  rintro e w7 ⟨rfl, k7⟩
  have K7 := Lib.hid (K6.out.trans k7)
  have NN7 := Lib.hid (NN6.out.kept k7)
  clear k7
  clear a0 a1 b0 b1 d0 d1 e0 e1 e2
  obtain ⟨_, a0, a1, b0, b1, d0, d1, _, _, _, e0, e1, e2⟩ := NN7.out
  go_wp2_with fail
  refine (advance_over_step _ _ _ _ _ _ _ _ NN7.out.za).mono ?_
  rintro e w8 ⟨rfl, k8⟩
  have K8 := Lib.hid (K7.out.trans k8)
  have NN8 := Lib.hid (NN7.out.kept k8)
  clear k8
  clear a0 a1 b0 b1 d0 d1 e0 e1 e2
  obtain ⟨_, a0, a1, b0, b1, d0, d1, _, _, _, e0, e1, e2⟩ := NN8.out
  go_wp2_with fail
  refine (unpin_zero_told _ _ NN8.out.zu).mono ?_
  rintro e w9 ⟨rfl, k9⟩
  have K9 := Lib.hid (K8.out.trans k9)
  have NN9 := Lib.hid (NN8.out.kept k9)
  clear k9
  clear a0 a1 b0 b1 d0 d1 e0 e1 e2
  obtain ⟨_, a0, a1, b0, b1, d0, d1, _, _, _, e0, e1, e2⟩ := NN9.out
  go_wp2_with fail
  refine (advance_zero_told _ _ NN9.out.za).mono ?_
  rintro e w10 ⟨rfl, k10⟩
  have K10 := Lib.hid (K9.out.trans k10)
  have NN10 := Lib.hid (NN9.out.kept k10)
  clear k10
  clear a0 a1 b0 b1 d0 d1 e0 e1 e2
  obtain ⟨_, a0, a1, b0, b1, d0, d1, _, _, _, e0, e1, e2⟩ := NN10.out
  go_wp2_with fail
  rw [rounds_succ]
  go_wp2_with fail
  refine (rfits_any ⟨T, K, N⟩ 200 _).mono ?_
  rintro e w11 ⟨rfl, k11⟩
  have K11 := Lib.hid (K10.out.trans k11)
  have NN11 := Lib.hid (NN10.out.kept k11)
  clear k11
  clear a0 a1 b0 b1 d0 d1 e0 e1 e2
  obtain ⟨_, a0, a1, b0, b1, d0, d1, _, _, _, e0, e1, e2⟩ := NN11.out
  by_cases hF : fitsE ⟨T, K, N⟩ 200 = 0
  case neg =>
    have hF2 : (fitsE ⟨T, K, N⟩ 200 != 0) = true := by simpa using hF
    go_wp2_with fail
    refine (aw.out _).mono ?_
    rintro e wa ⟨rfl, ka⟩
    go_wp2_with fail
    refine (cnt0 (pmem_kept NN11.out.mem ka)).mono ?_
    rintro e _ ⟨rfl, rfl⟩
    go_wp2
    go_ret
    exact ⟨rfl, K11.out.trans ka⟩
  case pos =>
    obtain ⟨ok, N2, _, _⟩ := fitsE_ok hF
    rw [hF]
    obtain ⟨N1, K1', K2'⟩ : 1 ≤ N ∧ 0 ≤ K ∧ K + N ≤ 200 := ⟨ok.N1, ok.K1, ok.K2⟩
    clear a0 a1 b0 b1 d0 d1
    have eo := Lib.hid ok
    have N2 : N ≤ 64 := N2
    clear ok hF
    by_cases hc : 0 ≤ c ∧ c < N
    · obtain ⟨c0, c1⟩ := hc
      obtain ⟨Nn, rfl⟩ : ∃ Nn : Nat, N = Nn := ⟨N.toNat, by omega⟩
      obtain ⟨cn, rfl⟩ : ∃ cn : Nat, c = cn := ⟨c.toNat, by omega⟩
      have PP := Lib.hid (fun W => pinned_any ⟨T, K, Nn⟩ (.pointer none) 0 (fun _ => 0) (fun _ h => absurd h (Nat.not_lt_zero _)) (by decide) W (gives_nil W) (show (1 : Int) ≤ Nn from N1) (show (Nn : Int) ≤ 64 from N2) K1' (show K ≤ 10000 by omega))
      have NO := Lib.hid (fun W => now_any ⟨T, K, Nn⟩ (.pointer none) 0 (fun _ => 0) (fun _ h => absurd h (Nat.not_lt_zero _)) (by decide) W (gives_nil W))
      rw [show ep (hv 0 (fun _ => 0) (Stk.T ⟨T, K, Nn⟩)) = 0 from by unfold hv; rw [if_neg (by omega)]; rfl] at NO
      go_wp2_with fail
      refine (PP.out _).mono ?_
      rintro e wp ⟨G, rfl, lG, hG, cG, _, kp⟩
      have cc : wp.cell? ⟨G, cn, none⟩ = some (.int .i64 (-1)) := by
        have h := cG cn (by show cn < (Nn : Int).toNat; omega)
        rw [show pinL 0 (fun _ => 0) ⟨T, K, Nn⟩ cn = -1 from by unfold pinL hv; rw [if_neg (by omega)]; rfl] at h
        exact h
      have KP := Lib.hid kp
      have e0 := kp.some e0
      have e1 := kp.some e1
      have e2 := kp.some e2
      clear cG kp
      go_wp2_with fail
      refine (fill_nil ⟨T, K, Nn⟩ _ N1 N2 K1' (show K ≤ 10000 by omega)).mono ?_
      rintro e wf ⟨rfl, kf⟩
      have cc := kf.some cc
      have e0 := kf.some e0
      have e1 := kf.some e1
      have e2 := kf.some e2
      have KF := Lib.hid (KP.out.trans kf)
      clear kf
      go_wp2_with fail
      refine (NO.out _).mono ?_
      rintro e wo ⟨rfl, ko⟩
      have cc := ko.some cc
      have e0 := ko.some e0
      have e1 := ko.some e1
      have e2 := ko.some e2
      have KO := Lib.hid (KF.out.trans ko)
      clear ko
      have hcl : (cn : Int) < (Nn : Int) := c1
      go_wp2_with fail
      refine (newUnpin_yes ⟨T, K, Nn⟩ cn _ c0 c1).mono ?_
      rintro e wu ⟨U2, rfl, lU, gU, oU, ku⟩
      have KU := Lib.hid (KO.out.trans ku)
      clear ku
      go_wp2_with fail
      refine (unpin_step_nil U2 ⟨T, K, Nn⟩ cn _ oU (show -9223372036854775808 ≤ K + (cn : Int) by omega) (show K + (cn : Int) ≤ 9223372036854775807 by omega)).mono ?_
      rintro e ws ⟨rfl, bs⟩
      have KS : Hid (Kept w11 ws) := Lib.hid (((KU.out.but (fun k => k = U2)).trans bs (fun _ _ h => h)).kept (fun i hi e => by have := KO.out.size; omega))
      clear bs oU
      go_wp2_with fail
      refine (aw.out _).mono ?_
      rintro e wa ⟨rfl, ka⟩
      go_wp2
      go_ret
      exact ⟨rfl, K11.out.trans (KS.out.trans ka)⟩
    · have hcb : c < 0 ∨ N ≤ c := by omega
      have NP := Lib.hid (fun W => newPin_no ⟨T, K, N⟩ c W hcb)
      have NU := Lib.hid (fun W => newUnpin_no ⟨T, K, N⟩ c W hcb)
      have NA := Lib.hid (fun W => newAdvance_no ⟨T, K, N⟩ c p W hcb)
      have hcc : (0 ≤ c ∧ N ≤ c) ∨ c < 0 := by omega
      clear hc hcb
      rcases hcc with ⟨hc0, hc1⟩ | hc0
      all_goals
        go_wp2_with fail
        go_region_held3 (fun w' => w'.cell? ⟨w.heap.size, 0, none⟩ = some (.int .i64 T) ∧ w'.cell? ⟨w.heap.size, 1, none⟩ = some (.int .i64 K) ∧ w'.cell? ⟨w.heap.size, 2, none⟩ = some (.int .i64 N)) (first | go_keep | (with_reducible exact ⟨RA.some e0, RA.some e1, RA.some e2⟩) | (with_reducible exact ⟨RB.some e0, RB.some e1, RB.some e2⟩) | (with_reducible exact ⟨RC.some e0, RC.some e1, RC.some e2⟩)) (first
          | (go_at_call 37; refine (NP.out _).mono ?_; rintro e x1 ⟨A1, rfl, _, _, o1, q1⟩; have RA : Kept w11 x1 := Kept.trans (b := _) (by repeat (first | (with_reducible exact Kept.refl _) | (with_reducible refine Kept.drew ?_) | (with_reducible refine Kept.drewN ?_ _))) q1)
          | (go_at_call 36; refine (NU.out _).mono ?_; rintro e x2 ⟨A2, rfl, _, _, o2, q2⟩; have QB : Kept x1 x2 := Kept.trans (b := _) (by repeat (first | (with_reducible exact Kept.refl _) | (with_reducible refine Kept.drew ?_) | (with_reducible refine Kept.drewN ?_ _))) q2; have RB : Kept w11 x2 := RA.trans QB)
          | (go_at_call 38; refine (NA.out _).mono ?_; rintro e x3 ⟨A3, rfl, _, _, o3, q3⟩; have QC : Kept x2 x3 := Kept.trans (b := _) (by repeat (first | (with_reducible exact Kept.refl _) | (with_reducible refine Kept.drew ?_) | (with_reducible refine Kept.drewN ?_ _))) q3; have RC : Kept w11 x3 := RB.trans QC))
        all_goals
          have Q3 := Lib.hid (K11.out.trans RC)
          have N3' := Lib.hid (NN11.out.kept RC)
          have O1 := Lib.hid (o1.kept (QB.trans QC))
          have O2 := Lib.hid (o2.kept QC)
          have O3 := Lib.hid o3
          clear e0 e1 e2 o1 o2 o3
          have TP := Lib.hid (fun W (q : Kept x3 W) => pin_told A1 _ c EOp.bad W (O1.out.kept q) ok_bad.good ok_bad.er)
          rw [show toldAt EOp.bad = 0 from by decide, show EOp.bad.er = 3 from rfl] at TP
          have TU := Lib.hid (fun W (q : Kept x3 W) => unpin_told A2 _ c EOp.bad W (O2.out.kept q))
          rw [show EOp.bad.er = 3 from rfl] at TU
          have TA := Lib.hid (fun W (q : Kept x3 W) => adv_told A3 _ c p EOp.bad W (O3.out.kept q))
          rw [show EOp.bad.er = 3 from rfl] at TA
          have CN := Lib.hid (fun W (q : Kept x3 W) => cnt0 (pmem_kept N3'.out.mem q))
          obtain ⟨pu, pq, pc⟩ := O1.out.st
          obtain ⟨uu, uq, uc⟩ := O2.out.st
          obtain ⟨au, aq, ac, _⟩ := O3.out.st
          have SP := Lib.hid (fun m W (q : Kept x3 W) => pin_over_step A1 _ _ _ _ _ m W (pc.kept q))
          have SU := Lib.hid (fun m W (q : Kept x3 W) => unpin_over_step A2 _ _ _ _ _ m W (uc.kept q))
          have SA := Lib.hid (fun m W (q : Kept x3 W) => advance_over_step A3 _ _ _ _ _ m W (ac.kept q))
          clear pc uc ac
          go_wp2_with fail
          refine (TP.out _ (Kept.refl _)).mono ?_
          rintro e x4 ⟨rfl, q4⟩
          have R4 := Lib.hid q4
          clear q4
          go_wp2_with fail
          refine (SP.out _ _ R4.out).mono ?_
          rintro e x5 ⟨rfl, q5⟩
          have R5 := Lib.hid (R4.out.trans q5)
          clear q5
          go_wp2_with fail
          refine (SU.out _ _ R5.out).mono ?_
          rintro e x6 ⟨rfl, q6⟩
          have R6 := Lib.hid (R5.out.trans q6)
          clear q6
          go_wp2_with fail
          refine (SA.out _ _ R6.out).mono ?_
          rintro e x7 ⟨rfl, q7⟩
          have R7 := Lib.hid (R6.out.trans q7)
          clear q7
          go_wp2_with fail
          refine (TU.out _ R7.out).mono ?_
          rintro e x8 ⟨rfl, q8⟩
          have R8 := Lib.hid (R7.out.trans q8)
          clear q8
          go_wp2_with fail
          refine (TA.out _ R8.out).mono ?_
          rintro e x9 ⟨rfl, q9⟩
          have R9 := Lib.hid (R8.out.trans q9)
          clear q9
          go_wp2_with fail
          refine (CN.out _ R9.out).mono ?_
          rintro e _ ⟨rfl, rfl⟩
          go_wp2_with fail
          refine (aw.out _).mono ?_
          rintro e x10 ⟨rfl, q10⟩
          go_wp2
          go_ret
          exact ⟨rfl, Q3.out.trans (R9.out.trans q10)⟩
end Go.Proofs.Ytmfbjlaajcdbnaa.Ep
