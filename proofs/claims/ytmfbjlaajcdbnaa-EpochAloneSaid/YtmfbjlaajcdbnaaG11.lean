/- Pins and Unpins: what lies there, how one is made, its steps, what it tells. -/
import Derived.Test.YtmfbjlaajcdbnaaG10
import Derived.Deep.RegionHeld3
set_option linter.unusedVariables false
set_option linter.unusedSimpArgs false

namespace Go.Proofs.Ytmfbjlaajcdbnaa.Ep
set_option maxRecDepth 20000
open Go.RowKit
open Wo (St acc wordAt PMem RefIs)
open Sk (Stk Wd p_load p_store p_cas pmem_kept pmem_lt pmem_frame)

structure PinAt (w : World) (P : Nat) (S : Stk) (c : Int) (x : EOp) : Prop where
  r0 : w.cell? ⟨P, 0, none⟩ = some (.func (.func 77) #[seatV S c] #[])
  r1 : w.cell? ⟨P, 1, none⟩ = some (.func (.func 78) #[seatV S c] #[])
  r2 : w.cell? ⟨P, 2, none⟩ = some (.func (.func 79) #[seatV S c] #[])
  st : ∃ u q, Cell6 w P 3 true x.next x.W u q x.er
  f : ∀ i, w.frozen? ⟨P, i, none⟩ = false
structure UnpinAt (w : World) (P : Nat) (S : Stk) (c : Int) (x : EOp) : Prop where
  r0 : w.cell? ⟨P, 0, none⟩ = some (.func (.func 75) #[seatV S c] #[])
  st : ∃ u q, Cell6 w P 1 true x.next x.W u q x.er
  f : ∀ i, w.frozen? ⟨P, i, none⟩ = false
theorem PinAt.but {w w' : World} {P : Nat} {S : Stk} {c : Int} {x : EOp} (h : PinAt w P S c x) {T : Nat → Prop} (b : But T w w') (hT : ¬ T P) : PinAt w' P S c x := by
  obtain ⟨u, q, k⟩ := h.st
  exact ⟨b.some h.r0 hT, b.some h.r1 hT, b.some h.r2 hT, ⟨u, q, k.but b hT⟩, fun i => b.soft (lt_of_cell h.r0) (h.f i)⟩
theorem PinAt.kept {w w' : World} {P : Nat} {S : Stk} {c : Int} {x : EOp} (h : PinAt w P S c x) (k : Kept w w') : PinAt w' P S c x := h.but (k.but (fun _ => False)) id
theorem UnpinAt.but {w w' : World} {P : Nat} {S : Stk} {c : Int} {x : EOp} (h : UnpinAt w P S c x) {T : Nat → Prop} (b : But T w w') (hT : ¬ T P) : UnpinAt w' P S c x := by
  obtain ⟨u, q, k⟩ := h.st
  exact ⟨b.some h.r0 hT, ⟨u, q, k.but b hT⟩, fun i => b.soft (lt_of_cell h.r0) (h.f i)⟩
theorem UnpinAt.kept {w w' : World} {P : Nat} {S : Stk} {c : Int} {x : EOp} (h : UnpinAt w P S c x) (k : Kept w w') : UnpinAt w' P S c x := h.but (k.but (fun _ => False)) id

theorem next_ne {x : EOp} (h : x.line ≠ 9) : x.next = x.line := by unfold EOp.next; rw [if_neg h]
theorem next_over {x : EOp} (h : x.line = 9) : x.next = 0 := by unfold EOp.next; rw [if_pos h]
theorem lines_next {x : EOp} (h : lines x) : (x.next == 0) = (x.line == 9) := by
  rcases h with e | e | e | e <;> simp [EOp.next, e]
def Stepped (At : World → Prop) (M B n : Nat) (s' : St) (P : Nat) (b : Bool) (w : World) (e : Ending) (w' : World) : Prop :=
  e = .returned (.bool b) ∧ At w' ∧ PMem w' M B n s' ∧ But (fun k => k = P ∨ k = B) w w'

theorem pin_in (P : Nat) (S : Stk) (c : Int) (x : EOp) (M B n : Nat) (s : St) (w : World) (h : PinAt w P S c x) (hm : PMem w M B n s) (h0 : 0 ≤ s.cnt) (h1 : s.cnt ≤ 1000000) (hP : P ≠ M ∧ P ≠ B) (hl : lines x) (hx : x.Good) (hw : Wd n s)
    (k0 : -9223372036854775808 ≤ S.K + c) (k1 : S.K + c ≤ 9223372036854775807) :
    Calls Try.prog 74 #[.pointer (some ⟨P, 3, none⟩), .slice (some ⟨P, 0, none⟩) 3 3, .pointer (some ⟨M, 0, none⟩)] w (Stepped (fun w' => PinAt w' P S c (pinOp n S s x)) M B n (pinSt n S c s x) P ((pinOp n S s x).line == 9) w) := by
  obtain ⟨r0, r1, r2, ⟨u, q, st⟩, hf⟩ := h
  have hPl := lt_of_cell r0
  have wd := hw.word S.T
  obtain ⟨l, W, L, er⟩ := x
  have done : ∀ (nx' W' u' q' er' : Int) (s' : St) (y : EOp), y.next = nx' → y.W = W' → y.er = er' → lines y → ∀ e w', StepPost P 3 true nx' W' u' q' er' M B n s' w e w' → Stepped (fun w' => PinAt w' P S c y) M B n s' P (y.line == 9) w e w' := by
    rintro nx' W' u' q' er' s' y rfl rfl rfl hy e w' ⟨rfl, ce, m, b, rest⟩
    refine ⟨by rw [lines_next hy], ⟨(rest 0 (by omega)).trans r0, (rest 1 (by omega)).trans r1, (rest 2 (by omega)).trans r2, ⟨u', q', ce⟩, fun i => b.soft hPl (hf i)⟩, m, b⟩
  rcases hl with e | e | e | e
  · obtain rfl : l = 1 := e
    have k := step_find P 3 3 0 (seatV S c) true W u q er true 2 (wordAt n s S.T) u q er M B n s (acc n s 1 S.T false 0) w st (by omega) (by omega) r0 hf hm hP (fun X hX => find_any S c true _ W u q er M B n s X hX h0 h1)
    exact k.mono (done _ _ _ _ _ _ _ rfl rfl rfl (.inr (.inl rfl)))
  · obtain rfl : l = 2 := e
    have k := step_hold P 3 3 1 (seatV S c) true W u q er true 3 W u q er M B n s (acc n s 2 (S.K + c) true (ep W + 1)) w st (by omega) (by omega) r1 hf hm hP (fun X hX => hold_any S c true _ W u q er M B n s X hX h0 h1 hx.W0 hx.W1 k0 k1)
    exact k.mono (done _ _ _ _ _ _ _ rfl rfl rfl (.inr (.inr (.inl rfl))))
  · obtain rfl : l = 3 := e
    by_cases he : ep (wordAt n s S.T) = ep W
    · have eo : pinOp n S s ⟨3, W, L, er⟩ = ⟨9, wordAt n s S.T, L, 0⟩ := by unfold pinOp; rw [if_neg (by simp), if_neg (by simp), if_pos rfl, if_pos he]
      have k := step_check P 3 3 2 (seatV S c) true W u q er true 0 (wordAt n s S.T) u q 0 M B n s (acc n s 1 S.T false 0) w st (by omega) (by omega) r2 hf hm hP (fun X hX => check_yes S c true _ W u q er M B n s X hX h0 h1 hx.W0 hx.W1 wd he)
      rw [eo]
      exact k.mono (done _ _ _ _ _ _ _ rfl rfl rfl (.inr (.inr (.inr rfl))))
    · have eo : pinOp n S s ⟨3, W, L, er⟩ = ⟨2, wordAt n s S.T, L, er⟩ := by unfold pinOp; rw [if_neg (by simp), if_neg (by simp), if_pos rfl, if_neg he]
      have k := step_check P 3 3 2 (seatV S c) true W u q er true 2 (wordAt n s S.T) u q er M B n s (acc n s 1 S.T false 0) w st (by omega) (by omega) r2 hf hm hP (fun X hX => check_no S c true _ W u q er M B n s X hX h0 h1 hx.W0 hx.W1 wd he)
      rw [eo]
      exact k.mono (done _ _ _ _ _ _ _ rfl rfl rfl (.inr (.inl rfl)))
  · obtain rfl : l = 9 := e
    refine (step_over P 3 3 true W u q er _ w st).mono ?_
    rintro e w' ⟨rfl, rfl⟩
    exact ⟨rfl, ⟨r0, r1, r2, ⟨u, q, st⟩, hf⟩, hm, But.refl _ _⟩
set_option maxHeartbeats 1000000 in
theorem pin_step (P : Nat) (S : Stk) (c : Int) (x : EOp) (M B n : Nat) (s : St) (w : World) (h : PinAt w P S c x) (hm : PMem w M B n s) (h0 : 0 ≤ s.cnt) (h1 : s.cnt ≤ 1000000) (hP : P ≠ M ∧ P ≠ B) (hl : lines x) (hx : x.Good) (hw : Wd n s)
    (k0 : -9223372036854775808 ≤ S.K + c) (k1 : S.K + c ≤ 9223372036854775807) :
    Calls Try.prog 30 #[.pointer (some ⟨P, 0, none⟩), .pointer (some ⟨M, 0, none⟩)] w (Stepped (fun w' => PinAt w' P S c (pinOp n S s x)) M B n (pinSt n S c s x) P ((pinOp n S s x).line == 9) w) := by
  have K : ∀ X, Hid (Kept w X → Calls Try.prog 74 #[.pointer (some ⟨P, 3, none⟩), .slice (some ⟨P, 0, none⟩) 3 3, .pointer (some ⟨M, 0, none⟩)] X (Stepped (fun w' => PinAt w' P S c (pinOp n S s x)) M B n (pinSt n S c s x) P ((pinOp n S s x).line == 9) X)) := fun X => Lib.hid (fun k => pin_in P S c x M B n s X (h.kept k) (pmem_kept hm k) h0 h1 hP hl hx hw k0 k1)
  have hc := h.r0
  clear h hm
  go_enter Try.func30, Try.ntmps30
  go_wp2_with fail
  go_region_held3 (fun _ => True) (first | trivial) (first
    | (go_at_call 74; (refine ((K _).out (by first | exact Kept.refl _ | exact (Kept.refl _).drew | exact (Kept.refl _).drewN _)).mono ?_); rintro e v ⟨rfl, a1, b1, c1⟩; have BT : But (fun k => k = P ∨ k = B) w v := (Kept.but (w := w) (by first | exact Kept.refl _ | exact (Kept.refl _).drew | exact (Kept.refl _).drewN _) _).trans c1 (fun _ _ h => h)))
  go_wp2
  go_ret
  exact ⟨rfl, a1, b1, BT⟩
set_option maxHeartbeats 1000000 in
theorem pin_told (P : Nat) (S : Stk) (c : Int) (x : EOp) (w : World) (h : PinAt w P S c x) (hx : x.Good) (he : x.er = 0 ∨ x.er = 3 ∨ x.er = 14) :
    Calls Try.prog 29 #[.pointer (some ⟨P, 0, none⟩)] w fun e w' => e = .returned (.tuple #[.int .i64 (toldAt x), .int .i64 x.er]) ∧ Kept w w' := by
  obtain ⟨_, _, _, ⟨u, q, c0, c1, c2, c3, c4, c5⟩, _⟩ := h
  obtain ⟨l, W, L, er⟩ := x
  obtain ⟨W0, W1⟩ := hx
  dsimp only at c1 c2 c5 he W0 W1
  obtain ⟨nx, hnx⟩ : ∃ nx, nx = EOp.next ⟨l, W, L, er⟩ := ⟨_, rfl⟩
  rw [← hnx] at c1
  clear hnx
  have e0 := ep_lo W
  have e1 := ep_hi W
  have OC : ∀ X, Hid (Calls Try.prog 72 #[stV true nx W u q er] X fun e w' => e = .returned (.int .i64 er) ∧ Kept X w') := fun X => Lib.hid (outcome_any true nx W u q er X)
  have SE : ∀ X, Hid (Calls Try.prog 73 #[stV true nx W u q er] X fun e w' => e = .returned (.int .u32 (ep W)) ∧ Kept X w') := fun X => Lib.hid (seen_any true nx W u q er X W0 W1)
  by_cases hz : er = 0
  · subst hz
    have TA : toldAt ⟨l, W, L, 0⟩ = ep W := by unfold toldAt; rw [if_pos rfl]
    rw [TA]
    go_enter Try.func29, Try.ntmps29
    go_wp2_with fail
    refine (OC _).out.mono ?_
    rintro e w1 ⟨rfl, k1⟩
    have K1 := Lib.hid k1
    obtain ⟨c0, c1, c2, c3, c4, c5⟩ := Cell6.kept ⟨c0, c1, c2, c3, c4, c5⟩ k1
    clear k1
    go_wp2_with fail
    refine (SE _).out.mono ?_
    rintro e w2 ⟨rfl, k2⟩
    go_wp2
    go_ret2
    exact ⟨rfl, K1.out.trans k2⟩
  · have TA : toldAt ⟨l, W, L, er⟩ = 0 := by unfold toldAt; rw [if_neg hz]
    rw [TA]
    have hz2 : (er != 0) = true := by simpa using hz
    go_enter Try.func29, Try.ntmps29
    go_wp2_with fail
    refine (OC _).out.mono ?_
    rintro e w1 ⟨rfl, k1⟩
    go_wp2
    go_ret2
    exact ⟨rfl, k1⟩

theorem unpin_in (P : Nat) (S : Stk) (c : Int) (x : EOp) (M B n : Nat) (s : St) (w : World) (h : UnpinAt w P S c x) (hm : PMem w M B n s) (h0 : 0 ≤ s.cnt) (h1 : s.cnt ≤ 1000000) (hP : P ≠ M ∧ P ≠ B) (hl : x.line = 1 ∨ x.line = 9)
    (k0 : -9223372036854775808 ≤ S.K + c) (k1 : S.K + c ≤ 9223372036854775807) :
    Calls Try.prog 74 #[.pointer (some ⟨P, 1, none⟩), .slice (some ⟨P, 0, none⟩) 1 1, .pointer (some ⟨M, 0, none⟩)] w (Stepped (fun w' => UnpinAt w' P S c (unOp x)) M B n (unSt n S c s x) P ((unOp x).line == 9) w) := by
  obtain ⟨r0, ⟨u, q, st⟩, hf⟩ := h
  have hPl := lt_of_cell r0
  obtain ⟨l, W, L, er⟩ := x
  rcases hl with e | e
  · obtain rfl : l = 1 := e
    have k := step_leave P 1 1 0 (seatV S c) true W u q er true 0 W u q 0 M B n s (acc n s 2 (S.K + c) true 0) w st (by omega) (by omega) r0 hf hm hP (fun X hX => leave_any S c true _ W u q er M B n s X hX h0 h1 k0 k1)
    refine k.mono ?_
    rintro e w' ⟨rfl, ce, m, b, rest⟩
    exact ⟨rfl, ⟨(rest 0 (by omega)).trans r0, ⟨u, q, ce⟩, fun i => b.soft hPl (hf i)⟩, m, b⟩
  · obtain rfl : l = 9 := e
    refine (step_over P 1 1 true W u q er _ w st).mono ?_
    rintro e w' ⟨rfl, rfl⟩
    exact ⟨rfl, ⟨r0, ⟨u, q, st⟩, hf⟩, hm, But.refl _ _⟩
set_option maxHeartbeats 1000000 in
theorem unpin_step (P : Nat) (S : Stk) (c : Int) (x : EOp) (M B n : Nat) (s : St) (w : World) (h : UnpinAt w P S c x) (hm : PMem w M B n s) (h0 : 0 ≤ s.cnt) (h1 : s.cnt ≤ 1000000) (hP : P ≠ M ∧ P ≠ B) (hl : x.line = 1 ∨ x.line = 9)
    (k0 : -9223372036854775808 ≤ S.K + c) (k1 : S.K + c ≤ 9223372036854775807) :
    Calls Try.prog 31 #[.pointer (some ⟨P, 0, none⟩), .pointer (some ⟨M, 0, none⟩)] w (Stepped (fun w' => UnpinAt w' P S c (unOp x)) M B n (unSt n S c s x) P ((unOp x).line == 9) w) := by
  have K : ∀ X, Hid (Kept w X → Calls Try.prog 74 #[.pointer (some ⟨P, 1, none⟩), .slice (some ⟨P, 0, none⟩) 1 1, .pointer (some ⟨M, 0, none⟩)] X (Stepped (fun w' => UnpinAt w' P S c (unOp x)) M B n (unSt n S c s x) P ((unOp x).line == 9) X)) := fun X => Lib.hid (fun k => unpin_in P S c x M B n s X (h.kept k) (pmem_kept hm k) h0 h1 hP hl k0 k1)
  have hc := h.r0
  clear h hm
  go_enter Try.func31, Try.ntmps31
  go_wp2_with fail
  go_region_held3 (fun _ => True) (first | trivial) (first
    | (go_at_call 74; (refine ((K _).out (by first | exact Kept.refl _ | exact (Kept.refl _).drew | exact (Kept.refl _).drewN _)).mono ?_); rintro e v ⟨rfl, a1, b1, c1⟩; have BT : But (fun k => k = P ∨ k = B) w v := (Kept.but (w := w) (by first | exact Kept.refl _ | exact (Kept.refl _).drew | exact (Kept.refl _).drewN _) _).trans c1 (fun _ _ h => h)))
  go_wp2
  go_ret
  exact ⟨rfl, a1, b1, BT⟩
set_option maxHeartbeats 1000000 in
theorem unpin_told (P : Nat) (S : Stk) (c : Int) (x : EOp) (w : World) (h : UnpinAt w P S c x) :
    Calls Try.prog 33 #[.pointer (some ⟨P, 0, none⟩)] w fun e w' => e = .returned (.int .i64 x.er) ∧ Kept w w' := by
  obtain ⟨_, ⟨u, q, c0, c1, c2, c3, c4, c5⟩, _⟩ := h
  have OC : ∀ X, Hid (Calls Try.prog 72 #[stV true x.next x.W u q x.er] X fun e w' => e = .returned (.int .i64 x.er) ∧ Kept X w') := fun X => Lib.hid (outcome_any true _ _ u q x.er X)
  go_enter Try.func33, Try.ntmps33
  go_wp2_with fail
  refine (OC _).out.mono ?_
  rintro e w1 ⟨rfl, k1⟩
  go_wp2
  go_ret
  exact ⟨rfl, k1⟩

set_option maxHeartbeats 1000000 in
theorem begun_yes (S : Stk) (c : Int) (w : World) (h0 : 0 ≤ c) (h1 : c < S.N) : Calls Try.prog 76 #[seatV S c] w fun e w' => e = .returned (stV true 1 0 0 0 14) ∧ Kept w w' := by
  go_enter Try.func76, Try.ntmps76
  go_wp2_with fail
  obtain ⟨W0, hW0⟩ : ∃ W0, W0 = (((w.alloc (.cells #[.int .i64 S.T, .int .i64 S.K, .int .i64 S.N, .int .i64 c] 134)).alloc (.cells #[.bool false, .int .i64 0, .int .u64 0, .int .i64 0, .int .i64 0, .int .i64 0] 68)).alloc (.cells #[.bool true, .int .i64 0, .int .u64 0, .int .i64 0, .int .i64 0, .int .i64 14] 68)) := ⟨_, rfl⟩
  have RB : Box6 W0 (w.heap.size + 1) false 0 0 0 0 0 := by rw [hW0]; exact (Box6.new _ _ (by simp) _ _ _ _ _ _ _).kept ((Kept.refl _).alloc _ _)
  have SB : Box6 W0 (w.heap.size + 1 + 1) true 0 0 0 0 14 := by rw [hW0]; exact Box6.new _ _ (by simp) _ _ _ _ _ _ _
  have rf : ∀ i, W0.frozen? ⟨w.heap.size + 1, i, none⟩ = false := fun i => by rw [hW0]; exact ((Kept.refl _).alloc _ _).soft (by simp) (frozen_new _ _ _ _ _ (by simp))
  have rl : w.heap.size + 1 < W0.heap.size := by rw [hW0]; simp
  have k0 : Kept w W0 := by rw [hW0]; exact (((Kept.refl w).alloc _ _).alloc _ _).alloc _ _
  rw [← hW0]
  clear hW0
  refine (exists_yes S c _ h0 h1).mono ?_
  rintro e w1 ⟨rfl, k1⟩
  have RB := RB.kept k1
  obtain ⟨s0, s1, s2, s3, s4, s5⟩ := SB.kept k1
  have rf : ∀ i, w1.frozen? ⟨w.heap.size + 1, i, none⟩ = false := fun i => k1.soft rl (rf i)
  have rl := Nat.lt_of_lt_of_le rl k1.size
  have K1 := Lib.hid (k0.trans k1)
  clear k1 k0
  go_wp2_with fail
  refine (then_any _ _ _ _ _ _ _ _).mono ?_
  rintro e w2 ⟨rfl, k2⟩
  obtain ⟨r0, r1, r2, r3, r4, r5⟩ := RB.kept k2
  have rf : ∀ i, w2.frozen? ⟨w.heap.size + 1, i, none⟩ = false := fun i => k2.soft rl (rf i)
  have K2 := Lib.hid (K1.out.trans k2)
  clear k2
  go_wp2
  refine put6_go ⟨r0, r1, r2, r3, r4, r5⟩ ?_
  rintro W9 ⟨e0, e1, e2, e3, e4, e5⟩ b9
  refine bodyPost_ret (v := stV true 1 0 0 0 14) (by simp [results, Try.results76, go_sem, e0, e1, e2, e3, e4, e5]) rfl ⟨rfl, ((K2.out.but (fun k => k = w.heap.size + 1)).trans b9 (fun _ _ h => h)).kept fun i hi e => by have e : i = w.heap.size + 1 := e; omega⟩
set_option maxHeartbeats 1000000 in
theorem begun_no (S : Stk) (c : Int) (w : World) (h : c < 0 ∨ S.N ≤ c) : Calls Try.prog 76 #[seatV S c] w fun e w' => e = .returned (stV true 0 0 0 0 3) ∧ Kept w w' := by
  go_enter Try.func76, Try.ntmps76
  go_wp2_with fail
  obtain ⟨W0, hW0⟩ : ∃ W0, W0 = (((w.alloc (.cells #[.int .i64 S.T, .int .i64 S.K, .int .i64 S.N, .int .i64 c] 134)).alloc (.cells #[.bool false, .int .i64 0, .int .u64 0, .int .i64 0, .int .i64 0, .int .i64 0] 68)).alloc (.cells #[.bool true, .int .i64 0, .int .u64 0, .int .i64 0, .int .i64 0, .int .i64 14] 68)) := ⟨_, rfl⟩
  have RB : Box6 W0 (w.heap.size + 1) false 0 0 0 0 0 := by rw [hW0]; exact (Box6.new _ _ (by simp) _ _ _ _ _ _ _).kept ((Kept.refl _).alloc _ _)
  have SB : Box6 W0 (w.heap.size + 1 + 1) true 0 0 0 0 14 := by rw [hW0]; exact Box6.new _ _ (by simp) _ _ _ _ _ _ _
  have rf : ∀ i, W0.frozen? ⟨w.heap.size + 1, i, none⟩ = false := fun i => by rw [hW0]; exact ((Kept.refl _).alloc _ _).soft (by simp) (frozen_new _ _ _ _ _ (by simp))
  have rl : w.heap.size + 1 < W0.heap.size := by rw [hW0]; simp
  have k0 : Kept w W0 := by rw [hW0]; exact (((Kept.refl w).alloc _ _).alloc _ _).alloc _ _
  rw [← hW0]
  clear hW0
  refine (exists_no S c _ h).mono ?_
  rintro e w1 ⟨rfl, k1⟩
  have RB := RB.kept k1
  obtain ⟨s0, s1, s2, s3, s4, s5⟩ := SB.kept k1
  have rf : ∀ i, w1.frozen? ⟨w.heap.size + 1, i, none⟩ = false := fun i => k1.soft rl (rf i)
  have rl := Nat.lt_of_lt_of_le rl k1.size
  have K1 := Lib.hid (k0.trans k1)
  clear k1 k0
  go_wp2_with fail
  refine (end_any _ _ _ _ _ _ _ _).mono ?_
  rintro e w2 ⟨rfl, k2⟩
  obtain ⟨r0, r1, r2, r3, r4, r5⟩ := RB.kept k2
  have rf : ∀ i, w2.frozen? ⟨w.heap.size + 1, i, none⟩ = false := fun i => k2.soft rl (rf i)
  have K2 := Lib.hid (K1.out.trans k2)
  clear k2
  go_wp2
  refine put6_go ⟨r0, r1, r2, r3, r4, r5⟩ ?_
  rintro W9 ⟨e0, e1, e2, e3, e4, e5⟩ b9
  refine bodyPost_ret (v := stV true 0 0 0 0 3) (by simp [results, Try.results76, go_sem, e0, e1, e2, e3, e4, e5]) rfl ⟨rfl, ((K2.out.but (fun k => k = w.heap.size + 1)).trans b9 (fun _ _ h => h)).kept fun i hi e => by have e : i = w.heap.size + 1 := e; omega⟩
def Made (At : World → Nat → Prop) (w : World) (e : Ending) (w' : World) : Prop := ∃ P, e = .returned (.pointer (some ⟨P, 0, none⟩)) ∧ w.heap.size ≤ P ∧ P < w'.heap.size ∧ At w' P ∧ Kept w w'
end Go.Proofs.Ytmfbjlaajcdbnaa.Ep

namespace Go.Proofs.Ytmfbjlaajcdbnaa.Ep
set_option maxRecDepth 20000
open Go.RowKit
open Wo (St acc wordAt PMem RefIs)
open Sk (Stk Wd p_load p_store p_cas pmem_kept pmem_lt pmem_frame)

structure PinG (w : World) (P : Nat) (S : Stk) (c nx er : Int) : Prop where
  r0 : w.cell? ⟨P, 0, none⟩ = some (.func (.func 77) #[seatV S c] #[])
  r1 : w.cell? ⟨P, 1, none⟩ = some (.func (.func 78) #[seatV S c] #[])
  r2 : w.cell? ⟨P, 2, none⟩ = some (.func (.func 79) #[seatV S c] #[])
  st : Cell6 w P 3 true nx 0 0 0 er
  f : ∀ i, w.frozen? ⟨P, i, none⟩ = false
theorem PinG.is {w : World} {P : Nat} {S : Stk} {c nx er : Int} (h : PinG w P S c nx er) {x : EOp} (h1 : x.next = nx) (h2 : x.W = 0) (h3 : x.er = er) : PinAt w P S c x :=
  ⟨h.r0, h.r1, h.r2, ⟨0, 0, by rw [h1, h2, h3]; exact h.st⟩, h.f⟩

set_option maxHeartbeats 1000000 in
theorem newPin_gen (S : Stk) (c nx er : Int) (BG : ∀ X, Hid (Calls Try.prog 76 #[seatV S c] X fun e w' => e = .returned (stV true nx 0 0 0 er) ∧ Kept X w')) (w : World) : Calls Try.prog 37 #[.agg #[.int .i64 S.T, .int .i64 S.K, .int .i64 S.N], .int .i64 c] w (Made (fun w P => PinG w P S c nx er) w) := by
  go_enter Try.func37, Try.ntmps37
  go_wp2_with fail
  obtain ⟨W0, hW0⟩ : ∃ W0, W0 = ((w.alloc (.cells #[.int .i64 S.T, .int .i64 S.K, .int .i64 S.N] 23)).alloc (.cells #[.int .i64 S.T, .int .i64 S.K, .int .i64 S.N, .int .i64 c] 134)) := ⟨_, rfl⟩
  have a0 : W0.cell? ⟨w.heap.size + 1, 0, none⟩ = some (.int .i64 S.T) := by rw [hW0]; exact cell_new _ _ _ _ 0 (by simp)
  have a1 : W0.cell? ⟨w.heap.size + 1, 1, none⟩ = some (.int .i64 S.K) := by rw [hW0]; exact cell_new _ _ _ _ 1 (by simp)
  have a2 : W0.cell? ⟨w.heap.size + 1, 2, none⟩ = some (.int .i64 S.N) := by rw [hW0]; exact cell_new _ _ _ _ 2 (by simp)
  have a3 : W0.cell? ⟨w.heap.size + 1, 3, none⟩ = some (.int .i64 c) := by rw [hW0]; exact cell_new _ _ _ _ 3 (by simp)
  have k0 : Kept w W0 := by rw [hW0]; exact ((Kept.refl w).alloc _ _).alloc _ _
  rw [← hW0]
  clear hW0
  go_region_held3 (fun w' => w'.cell? ⟨w.heap.size + 1, 0, none⟩ = some (.int .i64 S.T) ∧ w'.cell? ⟨w.heap.size + 1, 1, none⟩ = some (.int .i64 S.K) ∧ w'.cell? ⟨w.heap.size + 1, 2, none⟩ = some (.int .i64 S.N) ∧ w'.cell? ⟨w.heap.size + 1, 3, none⟩ = some (.int .i64 c)) (first | go_keep | (exact ⟨k2.some a0, k2.some a1, k2.some a2, k2.some a3⟩) | (exact ⟨((Kept.refl _).alloc _ _).some d0, ((Kept.refl _).alloc _ _).some d1, ((Kept.refl _).alloc _ _).some d2, ((Kept.refl _).alloc _ _).some d3⟩)) (first
    | (go_at_call 76; refine (BG _).out.mono ?_; rintro e v ⟨rfl, k2⟩; have d0 := k2.some a0; have d1 := k2.some a1; have d2 := k2.some a2; have d3 := k2.some a3; have KT : Kept W0 v := Kept.trans (b := _) (by first | exact Kept.refl _ | exact (Kept.refl _).drew | exact (Kept.refl _).drewN _) k2))
  all_goals
    have hv : w.heap.size ≤ v.heap.size := (k0.trans KT).size
    have AT : PinG (v.alloc (.cells #[.func (.func 77) #[seatV S c] #[], .func (.func 78) #[seatV S c] #[], .func (.func 79) #[seatV S c] #[], .bool true, .int .i64 nx, .int .u64 0, .int .i64 0, .int .i64 0, .int .i64 er] 70)) v.heap.size S c nx er :=
      ⟨cell_new _ _ _ _ 0 rfl, cell_new _ _ _ _ 1 rfl, cell_new _ _ _ _ 2 rfl, ⟨cell_new _ _ _ _ 3 rfl, cell_new _ _ _ _ 4 rfl, cell_new _ _ _ _ 5 rfl, cell_new _ _ _ _ 6 rfl, cell_new _ _ _ _ 7 rfl, cell_new _ _ _ _ 8 rfl⟩, fun i => frozen_new _ _ _ _ _ rfl⟩
    have KK : Kept w (v.alloc (.cells #[.func (.func 77) #[seatV S c] #[], .func (.func 78) #[seatV S c] #[], .func (.func 79) #[seatV S c] #[], .bool true, .int .i64 nx, .int .u64 0, .int .i64 0, .int .i64 0, .int .i64 er] 70)) := (k0.trans KT).alloc _ _
    have AT := Lib.hid AT
    have KK := Lib.hid KK
    clear k0 KT k2 d0 d1 d2 d3 a0 a1 a2 a3
    go_wp2
    go_ret
    exact ⟨v.heap.size, rfl, hv, by simp, AT.out, KK.out⟩
theorem newPin_yes (S : Stk) (c : Int) (w : World) (h0 : 0 ≤ c) (h1 : c < S.N) : Calls Try.prog 37 #[.agg #[.int .i64 S.T, .int .i64 S.K, .int .i64 S.N], .int .i64 c] w (Made (fun w P => PinAt w P S c EOp.new) w) :=
  (newPin_gen S c 1 14 (fun X => Lib.hid (begun_yes S c X h0 h1)) w).mono fun _ _ ⟨P, a, b, d, e, k⟩ => ⟨P, a, b, d, e.is rfl rfl rfl, k⟩
theorem newPin_no (S : Stk) (c : Int) (w : World) (h : c < 0 ∨ S.N ≤ c) : Calls Try.prog 37 #[.agg #[.int .i64 S.T, .int .i64 S.K, .int .i64 S.N], .int .i64 c] w (Made (fun w P => PinAt w P S c EOp.bad) w) :=
  (newPin_gen S c 0 3 (fun X => Lib.hid (begun_no S c X h)) w).mono fun _ _ ⟨P, a, b, d, e, k⟩ => ⟨P, a, b, d, e.is rfl rfl rfl, k⟩
end Go.Proofs.Ytmfbjlaajcdbnaa.Ep

namespace Go.Proofs.Ytmfbjlaajcdbnaa.Ep
set_option maxRecDepth 20000
open Go.RowKit
open Wo (St acc wordAt PMem RefIs)
open Sk (Stk Wd p_load p_store p_cas pmem_kept pmem_lt pmem_frame)

structure UnpinG (w : World) (P : Nat) (S : Stk) (c nx er : Int) : Prop where
  r0 : w.cell? ⟨P, 0, none⟩ = some (.func (.func 75) #[seatV S c] #[])
  st : Cell6 w P 1 true nx 0 0 0 er
  f : ∀ i, w.frozen? ⟨P, i, none⟩ = false
theorem UnpinG.is {w : World} {P : Nat} {S : Stk} {c nx er : Int} (h : UnpinG w P S c nx er) {x : EOp} (h1 : x.next = nx) (h2 : x.W = 0) (h3 : x.er = er) : UnpinAt w P S c x :=
  ⟨h.r0, ⟨0, 0, by rw [h1, h2, h3]; exact h.st⟩, h.f⟩

set_option maxHeartbeats 1000000 in
theorem newUnpin_gen (S : Stk) (c nx er : Int) (BG : ∀ X, Hid (Calls Try.prog 76 #[seatV S c] X fun e w' => e = .returned (stV true nx 0 0 0 er) ∧ Kept X w')) (w : World) : Calls Try.prog 36 #[.agg #[.int .i64 S.T, .int .i64 S.K, .int .i64 S.N], .int .i64 c] w (Made (fun w P => UnpinG w P S c nx er) w) := by
  go_enter Try.func36, Try.ntmps36
  go_wp2_with fail
  obtain ⟨W0, hW0⟩ : ∃ W0, W0 = ((w.alloc (.cells #[.int .i64 S.T, .int .i64 S.K, .int .i64 S.N] 23)).alloc (.cells #[.int .i64 S.T, .int .i64 S.K, .int .i64 S.N, .int .i64 c] 134)) := ⟨_, rfl⟩
  have a0 : W0.cell? ⟨w.heap.size + 1, 0, none⟩ = some (.int .i64 S.T) := by rw [hW0]; exact cell_new _ _ _ _ 0 (by simp)
  have a1 : W0.cell? ⟨w.heap.size + 1, 1, none⟩ = some (.int .i64 S.K) := by rw [hW0]; exact cell_new _ _ _ _ 1 (by simp)
  have a2 : W0.cell? ⟨w.heap.size + 1, 2, none⟩ = some (.int .i64 S.N) := by rw [hW0]; exact cell_new _ _ _ _ 2 (by simp)
  have a3 : W0.cell? ⟨w.heap.size + 1, 3, none⟩ = some (.int .i64 c) := by rw [hW0]; exact cell_new _ _ _ _ 3 (by simp)
  have k0 : Kept w W0 := by rw [hW0]; exact ((Kept.refl w).alloc _ _).alloc _ _
  rw [← hW0]
  clear hW0
  go_region_held3 (fun w' => w'.cell? ⟨w.heap.size + 1, 0, none⟩ = some (.int .i64 S.T) ∧ w'.cell? ⟨w.heap.size + 1, 1, none⟩ = some (.int .i64 S.K) ∧ w'.cell? ⟨w.heap.size + 1, 2, none⟩ = some (.int .i64 S.N) ∧ w'.cell? ⟨w.heap.size + 1, 3, none⟩ = some (.int .i64 c)) (first | go_keep | (exact ⟨k2.some a0, k2.some a1, k2.some a2, k2.some a3⟩) | (exact ⟨((Kept.refl _).alloc _ _).some d0, ((Kept.refl _).alloc _ _).some d1, ((Kept.refl _).alloc _ _).some d2, ((Kept.refl _).alloc _ _).some d3⟩)) (first
    | (go_at_call 76; refine (BG _).out.mono ?_; rintro e v ⟨rfl, k2⟩; have d0 := k2.some a0; have d1 := k2.some a1; have d2 := k2.some a2; have d3 := k2.some a3; have KT : Kept W0 v := Kept.trans (b := _) (by first | exact Kept.refl _ | exact (Kept.refl _).drew | exact (Kept.refl _).drewN _) k2))
  all_goals
    have hv : w.heap.size ≤ v.heap.size := (k0.trans KT).size
    have AT : UnpinG (v.alloc (.cells #[.func (.func 75) #[seatV S c] #[], .bool true, .int .i64 nx, .int .u64 0, .int .i64 0, .int .i64 0, .int .i64 er] 74)) v.heap.size S c nx er :=
      ⟨cell_new _ _ _ _ 0 rfl, ⟨cell_new _ _ _ _ 1 rfl, cell_new _ _ _ _ 2 rfl, cell_new _ _ _ _ 3 rfl, cell_new _ _ _ _ 4 rfl, cell_new _ _ _ _ 5 rfl, cell_new _ _ _ _ 6 rfl⟩, fun i => frozen_new _ _ _ _ _ rfl⟩
    have KK : Kept w (v.alloc (.cells #[.func (.func 75) #[seatV S c] #[], .bool true, .int .i64 nx, .int .u64 0, .int .i64 0, .int .i64 0, .int .i64 er] 74)) := (k0.trans KT).alloc _ _
    have AT := Lib.hid AT
    have KK := Lib.hid KK
    clear k0 KT k2 d0 d1 d2 d3 a0 a1 a2 a3
    go_wp2
    go_ret
    exact ⟨v.heap.size, rfl, hv, by simp, AT.out, KK.out⟩
theorem newUnpin_yes (S : Stk) (c : Int) (w : World) (h0 : 0 ≤ c) (h1 : c < S.N) : Calls Try.prog 36 #[.agg #[.int .i64 S.T, .int .i64 S.K, .int .i64 S.N], .int .i64 c] w (Made (fun w P => UnpinAt w P S c EOp.new) w) :=
  (newUnpin_gen S c 1 14 (fun X => Lib.hid (begun_yes S c X h0 h1)) w).mono fun _ _ ⟨P, a, b, d, e, k⟩ => ⟨P, a, b, d, e.is rfl rfl rfl, k⟩
theorem newUnpin_no (S : Stk) (c : Int) (w : World) (h : c < 0 ∨ S.N ≤ c) : Calls Try.prog 36 #[.agg #[.int .i64 S.T, .int .i64 S.K, .int .i64 S.N], .int .i64 c] w (Made (fun w P => UnpinAt w P S c EOp.bad) w) :=
  (newUnpin_gen S c 0 3 (fun X => Lib.hid (begun_no S c X h)) w).mono fun _ _ ⟨P, a, b, d, e, k⟩ => ⟨P, a, b, d, e.is rfl rfl rfl, k⟩
end Go.Proofs.Ytmfbjlaajcdbnaa.Ep

namespace Go.Proofs.Ytmfbjlaajcdbnaa.Ep
set_option maxRecDepth 20000
open Go.RowKit
open Wo (St acc wordAt PMem RefIs)
open Sk (Stk Wd p_load p_store p_cas pmem_kept pmem_lt pmem_frame)

set_option maxHeartbeats 4000000 in
theorem step_look (P o k : Nat) (j : Nat) (R : Value) (made : Bool) (W u q er : Int) (made' : Bool) (nx' W' u' q' er' : Int) (M B n : Nat) (s s' : St) (w : World) (h : Cell6 w P o made (j + 1) W u q er) (hj : j < k) (hk : k ≤ 3)
    (hr : w.cell? ⟨P, j, none⟩ = some (.func (.func 80) #[R] #[])) (hf : ∀ i, w.frozen? ⟨P, i, none⟩ = false) (hm : PMem w M B n s) (hP : P ≠ M ∧ P ≠ B) (hR : RowDoes 80 R (stV made (j + 1) W u q er) (stV made' nx' W' u' q' er') M B n s s') :
    Calls Try.prog 74 #[.pointer (some ⟨P, o, none⟩), .slice (some ⟨P, 0, none⟩) k k, .pointer (some ⟨M, 0, none⟩)] w (StepPost P o made' nx' W' u' q' er' M B n s' w) := by
  have HM := Lib.hid hm
  have HR := Lib.hid hR
  obtain ⟨c0, c1, c2, c3, c4, c5⟩ := h
  have hPl := lt_of_cell c0
  clear hm hR
  go_enter Try.func74, Try.ntmps74
  have jk : (j : Int) < (k : Int) := by omega
  have j3 : j ≤ 2 := by omega
  have qj : IntKind.i64.wrap (j : Int) = j := by rw [IntKind.wrap_i64]; omega
  go_wp2_with fail
  go_region_law (first | (go_simp; go_at_call 80; refine (HR.out _ (pmem_kept HM.out (by first | exact Kept.refl _ | exact (Kept.refl _).drew | exact (Kept.refl _).drewN _))).mono ?_; rintro e v ⟨rfl, m2, b2⟩; have hP1 : ¬ P = B := hP.2; have d0 := b2.some c0 hP1; have d1 := b2.some c1 hP1; have d2 := b2.some c2 hP1; have d3 := b2.some c3 hP1; have d4 := b2.some c4 hP1; have d5 := b2.some c5 hP1; have df : (∀ i, v.frozen? ⟨P, i, none⟩ = false) := (fun i => b2.soft hPl (hf i)); have bw : But (fun k => k = B) w v := (Kept.but (w := w) (by first | exact Kept.refl _ | exact (Kept.refl _).drew | exact (Kept.refl _).drewN _) _).trans b2 (fun _ _ h => h)) | fail)
  all_goals
    obtain ⟨Wn, hWn⟩ : ∃ Wn, Wn = ((((((v.setCell ⟨P, o, none⟩ (.bool made')).setCell ⟨P, o + 1, none⟩ (.int .i64 nx')).setCell ⟨P, o + 2, none⟩ (.int .u64 W')).setCell ⟨P, o + 3, none⟩ (.int .i64 u')).setCell ⟨P, o + 4, none⟩ (.int .i64 q')).setCell ⟨P, o + 5, none⟩ (.int .i64 er')) := ⟨_, rfl⟩
    obtain ⟨CE, bn, rest⟩ := nest_cells ⟨d0, d1, d2, d3, d4, d5⟩ hWn
    have RS : Hid (∀ i, i < o ∨ o + 6 ≤ i → Wn.cell? ⟨P, i, none⟩ = w.cell? ⟨P, i, none⟩) := Lib.hid (fun i hi => (rest i hi).trans (bw.cell P i hPl hP1))
    have BN : Hid (But (fun k => k = P ∨ k = B) w Wn) := Lib.hid ((bw.mono (fun _ _ h => .inr h)).trans bn (fun _ _ h => .inl h))
    have MN : Hid (PMem Wn M B n s') := Lib.hid (pmem_frame m2 bn (fun e => hP.1 e.symm) (fun e => hP1 e.symm))
    have c1' := CE.c1
    have CN := Lib.hid CE
    rw [← hWn]
    clear hWn bn rest bw b2 m2 CE d0 d1 d2 d3 d4 d5 df
    go_wp2
    go_ret
    exact ⟨rfl, CN.out, MN.out, BN.out, RS.out⟩
set_option maxHeartbeats 4000000 in
theorem step_ask (P o k : Nat) (j : Nat) (R : Value) (made : Bool) (W u q er : Int) (made' : Bool) (nx' W' u' q' er' : Int) (M B n : Nat) (s s' : St) (w : World) (h : Cell6 w P o made (j + 1) W u q er) (hj : j < k) (hk : k ≤ 3)
    (hr : w.cell? ⟨P, j, none⟩ = some (.func (.func 81) #[R] #[])) (hf : ∀ i, w.frozen? ⟨P, i, none⟩ = false) (hm : PMem w M B n s) (hP : P ≠ M ∧ P ≠ B) (hR : RowDoes 81 R (stV made (j + 1) W u q er) (stV made' nx' W' u' q' er') M B n s s') :
    Calls Try.prog 74 #[.pointer (some ⟨P, o, none⟩), .slice (some ⟨P, 0, none⟩) k k, .pointer (some ⟨M, 0, none⟩)] w (StepPost P o made' nx' W' u' q' er' M B n s' w) := by
  have HM := Lib.hid hm
  have HR := Lib.hid hR
  obtain ⟨c0, c1, c2, c3, c4, c5⟩ := h
  have hPl := lt_of_cell c0
  clear hm hR
  go_enter Try.func74, Try.ntmps74
  have jk : (j : Int) < (k : Int) := by omega
  have j3 : j ≤ 2 := by omega
  have qj : IntKind.i64.wrap (j : Int) = j := by rw [IntKind.wrap_i64]; omega
  go_wp2_with fail
  go_region_law (first | (go_simp; go_at_call 81; refine (HR.out _ (pmem_kept HM.out (by first | exact Kept.refl _ | exact (Kept.refl _).drew | exact (Kept.refl _).drewN _))).mono ?_; rintro e v ⟨rfl, m2, b2⟩; have hP1 : ¬ P = B := hP.2; have d0 := b2.some c0 hP1; have d1 := b2.some c1 hP1; have d2 := b2.some c2 hP1; have d3 := b2.some c3 hP1; have d4 := b2.some c4 hP1; have d5 := b2.some c5 hP1; have df : (∀ i, v.frozen? ⟨P, i, none⟩ = false) := (fun i => b2.soft hPl (hf i)); have bw : But (fun k => k = B) w v := (Kept.but (w := w) (by first | exact Kept.refl _ | exact (Kept.refl _).drew | exact (Kept.refl _).drewN _) _).trans b2 (fun _ _ h => h)) | fail)
  all_goals
    obtain ⟨Wn, hWn⟩ : ∃ Wn, Wn = ((((((v.setCell ⟨P, o, none⟩ (.bool made')).setCell ⟨P, o + 1, none⟩ (.int .i64 nx')).setCell ⟨P, o + 2, none⟩ (.int .u64 W')).setCell ⟨P, o + 3, none⟩ (.int .i64 u')).setCell ⟨P, o + 4, none⟩ (.int .i64 q')).setCell ⟨P, o + 5, none⟩ (.int .i64 er')) := ⟨_, rfl⟩
    obtain ⟨CE, bn, rest⟩ := nest_cells ⟨d0, d1, d2, d3, d4, d5⟩ hWn
    have RS : Hid (∀ i, i < o ∨ o + 6 ≤ i → Wn.cell? ⟨P, i, none⟩ = w.cell? ⟨P, i, none⟩) := Lib.hid (fun i hi => (rest i hi).trans (bw.cell P i hPl hP1))
    have BN : Hid (But (fun k => k = P ∨ k = B) w Wn) := Lib.hid ((bw.mono (fun _ _ h => .inr h)).trans bn (fun _ _ h => .inl h))
    have MN : Hid (PMem Wn M B n s') := Lib.hid (pmem_frame m2 bn (fun e => hP.1 e.symm) (fun e => hP1 e.symm))
    have c1' := CE.c1
    have CN := Lib.hid CE
    rw [← hWn]
    clear hWn bn rest bw b2 m2 CE d0 d1 d2 d3 d4 d5 df
    go_wp2
    go_ret
    exact ⟨rfl, CN.out, MN.out, BN.out, RS.out⟩
set_option maxHeartbeats 4000000 in
theorem step_move (P o k : Nat) (j : Nat) (R : Value) (made : Bool) (W u q er : Int) (made' : Bool) (nx' W' u' q' er' : Int) (M B n : Nat) (s s' : St) (w : World) (h : Cell6 w P o made (j + 1) W u q er) (hj : j < k) (hk : k ≤ 3)
    (hr : w.cell? ⟨P, j, none⟩ = some (.func (.func 82) #[R] #[])) (hf : ∀ i, w.frozen? ⟨P, i, none⟩ = false) (hm : PMem w M B n s) (hP : P ≠ M ∧ P ≠ B) (hR : RowDoes 82 R (stV made (j + 1) W u q er) (stV made' nx' W' u' q' er') M B n s s') :
    Calls Try.prog 74 #[.pointer (some ⟨P, o, none⟩), .slice (some ⟨P, 0, none⟩) k k, .pointer (some ⟨M, 0, none⟩)] w (StepPost P o made' nx' W' u' q' er' M B n s' w) := by
  have HM := Lib.hid hm
  have HR := Lib.hid hR
  obtain ⟨c0, c1, c2, c3, c4, c5⟩ := h
  have hPl := lt_of_cell c0
  clear hm hR
  go_enter Try.func74, Try.ntmps74
  have jk : (j : Int) < (k : Int) := by omega
  have j3 : j ≤ 2 := by omega
  have qj : IntKind.i64.wrap (j : Int) = j := by rw [IntKind.wrap_i64]; omega
  go_wp2_with fail
  go_region_law (first | (go_simp; go_at_call 82; refine (HR.out _ (pmem_kept HM.out (by first | exact Kept.refl _ | exact (Kept.refl _).drew | exact (Kept.refl _).drewN _))).mono ?_; rintro e v ⟨rfl, m2, b2⟩; have hP1 : ¬ P = B := hP.2; have d0 := b2.some c0 hP1; have d1 := b2.some c1 hP1; have d2 := b2.some c2 hP1; have d3 := b2.some c3 hP1; have d4 := b2.some c4 hP1; have d5 := b2.some c5 hP1; have df : (∀ i, v.frozen? ⟨P, i, none⟩ = false) := (fun i => b2.soft hPl (hf i)); have bw : But (fun k => k = B) w v := (Kept.but (w := w) (by first | exact Kept.refl _ | exact (Kept.refl _).drew | exact (Kept.refl _).drewN _) _).trans b2 (fun _ _ h => h)) | fail)
  all_goals
    obtain ⟨Wn, hWn⟩ : ∃ Wn, Wn = ((((((v.setCell ⟨P, o, none⟩ (.bool made')).setCell ⟨P, o + 1, none⟩ (.int .i64 nx')).setCell ⟨P, o + 2, none⟩ (.int .u64 W')).setCell ⟨P, o + 3, none⟩ (.int .i64 u')).setCell ⟨P, o + 4, none⟩ (.int .i64 q')).setCell ⟨P, o + 5, none⟩ (.int .i64 er')) := ⟨_, rfl⟩
    obtain ⟨CE, bn, rest⟩ := nest_cells ⟨d0, d1, d2, d3, d4, d5⟩ hWn
    have RS : Hid (∀ i, i < o ∨ o + 6 ≤ i → Wn.cell? ⟨P, i, none⟩ = w.cell? ⟨P, i, none⟩) := Lib.hid (fun i hi => (rest i hi).trans (bw.cell P i hPl hP1))
    have BN : Hid (But (fun k => k = P ∨ k = B) w Wn) := Lib.hid ((bw.mono (fun _ _ h => .inr h)).trans bn (fun _ _ h => .inl h))
    have MN : Hid (PMem Wn M B n s') := Lib.hid (pmem_frame m2 bn (fun e => hP.1 e.symm) (fun e => hP1 e.symm))
    have c1' := CE.c1
    have CN := Lib.hid CE
    rw [← hWn]
    clear hWn bn rest bw b2 m2 CE d0 d1 d2 d3 d4 d5 df
    go_wp2
    go_ret
    exact ⟨rfl, CN.out, MN.out, BN.out, RS.out⟩
end Go.Proofs.Ytmfbjlaajcdbnaa.Ep
