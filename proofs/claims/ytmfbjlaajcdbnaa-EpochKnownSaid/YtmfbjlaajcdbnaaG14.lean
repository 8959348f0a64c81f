/- Advances: what lies there, the steps, what is told. -/
import Derived.Test.YtmfbjlaajcdbnaaG11
import Derived.Test.YtmfbjlaajcdbnaaG13
import Derived.Deep.RegionHeld3
import Derived.Test.YtmfbjlaajcdbnaaG09
set_option linter.unusedVariables false
set_option linter.unusedSimpArgs false

namespace Go.Proofs.Ytmfbjlaajcdbnaa.Ep
set_option maxRecDepth 20000
open Go.RowKit
open Wo (St acc wordAt PMem RefIs)
open Sk (Stk Wd p_load p_store p_cas pmem_kept pmem_lt pmem_frame)

structure AdvAt (w : World) (P : Nat) (S : Stk) (c p : Int) (x : EOp) : Prop where
  r0 : w.cell? ⟨P, 0, none⟩ = some (.func (.func 80) #[advV S c p] #[])
  r1 : w.cell? ⟨P, 1, none⟩ = some (.func (.func 81) #[advV S c p] #[])
  r2 : w.cell? ⟨P, 2, none⟩ = some (.func (.func 82) #[advV S c p] #[])
  st : ∃ u q, Cell6 w P 3 true x.next x.W u q x.er ∧ (x.line = 2 → u = x.L ∧ q = S.K + x.L)
  f : ∀ i, w.frozen? ⟨P, i, none⟩ = false
theorem AdvAt.but {w w' : World} {P : Nat} {S : Stk} {c p : Int} {x : EOp} (h : AdvAt w P S c p x) {T : Nat → Prop} (b : But T w w') (hT : ¬ T P) : AdvAt w' P S c p x := by
  obtain ⟨u, q, k, hh⟩ := h.st
  exact ⟨b.some h.r0 hT, b.some h.r1 hT, b.some h.r2 hT, ⟨u, q, k.but b hT, hh⟩, fun i => b.soft (lt_of_cell h.r0) (h.f i)⟩
theorem AdvAt.kept {w w' : World} {P : Nat} {S : Stk} {c p : Int} {x : EOp} (h : AdvAt w P S c p x) (k : Kept w w') : AdvAt w' P S c p x := h.but (k.but (fun _ => False)) id

structure AOk (S : Stk) (x : EOp) : Prop where
  ln : lines x
  l1 : x.line = 1 → x.L = 0
  l2 : x.line = 2 → 0 ≤ x.L ∧ x.L < S.N
theorem seekOp_lines (S : Stk) (c W er i : Int) : lines (seekOp S c W er i) := by
  unfold seekOp lines
  by_cases h : skip c i < S.N
  · rw [if_pos h]; exact .inr (.inl rfl)
  · rw [if_neg h]; exact .inr (.inr (.inl rfl))
theorem adv_in (P : Nat) (S : Stk) (c p : Int) (x : EOp) (M B n : Nat) (s : St) (w : World) (h : AdvAt w P S c p x) (hm : PMem w M B n s) (h0 : 0 ≤ s.cnt) (h1 : s.cnt ≤ 1000000) (hP : P ≠ M ∧ P ≠ B) (hl : AOk S x) (hx : x.Good) (hw : Wd n s) (he : x.line ≠ 9 → x.er = 14)
    (hN : S.N ≤ 900) (K0 : 0 ≤ S.K) (K1 : S.K ≤ 10000) (T0' : 0 ≤ S.T) (T1' : S.T < n) :
    Calls Try.prog 74 #[.pointer (some ⟨P, 3, none⟩), .slice (some ⟨P, 0, none⟩) 3 3, .pointer (some ⟨M, 0, none⟩)] w (Stepped (fun w' => AdvAt w' P S c p (advOp n S c p s x)) M B n (advSt n S s x) P ((advOp n S c p s x).line == 9) w) := by
  obtain ⟨r0, r1, r2, ⟨u, q, st, huq⟩, hf⟩ := h
  have hPl := lt_of_cell r0
  have wd := hw.word S.T
  obtain ⟨hln, hl1, hl2⟩ := hl
  obtain ⟨l, W, L, er⟩ := x
  have done : ∀ (nx' W' u' q' er' : Int) (s' : St) (y : EOp), y.next = nx' → y.W = W' → y.er = er' → lines y → (y.line = 2 → u' = y.L ∧ q' = S.K + y.L) → ∀ e w', StepPost P 3 true nx' W' u' q' er' M B n s' w e w' → Stepped (fun w' => AdvAt w' P S c p y) M B n s' P (y.line == 9) w e w' := by
    rintro nx' W' u' q' er' s' y rfl rfl rfl hy hq e w' ⟨rfl, ce, m, b, rest⟩
    exact ⟨by rw [lines_next hy], ⟨(rest 0 (by omega)).trans r0, (rest 1 (by omega)).trans r1, (rest 2 (by omega)).trans r2, ⟨u', q', ce, hq⟩, fun i => b.soft hPl (hf i)⟩, m, b⟩
  rcases hln with e | e | e | e
  · obtain rfl : l = 1 := e
    have hL : L = 0 := hl1 rfl
    subst hL
    by_cases hp : ep (wordAt n s S.T) = p
    · have eo : advOp n S c p s ⟨1, W, 0, er⟩ = seekOp S c (wordAt n s S.T) er 0 := by unfold advOp; rw [if_pos rfl, if_pos hp]
      rw [eo]
      by_cases hs : skip c 0 < S.N
      · have es : seekOp S c (wordAt n s S.T) er 0 = ⟨2, wordAt n s S.T, skip c 0, er⟩ := by unfold seekOp; rw [if_pos hs]
        have k := step_look P 3 3 0 (advV S c p) true W u q er true 2 (wordAt n s S.T) (skip c 0) (S.K + skip c 0) er M B n s (acc n s 1 S.T false 0) w st (by omega) (by omega) r0 hf hm hP (fun X hX => look_eq S c p true _ W u q er M B n s X hX h0 h1 wd hp 2 (skip c 0) (S.K + skip c 0) (if_pos hs) (by omega) K0 K1)
        rw [es]
        exact k.mono (done _ _ _ _ _ _ _ rfl rfl rfl (.inr (.inl rfl)) (fun _ => ⟨rfl, rfl⟩))
      · have es : seekOp S c (wordAt n s S.T) er 0 = ⟨3, wordAt n s S.T, skip c 0, er⟩ := by unfold seekOp; rw [if_neg hs]
        have k := step_look P 3 3 0 (advV S c p) true W u q er true 3 (wordAt n s S.T) u q er M B n s (acc n s 1 S.T false 0) w st (by omega) (by omega) r0 hf hm hP (fun X hX => look_eq S c p true _ W u q er M B n s X hX h0 h1 wd hp 3 u q (if_neg hs) (by omega) K0 K1)
        rw [es]
        exact k.mono (done _ _ _ _ _ _ _ rfl rfl rfl (.inr (.inr (.inl rfl))) (fun e => absurd e (by simp)))
    · have eo : advOp n S c p s ⟨1, W, 0, er⟩ = ⟨9, wordAt n s S.T, 0, 14⟩ := by unfold advOp; rw [if_pos rfl, if_neg hp]
      have k := step_look P 3 3 0 (advV S c p) true W u q er true 0 (wordAt n s S.T) u q 14 M B n s (acc n s 1 S.T false 0) w st (by omega) (by omega) r0 hf hm hP (fun X hX => look_ne S c p true _ W u q er M B n s X hX h0 h1 wd hp)
      rw [eo]
      exact k.mono (done _ _ _ _ _ _ _ rfl rfl rfl (.inr (.inr (.inr rfl))) (fun e => absurd e (by simp)))
  · obtain rfl : l = 2 := e
    obtain ⟨hu, hq⟩ := huq rfl
    obtain ⟨L0, L1⟩ := hl2 rfl
    dsimp only at hu hq L0 L1
    subst hu hq
    have wq := hw.word (S.K + u)
    have est : advSt n S s ⟨2, W, u, er⟩ = acc n s 1 (S.K + u) false 0 := by unfold advSt; rw [if_neg (by simp), if_pos rfl]
    rw [est]
    by_cases hb : wordAt n s (S.K + u) ≠ 0 ∧ wordAt n s (S.K + u) ≠ ep W + 1
    · have eo : advOp n S c p s ⟨2, W, u, er⟩ = ⟨9, W, u, 14⟩ := by unfold advOp; rw [if_neg (by simp), if_pos rfl, if_pos hb]
      have k := step_ask P 3 3 1 (advV S c p) true W u (S.K + u) er true 0 W u (S.K + u) 14 M B n s (acc n s 1 (S.K + u) false 0) w st (by omega) (by omega) r1 hf hm hP (fun X hX => ask_busy S c p true _ W u (S.K + u) er M B n s X hX h0 h1 hx.W0 hx.W1 wq hb)
      rw [eo]
      exact k.mono (done _ _ _ _ _ _ _ rfl rfl rfl (.inr (.inr (.inr rfl))) (fun e => absurd e (by simp)))
    · have eo : advOp n S c p s ⟨2, W, u, er⟩ = seekOp S c W er (u + 1) := by unfold advOp; rw [if_neg (by simp), if_pos rfl, if_neg hb]
      rw [eo]
      have ASK : ∀ (NX U Q : Int), (if skip c (u + 1) < S.N then stV true 2 W (skip c (u + 1)) (S.K + skip c (u + 1)) er else stV true 3 W u (S.K + u) er) = stV true NX W U Q er → RowDoes 81 (advV S c p) (stV true (((1 : Nat) : Int) + 1) W u (S.K + u) er) (stV true NX W U Q er) M B n s (acc n s 1 (S.K + u) false 0) := fun NX U Q hs X hX => by
        by_cases hz : wordAt n s (S.K + u) = 0
        · exact ask_zero S c p true _ W u (S.K + u) er M B n s X hX h0 h1 hx.W0 hx.W1 wq hz NX U Q hs L0 (by omega) (by omega) K0 K1
        · exact ask_same S c p true _ W u (S.K + u) er M B n s X hX h0 h1 hx.W0 hx.W1 wq (Classical.byContradiction fun e => hb ⟨hz, e⟩) NX U Q hs L0 (by omega) (by omega) K0 K1
      by_cases hs : skip c (u + 1) < S.N
      · have es : seekOp S c W er (u + 1) = ⟨2, W, skip c (u + 1), er⟩ := by unfold seekOp; rw [if_pos hs]
        have k := step_ask P 3 3 1 (advV S c p) true W u (S.K + u) er true 2 W (skip c (u + 1)) (S.K + skip c (u + 1)) er M B n s (acc n s 1 (S.K + u) false 0) w st (by omega) (by omega) r1 hf hm hP (ASK 2 _ _ (if_pos hs))
        rw [es]
        exact k.mono (done _ _ _ _ _ _ _ rfl rfl rfl (.inr (.inl rfl)) (fun _ => ⟨rfl, rfl⟩))
      · have es : seekOp S c W er (u + 1) = ⟨3, W, skip c (u + 1), er⟩ := by unfold seekOp; rw [if_neg hs]
        have k := step_ask P 3 3 1 (advV S c p) true W u (S.K + u) er true 3 W u (S.K + u) er M B n s (acc n s 1 (S.K + u) false 0) w st (by omega) (by omega) r1 hf hm hP (ASK 3 _ _ (if_neg hs))
        rw [es]
        exact k.mono (done _ _ _ _ _ _ _ rfl rfl rfl (.inr (.inr (.inl rfl))) (fun e => absurd e (by simp)))
  · obtain rfl : l = 3 := e
    have est : advSt n S s ⟨3, W, L, er⟩ = acc n s 3 S.T (wordAt n s S.T == W) (ep W + 1) := by unfold advSt; rw [if_neg (by simp), if_neg (by simp), if_pos rfl]
    rw [est]
    by_cases hc : wordAt n s S.T = W
    · have eo : advOp n S c p s ⟨3, W, L, er⟩ = ⟨9, W, L, 0⟩ := by unfold advOp; rw [if_neg (by simp), if_neg (by simp), if_pos rfl, if_pos hc]
      rw [show (wordAt n s S.T == W) = true from by simp [hc]]
      have k := step_move P 3 3 2 (advV S c p) true W u q er true 0 W u q 0 M B n s (acc n s 3 S.T true (ep W + 1)) w st (by omega) (by omega) r2 hf hm hP (fun X hX => move_yes S c p true _ W u q er M B n s X hX h0 h1 hx.W0 hx.W1 T0' T1' hc)
      rw [eo]
      exact k.mono (done _ _ _ _ _ _ _ rfl rfl rfl (.inr (.inr (.inr rfl))) (fun e => absurd e (by simp)))
    · have eo : advOp n S c p s ⟨3, W, L, er⟩ = ⟨9, W, L, 14⟩ := by unfold advOp; rw [if_neg (by simp), if_neg (by simp), if_pos rfl, if_neg hc]
      rw [show (wordAt n s S.T == W) = false from by simpa using hc]
      have k := step_move P 3 3 2 (advV S c p) true W u q er true 0 W u q 14 M B n s (acc n s 3 S.T false (ep W + 1)) w st (by omega) (by omega) r2 hf hm hP (fun X hX => move_no S c p true _ W u q er M B n s X hX h0 h1 hx.W0 hx.W1 T0' T1' hc)
      rw [eo]
      exact k.mono (done _ _ _ _ _ _ _ rfl rfl rfl (.inr (.inr (.inr rfl))) (fun e => absurd e (by simp)))
  · obtain rfl : l = 9 := e
    refine (step_over P 3 3 true W u q er _ w st).mono ?_
    rintro e w' ⟨rfl, rfl⟩
    exact ⟨rfl, ⟨r0, r1, r2, ⟨u, q, st, huq⟩, hf⟩, hm, But.refl _ _⟩
set_option maxHeartbeats 1000000 in
theorem adv_step (P : Nat) (S : Stk) (c p : Int) (x : EOp) (M B n : Nat) (s : St) (w : World) (h : AdvAt w P S c p x) (hm : PMem w M B n s) (h0 : 0 ≤ s.cnt) (h1 : s.cnt ≤ 1000000) (hP : P ≠ M ∧ P ≠ B) (hl : AOk S x) (hx : x.Good) (hw : Wd n s) (he : x.line ≠ 9 → x.er = 14)
    (hN : S.N ≤ 900) (K0 : 0 ≤ S.K) (K1 : S.K ≤ 10000) (T0' : 0 ≤ S.T) (T1' : S.T < n) :
    Calls Try.prog 32 #[.pointer (some ⟨P, 0, none⟩), .pointer (some ⟨M, 0, none⟩)] w (Stepped (fun w' => AdvAt w' P S c p (advOp n S c p s x)) M B n (advSt n S s x) P ((advOp n S c p s x).line == 9) w) := by
  have K : ∀ X, Hid (Kept w X → Calls Try.prog 74 #[.pointer (some ⟨P, 3, none⟩), .slice (some ⟨P, 0, none⟩) 3 3, .pointer (some ⟨M, 0, none⟩)] X (Stepped (fun w' => AdvAt w' P S c p (advOp n S c p s x)) M B n (advSt n S s x) P ((advOp n S c p s x).line == 9) X)) := fun X => Lib.hid (fun k => adv_in P S c p x M B n s X (h.kept k) (pmem_kept hm k) h0 h1 hP hl hx hw he hN K0 K1 T0' T1')
  have hc := h.r0
  clear h hm he
  go_enter Try.func32, Try.ntmps32
  go_wp2_with fail
  go_region_held3 (fun _ => True) (first | trivial) (first
    | (go_at_call 74; (refine ((K _).out (by first | exact Kept.refl _ | exact (Kept.refl _).drew | exact (Kept.refl _).drewN _)).mono ?_); rintro e v ⟨rfl, a1, b1, c1⟩; have BT : But (fun k => k = P ∨ k = B) w v := (Kept.but (w := w) (by first | exact Kept.refl _ | exact (Kept.refl _).drew | exact (Kept.refl _).drewN _) _).trans c1 (fun _ _ h => h)))
  go_wp2
  go_ret
  exact ⟨rfl, a1, b1, BT⟩
set_option maxHeartbeats 1000000 in
theorem adv_told (P : Nat) (S : Stk) (c p : Int) (x : EOp) (w : World) (h : AdvAt w P S c p x) :
    Calls Try.prog 34 #[.pointer (some ⟨P, 0, none⟩)] w fun e w' => e = .returned (.int .i64 x.er) ∧ Kept w w' := by
  obtain ⟨_, _, _, ⟨u, q, ⟨c0, c1, c2, c3, c4, c5⟩, _⟩, _⟩ := h
  have OC : ∀ X, Hid (Calls Try.prog 72 #[stV true x.next x.W u q x.er] X fun e w' => e = .returned (.int .i64 x.er) ∧ Kept X w') := fun X => Lib.hid (outcome_any true _ _ u q x.er X)
  go_enter Try.func34, Try.ntmps34
  go_wp2_with fail
  refine (OC _).out.mono ?_
  rintro e w1 ⟨rfl, k1⟩
  go_wp2
  go_ret
  exact ⟨rfl, k1⟩
end Go.Proofs.Ytmfbjlaajcdbnaa.Ep

namespace Go.Proofs.Ytmfbjlaajcdbnaa.Ep
set_option maxRecDepth 20000
open Go.RowKit
open Wo (St acc wordAt PMem RefIs)
open Sk (Stk Wd p_load p_store p_cas pmem_kept pmem_lt pmem_frame)

structure AdvG (w : World) (P : Nat) (S : Stk) (c p nx er : Int) : Prop where
  r0 : w.cell? ⟨P, 0, none⟩ = some (.func (.func 80) #[advV S c p] #[])
  r1 : w.cell? ⟨P, 1, none⟩ = some (.func (.func 81) #[advV S c p] #[])
  r2 : w.cell? ⟨P, 2, none⟩ = some (.func (.func 82) #[advV S c p] #[])
  st : Cell6 w P 3 true nx 0 0 0 er
  f : ∀ i, w.frozen? ⟨P, i, none⟩ = false
theorem AdvG.is {w : World} {P : Nat} {S : Stk} {c p nx er : Int} (h : AdvG w P S c p nx er) {x : EOp} (h1 : x.next = nx) (h2 : x.W = 0) (h3 : x.er = er) (h4 : ¬ x.line = 2) : AdvAt w P S c p x :=
  ⟨h.r0, h.r1, h.r2, ⟨0, 0, by rw [h1, h2, h3]; exact h.st, fun e => absurd e h4⟩, h.f⟩

set_option maxHeartbeats 1000000 in
theorem newAdvance_gen (S : Stk) (c p nx er : Int) (BG : ∀ X, Hid (Calls Try.prog 76 #[seatV S c] X fun e w' => e = .returned (stV true nx 0 0 0 er) ∧ Kept X w')) (w : World) : Calls Try.prog 38 #[.agg #[.int .i64 S.T, .int .i64 S.K, .int .i64 S.N], .int .i64 c, .int .i64 p] w (Made (fun w P => AdvG w P S c p nx er) w) := by
  go_enter Try.func38, Try.ntmps38
  go_wp2_with fail
  obtain ⟨W0, hW0⟩ : ∃ W0, W0 = ((w.alloc (.cells #[.int .i64 S.T, .int .i64 S.K, .int .i64 S.N] 23)).alloc (.cells #[.int .i64 S.T, .int .i64 S.K, .int .i64 S.N, .int .i64 c, .int .i64 p] 137)) := ⟨_, rfl⟩
  have a0 : W0.cell? ⟨w.heap.size + 1, 0, none⟩ = some (.int .i64 S.T) := by rw [hW0]; exact cell_new _ _ _ _ 0 (by simp)
  have a1 : W0.cell? ⟨w.heap.size + 1, 1, none⟩ = some (.int .i64 S.K) := by rw [hW0]; exact cell_new _ _ _ _ 1 (by simp)
  have a2 : W0.cell? ⟨w.heap.size + 1, 2, none⟩ = some (.int .i64 S.N) := by rw [hW0]; exact cell_new _ _ _ _ 2 (by simp)
  have a3 : W0.cell? ⟨w.heap.size + 1, 3, none⟩ = some (.int .i64 c) := by rw [hW0]; exact cell_new _ _ _ _ 3 (by simp)
  have a4 : W0.cell? ⟨w.heap.size + 1, 4, none⟩ = some (.int .i64 p) := by rw [hW0]; exact cell_new _ _ _ _ 4 (by simp)
  have k0 : Kept w W0 := by rw [hW0]; exact ((Kept.refl w).alloc _ _).alloc _ _
  rw [← hW0]
  clear hW0
  go_region_held3 (fun w' => w'.cell? ⟨w.heap.size + 1, 0, none⟩ = some (.int .i64 S.T) ∧ w'.cell? ⟨w.heap.size + 1, 1, none⟩ = some (.int .i64 S.K) ∧ w'.cell? ⟨w.heap.size + 1, 2, none⟩ = some (.int .i64 S.N) ∧ w'.cell? ⟨w.heap.size + 1, 3, none⟩ = some (.int .i64 c) ∧ w'.cell? ⟨w.heap.size + 1, 4, none⟩ = some (.int .i64 p)) (first | go_keep | (exact ⟨k2.some a0, k2.some a1, k2.some a2, k2.some a3, k2.some a4⟩) | (exact ⟨((Kept.refl _).alloc _ _).some d0, ((Kept.refl _).alloc _ _).some d1, ((Kept.refl _).alloc _ _).some d2, ((Kept.refl _).alloc _ _).some d3, ((Kept.refl _).alloc _ _).some d4⟩)) (first
    | (go_at_call 76; refine (BG _).out.mono ?_; rintro e v ⟨rfl, k2⟩; have d0 := k2.some a0; have d1 := k2.some a1; have d2 := k2.some a2; have d3 := k2.some a3; have d4 := k2.some a4; have KT : Kept W0 v := Kept.trans (b := _) (by first | exact Kept.refl _ | exact (Kept.refl _).drew | exact (Kept.refl _).drewN _) k2))
  all_goals
    have hv : w.heap.size ≤ v.heap.size := (k0.trans KT).size
    have AT : AdvG (v.alloc (.cells #[.func (.func 80) #[advV S c p] #[], .func (.func 81) #[advV S c p] #[], .func (.func 82) #[advV S c p] #[], .bool true, .int .i64 nx, .int .u64 0, .int .i64 0, .int .i64 0, .int .i64 er] 76)) v.heap.size S c p nx er :=
      ⟨cell_new _ _ _ _ 0 rfl, cell_new _ _ _ _ 1 rfl, cell_new _ _ _ _ 2 rfl, ⟨cell_new _ _ _ _ 3 rfl, cell_new _ _ _ _ 4 rfl, cell_new _ _ _ _ 5 rfl, cell_new _ _ _ _ 6 rfl, cell_new _ _ _ _ 7 rfl, cell_new _ _ _ _ 8 rfl⟩, fun i => frozen_new _ _ _ _ _ rfl⟩
    have KK : Kept w (v.alloc (.cells #[.func (.func 80) #[advV S c p] #[], .func (.func 81) #[advV S c p] #[], .func (.func 82) #[advV S c p] #[], .bool true, .int .i64 nx, .int .u64 0, .int .i64 0, .int .i64 0, .int .i64 er] 76)) := (k0.trans KT).alloc _ _
    have AT := Lib.hid AT
    have KK := Lib.hid KK
    clear k0 KT k2 d0 d1 d2 d3 d4 a0 a1 a2 a3 a4
    go_wp2
    go_ret
    exact ⟨v.heap.size, rfl, hv, by simp, AT.out, KK.out⟩
theorem newAdvance_yes (S : Stk) (c p : Int) (w : World) (h0 : 0 ≤ c) (h1 : c < S.N) : Calls Try.prog 38 #[.agg #[.int .i64 S.T, .int .i64 S.K, .int .i64 S.N], .int .i64 c, .int .i64 p] w (Made (fun w P => AdvAt w P S c p EOp.new) w) :=
  (newAdvance_gen S c p 1 14 (fun X => Lib.hid (begun_yes S c X h0 h1)) w).mono fun _ _ ⟨P, a, b, d, e, k⟩ => ⟨P, a, b, d, e.is rfl rfl rfl (fun e => absurd e (by decide)), k⟩
theorem newAdvance_no (S : Stk) (c p : Int) (w : World) (h : c < 0 ∨ S.N ≤ c) : Calls Try.prog 38 #[.agg #[.int .i64 S.T, .int .i64 S.K, .int .i64 S.N], .int .i64 c, .int .i64 p] w (Made (fun w P => AdvAt w P S c p EOp.bad) w) :=
  (newAdvance_gen S c p 0 3 (fun X => Lib.hid (begun_no S c X h)) w).mono fun _ _ ⟨P, a, b, d, e, k⟩ => ⟨P, a, b, d, e.is rfl rfl rfl (fun e => absurd e (by decide)), k⟩
end Go.Proofs.Ytmfbjlaajcdbnaa.Ep

namespace Go.Proofs.Ytmfbjlaajcdbnaa.Ep
set_option maxRecDepth 20000
open Go.RowKit
open Wo (St acc wordAt PMem RefIs)
open Sk (Stk Wd pmem_kept pmem_lt pmem_frame)

def S3 : Stk := ⟨0, 1, 3⟩
structure In (w0 : World) (M B : Nat) (s : St) (w : World) : Prop where
  mem : PMem w M B 4 s
  kept : Kept w0 w
  lM : w0.heap.size ≤ M
  lB : w0.heap.size ≤ B
  hM : M < w.heap.size
  hB : B < w.heap.size
  wd : Wd 4 s
  c0 : 0 ≤ s.cnt
  c1 : s.cnt ≤ 900000
theorem In.grow {w0 w w' : World} {M B : Nat} {s : St} (h : In w0 M B s w) (k : Kept w w') : In w0 M B s w' := ⟨pmem_kept h.mem k, h.kept.trans k, h.lM, h.lB, Nat.lt_of_lt_of_le h.hM k.size, Nat.lt_of_lt_of_le h.hB k.size, h.wd, h.c0, h.c1⟩
structure Bk (w0 : World) (M B P : Nat) : Prop where
  l : w0.heap.size ≤ P
  m : P ≠ M
  b : P ≠ B
theorem In.bk {w0 w : World} {M B P : Nat} {s : St} (h : In w0 M B s w) (hP : w.heap.size ≤ P) : Bk w0 M B P :=
  ⟨Nat.le_trans h.kept.size hP, fun e => by have := h.hM; omega, fun e => by have := h.hB; omega⟩
theorem In.step {w0 w w' : World} {M B P : Nat} {s s' : St} (h : In w0 M B s w) (hP : Bk w0 M B P) (m : PMem w' M B 4 s') (g : But (fun k => k = P ∨ k = B) w w') (wd : Wd 4 s') (c0 : 0 ≤ s'.cnt) (c1 : s'.cnt ≤ 900000) : In w0 M B s' w' :=
  ⟨m, ((h.kept.but (fun k => k = P ∨ k = B)).trans g (fun _ _ h => h)).kept (fun k hk e => by have := hP.l; have := h.lB; rcases e with e | e <;> omega), h.lM, h.lB, Nat.lt_of_lt_of_le h.hM g.size, Nat.lt_of_lt_of_le h.hB g.size, wd, c0, c1⟩
def Does (At : World → Prop) (w0 : World) (M B : Nat) (s : St) (P : Nat) (b : Bool) (w : World) (e : Ending) (w' : World) : Prop := e = .returned (.bool b) ∧ At w' ∧ In w0 M B s w' ∧ But (fun k => k = P ∨ k = B) w w'

theorem pin3 {w0 w : World} {M B P : Nat} {s : St} {c : Int} {x : EOp} (h : In w0 M B s w) (o : PinAt w P S3 c x) (hP : Bk w0 M B P) (hx : x.Ok) (hc : s.cnt < 900000) (k0 : 0 ≤ c) (k1 : c < 3) :
    Calls Try.prog 30 #[.pointer (some ⟨P, 0, none⟩), .pointer (some ⟨M, 0, none⟩)] w (Does (fun w' => PinAt w' P S3 c (pinOp 4 S3 s x)) w0 M B (pinSt 4 S3 c s x) P ((pinOp 4 S3 s x).line == 9) w) :=
  (pin_step P S3 c x M B 4 s w o h.mem h.c0 (by omega) ⟨hP.m, hP.b⟩ hx.ln hx.good h.wd (by show (-9223372036854775808 : Int) ≤ 1 + c; omega) (by show (1 : Int) + c ≤ _; omega)).mono
    fun _ _ ⟨a, b, m, g⟩ => ⟨a, b, h.step hP m g (pin_wd h.wd) (by have := h.c0; have := (@pin_cnt 4 S3 c s x).1; omega) (by have := (@pin_cnt 4 S3 c s x).2; omega), g⟩
theorem un3 {w0 w : World} {M B P : Nat} {s : St} {c : Int} {x : EOp} (h : In w0 M B s w) (o : UnpinAt w P S3 c x) (hP : Bk w0 M B P) (hx : x.line = 1 ∨ x.line = 9) (hc : s.cnt < 900000) (k0 : 0 ≤ c) (k1 : c < 3) :
    Calls Try.prog 31 #[.pointer (some ⟨P, 0, none⟩), .pointer (some ⟨M, 0, none⟩)] w (Does (fun w' => UnpinAt w' P S3 c (unOp x)) w0 M B (unSt 4 S3 c s x) P ((unOp x).line == 9) w) :=
  (unpin_step P S3 c x M B 4 s w o h.mem h.c0 (by omega) ⟨hP.m, hP.b⟩ hx (by show (-9223372036854775808 : Int) ≤ 1 + c; omega) (by show (1 : Int) + c ≤ _; omega)).mono
    fun _ _ ⟨a, b, m, g⟩ => ⟨a, b, h.step hP m g (un_wd h.wd) (by have := h.c0; have := (@un_cnt 4 S3 c s x).1; omega) (by have := (@un_cnt 4 S3 c s x).2; omega), g⟩
theorem adv3 {w0 w : World} {M B P : Nat} {s : St} {c p : Int} {x : EOp} (h : In w0 M B s w) (o : AdvAt w P S3 c p x) (hP : Bk w0 M B P) (hx : x.Ok) (ha : AOkN S3 x) (hc : s.cnt < 900000) :
    Calls Try.prog 32 #[.pointer (some ⟨P, 0, none⟩), .pointer (some ⟨M, 0, none⟩)] w (Does (fun w' => AdvAt w' P S3 c p (advOp 4 S3 c p s x)) w0 M B (advSt 4 S3 s x) P ((advOp 4 S3 c p s x).line == 9) w) :=
  (adv_step P S3 c p x M B 4 s w o h.mem h.c0 (by omega) ⟨hP.m, hP.b⟩ ⟨hx.ln, ha.l1, ha.l2⟩ hx.good h.wd hx.busy (by decide) (by decide) (by decide) (by decide) (by decide)).mono
    fun _ _ ⟨a, b, m, g⟩ => ⟨a, b, h.step hP m g (adv_wd h.wd) (by have := h.c0; have := (@adv_cnt 4 S3 s x).1; omega) (by have := (@adv_cnt 4 S3 s x).2; omega), g⟩

set_option maxHeartbeats 1000000 in
theorem three_any (w : World) : Calls Try.prog 41 #[] w fun e w' => e = .returned (.agg #[.int .i64 S3.T, .int .i64 S3.K, .int .i64 S3.N]) ∧ Kept w w' := by
  go_enter Try.func41, Try.ntmps41
  go_wp2
  refine bodyPost_ret (v := .agg #[.int .i64 0, .int .i64 1, .int .i64 3]) (by simp [results, Try.results41, go_sem]) rfl ⟨rfl, ?_⟩
  (go_light; repeat (first | (with_reducible exact Kept.refl _) | (with_reducible assumption) | (with_reducible refine Kept.alloc ?_ _ _) | (with_reducible refine Kept.drew ?_) | (with_reducible refine Kept.drewN ?_ _) | ((with_reducible refine Kept.setCell ?_ ?_ _); rotate_left; focus (first | (simp; done) | (simp; omega))) | refine Kept.trans ?_ (by assumption)))

structure PinRun (c : Int) (s : St) (x : EOp) (k : Nat) (at_ : Int) : Prop where
  on : ∀ i, i < k → (pinIt 4 S3 c s x i).2.line ≠ 9
  off : (pinIt 4 S3 c s x k).2.line = 9
  er : (pinIt 4 S3 c s x k).2.er = 0
  told : ep (pinIt 4 S3 c s x k).2.W = at_
def PnRel (w0 w : World) (P M B : Nat) (c : Int) (s : St) (x : EOp) (k : Nat) (i : Value) (wr : World) : Prop :=
  ∃ j : Nat, i = .int .i64 (j + 1) ∧ j + 1 ≤ k ∧ In w0 M B (pinIt 4 S3 c s x j).1 wr ∧ PinAt wr P S3 c (pinIt 4 S3 c s x j).2 ∧ But (fun k => k = P ∨ k = B) w wr
set_option maxHeartbeats 2000000 in
theorem pinned3 {w0 w : World} {M B P : Nat} {s : St} {c at_ : Int} {x : EOp} {k : Nat} (h : In w0 M B s w) (o : PinAt w P S3 c x) (hP : Bk w0 M B P) (hx : x.Ok) (hc : s.cnt ≤ 800000) (k0 : 0 ≤ c) (k1 : c < 3) (hk : 1 ≤ k) (hk2 : k ≤ 100) (hr : PinRun c s x k at_) :
    Calls Try.prog 40 #[.pointer (some ⟨M, 0, none⟩), .pointer (some ⟨P, 0, none⟩), .int .i64 k, .int .i64 at_] w (Does (fun w' => PinAt w' P S3 c (pinIt 4 S3 c s x k).2) w0 M B (pinIt 4 S3 c s x k).1 P true w) := by
  have OK := Lib.hid (pinIt_ok (S := S3) (c := c) hx h.wd)
  have HR := Lib.hid hr
  have HX := Lib.hid hx
  have HH := Lib.hid h
  have HO := Lib.hid o
  clear hr hx h o
  go_enter Try.func40, Try.ntmps40
  go_wp2_with fail
  go_loopw [9] (PnRel w0 w P M B c s x k) (fun i _ => k - (intOf i).toNat)
  case atStart =>
    exact ⟨0, rfl, by omega, HH.out, HO.out, But.refl _ _⟩
  case round =>
    obtain ⟨j, rfl, hj, hI, hO, hB⟩ := hrel
    have IW := Lib.hid hI
    have BW := Lib.hid hB
    have IOp := Lib.hid hO
    obtain ⟨ok, wd, cl, ch⟩ := OK.out j
    have ST := Lib.hid (pin3 hI hO hP ok (by omega) k0 k1)
    clear hI hB hO wd cl ch ok
    by_cases hlt : j + 1 < k
    · have hl : ((j : Int) + 1 < (k : Int)) := by omega
      have hne : ((pinIt 4 S3 c s x (j + 1)).2.line == 9) = false := by
        have := HR.out.on (j + 1) hlt
        simpa using this
      go_wp2_with fail
      refine ST.out.mono ?_
      rintro e w1 ⟨rfl, o1, i1, b1⟩
      have O1 := Lib.hid o1
      have I1 := Lib.hid i1
      have B1 := Lib.hid b1
      clear o1 i1 b1
      rw [show ((pinOp 4 S3 (pinIt 4 S3 c s x j).1 (pinIt 4 S3 c s x j).2).line == 9) = false from hne]
      go_wp2_with fail
      exact ⟨⟨j + 1, by simp, by omega, I1.out, O1.out, BW.out.trans B1.out (fun _ _ h => h)⟩, by simp [intOf]; omega⟩
    · obtain rfl : k = j + 1 := by omega
      have hge : ¬ ((j : Int) + 1 < ((j + 1 : Nat) : Int)) := by omega
      have okj := (OK.out j).1
      have TJ := Lib.hid (fun (W : World) (q : Kept wr W) => pin_told P S3 c _ W (IOp.out.kept q) okj.good okj.er)
      rw [okj.busy (HR.out.on j (by omega))] at TJ
      have ok1 := (OK.out (j + 1)).1
      have T1 := Lib.hid (fun (W : World) (hO : PinAt W P S3 c (pinIt 4 S3 c s x (j + 1)).2) => pin_told P S3 c _ W hO ok1.good ok1.er)
      rw [HR.out.er, show toldAt (pinIt 4 S3 c s x (j + 1)).2 = at_ from by unfold toldAt; rw [if_pos HR.out.er]; exact HR.out.told] at T1
      have ST2 : Hid (∀ W, Kept wr W → Calls Try.prog 30 #[.pointer (some ⟨P, 0, none⟩), .pointer (some ⟨M, 0, none⟩)] W (Does (fun w' => PinAt w' P S3 c (pinIt 4 S3 c s x (j + 1)).2) w0 M B (pinIt 4 S3 c s x (j + 1)).1 P true W)) := Lib.hid (fun W q => by
        have z := pin3 (IW.out.grow q) (IOp.out.kept q) hP okj (by have := (OK.out j).2.2.2; omega) k0 k1
        have e : ((pinOp 4 S3 (pinIt 4 S3 c s x j).1 (pinIt 4 S3 c s x j).2).line == 9) = true := beq_iff_eq.2 HR.out.off
        rw [e] at z
        exact z)
      clear ST okj ok1
      go_wp2_with fail
      refine (TJ.out _ (Kept.refl _)).mono ?_
      rintro e w1 ⟨rfl, k1'⟩
      have K1 := Lib.hid k1'
      go_wp2_with fail
      refine (ST2.out _ K1.out).mono ?_
      rintro e w2 ⟨rfl, o2, i2, b2⟩
      have O2 := Lib.hid o2
      have I2 := Lib.hid i2
      have B2 := Lib.hid b2
      clear o2 i2 b2 k1'
      go_wp2_with fail
      refine (T1.out _ O2.out).mono ?_
      rintro e w3 ⟨rfl, k3⟩
      have K3 := Lib.hid k3
      clear k3
      go_wp2
      go_ret
      exact ⟨rfl, O2.out.kept K3.out, I2.out.grow K3.out, ((BW.out.then K1.out).trans B2.out (fun _ _ h => h)).then K3.out⟩

structure AdvRun (c p : Int) (s : St) (k : Nat) (er : Int) : Prop where
  on : ∀ i, i < k → (advIt 4 S3 c p s EOp.new i).2.line ≠ 9
  off : (advIt 4 S3 c p s EOp.new k).2.line = 9
  er : (advIt 4 S3 c p s EOp.new k).2.er = er
def AdRel (w0 w : World) (P M B : Nat) (c p : Int) (s : St) (k : Nat) (i : Value) (wr : World) : Prop :=
  ∃ j : Nat, i = .int .i64 (j + 1) ∧ j + 1 ≤ k ∧ In w0 M B (advIt 4 S3 c p s EOp.new j).1 wr ∧ AdvAt wr P S3 c p (advIt 4 S3 c p s EOp.new j).2 ∧ But (fun k => k = B) w wr
def Left (w0 : World) (M B : Nat) (s : St) (w : World) (e : Ending) (w' : World) : Prop := e = .returned (.bool true) ∧ In w0 M B s w' ∧ But (fun k => k = B) w w'
theorem but_new {w w' : World} {P B : Nat} (h : But (fun k => k = P ∨ k = B) w w') {a : World} (ha : But (fun k => k = B) a w) (hP : a.heap.size ≤ P) : But (fun k => k = B) a w' :=
  ha.trans h (fun i hi e => e.elim (fun e => absurd e (by omega)) id)
set_option maxHeartbeats 2000000 in
theorem advances3 {w0 w : World} {M B : Nat} {s : St} {c p er : Int} {k : Nat} (h : In w0 M B s w) (hc : s.cnt ≤ 800000) (k0 : 0 ≤ c) (k1 : c < 3) (hk : 1 ≤ k) (hk2 : k ≤ 100) (hr : AdvRun c p s k er) :
    Calls Try.prog 42 #[.pointer (some ⟨M, 0, none⟩), .int .i64 c, .int .i64 p, .int .i64 k, .int .i64 er] w (Left w0 M B (advIt 4 S3 c p s EOp.new k).1 w) := by
  have OK := Lib.hid (advIt_ok (c := c) (p := p) ok_new (at_new S3) h.wd)
  have HR := Lib.hid hr
  have HH := Lib.hid h
  clear hr h
  go_enter Try.func42, Try.ntmps42
  go_wp2_with fail
  refine (three_any _).mono ?_
  rintro e w1 ⟨rfl, q1⟩
  have Q1 := Lib.hid q1
  clear q1
  go_wp2_with fail
  refine (newAdvance_yes S3 c p _ k0 k1).mono ?_
  rintro e w2 ⟨P, rfl, lP, gP, oP, q2⟩
  have I2 := Lib.hid ((HH.out.grow Q1.out).grow q2)
  have hP := Lib.hid ((HH.out.grow Q1.out).bk lP)
  have O2 := Lib.hid oP
  have B2 := Lib.hid ((Q1.out.trans q2).but (fun k => k = B))
  have lP2 : w.heap.size ≤ P := by have := Q1.out.size; omega
  clear lP gP oP q2 Q1
  go_wp2_with fail
  go_loopw [12] (AdRel w0 w P M B c p s k) (fun i _ => k - (intOf i).toNat)
  case atStart =>
    exact ⟨0, rfl, by omega, I2.out, O2.out, B2.out⟩
  case round =>
    obtain ⟨j, rfl, hj, hI, hO, hB⟩ := hrel
    have IW := Lib.hid hI
    have BW := Lib.hid hB
    have IOp := Lib.hid hO
    obtain ⟨ok, oa, wd, cl, ch⟩ := OK.out j
    have okj := Lib.hid ok
    have ok1 := Lib.hid (OK.out (j + 1)).1
    have ST : Hid (∀ W, Kept wr W → Calls Try.prog 32 #[.pointer (some ⟨P, 0, none⟩), .pointer (some ⟨M, 0, none⟩)] W (Does (fun w' => AdvAt w' P S3 c p (advIt 4 S3 c p s EOp.new (j + 1)).2) w0 M B (advIt 4 S3 c p s EOp.new (j + 1)).1 P ((advIt 4 S3 c p s EOp.new (j + 1)).2.line == 9) W)) :=
      Lib.hid (fun W q => adv3 (IW.out.grow q) (IOp.out.kept q) hP.out ok oa (by omega))
    have T1 := Lib.hid (fun (W : World) (hO : AdvAt W P S3 c p (advIt 4 S3 c p s EOp.new (j + 1)).2) => adv_told P S3 c p _ W hO)
    clear hI hB hO wd cl ch ok oa
    by_cases hlt : j + 1 < k
    · have hl : ((j : Int) + 1 < (k : Int)) := by omega
      have hne : ((advIt 4 S3 c p s EOp.new (j + 1)).2.line == 9) = false := by
        have := HR.out.on (j + 1) hlt
        simpa using this
      rw [hne] at ST
      rw [ok1.out.busy (HR.out.on (j + 1) hlt)] at T1
      go_wp2_with fail
      refine (ST.out _ (Kept.refl _)).mono ?_
      rintro e w3 ⟨rfl, o1, i1, b1⟩
      have O1 := Lib.hid o1
      have I1 := Lib.hid i1
      have B1 := Lib.hid b1
      clear o1 i1 b1
      go_wp2_with fail
      refine (T1.out _ O1.out).mono ?_
      rintro e w4 ⟨rfl, q4⟩
      have Q4 := Lib.hid q4
      clear q4
      go_wp2_with fail
      exact ⟨⟨j + 1, by simp, by omega, I1.out.grow Q4.out, O1.out.kept Q4.out, (but_new B1.out BW.out lP2).then Q4.out⟩, by simp [intOf]; omega⟩
    · obtain rfl : k = j + 1 := by omega
      have hge : ¬ ((j : Int) + 1 < ((j + 1 : Nat) : Int)) := by omega
      have hy : ((advIt 4 S3 c p s EOp.new (j + 1)).2.line == 9) = true := beq_iff_eq.2 HR.out.off
      rw [hy] at ST
      rw [HR.out.er] at T1
      go_wp2_with fail
      refine (ST.out _ (Kept.refl _)).mono ?_
      rintro e w3 ⟨rfl, o1, i1, b1⟩
      have O1 := Lib.hid o1
      have I1 := Lib.hid i1
      have B1 := Lib.hid b1
      clear o1 i1 b1
      go_wp2_with fail
      refine (T1.out _ O1.out).mono ?_
      rintro e w4 ⟨rfl, q4⟩
      have Q4 := Lib.hid q4
      clear q4
      go_wp2
      go_ret
      exact ⟨rfl, I1.out.grow Q4.out, (but_new B1.out BW.out lP2).then Q4.out⟩

set_option maxHeartbeats 2000000 in
theorem unpinned3 {w0 w : World} {M B : Nat} {s : St} {c : Int} (h : In w0 M B s w) (hc : s.cnt ≤ 800000) (k0 : 0 ≤ c) (k1 : c < 3) :
    Calls Try.prog 43 #[.pointer (some ⟨M, 0, none⟩), .int .i64 c] w (Left w0 M B (unSt 4 S3 c s EOp.new) w) := by
  have HH := Lib.hid h
  clear h
  go_enter Try.func43, Try.ntmps43
  go_wp2_with fail
  refine (three_any _).mono ?_
  rintro e w1 ⟨rfl, q1⟩
  have Q1 := Lib.hid q1
  clear q1
  go_wp2_with fail
  refine (newUnpin_yes S3 c _ k0 k1).mono ?_
  rintro e w2 ⟨P, rfl, lP, gP, oP, q2⟩
  have I2 := Lib.hid ((HH.out.grow Q1.out).grow q2)
  have hP := Lib.hid ((HH.out.grow Q1.out).bk lP)
  have O2 := Lib.hid oP
  have B2 := Lib.hid ((Q1.out.trans q2).but (fun k => k = B))
  have lP2 : w.heap.size ≤ P := by have := Q1.out.size; omega
  clear lP gP oP q2 Q1
  go_wp2_with fail
  refine (unpin_told P S3 c _ _ O2.out).mono ?_
  rintro e w3 ⟨rfl, q3⟩
  have Q3 := Lib.hid q3
  clear q3
  go_wp2_with fail
  refine (un3 (I2.out.grow Q3.out) (O2.out.kept Q3.out) hP.out (.inl rfl) (by omega) k0 k1).mono ?_
  rintro e w4 ⟨rfl, o4, i4, b4⟩
  have O4 := Lib.hid o4
  have I4 := Lib.hid i4
  have B4 := Lib.hid b4
  clear o4 i4 b4
  go_wp2_with fail
  refine (unpin_told P S3 c _ _ O4.out).mono ?_
  rintro e w5 ⟨rfl, q5⟩
  have Q5 := Lib.hid q5
  clear q5
  go_wp2
  go_ret
  exact ⟨rfl, I4.out.grow Q5.out, (but_new B4.out (B2.out.then Q3.out) lP2).then Q5.out⟩
end Go.Proofs.Ytmfbjlaajcdbnaa.Ep
