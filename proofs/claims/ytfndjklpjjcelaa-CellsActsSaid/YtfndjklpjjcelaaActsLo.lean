/- The walk of CellsActs, over the model: a small memory. -/
import Derived.Test.YtfndjklpjjcelaaActsBase
import Derived.Deep.RegionHeld3
import Derived.Deep.DeepCutAuto
import Derived.Deep.CutBlock
namespace Go.Proofs.Ytfndjklpjjcelaa
open Go.RowKit

set_option maxHeartbeats 4000000 in
set_option maxRecDepth 100000 in
theorem acts_loop_lo (C : Cells) (n : Nat) (h1 : 1 ≤ n) (h2 : n ≤ 4096) (hno : n < 200) (b off len cap : Nat) (V : Nat → Nat → Value) (hl : len ≤ 60) (w : World)
    (hc : ∀ i, i < len → ∀ j, j < 4 → w.cell? ⟨b, off + (i * 4 + j), none⟩ = some (V i j) ∧ actR j (V i j)) :
    Calls Try.prog 3 #[.int .i64 n, .slice (some ⟨b, off, none⟩) len cap] w fun e w' => e = .returned (.bool true) ∧ Kept w w' := by
  have HC := Lib.hid hc
  have H1 := Lib.hid h1
  have H2 := Lib.hid h2
  clear hc h1
  go_enter Try.func3, Try.ntmps3
  go_wp2_with fail
  refine (C.new_yes n _ H1.out H2.out).mono ?_
  rintro e w1 ⟨M, S, rfl, i1, s1, k1⟩
  go_wp2_with fail
  refine (refNew_yes n H1.out H2.out _).mono ?_
  rintro e w2 ⟨M', B', rfl, r2, m2, b2, m2', b2', k2⟩
  have I2 : Hid (C.Is w2 M S n St.zero) := Lib.hid (C.frame i1 (k2.but (fun _ => False)) (fun _ _ h => h))
  have R2 := Lib.hid r2
  have S1 : Hid (∀ k, S k → w.heap.size ≤ k ∧ k < M' ∧ k < B') := Lib.hid (fun k h => by have := s1 k h; omega)
  have MB : Hid (w.heap.size ≤ M' ∧ w.heap.size ≤ B') := Lib.hid (by have := k1.size; omega)
  have K2 := k1.trans k2
  clear i1 s1 k1 r2 m2 b2 m2' b2' k2
  go_wp2_with fail
  go_loopw [9] (ActsRel C w n M S M' B' len) (fun i _ => len - (intOf i).toNat)
  case atStart => exact ⟨0, St.zero, Nat.zero_le _, rfl, by decide, by decide, I2.out, R2.out, K2⟩
  case round =>
    obtain ⟨k, s, hk, rfl, hs0, hs1, hi, hr, kw⟩ := hrel
    have I := Lib.hid hi
    have R := Lib.hid hr
    clear hi hr I2 R2 K2
    by_cases hlt : k < len
    · have c0 : wr.cell? ⟨b, off + k * 4, none⟩ = some (V k 0) := kw.some (HC.out k hlt 0 (by decide)).1
      have c1 : wr.cell? ⟨b, off + k * 4 + 1, none⟩ = some (V k 1) := kw.some (HC.out k hlt 1 (by decide)).1
      have c2 : wr.cell? ⟨b, off + k * 4 + 2, none⟩ = some (V k 2) := kw.some (HC.out k hlt 2 (by decide)).1
      have c3 : wr.cell? ⟨b, off + k * 4 + 3, none⟩ = some (V k 3) := kw.some (HC.out k hlt 3 (by decide)).1
      obtain ⟨a0, e0, w0⟩ := (HC.out k hlt 0 (by decide)).2.1 rfl
      obtain ⟨a1, e1, w1⟩ := (HC.out k hlt 1 (by decide)).2.2.1 rfl
      obtain ⟨a2, e2, w2⟩ := (HC.out k hlt 2 (by decide)).2.2.2.1 rfl
      obtain ⟨a3, e3, w3⟩ := (HC.out k hlt 3 (by decide)).2.2.2.2 rfl
      rw [e0] at c0
      rw [e1] at c1
      rw [e2] at c2
      rw [e3] at c3
      clear e0 e1 e2 e3 w0 w1 w2 w3
      go_upto_block 2 with fail
      go_cut [11] (CutRel C w n M S M' B' k)
      case first =>
        by_cases q1 : a0 = 1
        · subst q1
          have IX : Hid (∀ w', Kept wr w' → C.Is w' M S n s) := Lib.hid (fun w' h => C.frame I.out (h.but (fun _ => False)) (fun _ _ h => h))
          have RX : Hid (∀ w', Kept wr w' → RefIs w' M' B' n s) := Lib.hid (fun w' h => RefIs.frame R.out (h.but (fun _ => False)) (fun h => h) (fun h => h))
          have SX : Hid (∀ k, S k → k < wr.heap.size) := Lib.hid (C.low I.out)
          have NS : Hid (¬ S wr.heap.size) := Lib.hid (fun h => by have := SX.out _ h; omega)
          have NM : Hid (¬ S M' ∧ ¬ S B') := Lib.hid ⟨fun h => by have := S1.out _ h; omega, fun h => by have := S1.out _ h; omega⟩
          have NR : Hid (¬ (wr.heap.size = M' ∨ wr.heap.size = B')) := Lib.hid (by have h1 := lt_of_cell R.out.c0; have h2 := lt_of_cell (R.out.words 0 H1.out); omega)
          go_wp2_with fail
          go_region_held3 (fun w' => w'.cell? ⟨wr.heap.size, 1, none⟩ = some (.int .i64 a1)) (first | (simp [World.cell?_alloc_at]; done) | assumption | exact hb.some (by assumption) NS.out | exact hc.some (by assumption) NR.out) (first | (go_at_call 11; refine (C.load M S n s a1 _ (IX.out _ ?_) hs0 (by omega)).mono ?_; (exact ((Kept.refl _).alloc _ _).drew); rintro e w5 ⟨rfl, i5, hb⟩) | (go_at_call 12; refine (refLoad_any M' B' n s a1 _ (RefIs.frame (RX.out _ ?_) hb NM.out.1 NM.out.2) hs0 (by omega) (by omega)).mono ?_; (exact ((Kept.refl _).alloc _ _).drew); rintro e w6 ⟨rfl, r6, hc⟩))
          obtain ⟨sq, hsq⟩ : ∃ sq, sq = acc n s 1 a1 false 0 := ⟨_, rfl⟩
          rw [← hsq] at i5 r6
          have IQ : Hid (C.Is w6 M S n sq) := Lib.hid (C.frame i5 hc (fun k h => by have := S1.out k h; omega))
          have RQ : Hid (RefIs w6 M' B' n sq) := Lib.hid r6
          have CQ : Hid (0 ≤ sq.cnt ∧ sq.cnt ≤ (k + 1 : Nat)) := Lib.hid (by rw [hsq, acc_cnt]; omega)
          have KQ : Hid (Kept w w6) := Lib.hid (kept_round kw ((Kept.refl _).alloc _ _).drew hb hc S1.out MB.out)
          clear hsq i5 r6 hb hc IX RX SX NS NM NR I R kw c0 c1 c2 c3 hs0 hs1
          go_wp2_with fail
          go_meet
          exact ⟨sq, rfl, CQ.out.1, CQ.out.2, IQ.out, RQ.out, KQ.out⟩
        have x1 : (a0 == 1) = false := by simp [q1]
        by_cases q2 : a0 = 2
        · subst q2
          clear x1
          have IX : Hid (∀ w', Kept wr w' → C.Is w' M S n s) := Lib.hid (fun w' h => C.frame I.out (h.but (fun _ => False)) (fun _ _ h => h))
          have RX : Hid (∀ w', Kept wr w' → RefIs w' M' B' n s) := Lib.hid (fun w' h => RefIs.frame R.out (h.but (fun _ => False)) (fun h => h) (fun h => h))
          have SX : Hid (∀ k, S k → k < wr.heap.size) := Lib.hid (C.low I.out)
          have NS : Hid (¬ S wr.heap.size) := Lib.hid (fun h => by have := SX.out _ h; omega)
          have NM : Hid (¬ S M' ∧ ¬ S B') := Lib.hid ⟨fun h => by have := S1.out _ h; omega, fun h => by have := S1.out _ h; omega⟩
          have NR : Hid (¬ (wr.heap.size = M' ∨ wr.heap.size = B')) := Lib.hid (by have h1 := lt_of_cell R.out.c0; have h2 := lt_of_cell (R.out.words 0 H1.out); omega)
          go_wp2_with fail
          refine (C.store M S n s a1 a2 _ (IX.out _ ((Kept.refl _).alloc _ _)) hs0 (by omega)).mono ?_
          rintro e w5 ⟨rfl, i5, hb⟩
          have p1 : w5.cell? ⟨wr.heap.size, 1, none⟩ = some (.int .i64 a1) := hb.some (by simp) NS.out
          have p2 : w5.cell? ⟨wr.heap.size, 2, none⟩ = some (.int .u64 a2) := hb.some (by simp) NS.out
          go_wp2_with fail
          refine (refStore_any M' B' n s a1 a2 _ (RefIs.frame (RX.out _ ((Kept.refl _).alloc _ _)) hb NM.out.1 NM.out.2) hs0 (by omega) (by omega)).mono ?_
          rintro e w6 ⟨rfl, r6, hc⟩
          obtain ⟨sq, hsq⟩ : ∃ sq, sq = acc n s 2 a1 true a2 := ⟨_, rfl⟩
          rw [← hsq] at i5 r6
          have IQ : Hid (C.Is w6 M S n sq) := Lib.hid (C.frame i5 hc (fun k h => by have := S1.out k h; omega))
          have RQ : Hid (RefIs w6 M' B' n sq) := Lib.hid r6
          have CQ : Hid (0 ≤ sq.cnt ∧ sq.cnt ≤ (k + 1 : Nat)) := Lib.hid (by rw [hsq, acc_cnt]; omega)
          have KQ : Hid (Kept w w6) := Lib.hid (kept_round kw ((Kept.refl _).alloc _ _) hb hc S1.out MB.out)
          clear hsq i5 r6 hb hc IX RX SX NS NM NR I R kw c0 c1 c2 c3 hs0 hs1
          go_wp2_with fail
          go_meet
          exact ⟨sq, rfl, CQ.out.1, CQ.out.2, IQ.out, RQ.out, KQ.out⟩
        have x2 : (a0 == 2) = false := by simp [q2]
        by_cases q3 : a0 = 3
        · subst q3
          clear x1 x2
          have IX : Hid (∀ w', Kept wr w' → C.Is w' M S n s) := Lib.hid (fun w' h => C.frame I.out (h.but (fun _ => False)) (fun _ _ h => h))
          have RX : Hid (∀ w', Kept wr w' → RefIs w' M' B' n s) := Lib.hid (fun w' h => RefIs.frame R.out (h.but (fun _ => False)) (fun h => h) (fun h => h))
          have SX : Hid (∀ k, S k → k < wr.heap.size) := Lib.hid (C.low I.out)
          have NS : Hid (¬ S wr.heap.size) := Lib.hid (fun h => by have := SX.out _ h; omega)
          have NM : Hid (¬ S M' ∧ ¬ S B') := Lib.hid ⟨fun h => by have := S1.out _ h; omega, fun h => by have := S1.out _ h; omega⟩
          have NR : Hid (¬ (wr.heap.size = M' ∨ wr.heap.size = B')) := Lib.hid (by have h1 := lt_of_cell R.out.c0; have h2 := lt_of_cell (R.out.words 0 H1.out); omega)
          go_wp2_with fail
          go_region_held3 (fun w' => w'.cell? ⟨wr.heap.size, 1, none⟩ = some (.int .i64 a1) ∧ w'.cell? ⟨wr.heap.size, 2, none⟩ = some (.int .u64 a2) ∧ w'.cell? ⟨wr.heap.size, 3, none⟩ = some (.int .u64 a3)) (first | (simp [World.cell?_alloc_at]; done) | assumption | exact ⟨hb.some (‹_ ∧ _ ∧ _›).1 NS.out, hb.some (‹_ ∧ _ ∧ _›).2.1 NS.out, hb.some (‹_ ∧ _ ∧ _›).2.2 NS.out⟩ | exact ⟨hc.some (‹_ ∧ _ ∧ _›).1 NR.out, hc.some (‹_ ∧ _ ∧ _›).2.1 NR.out, hc.some (‹_ ∧ _ ∧ _›).2.2 NR.out⟩) (first | (go_at_call 15; refine (C.cas M S n s a1 a2 a3 _ (IX.out _ ?_) hs0 (by omega)).mono ?_; (exact ((Kept.refl _).alloc _ _).drew); rintro e w5 ⟨rfl, i5, hb⟩) | (go_at_call 16; refine (refCAS_any M' B' n s a1 a2 a3 _ (RefIs.frame (RX.out _ ?_) hb NM.out.1 NM.out.2) hs0 (by omega) (by omega)).mono ?_; (exact ((Kept.refl _).alloc _ _).drew); rintro e w6 ⟨rfl, r6, hc⟩))
          obtain ⟨sq, hsq⟩ : ∃ sq, sq = acc n s 3 a1 (wordAt n s a1 == a2) a3 := ⟨_, rfl⟩
          rw [← hsq] at i5 r6
          have IQ : Hid (C.Is w6 M S n sq) := Lib.hid (C.frame i5 hc (fun k h => by have := S1.out k h; omega))
          have RQ : Hid (RefIs w6 M' B' n sq) := Lib.hid r6
          have CQ : Hid (0 ≤ sq.cnt ∧ sq.cnt ≤ (k + 1 : Nat)) := Lib.hid (by rw [hsq, acc_cnt]; omega)
          have KQ : Hid (Kept w w6) := Lib.hid (kept_round kw ((Kept.refl _).alloc _ _).drew hb hc S1.out MB.out)
          clear hsq i5 r6 hb hc IX RX SX NS NM NR I R kw c0 c1 c2 c3 hs0 hs1
          go_wp2_with fail
          go_meet
          exact ⟨sq, rfl, CQ.out.1, CQ.out.2, IQ.out, RQ.out, KQ.out⟩
        have x3 : (a0 == 3) = false := by simp [q3]
        by_cases q4 : a0 = 4
        · subst q4
          clear x1 x2 x3
          have IX : Hid (∀ w', Kept wr w' → C.Is w' M S n s) := Lib.hid (fun w' h => C.frame I.out (h.but (fun _ => False)) (fun _ _ h => h))
          have RX : Hid (∀ w', Kept wr w' → RefIs w' M' B' n s) := Lib.hid (fun w' h => RefIs.frame R.out (h.but (fun _ => False)) (fun h => h) (fun h => h))
          have SX : Hid (∀ k, S k → k < wr.heap.size) := Lib.hid (C.low I.out)
          have NS : Hid (¬ S wr.heap.size) := Lib.hid (fun h => by have := SX.out _ h; omega)
          have NM : Hid (¬ S M' ∧ ¬ S B') := Lib.hid ⟨fun h => by have := S1.out _ h; omega, fun h => by have := S1.out _ h; omega⟩
          have NR : Hid (¬ (wr.heap.size = M' ∨ wr.heap.size = B')) := Lib.hid (by have h1 := lt_of_cell R.out.c0; have h2 := lt_of_cell (R.out.words 0 H1.out); omega)
          go_wp2_with fail
          go_region_held3 (fun w' => w'.cell? ⟨wr.heap.size, 1, none⟩ = some (.int .i64 a1) ∧ w'.cell? ⟨wr.heap.size, 2, none⟩ = some (.int .u64 a2)) (first | (simp [World.cell?_alloc_at]; done) | assumption | exact ⟨hb.some (‹_ ∧ _›).1 NS.out, hb.some (‹_ ∧ _›).2 NS.out⟩ | exact ⟨hc.some (‹_ ∧ _›).1 NR.out, hc.some (‹_ ∧ _›).2 NR.out⟩) (first | (go_at_call 17; refine (C.add M S n s a1 a2 _ (IX.out _ ?_) hs0 (by omega)).mono ?_; (exact ((Kept.refl _).alloc _ _).drew); rintro e w5 ⟨rfl, i5, hb⟩) | (go_at_call 18; refine (refAdd_any M' B' n s a1 a2 _ (RefIs.frame (RX.out _ ?_) hb NM.out.1 NM.out.2) hs0 (by omega) (by omega)).mono ?_; (exact ((Kept.refl _).alloc _ _).drew); rintro e w6 ⟨rfl, r6, hc⟩))
          obtain ⟨sq, hsq⟩ : ∃ sq, sq = acc n s 4 a1 true (IntKind.u64.wrap (wordAt n s a1 + a2)) := ⟨_, rfl⟩
          rw [← hsq] at i5 r6
          have IQ : Hid (C.Is w6 M S n sq) := Lib.hid (C.frame i5 hc (fun k h => by have := S1.out k h; omega))
          have RQ : Hid (RefIs w6 M' B' n sq) := Lib.hid r6
          have CQ : Hid (0 ≤ sq.cnt ∧ sq.cnt ≤ (k + 1 : Nat)) := Lib.hid (by rw [hsq, acc_cnt]; omega)
          have KQ : Hid (Kept w w6) := Lib.hid (kept_round kw ((Kept.refl _).alloc _ _).drew hb hc S1.out MB.out)
          clear hsq i5 r6 hb hc IX RX SX NS NM NR I R kw c0 c1 c2 c3 hs0 hs1
          go_wp2_with fail
          go_meet
          exact ⟨sq, rfl, CQ.out.1, CQ.out.2, IQ.out, RQ.out, KQ.out⟩
        have x4 : (a0 == 4) = false := by simp [q4]
        have IZ : Hid (C.Is (wr.alloc (.cells #[.int .i64 a0, .int .i64 a1, .int .u64 a2, .int .u64 a3] 33)) M S n s) := Lib.hid (C.frame I.out (((Kept.refl wr).alloc _ _).but (fun _ => False)) (fun _ _ h => h))
        have RZ : Hid (RefIs (wr.alloc (.cells #[.int .i64 a0, .int .i64 a1, .int .u64 a2, .int .u64 a3] 33)) M' B' n s) := Lib.hid (RefIs.frame R.out (((Kept.refl wr).alloc _ _).but (fun _ => False)) (fun h => h) (fun h => h))
        clear q1 q2 q3 q4
        go_wp2_with fail
        go_meet
        exact ⟨s, rfl, hs0, by omega, IZ.out, RZ.out, kw.alloc _ _⟩
      case rest =>
        obtain ⟨sq, rfl, cq0, cq1, iq, rq, kq⟩ := hcut
        obtain ⟨wq, rfl⟩ : ∃ wq, wq = wc := ⟨_, rfl⟩
        have IQ := Lib.hid iq
        have RQ := Lib.hid rq
        have CQ := Lib.hid (And.intro cq0 cq1)
        have KQ := Lib.hid kq
        clear iq rq cq0 cq1 kq I R kw c0 c1 c2 c3 hs0 hs1
        go_wp2_with fail
        refine (C.words M S n sq _ IQ.out).mono ?_
        rintro e w5 ⟨b3, c3, rfl, hb3, hb3', hw3, hf3, k5⟩
        have IW : Hid (∀ w', Kept w5 w' → C.Is w' M S n sq) := Lib.hid (fun w' h => C.frame IQ.out ((k5.trans h).but (fun _ => False)) (fun _ _ h => h))
        have R5 := RefIs.frame RQ.out (k5.but (fun _ => False)) (fun h => h) (fun h => h)
        have WX : Hid (∀ i, i < n → ∀ w', Kept w5 w' → w'.cell? ⟨b3, 0 + i, none⟩ = some (.int .u64 (sq.ws i))) := Lib.hid (fun i hi w' h => by rw [Nat.zero_add]; exact h.some (hw3 i hi))
        have WY : Hid (∀ i, i < n → ∀ w', Kept w5 w' → w'.cell? ⟨B', 0 + i, none⟩ = some (.int .u64 (sq.ws i))) := Lib.hid (fun i hi w' h => by rw [Nat.zero_add]; exact h.some (R5.words i hi))
        have HN : Hid (n ≤ 9223372036854775807) := Lib.hid (by have := H2.out; omega)
        have HF := Lib.hid hf3
        have HB : Hid (wq.heap.size ≤ b3) := Lib.hid hb3
        have m0 := R5.c0
        have m1 := R5.c1
        have m2 := R5.c2
        have m3 := R5.c3
        have m4 := R5.c4
        have m5 := R5.c5
        have m6 := R5.c6
        have R5 := Lib.hid R5
        have K5 := KQ.out.trans k5
        clear hw3 hf3 hb3 hb3' k5
        go_wp2_with fail
        go_region_held3 (fun w' => w'.cell? ⟨M', 0, none⟩ = some (.slice (some ⟨B', 0, none⟩) n n) ∧ w'.cell? ⟨M', 1, none⟩ = some (.int .i64 sq.kind) ∧ w'.cell? ⟨M', 2, none⟩ = some (.int .i64 sq.at_) ∧ w'.cell? ⟨M', 3, none⟩ = some (.int .u64 sq.old) ∧ w'.cell? ⟨M', 4, none⟩ = some (.int .u64 sq.new) ∧ w'.cell? ⟨M', 5, none⟩ = some (.bool sq.held) ∧ w'.cell? ⟨M', 6, none⟩ = some (.int .i64 sq.cnt)) (first | exact ⟨m0, m1, m2, m3, m4, m5, m6⟩ | assumption | exact ⟨hk.some (‹_ ∧ _ ∧ _ ∧ _ ∧ _ ∧ _ ∧ _›).1, hk.some (‹_ ∧ _ ∧ _ ∧ _ ∧ _ ∧ _ ∧ _›).2.1, hk.some (‹_ ∧ _ ∧ _ ∧ _ ∧ _ ∧ _ ∧ _›).2.2.1, hk.some (‹_ ∧ _ ∧ _ ∧ _ ∧ _ ∧ _ ∧ _›).2.2.2.1, hk.some (‹_ ∧ _ ∧ _ ∧ _ ∧ _ ∧ _ ∧ _›).2.2.2.2.1, hk.some (‹_ ∧ _ ∧ _ ∧ _ ∧ _ ∧ _ ∧ _›).2.2.2.2.2.1, hk.some (‹_ ∧ _ ∧ _ ∧ _ ∧ _ ∧ _ ∧ _›).2.2.2.2.2.2⟩) (first | (go_at_call 20; refine (C.last M S n sq _ (IW.out _ ?_)).mono ?_; (repeat (first | exact Kept.refl _ | refine Kept.drew ?_ | refine Kept.trans ?_ (by assumption))); rintro e w' ⟨rfl, hk⟩) | (go_at_call 21; refine (C.count M S n sq _ (IW.out _ ?_)).mono ?_; (repeat (first | exact Kept.refl _ | refine Kept.drew ?_ | refine Kept.trans ?_ (by assumption))); rintro e w' ⟨rfl, hk⟩) | (go_at_call 22; refine (C.size M S n sq _ (IW.out _ ?_)).mono ?_; (repeat (first | exact Kept.refl _ | refine Kept.drew ?_ | refine Kept.trans ?_ (by assumption))); rintro e w' ⟨rfl, hk⟩) | (go_at_call 23; refine (sameWords_yes b3 0 c3 B' 0 n n sq.ws _ HN.out ?_ ?_).mono ?_; (exact fun i hi => (WX.out i hi _ (by (repeat (first | exact Kept.refl _ | refine Kept.drew ?_ | refine Kept.trans ?_ (by assumption)))))); (exact fun i hi => (WY.out i hi _ (by (repeat (first | exact Kept.refl _ | refine Kept.drew ?_ | refine Kept.trans ?_ (by assumption)))))); rintro e w' ⟨rfl, hk⟩))
        go_wp2_with fail
        obtain ⟨wz, hwz⟩ : ∃ wz, Kept w5 wz ∧ wz = w' := ⟨w', by repeat (first | exact Kept.refl _ | refine Kept.drew ?_ | refine Kept.trans ?_ (by assumption)), rfl⟩
        obtain ⟨KW, rfl⟩ := hwz
        clear hk
        refine (overWords_any b3 0 c3 n sq.ws _ HN.out (fun i hi => WX.out i hi _ KW) (fun i => by rw [KW.froze]; exact HF.out i)).mono ?_
        rintro e w8 ⟨rfl, b8⟩
        have IZ : Hid (C.Is w8 M S n sq) := Lib.hid (C.frame (IW.out _ KW) b8 (fun k h e => by have h1 := C.low IQ.out k h; have h2 := HB.out; omega))
        have RZ : Hid (RefIs w8 M' B' n sq) := Lib.hid (RefIs.frame (RefIs.frame R5.out (KW.but (fun _ => False)) (fun h => h) (fun h => h)) b8 (fun e => by have h1 := lt_of_cell RQ.out.c0; have h2 := HB.out; omega) (fun e => by have h1 := lt_of_cell (RQ.out.words 0 H1.out); have h2 := HB.out; omega))
        have KZ : Hid (Kept w w8) := Lib.hid ((((K5.trans KW).but (fun k => k = b3)).trans b8 (fun _ _ h => h)).kept (fun k hk e => by have h1 := HB.out; have h2 := KQ.out.size; omega))
        clear IW R5 WX WY HF HB K5 KW b8 IQ RQ KQ HN
        go_wp2
        go_roundw
        case rel => exact ⟨k + 1, sq, by omega, by go_num, CQ.out.1, CQ.out.2, IZ.out, RZ.out, KZ.out⟩
        case measure => simp [intOf]; omega
    · go_wp2_with fail
      refine (awake_any C _).mono ?_
      rintro e w' ⟨rfl, k'⟩
      go_wp2
      go_ret
      exact ⟨rfl, kw.trans k'⟩

end Go.Proofs.Ytfndjklpjjcelaa
