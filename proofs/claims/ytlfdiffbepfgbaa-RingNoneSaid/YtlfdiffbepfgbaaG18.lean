/- RingNone: what is nil, what nobody made, a memory that is none. Written by gen14q.py. -/
import Derived.Test.YtlfdiffbepfgbaaG17
import Derived.Test.YtlfdiffbepfgbaaG15
set_option linter.unusedVariables false
set_option linter.unusedSimpArgs false

namespace Go.Proofs.Ytlfdiffbepfgbaa.Ri
set_option maxRecDepth 20000
open Go.RowKit
open Wo (St acc wordAt PMem RefIs)
open Sk (Wd pmem_kept pmem_lt pmem_frame p_new p_words p_count)

theorem past {w : World} {b o : Nat} {v : Value} (h : w.cell? ⟨b, o, none⟩ = some v) (c : Array Value) (t : TypeId) : (w.alloc (.cells c t)).cell? ⟨b, o, none⟩ = some v := ((Kept.refl w).alloc c t).some h
theorem p_new9 (w : World) : Calls Try.prog 6 #[.int .i64 9] w
    fun e w' => ∃ M B, e = .returned (.tuple #[.pointer (some ⟨M, 0, none⟩), .int .i64 0]) ∧ PMem w' M B 9 Wo.St.zero ∧ Kept w w' :=
  (p_new 9 (by decide) (by decide) w).mono fun _ _ ⟨h1, h2, _, h4⟩ => ⟨_, _, h1, h2, h4⟩
theorem count0 {w : World} {M B : Nat} (hm : PMem w M B 9 Wo.St.zero) : Calls Try.prog 20 #[.pointer (some ⟨M, 0, none⟩)] w fun e w' => e = .returned (.int .i64 0) ∧ w = w' := p_count M B 9 _ w hm
structure NnA (w : World) (M B g1 g2 g3 P U A E : Nat) (R : Rng) : Prop where
  mem : PMem w M B 9 Wo.St.zero
  a0 : w.cell? ⟨g1, 0, none⟩ = some (.pointer none)
  a1 : w.cell? ⟨g1, 1, none⟩ = some (.pointer (some ⟨P, 0, none⟩))
  b0 : w.cell? ⟨g2, 0, none⟩ = some (.pointer none)
  b1 : w.cell? ⟨g2, 1, none⟩ = some (.pointer (some ⟨U, 0, none⟩))
  d0 : w.cell? ⟨g3, 0, none⟩ = some (.pointer none)
  d1 : w.cell? ⟨g3, 1, none⟩ = some (.pointer (some ⟨A, 0, none⟩))
  zp : ZAt w P
  zu : ZAt w U
  za : ZAt w A
  e0 : w.cell? ⟨E, 0, none⟩ = some (.int .i64 R.H)
  e1 : w.cell? ⟨E, 1, none⟩ = some (.int .i64 R.T)
  e2 : w.cell? ⟨E, 2, none⟩ = some (.int .i64 R.K)
  e3 : w.cell? ⟨E, 3, none⟩ = some (.int .i64 R.N)
theorem NnA.kept {w w' : World} {M B g1 g2 g3 P U A E : Nat} {R : Rng} (h : NnA w M B g1 g2 g3 P U A E R) (k : Kept w w') : NnA w' M B g1 g2 g3 P U A E R :=
  ⟨pmem_kept h.mem k, k.some h.a0, k.some h.a1, k.some h.b0, k.some h.b1, k.some h.d0, k.some h.d1, h.zp.kept k, h.zu.kept k, h.za.kept k, k.some h.e0, k.some h.e1, k.some h.e2, k.some h.e3⟩

set_option maxHeartbeats 8000000 in
theorem none_any (R : Rng) (v h : Int) (h0 : 0 ≤ h) (h1 : h < 18446744073709551616) (w : World) : Calls Try.prog 3 #[ringV R, .int .i64 v, .int .u64 h] w fun e w' => e = .returned (.bool true) ∧ Kept w w' := by
  have aw := Lib.hid awake_any
  go_enter Try.func3, Try.ntmps3
  go_wp2_with fail
  refine (p_new9 _).mono ?_
  rintro e w1 ⟨M, B, rfl, m1, k1⟩
  have eqn : ∀ W, (binOp .eql 25 (.pointer (some ⟨M, 0, none⟩)) (.pointer none)).run Try.prog W = .ok (.bool false) W := fun W => by kernel_rfl
  have lE : w.heap.size < w1.heap.size := by have := k1.size; simp at this; omega
  have E0 : w1.cell? ⟨w.heap.size, 0, none⟩ = some (.int .i64 R.H) := k1.some (cell_new _ _ _ _ 0 rfl)
  have E1 : w1.cell? ⟨w.heap.size, 1, none⟩ = some (.int .i64 R.T) := k1.some (cell_new _ _ _ _ 1 rfl)
  have E2 : w1.cell? ⟨w.heap.size, 2, none⟩ = some (.int .i64 R.K) := k1.some (cell_new _ _ _ _ 2 rfl)
  have E3 : w1.cell? ⟨w.heap.size, 3, none⟩ = some (.int .i64 R.N) := k1.some (cell_new _ _ _ _ 3 rfl)
  have M1 := Lib.hid m1
  have K1 : Hid (Kept w w1) := Lib.hid (Kept.trans ((Kept.refl _).alloc _ _) k1)
  clear m1 k1
  go_wp2_with fail
  refine wp_loop_rounds 3 ?_
  rw [rounds_succ]
  go_wp2_with fail
  refine (told_nil_Front _).mono ?_
  rintro e _ ⟨rfl, rfl⟩
  go_wp2_with fail
  refine (nil_Push _ _).mono ?_
  rintro e _ ⟨rfl, rfl⟩
  go_wp2_with fail
  refine (nil_Front _ _).mono ?_
  rintro e w2 ⟨rfl, hw2⟩
  have KA : Kept w1 w2 := by rw [← hw2]; exact (((((((Kept.refl w1).alloc _ _).alloc _ _).alloc _ _).alloc _ _).alloc _ _).alloc _ _)
  have K2 := Lib.hid (K1.out.trans KA)
  have NN2 : Hid (NnA w2 M B (w1.heap.size + 1) (w1.heap.size + 1 + 1 + 1) (w1.heap.size + 1 + 1 + 1 + 1 + 1) w1.heap.size (w1.heap.size + 1 + 1) (w1.heap.size + 1 + 1 + 1 + 1) w.heap.size R) := Lib.hid (by
    rw [← hw2]
    exact ⟨by rw [hw2]; exact pmem_kept M1.out KA, (by repeat (first | (refine (cell_new _ _ _ _ _ ?_).trans ?_ <;> first | (simp; done) | rfl) | refine past ?_ _ _)), (by repeat (first | (refine (cell_new _ _ _ _ _ ?_).trans ?_ <;> first | (simp; done) | rfl) | refine past ?_ _ _)), (by repeat (first | (refine (cell_new _ _ _ _ _ ?_).trans ?_ <;> first | (simp; done) | rfl) | refine past ?_ _ _)), (by repeat (first | (refine (cell_new _ _ _ _ _ ?_).trans ?_ <;> first | (simp; done) | rfl) | refine past ?_ _ _)), (by repeat (first | (refine (cell_new _ _ _ _ _ ?_).trans ?_ <;> first | (simp; done) | rfl) | refine past ?_ _ _)), (by repeat (first | (refine (cell_new _ _ _ _ _ ?_).trans ?_ <;> first | (simp; done) | rfl) | refine past ?_ _ _)), ⟨(by repeat (first | (refine (cell_new _ _ _ _ _ ?_).trans ?_ <;> first | (simp; done) | rfl) | refine past ?_ _ _)), (by repeat (first | (refine (cell_new _ _ _ _ _ ?_).trans ?_ <;> first | (simp; done) | rfl) | refine past ?_ _ _)), (by repeat (first | (refine (cell_new _ _ _ _ _ ?_).trans ?_ <;> first | (simp; done) | rfl) | refine past ?_ _ _))⟩, ⟨(by repeat (first | (refine (cell_new _ _ _ _ _ ?_).trans ?_ <;> first | (simp; done) | rfl) | refine past ?_ _ _)), (by repeat (first | (refine (cell_new _ _ _ _ _ ?_).trans ?_ <;> first | (simp; done) | rfl) | refine past ?_ _ _)), (by repeat (first | (refine (cell_new _ _ _ _ _ ?_).trans ?_ <;> first | (simp; done) | rfl) | refine past ?_ _ _))⟩, ⟨(by repeat (first | (refine (cell_new _ _ _ _ _ ?_).trans ?_ <;> first | (simp; done) | rfl) | refine past ?_ _ _)), (by repeat (first | (refine (cell_new _ _ _ _ _ ?_).trans ?_ <;> first | (simp; done) | rfl) | refine past ?_ _ _)), (by repeat (first | (refine (cell_new _ _ _ _ _ ?_).trans ?_ <;> first | (simp; done) | rfl) | refine past ?_ _ _))⟩, by rw [hw2]; exact KA.some E0, by rw [hw2]; exact KA.some E1, by rw [hw2]; exact KA.some E2, by rw [hw2]; exact KA.some E3⟩)
  clear E0 E1 E2 E3 KA M1 hw2
  obtain ⟨_, a0, a1, b0, b1, d0, d1, _, _, _, e0, e1, e2, e3⟩ := NN2.out
  have lE2 : w.heap.size < w2.heap.size := lt_of_cell e0
  have lMB := pmem_lt NN2.out.mem
  go_wp2_with fail
  refine (nil_Drop _ _).mono ?_
  rintro e _ ⟨rfl, rfl⟩
  go_wp2_with fail
  refine (at_nil_Front _).mono ?_
  rintro e _ ⟨rfl, rfl⟩
  go_wp2_with fail
  refine (told_nil_Push _).mono ?_
  rintro e _ ⟨rfl, rfl⟩
  go_wp2_with fail
  refine (told_nil_Drop _).mono ?_
  rintro e _ ⟨rfl, rfl⟩
  go_wp2_with fail
  rw [rounds_succ]
  go_wp2_with fail
  refine (ztold_Front _ _ NN2.out.zu).mono ?_
  rintro e _ ⟨rfl, rfl⟩
  go_wp2_with fail
  refine (zstep_Push _ _ _ NN2.out.zp).mono ?_
  rintro e _ ⟨rfl, rfl⟩
  go_wp2_with fail
  refine (zstep_Front _ _ _ NN2.out.zu).mono ?_
  rintro e _ ⟨rfl, rfl⟩
  go_wp2_with fail
  refine (zstep_Drop _ _ _ NN2.out.za).mono ?_
  rintro e _ ⟨rfl, rfl⟩
  go_wp2_with fail
  refine (zat_Front _ _ NN2.out.zu).mono ?_
  rintro e _ ⟨rfl, rfl⟩
  go_wp2_with fail
  refine (ztold_Push _ _ NN2.out.zp).mono ?_
  rintro e _ ⟨rfl, rfl⟩
  go_wp2_with fail
  refine (ztold_Drop _ _ NN2.out.za).mono ?_
  rintro e _ ⟨rfl, rfl⟩
  go_wp2_with fail
  rw [rounds_succ]
  by_cases hbig : 100 < R.N ∧ R.N ≤ 4096
  · have g1 := hbig.1
    have g2 := hbig.2
    go_wp2_with fail
    refine (aw.out _).mono ?_
    rintro e w3 ⟨rfl, k3⟩
    go_wp2
    go_ret
    exact ⟨rfl, K2.out.trans k3⟩
  by_cases hbad : R.N < 1 ∨ 4096 < R.N
  · have NP := fun W => Lib.hid (newPush_arg R v hbad W)
    have NF := fun W => Lib.hid (newFront_arg R hbad W)
    have ND := fun W => Lib.hid (newDrop_arg R h hbad W)
    have FB := fun W => Lib.hid (fill_bad R (.pointer (some ⟨M, 0, none⟩)) W hbad)
    have AB := fun W => Lib.hid (all_bad R (.pointer (some ⟨M, 0, none⟩)) W hbad)
    have hsz : R.N < 1 ∨ (1 ≤ R.N ∧ 4096 < R.N) := by omega
    have hb1 : ¬ (100 < R.N ∧ R.N ≤ 4096) := hbig
    clear hbad hbig
    rcases hsz with z1 | ⟨z0, z1⟩
    all_goals
      have KT : Kept w2 w2 := Kept.refl _
      go_wp2_with fail
      go_region_held3 (fun w' => w'.cell? ⟨w.heap.size, 0, none⟩ = some (.int .i64 R.H) ∧ w'.cell? ⟨w.heap.size, 1, none⟩ = some (.int .i64 R.T) ∧ w'.cell? ⟨w.heap.size, 2, none⟩ = some (.int .i64 R.K) ∧ w'.cell? ⟨w.heap.size, 3, none⟩ = some (.int .i64 R.N)) (first | go_keep | (with_reducible exact ⟨KT.some e0, KT.some e1, KT.some e2, KT.some e3⟩)) (first
        | (go_at_call 15; refine (NP _).out.mono ?_; rintro e x1 ⟨A1, rfl, l1, g1, o1, q1⟩; have KT : Kept w2 x1 := Kept.trans (b := _) (by first | exact KT | exact KT.drew | exact KT.drewN _) q1; have KP := KT)
        | (go_at_call 16; refine (NF _).out.mono ?_; rintro e x2 ⟨A2, rfl, l2, g2, o2, q2⟩; have KT : Kept w2 x2 := Kept.trans (b := _) (by first | exact KT | exact KT.drew | exact KT.drewN _) q2; have KF := q2)
        | (go_at_call 17; refine (ND _).out.mono ?_; rintro e x3 ⟨A3, rfl, l3, g3, o3, q3⟩; have KT : Kept w2 x3 := Kept.trans (b := _) (by first | exact KT | exact KT.drew | exact KT.drewN _) q3; have KD := q3))
      have kx12 : Kept x1 x2 := (by first | exact q2 | exact Kept.trans (Kept.refl _).drew q2 | exact Kept.trans ((Kept.refl _).drewN _) q2)
      have kx23 : Kept x2 x3 := (by first | exact q3 | exact Kept.trans (Kept.refl _).drew q3 | exact Kept.trans ((Kept.refl _).drewN _) q3)
      have O1 := Lib.hid ((o1.kept kx12).kept kx23)
      have O2 := Lib.hid (o2.kept kx23)
      have O3 := Lib.hid o3
      have n12 : A1 ≠ A2 := fun e => by
        have h1 := (o1.kept (Kept.refl _)).lt
        have h2 := kx12
        have h3 : x1.heap.size ≤ A2 := l2
        omega
      have gA : w2.heap.size ≤ A2 := Nat.le_trans KP.size l2
      have MX := Lib.hid (pmem_kept NN2.out.mem KT)
      have KX := Lib.hid (K2.out.trans KT)
      have e0 := KT.some e0
      have e1 := KT.some e1
      have e2 := KT.some e2
      have e3 := KT.some e3
      clear o1 o2 o3 q1 q2 q3 kx12 kx23 KT KP KF KD a0 a1 b0 b1 d0 d1 l1 l2 l3 g1 g2 g3
      go_wp2_with fail
      refine (FB _).out.mono ?_
      rintro e y1 ⟨rfl, r1⟩
      have e0 := r1.some e0
      have e1 := r1.some e1
      have e2 := r1.some e2
      have e3 := r1.some e3
      have O1 := Lib.hid (O1.out.kept r1)
      have O2 := Lib.hid (O2.out.kept r1)
      have O3 := Lib.hid (O3.out.kept r1)
      have MX := Lib.hid (pmem_kept MX.out r1)
      have KX := Lib.hid (KX.out.trans r1)
      clear r1
      go_wp2_with fail
      refine (told_Front A2 R ⟨0, 0, 0, 0, 2⟩ _ O2.out).mono ?_
      rintro e _ ⟨rfl, rfl⟩
      go_wp2_with fail
      refine (over_Push A1 R ⟨0, 0, 0, v, 2⟩ _ _ O1.out rfl).mono ?_
      rintro e _ ⟨rfl, rfl⟩
      go_wp2_with fail
      refine (over_Front A2 R ⟨0, 0, 0, 0, 2⟩ _ _ O2.out rfl).mono ?_
      rintro e _ ⟨rfl, rfl⟩
      go_wp2_with fail
      refine (over_Drop A3 R ⟨0, h, 0, 0, 2⟩ _ _ O3.out rfl).mono ?_
      rintro e _ ⟨rfl, rfl⟩
      go_wp2_with fail
      refine (told_Push A1 R ⟨0, 0, 0, v, 2⟩ _ O1.out).mono ?_
      rintro e _ ⟨rfl, rfl⟩
      go_wp2_with fail
      refine (told_Drop A3 R ⟨0, h, 0, 0, 2⟩ _ O3.out).mono ?_
      rintro e _ ⟨rfl, rfl⟩
      go_wp2_with fail
      refine (AB _).out.mono ?_
      rintro e y2 ⟨rfl, r2⟩
      have MY := Lib.hid (pmem_kept MX.out r2)
      have KY := Lib.hid (KX.out.trans r2)
      clear r2
      go_wp2_with fail
      refine (count0 MY.out).mono ?_
      rintro e _ ⟨rfl, rfl⟩
      go_wp2_with fail
      refine (aw.out _).mono ?_
      rintro e y3 ⟨rfl, r3⟩
      go_wp2
      go_ret
      exact ⟨rfl, KY.out.trans r3⟩
  · have n1 : 1 ≤ R.N := by omega
    have n2 : R.N ≤ 100 := by omega
    have n3 : R.N ≤ 4096 := by omega
    have NF := fun W => Lib.hid (newFront_yes R n1 n3 W)
    have ND := fun W => Lib.hid (newDrop_yes R h n1 n3 W)
    have FN := fun W => Lib.hid (fill_nil R W n1 n3)
    have AN := fun W => Lib.hid (all_nil R W n1 n3)
    clear hbad hbig
    by_cases hv : 0 ≤ v ∧ v ≤ 65535
    · have NP := fun W => Lib.hid (newPush_yes R v n1 n3 hv.1 hv.2 W)
      have v0 := hv.1
      have v1 := hv.2
      clear hv
      have KT : Kept w2 w2 := Kept.refl _
      go_wp2_with fail
      go_region_held3 (fun w' => w'.cell? ⟨w.heap.size, 0, none⟩ = some (.int .i64 R.H) ∧ w'.cell? ⟨w.heap.size, 1, none⟩ = some (.int .i64 R.T) ∧ w'.cell? ⟨w.heap.size, 2, none⟩ = some (.int .i64 R.K) ∧ w'.cell? ⟨w.heap.size, 3, none⟩ = some (.int .i64 R.N)) (first | go_keep | (with_reducible exact ⟨KT.some e0, KT.some e1, KT.some e2, KT.some e3⟩)) (first
        | (go_at_call 15; refine (NP _).out.mono ?_; rintro e x1 ⟨A1, rfl, l1, g1, o1, q1⟩; have KT : Kept w2 x1 := Kept.trans (b := _) (by first | exact KT | exact KT.drew | exact KT.drewN _) q1; have KP := KT)
        | (go_at_call 16; refine (NF _).out.mono ?_; rintro e x2 ⟨A2, rfl, l2, g2, o2, q2⟩; have KT : Kept w2 x2 := Kept.trans (b := _) (by first | exact KT | exact KT.drew | exact KT.drewN _) q2; have KF := q2)
        | (go_at_call 17; refine (ND _).out.mono ?_; rintro e x3 ⟨A3, rfl, l3, g3, o3, q3⟩; have KT : Kept w2 x3 := Kept.trans (b := _) (by first | exact KT | exact KT.drew | exact KT.drewN _) q3; have KD := q3))
      have kx12 : Kept x1 x2 := (by first | exact q2 | exact Kept.trans (Kept.refl _).drew q2 | exact Kept.trans ((Kept.refl _).drewN _) q2)
      have kx23 : Kept x2 x3 := (by first | exact q3 | exact Kept.trans (Kept.refl _).drew q3 | exact Kept.trans ((Kept.refl _).drewN _) q3)
      have O1 := Lib.hid ((o1.kept kx12).kept kx23)
      have O2 := Lib.hid (o2.kept kx23)
      have O3 := Lib.hid o3
      have n12 : A1 ≠ A2 := fun e => by
        have h1 := (o1.kept (Kept.refl _)).lt
        have h2 := kx12
        have h3 : x1.heap.size ≤ A2 := l2
        omega
      have gA : w2.heap.size ≤ A2 := Nat.le_trans KP.size l2
      have MX := Lib.hid (pmem_kept NN2.out.mem KT)
      have KX := Lib.hid (K2.out.trans KT)
      have e0 := KT.some e0
      have e1 := KT.some e1
      have e2 := KT.some e2
      have e3 := KT.some e3
      clear o1 o2 o3 q1 q2 q3 kx12 kx23 KT KP KF KD a0 a1 b0 b1 d0 d1 l1 l2 l3 g1 g2 g3
      go_wp2_with fail
      refine (FN _).out.mono ?_
      rintro e y1 ⟨rfl, r1⟩
      have e0 := r1.some e0
      have e1 := r1.some e1
      have e2 := r1.some e2
      have e3 := r1.some e3
      have O2 := Lib.hid (O2.out.kept r1)
      have MX := Lib.hid (pmem_kept MX.out r1)
      have KX := Lib.hid (KX.out.trans r1)
      clear r1
      have ST1 := Lib.hid (nfront_6 A2 R 0 0 0 14 0 0 0 14 _ O2.out (Lib.hid (nrow_findHead A2 R 0 0 0 _ 14 _ O2.out)))
      go_wp2_with fail
      refine ST1.out.mono ?_
      rintro e y2 ⟨rfl, p2, b2⟩
      have e0 := b2.some e0 (by omega)
      have e1 := b2.some e1 (by omega)
      have e2 := b2.some e2 (by omega)
      have e3 := b2.some e3 (by omega)
      have ST2 := Lib.hid (nfront_7 A2 R 0 0 0 14 0 0 0 15 _ p2 (Lib.hid (nrow_ahead A2 R n1 n3 0 0 0 _ 14 _ p2 (by decide) (by decide))))
      have MY := Lib.hid (pmem_frame MX.out b2 (by omega) (by omega))
      have B2 := Lib.hid b2
      clear p2 b2 ST1
      go_wp2_with fail
      refine ST2.out.mono ?_
      rintro e y3 ⟨rfl, p3, b3⟩
      have e0 := b3.some e0 (by omega)
      have e1 := b3.some e1 (by omega)
      have e2 := b3.some e2 (by omega)
      have e3 := b3.some e3 (by omega)
      have P3 : Hid (RAt y3 A2 R ⟨0, 0, 0, 0, 15⟩) := Lib.hid p3
      have MZ := Lib.hid (pmem_frame MY.out b3 (by omega) (by omega))
      have B3 := Lib.hid (B2.out.trans b3 (fun _ _ h => h))
      clear p3 b3 ST2
      go_wp2_with fail
      refine (told_Front A2 R ⟨0, 0, 0, 0, 15⟩ _ P3.out).mono ?_
      rintro e _ ⟨rfl, rfl⟩
      go_wp2_with fail
      refine (AN _).out.mono ?_
      rintro e y4 ⟨a4, c4, rfl, r4⟩
      have M4 := Lib.hid (pmem_kept MZ.out r4)
      have B4 := Lib.hid (B3.out.then r4)
      clear r4
      go_wp2_with fail
      refine (count0 M4.out).mono ?_
      rintro e _ ⟨rfl, rfl⟩
      go_wp2_with fail
      refine (aw.out _).mono ?_
      rintro e y5 ⟨rfl, r5⟩
      go_wp2
      go_ret
      exact ⟨rfl, (((KX.out.but (fun k => k = A2)).trans (B4.out.then r5) (fun _ _ h => h)).kept (fun k hk e => by have := K2.out.size; omega))⟩
    · have NP : ∀ W, Hid (Calls Try.prog 15 #[ringV R, .int .i64 v] W (Made (fun w' P => RAt w' P R (pushBad v)) W)) := fun W => Lib.hid (by have := newPush_any R v n1 n3 W; rwa [if_neg hv] at this)
      have hsz : v < 0 ∨ (0 ≤ v ∧ 65535 < v) := by omega
      clear hv
      rcases hsz with z1 | ⟨z0, z1⟩
      all_goals
        have KT : Kept w2 w2 := Kept.refl _
        go_wp2_with fail
        go_region_held3 (fun w' => w'.cell? ⟨w.heap.size, 0, none⟩ = some (.int .i64 R.H) ∧ w'.cell? ⟨w.heap.size, 1, none⟩ = some (.int .i64 R.T) ∧ w'.cell? ⟨w.heap.size, 2, none⟩ = some (.int .i64 R.K) ∧ w'.cell? ⟨w.heap.size, 3, none⟩ = some (.int .i64 R.N)) (first | go_keep | (with_reducible exact ⟨KT.some e0, KT.some e1, KT.some e2, KT.some e3⟩)) (first
          | (go_at_call 15; refine (NP _).out.mono ?_; rintro e x1 ⟨A1, rfl, l1, g1, o1, q1⟩; have KT : Kept w2 x1 := Kept.trans (b := _) (by first | exact KT | exact KT.drew | exact KT.drewN _) q1; have KP := KT)
          | (go_at_call 16; refine (NF _).out.mono ?_; rintro e x2 ⟨A2, rfl, l2, g2, o2, q2⟩; have KT : Kept w2 x2 := Kept.trans (b := _) (by first | exact KT | exact KT.drew | exact KT.drewN _) q2; have KF := q2)
          | (go_at_call 17; refine (ND _).out.mono ?_; rintro e x3 ⟨A3, rfl, l3, g3, o3, q3⟩; have KT : Kept w2 x3 := Kept.trans (b := _) (by first | exact KT | exact KT.drew | exact KT.drewN _) q3; have KD := q3))
        have kx12 : Kept x1 x2 := (by first | exact q2 | exact Kept.trans (Kept.refl _).drew q2 | exact Kept.trans ((Kept.refl _).drewN _) q2)
        have kx23 : Kept x2 x3 := (by first | exact q3 | exact Kept.trans (Kept.refl _).drew q3 | exact Kept.trans ((Kept.refl _).drewN _) q3)
        have O1 := Lib.hid ((o1.kept kx12).kept kx23)
        have O2 := Lib.hid (o2.kept kx23)
        have O3 := Lib.hid o3
        have n12 : A1 ≠ A2 := fun e => by
          have h1 := (o1.kept (Kept.refl _)).lt
          have h2 := kx12
          have h3 : x1.heap.size ≤ A2 := l2
          omega
        have gA : w2.heap.size ≤ A2 := Nat.le_trans KP.size l2
        have MX := Lib.hid (pmem_kept NN2.out.mem KT)
        have KX := Lib.hid (K2.out.trans KT)
        have e0 := KT.some e0
        have e1 := KT.some e1
        have e2 := KT.some e2
        have e3 := KT.some e3
        clear o1 o2 o3 q1 q2 q3 kx12 kx23 KT KP KF KD a0 a1 b0 b1 d0 d1 l1 l2 l3 g1 g2 g3
        go_wp2_with fail
        refine (over_Push A1 R (pushBad v) _ _ O1.out rfl).mono ?_
        rintro e _ ⟨rfl, rfl⟩
        go_wp2_with fail
        refine (told_Push A1 R (pushBad v) _ O1.out).mono ?_
        rintro e _ ⟨rfl, rfl⟩
        go_wp2_with fail
        refine (count0 MX.out).mono ?_
        rintro e _ ⟨rfl, rfl⟩
        go_wp2_with fail
        refine (aw.out _).mono ?_
        rintro e y3 ⟨rfl, r3⟩
        go_wp2
        go_ret
        exact ⟨rfl, KX.out.trans r3⟩
end Go.Proofs.Ytlfdiffbepfgbaa.Ri
