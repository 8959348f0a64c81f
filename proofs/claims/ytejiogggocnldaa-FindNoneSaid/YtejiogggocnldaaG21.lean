/- FindNone. Written by gen16j.py. -/
import Derived.Test.YtejiogggocnldaaG16
import Derived.Test.YtejiogggocnldaaG19
import Derived.Test.YtejiogggocnldaaG20
import Derived.Test.YtejiogggocnldaaG00
import Derived.Deep.RegionHeld3
import Derived.WalkKit
set_option linter.unusedVariables false
set_option linter.unusedSimpArgs false

namespace Go.Proofs.Ytejiogggocnldaa.Fd
set_option maxRecDepth 20000
open Go.RowKit
open Wo (St acc wordAt PMem RefIs)
open Sk (Stk Arn idx Wd p_count p_new pmem_lt pmem_kept pmem_frame kept_of)
open Tw (Twr TB towV atI nextI eqn rsound_any)

structure ZF (w : World) (F : Nat) : Prop where
  md : w.cell? ⟨F, 0, none⟩ = some (.bool false)
  g : w.cell? ⟨F, 3, none⟩ = some (.int .i64 0)
  ps : PosAt w F (fun _ => Pos.zero)
  by_ : w.cell? ⟨F, 35, none⟩ = some (.int .u64 0)
theorem ZF.kept {w w' : World} {F : Nat} (h : ZF w F) (k : Kept w w') : ZF w' F := ⟨k.some h.md, k.some h.g, h.ps.but (k.but (fun _ => False)) id, k.some h.by_⟩
theorem zf_new (w : World) (F : Nat) (ty : TypeId) (hF : F = w.heap.size) : ZF (w.alloc (.cells #[.bool false, .int .i64 0, .int .i64 0, .int .i64 0, .int .i64 0, .int .i64 0, .int .i64 0, .int .i64 0, .int .i64 0, .int .i64 0, .int .i64 0, .int .i64 0, .int .i64 0, .int .i64 0, .int .u64 0,
    .int .i64 0, .int .u64 0, .int .u64 0, .int .u64 0, .int .i64 0, .int .i64 0, .int .u64 0, .int .u64 0, .int .u64 0, .int .i64 0, .int .i64 0, .int .u64 0, .int .u64 0, .int .u64 0, .int .i64 0, .int .i64 0, .int .u64 0, .int .u64 0, .int .u64 0, .int .i64 0, .int .u64 0, .int .i64 0] ty)) F :=
  ⟨cell_new _ _ _ _ 0 hF, cell_new _ _ _ _ 3 hF, ⟨k4 (cell_new _ _ _ _ 15 hF) (cell_new _ _ _ _ 20 hF) (cell_new _ _ _ _ 25 hF) (cell_new _ _ _ _ 30 hF), k4 (cell_new _ _ _ _ 16 hF) (cell_new _ _ _ _ 21 hF) (cell_new _ _ _ _ 26 hF) (cell_new _ _ _ _ 31 hF), k4 (cell_new _ _ _ _ 17 hF) (cell_new _ _ _ _ 22 hF) (cell_new _ _ _ _ 27 hF) (cell_new _ _ _ _ 32 hF), k4 (cell_new _ _ _ _ 18 hF) (cell_new _ _ _ _ 23 hF) (cell_new _ _ _ _ 28 hF) (cell_new _ _ _ _ 33 hF), k4 (cell_new _ _ _ _ 19 hF) (cell_new _ _ _ _ 24 hF) (cell_new _ _ _ _ 29 hF) (cell_new _ _ _ _ 34 hF)⟩, cell_new _ _ _ _ 35 hF⟩
theorem zstep (F : Nat) (p : Option Addr) (w : World) (h : ZF w F) : Calls Try.prog 13 #[.pointer (some ⟨F, 0, none⟩), .pointer p] w fun e w' => e = .returned (.bool true) ∧ Kept w w' :=
  fstep_of F p true _ w (fstep_over F 0 _ (by decide) p w h.g h.ps (fun y hy => by omega))
theorem badstep (F : Nat) (t : Twr) (key : Int) (p : Option Addr) (w : World) (h : FdAt w F nilT key ⟨fun _ => Pos.zero, 0, 2⟩) : Calls Try.prog 13 #[.pointer (some ⟨F, 0, none⟩), .pointer p] w fun e w' => e = .returned (.bool true) ∧ Kept w w' :=
  fstep_of F p true _ w (fstep_over F 0 _ (by decide) p w h.tf.t2 h.ps (fun y hy => by omega))
structure NE (w wi : World) (M B : Nat) (t : Twr) : Prop where
  mem : PMem wi M B 34 Wo.St.zero
  k : Kept w wi
  tb : TB wi w.heap.size t
theorem NE.grow {w wi wj : World} {M B : Nat} {t : Twr} (h : NE w wi M B t) (k : Kept wi wj) : NE w wj M B t := ⟨pmem_kept h.mem k, h.k.trans k, h.tb.kept k⟩
theorem NE.but {w wi wj : World} {M B F : Nat} {t : Twr} (h : NE w wi M B t) (b : But (fun j => j = F) wi wj) (hM : F ≠ M) (hB : F ≠ B) (hF : w.heap.size < F) : NE w wj M B t :=
  ⟨pmem_frame h.mem b (fun e => hM e.symm) (fun e => hB e.symm), ((h.k.but _).trans b (fun _ _ h => h)).kept (fun i hi e => by have e : i = F := e; omega), h.tb.but b (fun e => by have e : w.heap.size = F := e; omega)⟩
def MZ (w : World) (b n : Nat) : Prop := ∀ i, i < n → w.cell? ⟨b, i, none⟩ = some (.int .u64 0)
theorem MZ.kept {w w' : World} {b n : Nat} (h : MZ w b n) (k : Kept w w') : MZ w' b n := fun i hi => k.some (h i hi)
theorem mz {Q x : World} {ty : TypeId} {Z : Array Value} {n : Nat} (hZ : ∀ i, i < n → Z[i]? = some (.int .u64 0)) (y : Kept (Q.alloc (.cells Z ty)) x) : MZ x Q.heap.size n := fun i hi => y.some ((cell_new _ _ _ _ i rfl).trans (hZ i hi))
theorem mzd {Q x : World} {ty : TypeId} {Z : Array Value} {n : Nat} (hZ : ∀ i, i < n → Z[i]? = some (.int .u64 0)) (y : Kept (Q.alloc (.cells Z ty)).drew x) : MZ x Q.heap.size n := mz hZ ((Kept.refl _).drew.trans y)
theorem zero_words {w : World} {base c g : Nat} {a : Option Addr} {n : Nat} {f : Nat → Pos} {sel : Pos → Int} (own : w.ownsRow base 52 1 (.slice a n c) n (cellsW (posL f sel n))) (h1 : 1 ≤ n) (h2 : n ≤ 4) (hz : ∀ i, i < n → sel (f i) = 0) (hc : MZ w g n) : Calls Try.prog 23 #[.slice a n c, .slice (some ⟨g, 0, none⟩) n n] w fun e w' => e = .returned (.bool true) ∧ Kept w w' := by
  obtain ⟨b, o, rfl, h⟩ := words_own own (posL_len _ _ _) h1
  have e : ∀ i, i < n → (posL f sel n).getD i 0 = 0 := fun i hi => by
    unfold posL
    simp [hi, hz i hi]
  refine (Wo.sameWords_yes b o c g 0 n n (fun _ => 0) w (by omega) (fun i hi => ?_) (fun i hi => ?_)).mono fun _ _ ⟨x, k⟩ => ⟨x, kept_of k⟩
  · rw [← e i hi]; exact h i hi
  · rw [Nat.zero_add]; exact hc i hi
def PRel (x7 : World) (g : Nat) (x : Value) (wr : World) : Prop := ∃ i : Nat, i ≤ g ∧ x = .int .i64 i ∧ wr = x7
def ZRel (w4 : World) (F : Nat) (t : Twr) (key : Int) (g : Nat) (x : Value) (wr : World) : Prop := ∃ k : Nat, k + 1 ≤ g ∧ x = .int .i64 ((k + 1 : Nat) : Int) ∧ FdAt wr F t key (nO g k) ∧ But (fun j => j = F) w4 wr
theorem off_at {g i : Nat} (h : i < g) : (nO g g).pos i = Pos.off := if_pos ⟨by omega, h⟩
set_option maxHeartbeats 8000000 in
theorem fnone_any (t : Twr) (key : Int) (w : World) : Calls Try.prog 4 #[towV t, .int .u64 key] w fun e w' => e = .returned (.bool true) ∧ Kept w w' := by
  have aw := Lib.hid awake16_any
  have q := eqn
  have SD := fun W => Lib.hid (rsound_any t W)
  have NF := fun W => Lib.hid (fnew_any t key W)
  go_enter Try.func4, Try.ntmps4
  go_wp2_with fail
  obtain ⟨W0, hW0⟩ : ∃ W0, W0 = w.alloc (.cells #[.int .i64 t.D, .int .i64 t.H, .int .i64 t.G, .int .i64 t.A.F.T, .int .i64 t.A.F.K, .int .i64 t.A.F.N, .int .i64 t.A.G, .int .i64 t.A.V, .int .i64 t.A.L, .int .i64 t.E.T, .int .i64 t.E.K, .int .i64 t.E.N, .int .i64 t.P] 51) := ⟨_, rfl⟩
  have tb0 : TB W0 w.heap.size t := by rw [hW0]; exact TB.new w _ _ rfl t
  have k0 : Kept w W0 := by rw [hW0]; exact (Kept.refl _).alloc _ _
  rw [← hW0]
  clear hW0
  refine (p_new 34 (by decide) (by decide) _).mono ?_
  rintro e w1 ⟨rfl, m1, z1, k1⟩
  obtain ⟨M, hM⟩ : ∃ M, M = W0.heap.size + 1 := ⟨_, rfl⟩
  rw [← hM] at m1 ⊢
  obtain ⟨B, hB⟩ : ∃ B, B = W0.heap.size := ⟨_, rfl⟩
  rw [← hB] at m1
  have E1 : Hid (NE w w1 M B t) := Lib.hid ⟨m1, k0.trans k1, tb0.kept k1⟩
  clear m1 k1 z1 hM hB tb0 k0
  go_wp2_with fail
  obtain ⟨W2, hW2⟩ : ∃ W2, W2 = ((w1.alloc (.cells #[.bool false, .int .i64 0, .int .i64 0, .int .i64 0, .int .i64 0, .int .i64 0, .int .i64 0, .int .i64 0, .int .i64 0, .int .i64 0, .int .i64 0, .int .i64 0, .int .i64 0, .int .i64 0, .int .u64 0, .int .i64 0, .int .u64 0, .int .u64 0, .int .u64 0, .int .i64 0, .int .i64 0, .int .u64 0, .int .u64 0, .int .u64 0, .int .i64 0, .int .i64 0, .int .u64 0, .int .u64 0, .int .u64 0, .int .i64 0, .int .i64 0, .int .u64 0, .int .u64 0, .int .u64 0, .int .i64 0, .int .u64 0, .int .i64 0] 61)).alloc (.cells #[.pointer none, .pointer (some ⟨w1.heap.size, 0, none⟩)] 55)) := ⟨_, rfl⟩
  have kz : Kept (w1.alloc (.cells #[.bool false, .int .i64 0, .int .i64 0, .int .i64 0, .int .i64 0, .int .i64 0, .int .i64 0, .int .i64 0, .int .i64 0, .int .i64 0, .int .i64 0, .int .i64 0, .int .i64 0, .int .i64 0, .int .u64 0, .int .i64 0, .int .u64 0, .int .u64 0, .int .u64 0, .int .i64 0, .int .i64 0, .int .u64 0, .int .u64 0, .int .u64 0, .int .i64 0, .int .i64 0, .int .u64 0, .int .u64 0, .int .u64 0, .int .i64 0, .int .i64 0, .int .u64 0, .int .u64 0, .int .u64 0, .int .i64 0, .int .u64 0, .int .i64 0] 61)) W2 := by rw [hW2]; exact (Kept.refl _).alloc _ _
  have Z2 : Hid (ZF W2 w1.heap.size) := Lib.hid ((zf_new w1 _ _ rfl).kept kz)
  have L2 : Hid (W2.cell? ⟨w1.heap.size + 1, 0, none⟩ = some (.pointer none) ∧ W2.cell? ⟨w1.heap.size + 1, 1, none⟩ = some (.pointer (some ⟨w1.heap.size, 0, none⟩))) := Lib.hid (by rw [hW2]; exact ⟨cell_new _ _ _ _ 0 (by simp), cell_new _ _ _ _ 1 (by simp)⟩)
  have E2 := Lib.hid (E1.out.grow (show Kept w1 W2 by rw [hW2]; exact ((Kept.refl _).alloc _ _).alloc _ _))
  rw [← hW2]
  clear hW2 kz E1
  obtain ⟨s0, s1⟩ := L2.out
  refine wp_loop_rounds 3 ?_
  rw [rounds_succ]
  go_wp2_with fail
  refine (fstep_nil _ _).mono ?_
  rintro e _ ⟨rfl, rfl⟩
  go_wp2_with fail
  refine (ferr_nil _).mono ?_
  rintro e _ ⟨rfl, rfl⟩
  go_wp2_with fail
  refine (preds_bad none _ 1 (by decide) (fun W k => ferr_nil W)).mono ?_
  rintro e x1 ⟨rfl, k⟩
  have E2 := Lib.hid (E2.out.grow k)
  have Z2 := Lib.hid (Z2.out.kept k)
  have L2 := Lib.hid (show x1.cell? ⟨w1.heap.size + 1, 0, none⟩ = some (.pointer none) ∧ x1.cell? ⟨w1.heap.size + 1, 1, none⟩ = some (.pointer (some ⟨w1.heap.size, 0, none⟩)) from ⟨k.some L2.out.1, k.some L2.out.2⟩)
  clear k s0 s1
  obtain ⟨s0, s1⟩ := L2.out
  go_wp2_with fail
  refine (succs_bad none _ 1 (by decide) (fun W k => ferr_nil W)).mono ?_
  rintro e x2 ⟨rfl, k⟩
  have E2 := Lib.hid (E2.out.grow k)
  have Z2 := Lib.hid (Z2.out.kept k)
  have L2 := Lib.hid (show x2.cell? ⟨w1.heap.size + 1, 0, none⟩ = some (.pointer none) ∧ x2.cell? ⟨w1.heap.size + 1, 1, none⟩ = some (.pointer (some ⟨w1.heap.size, 0, none⟩)) from ⟨k.some L2.out.1, k.some L2.out.2⟩)
  clear k s0 s1
  obtain ⟨s0, s1⟩ := L2.out
  go_wp2_with fail
  refine (known_bad none _ 1 (by decide) (fun W k => ferr_nil W)).mono ?_
  rintro e x3 ⟨rfl, k⟩
  have E2 := Lib.hid (E2.out.grow k)
  have Z2 := Lib.hid (Z2.out.kept k)
  have L2 := Lib.hid (show x3.cell? ⟨w1.heap.size + 1, 0, none⟩ = some (.pointer none) ∧ x3.cell? ⟨w1.heap.size + 1, 1, none⟩ = some (.pointer (some ⟨w1.heap.size, 0, none⟩)) from ⟨k.some L2.out.1, k.some L2.out.2⟩)
  clear k s0 s1
  obtain ⟨s0, s1⟩ := L2.out
  go_wp2_with fail
  refine (fby_nil _).mono ?_
  rintro e _ ⟨rfl, rfl⟩
  go_wp2_with fail
  rw [rounds_succ]
  go_wp2_with fail
  refine (zstep _ _ _ Z2.out).mono ?_
  rintro e x4 ⟨rfl, k⟩
  have E2 := Lib.hid (E2.out.grow k)
  have Z2 := Lib.hid (Z2.out.kept k)
  have L2 := Lib.hid (show x4.cell? ⟨w1.heap.size + 1, 0, none⟩ = some (.pointer none) ∧ x4.cell? ⟨w1.heap.size + 1, 1, none⟩ = some (.pointer (some ⟨w1.heap.size, 0, none⟩)) from ⟨k.some L2.out.1, k.some L2.out.2⟩)
  clear k s0 s1
  obtain ⟨s0, s1⟩ := L2.out
  go_wp2_with fail
  refine (ferr_none _ _ Z2.out.md).mono ?_
  rintro e _ ⟨rfl, rfl⟩
  go_wp2_with fail
  refine (preds_bad (some ⟨w1.heap.size, 0, none⟩) _ 1 (by decide) (fun W k => ferr_none _ W (Z2.out.kept k).md)).mono ?_
  rintro e x5 ⟨rfl, k⟩
  have E2 := Lib.hid (E2.out.grow k)
  have Z2 := Lib.hid (Z2.out.kept k)
  have L2 := Lib.hid (show x5.cell? ⟨w1.heap.size + 1, 0, none⟩ = some (.pointer none) ∧ x5.cell? ⟨w1.heap.size + 1, 1, none⟩ = some (.pointer (some ⟨w1.heap.size, 0, none⟩)) from ⟨k.some L2.out.1, k.some L2.out.2⟩)
  clear k s0 s1
  obtain ⟨s0, s1⟩ := L2.out
  go_wp2_with fail
  refine (succs_bad (some ⟨w1.heap.size, 0, none⟩) _ 1 (by decide) (fun W k => ferr_none _ W (Z2.out.kept k).md)).mono ?_
  rintro e x6 ⟨rfl, k⟩
  have E2 := Lib.hid (E2.out.grow k)
  have Z2 := Lib.hid (Z2.out.kept k)
  have L2 := Lib.hid (show x6.cell? ⟨w1.heap.size + 1, 0, none⟩ = some (.pointer none) ∧ x6.cell? ⟨w1.heap.size + 1, 1, none⟩ = some (.pointer (some ⟨w1.heap.size, 0, none⟩)) from ⟨k.some L2.out.1, k.some L2.out.2⟩)
  clear k s0 s1
  obtain ⟨s0, s1⟩ := L2.out
  go_wp2_with fail
  refine (known_bad (some ⟨w1.heap.size, 0, none⟩) _ 1 (by decide) (fun W k => ferr_none _ W (Z2.out.kept k).md)).mono ?_
  rintro e x7 ⟨rfl, k⟩
  have E2 := Lib.hid (E2.out.grow k)
  have Z2 := Lib.hid (Z2.out.kept k)
  have L2 := Lib.hid (show x7.cell? ⟨w1.heap.size + 1, 0, none⟩ = some (.pointer none) ∧ x7.cell? ⟨w1.heap.size + 1, 1, none⟩ = some (.pointer (some ⟨w1.heap.size, 0, none⟩)) from ⟨k.some L2.out.1, k.some L2.out.2⟩)
  clear k s0 s1
  obtain ⟨s0, s1⟩ := L2.out
  go_wp2_with fail
  refine (fby_made _ 0 _ Z2.out.by_).mono ?_
  rintro e _ ⟨rfl, rfl⟩
  go_wp2_with fail
  rw [rounds_succ]
  clear s0 s1 Z2 L2
  obtain ⟨a0, a1, a2, a3, a4, a5, a6, a7, a8, a9, a10, a11, a12⟩ := E2.out.tb
  go_wp2_with fail
  refine (NF _).out.mono ?_
  rintro e w3 ⟨F, rfl, f1, f2, fd, k3⟩
  have E3 := Lib.hid (E2.out.grow k3)
  have FD := Lib.hid fd
  have lm := pmem_lt E2.out.mem
  have hFM : F ≠ M := by omega
  have hFB : F ≠ B := by omega
  have hFw : w.heap.size < F := by have := lt_of_cell E2.out.tb.c0; omega
  clear fd k3 E2 a0 a1 a2 a3 a4 a5 a6 a7 a8 a9 a10 a11 a12
  obtain ⟨a0, a1, a2, a3, a4, a5, a6, a7, a8, a9, a10, a11, a12⟩ := E3.out.tb
  go_wp2_with fail
  refine (SD _).out.mono ?_
  rintro e w4 ⟨rfl, k4⟩
  have E4 := Lib.hid (E3.out.grow k4)
  have FD := Lib.hid (FD.out.kept k4)
  clear k4 E3 a0 a1 a2 a3 a4 a5 a6 a7 a8 a9 a10 a11 a12
  by_cases hs : t.Sound
  · have hd : decide t.Sound = true := decide_eq_true hs
    obtain ⟨g, hg⟩ : ∃ g : Nat, (g : Int) = t.G := ⟨t.G.toNat, by have := hs.G1; omega⟩
    have g1 : 1 ≤ g := by have := hs.G1; omega
    have g4 : g ≤ 4 := by have := hs.G2; omega
    have HG := Lib.hid hg
    have FE : Hid (FdAt w4 F t key (nO g 0)) := Lib.hid (by
      have := FD.out
      unfold newF at this
      rw [if_pos hs, if_pos hs, if_pos hs] at this
      exact this.like (fun j hj => if_neg (by omega)) rfl (if_neg (by omega)))
    rw [hd]
    clear hd hs FD hg
    go_wp2_with fail
    go_loopw [10] (ZRel w4 F t key g) (fun x _ => g + 1 - (intOf x).toNat)
    case atStart => exact ⟨0, g1, rfl, FE.out, But.refl _ _⟩
    case round =>
      obtain ⟨k, hk, rfl, fk, bk⟩ := hrel
      have EK := Lib.hid (E4.out.but bk hFM hFB hFw)
      have FK := Lib.hid fk
      have BK := Lib.hid bk
      have c2 := EK.out.tb.c2
      rw [← HG.out] at c2
      clear fk bk
      by_cases hl : k + 1 < g
      · have hlt : ((k + 1 : Nat) : Int) < (g : Int) := by omega
        have ST := Lib.hid (fnil_step F t key g HG.out g4 k (by omega) _ FK.out)
        rw [decide_eq_false (by omega)] at ST
        go_wp2_with fail
        refine ST.out.mono ?_
        rintro e x1 ⟨rfl, f1, b1⟩
        have F1 := Lib.hid f1
        have B1 := Lib.hid (BK.out.trans b1 (fun _ _ h => h))
        clear f1 b1
        go_wp2
        exact ⟨⟨k + 1, by omega, by go_num, F1.out, B1.out⟩, by simp [intOf]; omega⟩
      · have hkg : k + 1 = g := by omega
        have hlt : (g : Int) ≤ ((k + 1 : Nat) : Int) := by omega
        have SS : ∀ W, FdAt W F t key (nO g k) → Hid (Calls Try.prog 13 #[.pointer (some ⟨F, 0, none⟩), .pointer none] W fun e w' => e = .returned (.bool true) ∧ FdAt w' F t key (nO g g) ∧ But (fun j => j = F) W w') := fun W f => Lib.hid (by
          have := fnil_step F t key g HG.out g4 k (by omega) W f
          rw [decide_eq_true hkg, hkg] at this
          exact this)
        have er0 : (nO g g).er = 0 := if_pos rfl
        have SU : ∀ W, FdAt W F t key (nO g g) → Hid (Calls Try.prog 16 #[.pointer (some ⟨F, 0, none⟩)] W (RetW W (posL (nO g g).pos (fun q => q.c) g))) := fun W f => Lib.hid (succs_ok F t key _ g HG.out g4 W f er0)
        have KN : ∀ W, FdAt W F t key (nO g g) → Hid (Calls Try.prog 17 #[.pointer (some ⟨F, 0, none⟩)] W (RetW W (posL (nO g g).pos (fun q => q.k) g))) := fun W f => Lib.hid (known_ok F t key _ g HG.out g4 W f er0)
        have PR : ∀ W, FdAt W F t key (nO g g) → Hid (Calls Try.prog 15 #[.pointer (some ⟨F, 0, none⟩)] W (RetI W (posL (nO g g).pos (fun q => q.p) g))) := fun W f => Lib.hid (preds_ok F t key _ g HG.out g4 W f er0)
        have ER : ∀ W, FdAt W F t key (nO g g) → Hid (Calls Try.prog 14 #[.pointer (some ⟨F, 0, none⟩)] W fun e w' => e = .returned (.int .i64 0) ∧ W = w') := fun W f => Lib.hid (by have := ferr_made F _ W f.md f.er; rwa [er0] at this)
        have ZC : Hid (∀ i, i < g → ((nO g g).pos i).c = 0) := Lib.hid (fun i hi => by rw [off_at hi]; rfl)
        have ZK : Hid (∀ i, i < g → ((nO g g).pos i).k = 0) := Lib.hid (fun i hi => by rw [off_at hi]; rfl)
        have ZP : Hid (∀ i, i < g → ((nO g g).pos i).p = -1) := Lib.hid (fun i hi => by rw [off_at hi]; rfl)
        generalize nO g g = oz at *
        go_wp2_with fail
        have GC : Hid (wr.cell? ⟨w.heap.size, 2, none⟩ = some (.int .i64 (g : Nat))) := Lib.hid c2
        have KT : Kept wr wr := Kept.refl _
        obtain ⟨Z, hZ, hmk⟩ := Wo.make_words g (by omega)
        have HZ := Lib.hid hZ
        clear hlt hkg hl er0 hk c2 BK hZ
        have GG := GC.out
        have lG := lt_of_cell GG
        go_region_held3 (fun w' => w'.cell? ⟨w.heap.size, 2, none⟩ = some (.int .i64 (g : Nat))) ((((with_reducible refine Kept.some ?_ GC.out); (repeat (first | (with_reducible exact KT) | (with_reducible exact Kept.refl _) | (with_reducible refine Kept.alloc ?_ _ _) | (with_reducible refine Kept.drew ?_) | (with_reducible refine Kept.drewN ?_ _))); done))) (first
            | (go_at_call 13; (with_reducible refine Calls.mono (SS _ (FK.out.kept (by repeat (first | with_reducible exact KT | with_reducible exact Kept.refl _ | with_reducible refine Kept.alloc ?_ _ _ | with_reducible refine Kept.drew ?_ | with_reducible refine Kept.drewN ?_ _)))).out ?_); rintro e v1 ⟨rfl, f1, b1⟩; have FZ := Lib.hid f1; have EZ := Lib.hid ((EK.out.grow (by repeat (first | with_reducible exact KT | with_reducible exact Kept.refl _ | with_reducible refine Kept.alloc ?_ _ _ | with_reducible refine Kept.drew ?_ | with_reducible refine Kept.drewN ?_ _))).but b1 hFM hFB hFw); have GC : Hid (v1.cell? ⟨w.heap.size, 2, none⟩ = some (.int .i64 (g : Nat))) := Lib.hid (by have := EZ.out.tb.c2; rwa [← HG.out] at this); have GG := GC.out; have lG := lt_of_cell GG; have KT : Kept v1 v1 := Kept.refl _; clear f1 b1)
            | (go_at_call 14; (with_reducible refine Calls.mono (ER _ (FZ.out.kept (by repeat (first | with_reducible exact KT | with_reducible exact Kept.refl _ | with_reducible refine Kept.alloc ?_ _ _ | with_reducible refine Kept.drew ?_ | with_reducible refine Kept.drewN ?_ _)))).out ?_); rintro e _ ⟨rfl, rfl⟩)
            | (go_at_call 16; (with_reducible refine Calls.mono (SU _ (FZ.out.kept (by repeat (first | with_reducible exact KT | with_reducible exact Kept.refl _ | with_reducible refine Kept.alloc ?_ _ _ | with_reducible refine Kept.drew ?_ | with_reducible refine Kept.drewN ?_ _)))).out ?_); rintro e x1 ⟨a1, c1, rfl, y, own⟩; rw [posL_len] at own ⊢; have OSuccs := Lib.hid own; (first | (with_reducible have MZB := Lib.hid (mz HZ.out y)) | (with_reducible have MZB := Lib.hid (mzd HZ.out y)) | skip); have KX : Kept v1 _ := Kept.trans (b := _) (by repeat (first | with_reducible exact KT | with_reducible exact Kept.refl _ | with_reducible refine Kept.alloc ?_ _ _ | with_reducible refine Kept.drew ?_ | with_reducible refine Kept.drewN ?_ _)) y; clear own y; have KT := KX; clear KX; have GG := KT.some GC.out; have lG := lt_of_cell GG)
            | (go_at_call 17; (with_reducible refine Calls.mono (KN _ (FZ.out.kept (by repeat (first | with_reducible exact KT | with_reducible exact Kept.refl _ | with_reducible refine Kept.alloc ?_ _ _ | with_reducible refine Kept.drew ?_ | with_reducible refine Kept.drewN ?_ _)))).out ?_); rintro e x3 ⟨a3, c3, rfl, y, own⟩; rw [posL_len] at own ⊢; have OKnown := Lib.hid own; (first | (with_reducible have MZB := Lib.hid (mz HZ.out y)) | (with_reducible have MZB := Lib.hid (mzd HZ.out y)) | skip); have KX : Kept v1 _ := Kept.trans (b := _) (by repeat (first | with_reducible exact KT | with_reducible exact Kept.refl _ | with_reducible refine Kept.alloc ?_ _ _ | with_reducible refine Kept.drew ?_ | with_reducible refine Kept.drewN ?_ _)) y; clear own y; have KT := KX; clear KX; have GG := KT.some GC.out; have lG := lt_of_cell GG)
            | (go_at_call 23; first | ((with_reducible refine Calls.mono (zero_words (sel := fun q => q.c) (f := oz.pos) (fown_keep OSuccs.out (by repeat (first | with_reducible exact KT | with_reducible exact Kept.refl _ | with_reducible refine Kept.alloc ?_ _ _ | with_reducible refine Kept.drew ?_ | with_reducible refine Kept.drewN ?_ _))) g1 g4 ZC.out (by first | with_reducible exact mz HZ.out (Kept.refl _) | with_reducible exact mz HZ.out (Kept.refl _).drew | with_reducible exact MZB.out.kept (by repeat (first | with_reducible exact KT | with_reducible exact Kept.refl _ | with_reducible refine Kept.alloc ?_ _ _ | with_reducible refine Kept.drew ?_ | with_reducible refine Kept.drewN ?_ _)))) ?_); rintro e x6 ⟨rfl, y⟩; have KX : Kept v1 _ := Kept.trans (b := _) (by repeat (first | with_reducible exact KT | with_reducible exact Kept.refl _ | with_reducible refine Kept.alloc ?_ _ _ | with_reducible refine Kept.drew ?_ | with_reducible refine Kept.drewN ?_ _)) y; clear y; have KT := KX; clear KX; have GG := KT.some GC.out; have lG := lt_of_cell GG) | ((with_reducible refine Calls.mono (zero_words (sel := fun q => q.k) (f := oz.pos) (fown_keep OKnown.out (by repeat (first | with_reducible exact KT | with_reducible exact Kept.refl _ | with_reducible refine Kept.alloc ?_ _ _ | with_reducible refine Kept.drew ?_ | with_reducible refine Kept.drewN ?_ _))) g1 g4 ZK.out (by first | with_reducible exact mz HZ.out (Kept.refl _) | with_reducible exact mz HZ.out (Kept.refl _).drew | with_reducible exact MZB.out.kept (by repeat (first | with_reducible exact KT | with_reducible exact Kept.refl _ | with_reducible refine Kept.alloc ?_ _ _ | with_reducible refine Kept.drew ?_ | with_reducible refine Kept.drewN ?_ _)))) ?_); rintro e x6 ⟨rfl, y⟩; have KX : Kept v1 _ := Kept.trans (b := _) (by repeat (first | with_reducible exact KT | with_reducible exact Kept.refl _ | with_reducible refine Kept.alloc ?_ _ _ | with_reducible refine Kept.drew ?_ | with_reducible refine Kept.drewN ?_ _)) y; clear y; have KT := KX; clear KX; have GG := KT.some GC.out; have lG := lt_of_cell GG)))
        all_goals
          have E7 := Lib.hid (EZ.out.grow KT)
          have F7 := Lib.hid (FZ.out.kept KT)
          clear KT GG lG
          go_wp2_with fail
          refine (PR _ F7.out).out.mono ?_
          rintro e x7 ⟨a7, c7, rfl, k7, own7⟩
          rw [posL_len] at own7 ⊢
          have E8 := Lib.hid (E7.out.grow k7)
          have RD := reads_own own7 (posL_len _ _ _)
          rcases RD with h | ⟨pb, po, rfl, hc⟩
          · omega
          have HC : Hid (∀ i, i < g → x7.cell? ⟨pb, po + i, none⟩ = some (.int .i64 (-1))) := Lib.hid (fun i hi => by
            have := hc i hi
            unfold posL at this
            simpa [hi, ZP.out i hi] using this)
          have c2 := E8.out.tb.c2
          rw [← HG.out] at c2
          clear own7 hc k7 E7 F7
          go_wp2_with fail
          go_loopw [12] (PRel x7 g) (fun x _ => g + 1 - (intOf x).toNat)
          case atStart => exact ⟨0, Nat.zero_le _, rfl, rfl⟩
          case round =>
            obtain ⟨i, hi, rfl, rfl⟩ := hrel
            by_cases hlt : i < g
            · have hli : (i : Int) < (g : Int) := by omega
              have hi0 : (0 : Int) ≤ (i : Int) := by omega
              have ci := HC.out i hlt
              go_wp2
              exact ⟨⟨i + 1, by omega, by go_num, rfl⟩, by simp [intOf]; omega⟩
            · have hli : (g : Int) ≤ (i : Int) := by omega
              go_wp2_with fail
              refine (p_count M B 34 _ _ E8.out.mem).mono ?_
              rintro e _ ⟨rfl, rfl⟩
              go_wp2_with fail
              refine (aw.out _).mono ?_
              rintro e w9 ⟨rfl, k9⟩
              go_wp2
              go_ret
              exact ⟨rfl, E8.out.k.trans k9⟩
  · have hd : decide t.Sound = false := decide_eq_false hs
    have FE : Hid (FdAt w4 F nilT 0 ⟨fun _ => Pos.zero, 0, 2⟩) := Lib.hid (by have := FD.out; unfold newF at this; rwa [if_neg hs, if_neg hs, if_neg hs] at this)
    rw [hd]
    clear hd hs FD
    go_wp2_with fail
    refine (badstep F t 0 _ _ FE.out).mono ?_
    rintro e w5 ⟨rfl, k5⟩
    have E5 := Lib.hid (E4.out.grow k5)
    have FE := Lib.hid (FE.out.kept k5)
    clear k5 E4
    go_wp2_with fail
    refine (ferr_made F 2 _ FE.out.md FE.out.er).mono ?_
    rintro e _ ⟨rfl, rfl⟩
    go_wp2_with fail
    refine (preds_bad (some ⟨F, 0, none⟩) _ 2 (by decide) (fun W k => ferr_made F 2 W (FE.out.kept k).md (FE.out.kept k).er)).mono ?_
    rintro e w6 ⟨rfl, k6⟩
    have E6 := Lib.hid (E5.out.grow k6)
    have FE := Lib.hid (FE.out.kept k6)
    clear k6 E5
    go_wp2_with fail
    refine (fby_made F 0 _ FE.out.by_).mono ?_
    rintro e _ ⟨rfl, rfl⟩
    go_wp2_with fail
    refine (p_count M B 34 _ _ E6.out.mem).mono ?_
    rintro e _ ⟨rfl, rfl⟩
    go_wp2_with fail
    refine (aw.out _).mono ?_
    rintro e w7 ⟨rfl, k7⟩
    go_wp2
    go_ret
    exact ⟨rfl, E6.out.k.trans k7⟩
theorem none_law {cs : Array Value} (h : ∃ t : Twr, cs = (Tw.towcell t).toArray) (key : Int) (w : World) : Calls Try.prog 4 #[.agg cs, .int .u64 key] w fun e w' => e = .returned (.bool true) ∧ Kept w w' := by
  obtain ⟨t, rfl⟩ := h
  exact fnone_any t key w
end Go.Proofs.Ytejiogggocnldaa.Fd

namespace Go.Proofs.Ytejiogggocnldaa.Sk
open Go.RowKit
theorem three {a b c : Bool} (h : (a && b && c) = true) : a = true ∧ b = true ∧ c = true := by
  cases a <;> cases b <;> cases c <;> simp_all
section
variable {P : Program} {ops : Array Oper} {Q : Exit → Act → World → Prop} {md : Region.Mode} {S : World → Prop}
theorem take_on {i : Nat} {oi : Oper} {v : Value} {fuel : Nat} {listed : Array Bool} {a : Act} {w : World} (hi : ops[i]? = some oi)
    (h3 : (Region.noSelect ops && Region.free md ops listed i && (Region.ready md ops listed).contains i) = true)
    (hw : Region.wanted oi (yielded ops a.tmps) = true) (hv : ∀ w, S w → (execOp a.eval oi).run P w = .ok (.value v) w)
    (hQ : ∀ c a w, Q (.panic c) (a.put oi.dst v) w → Q (.panic c) a w) (hS : S w)
    (h : wpAnyH P md ops Q S fuel (listed.setIfInBounds i true) (a.put oi.dst v) w) : wpAnyH P md ops Q S (fuel + 1) listed a w :=
  wpAnyH_take hi (three h3).1 (three h3).2.1 (three h3).2.2 hQ (Or.inl ⟨hw, hv⟩) hS h
theorem take_off {i : Nat} {oi : Oper} {fuel : Nat} {listed : Array Bool} {a : Act} {w : World} (hi : ops[i]? = some oi)
    (h3 : (Region.noSelect ops && Region.free md ops listed i && (Region.ready md ops listed).contains i) = true)
    (hw : Region.wanted oi (yielded ops a.tmps) = false)
    (hQ : ∀ c a w, Q (.panic c) (a.put oi.dst undef) w → Q (.panic c) a w) (hS : S w)
    (h : wpAnyH P md ops Q S fuel (listed.setIfInBounds i true) (a.put oi.dst undef) w) : wpAnyH P md ops Q S (fuel + 1) listed a w :=
  wpAnyH_take hi (three h3).1 (three h3).2.1 (three h3).2.2 hQ (Or.inr ⟨hw, rfl⟩) hS h
theorem held_mono {S' : World → Prop} (hS : ∀ w, S' w → S w) : ∀ (fuel : Nat) (listed : Array Bool) (a : Act) (w : World), wpAnyH P md ops Q S' fuel listed a w → wpAnyH P md ops Q S fuel listed a w
  | 0, _, _, _, h => h
  | fuel + 1, _, _, _, h => ⟨h.1, fun i hi => wpOp_mono (fun _ _ h' => ⟨hS _ h'.1, held_mono hS fuel _ _ _ h'.2⟩) (h.2 i hi)⟩
end
end Go.Proofs.Ytejiogggocnldaa.Sk
