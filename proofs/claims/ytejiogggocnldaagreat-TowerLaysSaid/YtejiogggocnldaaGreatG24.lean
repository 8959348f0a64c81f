/- The chapter's tower: chapter, laid2, awake. Written by gen15j.py. -/
import Derived.Test.YtejiogggocnldaaGreatG15
import Derived.Test.YtejiogggocnldaaGreatG21
import Derived.Test.YtejiogggocnldaaGreatG23
import Derived.Test.YtejiogggocnldaaGreatG09
import Derived.Test.YtejiogggocnldaaGreatG19
import Derived.Deep.RegionHeld3
set_option linter.unusedVariables false
set_option linter.unusedSimpArgs false

namespace Go.Proofs.YtejiogggocnldaaGreat.Tw
set_option maxRecDepth 20000
open Go.RowKit
open Wo (St acc wordAt PMem RefIs)
open Sk (Stk Arn idx Wd p_store p_new pmem_lt pmem_kept pmem_frame kept_of)

theorem pmem_eq {w : World} {M B n : Nat} {s s' : St} (hm : PMem w M B n s) (h : ∀ i, i < n → s'.ws i = s.ws i) (h1 : s'.kind = s.kind) (h2 : s'.at_ = s.at_) (h3 : s'.old = s.old) (h4 : s'.new = s.new) (h5 : s'.held = s.held) (h6 : s'.cnt = s.cnt) : PMem w M B n s' :=
  ⟨hm.p, fun i hi => by obtain ⟨x, a, b⟩ := hm.words i hi; exact ⟨x, a, fun hin => (b hin).trans (h i hin).symm⟩, hm.size, by rw [h1]; exact hm.c0, by rw [h2]; exact hm.c1, by rw [h3]; exact hm.c2, by rw [h4]; exact hm.c3, by rw [h5]; exact hm.c4, by rw [h6]; exact hm.cnt, hm.fB, hm.ne, hm.hn⟩
def litS (s : St) (l : List Int) : St := ⟨fun i => l.getD i 0, s.kind, s.at_, s.old, s.new, s.held, s.cnt⟩
theorem listAt {f : Nat → Int} {l : List Int} {n : Nat} (h : (List.range n).map f = l) (i : Nat) (hi : i < n) : l.getD i 0 = f i := by
  subst h
  simp [hi]
theorem pmem_lit {w : World} {M B n : Nat} {s : St} {l : List Int} (hm : PMem w M B n s) (h : (List.range n).map s.ws = l) : PMem w M B n (litS s l) :=
  pmem_eq hm (fun i hi => listAt h i hi) rfl rfl rfl rfl rfl rfl
def T0 : Twr := ⟨16, 14, 2, ⟨⟨0, 1, 3⟩, 4, 7, 9⟩, ⟨8, 9, 2⟩, 11⟩
theorem sndT0 : T0.Sound := ⟨by decide, by decide, by decide, by decide, by decide, by decide, by decide, by decide⟩
theorem okT0 : LOk T0 34 := ⟨⟨⟨by decide, by decide, by decide, by decide, by decide, by decide, by decide, by decide, by decide⟩, by decide, by decide, by decide, by decide, by decide, by decide⟩, by decide, by decide, by decide, by decide, by decide, by decide⟩
set_option maxHeartbeats 1000000 in
theorem chapter_any (w : World) : Calls Tryz.prog 31 #[] w fun e w' => e = .returned (towV T0) ∧ Kept w w' := by
  go_enter Tryz.func31, Tryz.ntmps31
  go_wp2
  refine bodyPost_ret (v := .agg #[.int .i64 16, .int .i64 14, .int .i64 2, .int .i64 0, .int .i64 1, .int .i64 3, .int .i64 4, .int .i64 7, .int .i64 9, .int .i64 8, .int .i64 9, .int .i64 2, .int .i64 11]) (by simp [results, Tryz.results31, go_sem]) rfl ⟨rfl, ?_⟩
  (go_light; repeat (first | (with_reducible exact Kept.refl _) | (with_reducible assumption) | (with_reducible refine Kept.alloc ?_ _ _) | (with_reducible refine Kept.drew ?_) | (with_reducible refine Kept.drewN ?_ _) | ((with_reducible refine Kept.setCell ?_ ?_ _); rotate_left; focus (first | (simp; done) | (simp; omega))) | refine Kept.trans ?_ (by assumption)))
structure In (w0 : World) (M B : Nat) (s : St) (w : World) : Prop where
  mem : PMem w M B 34 s
  kept : Kept w0 w
  lM : w0.heap.size ≤ M
  lB : w0.heap.size ≤ B
theorem In.grow {w0 w w' : World} {M B : Nat} {s : St} (h : In w0 M B s w) (k : Kept w w') : In w0 M B s w' := ⟨pmem_kept h.mem k, h.kept.trans k, h.lM, h.lB⟩
theorem In.put {w0 w w' : World} {M B P : Nat} {s s' : St} (h : In w0 M B s w) (m : PMem w' M B 34 s') (b : But (fun k => k = P ∨ k = B) w w') (hP : w0.heap.size ≤ P) : In w0 M B s' w' :=
  ⟨m, ((h.kept.but _).trans b (fun _ _ h => h)).kept (fun i hi e => by have := h.lB; rcases e with e | e <;> omega), h.lM, h.lB⟩
theorem In.lit {w0 w : World} {M B : Nat} {s : St} {l : List Int} (h : In w0 M B s w) (hl : (List.range 34).map s.ws = l) : In w0 M B (litS s l) w := ⟨pmem_lit h.mem hl, h.kept, h.lM, h.lB⟩
theorem eqn (M : Nat) (W : World) : (binOp .eql 37 (.pointer (some ⟨M, 0, none⟩)) (.pointer none)).run Tryz.prog W = .ok (.bool false) W := by kernel_rfl
def sF : St := litS (tfillSt 34 T0 Wo.St.zero) [1, 2, 3, 0, 1, 1, 1, 0, 0, 0, 0, 0, 0, 0, 0, 0, 0, 0, 0, 0, 0, 0, 0, 0, 0, 0, 0, 0, 0, 0, 0, 0, 0, 0]
theorem worF : (List.range 34).map (tfillSt 34 T0 Wo.St.zero).ws = [1, 2, 3, 0, 1, 1, 1, 0, 0, 0, 0, 0, 0, 0, 0, 0, 0, 0, 0, 0, 0, 0, 0, 0, 0, 0, 0, 0, 0, 0, 0, 0, 0, 0] := by decide +kernel
theorem cntF : sF.cnt = 16 := by decide +kernel
def lay0 : LOp := ⟨0, 65538, 1, 7, 5, 2, 14⟩
theorem newL0 : newL T0 65538 7 5 2 = lay0 := by
  have h : laidE T0 65538 5 2 = 0 := by decide +kernel
  have g : gri 65538 = 1 := by decide +kernel
  unfold newL
  rw [if_pos h, g]
  rfl
def lays : Nat → LOp
  | 0 => lay0
  | k + 1 => layOp (lays k)
def sLs : Nat → St
  | 0 => sF
  | k + 1 => laySt 34 T0 (sLs k) (lays k)
def sL : St := litS (sLs 4) [1, 2, 3, 0, 1, 1, 1, 0, 0, 0, 0, 0, 0, 0, 0, 0, 0, 0, 0, 0, 0, 0, 7, 5, 2, 2, 0, 0, 0, 0, 0, 0, 0, 0]
theorem worL : (List.range 34).map (sLs 4).ws = [1, 2, 3, 0, 1, 1, 1, 0, 0, 0, 0, 0, 0, 0, 0, 0, 0, 0, 0, 0, 0, 0, 7, 5, 2, 2, 0, 0, 0, 0, 0, 0, 0, 0] := by decide +kernel
theorem cntL : sL.cnt = 20 := by decide +kernel
theorem cntLs (k : Nat) (h : k < 4) : 0 ≤ (sLs k).cnt ∧ (sLs k).cnt ≤ 1000000 := by
  have : ∀ j : Fin 4, 0 ≤ (sLs j.val).cnt ∧ (sLs j.val).cnt ≤ 1000000 := by decide +kernel
  exact this ⟨k, h⟩
theorem okLs (k : Nat) (h : k ≤ 4) : (lays k).line ≤ 4 ∧ ((lays k).line < 4 → (lays k).er = 14) := by
  have : ∀ j : Fin 5, (lays j.val).line ≤ 4 ∧ ((lays j.val).line < 4 → (lays j.val).er = 14) := by decide +kernel
  exact this ⟨k, by omega⟩
def Chap (s : St) (w : World) (e : Ending) (w' : World) : Prop := ∃ M B, e = .returned (.pointer (some ⟨M, 0, none⟩)) ∧ In w M B s w'
theorem lstep {w0 w : World} {M B lo hi P : Nat} (k : Nat) (hk : k < 4) (b : Bool) (hb : ((lays (k + 1)).line == 4) = b) (h : In w0 M B (sLs k) w) (hl : LayAt w lo hi P T0 (lays k)) (hP : w0.heap.size ≤ P) (hPM : P ≠ M) (hPB : P ≠ B) (hB : ∀ j, lo ≤ j → j < hi → j ≠ B) :
    Calls Tryz.prog 18 #[.pointer (some ⟨P, 0, none⟩), .pointer (some ⟨M, 0, none⟩)] w fun e w' => e = .returned (.bool b) ∧ In w0 M B (sLs (k + 1)) w' ∧ LayAt w' lo hi P T0 (lays (k + 1)) :=
  (step_any M B 34 lo hi P T0 (sLs k) (lays k) w h.mem (cntLs k hk).1 (cntLs k hk).2 hl (okLs k (by omega)) hPM hPB hB).mono fun _ _ ⟨a, x, y, z⟩ => ⟨by rw [a, ← hb]; rfl, h.put y z hP, x⟩
set_option maxHeartbeats 4000000 in
theorem laid2_any (w : World) : Calls Tryz.prog 35 #[] w (Chap sL w) := by
  have q := eqn
  go_enter Tryz.func35, Tryz.ntmps35
  go_wp2_with fail
  refine (p_new 34 (by decide) (by decide) _).mono ?_
  rintro e w1 ⟨rfl, m1, z1, k1⟩
  obtain ⟨M, hM⟩ : ∃ M, M = w.heap.size + 1 := ⟨_, rfl⟩
  rw [← hM] at m1 ⊢
  obtain ⟨B, hB⟩ : ∃ B, B = w.heap.size := ⟨_, rfl⟩
  rw [← hB] at m1
  have I1 := Lib.hid (In.mk m1 k1 (by omega) (by omega))
  have HMB := Lib.hid (And.intro hM hB)
  clear m1 k1 z1 hM hB
  go_wp2_with fail
  refine (chapter_any _).mono ?_
  rintro e w2 ⟨rfl, k2⟩
  have I2 := Lib.hid (I1.out.grow k2)
  clear k2 I1
  go_wp2_with fail
  refine (p_tfill M B 34 T0 Wo.St.zero _ I2.out.mem (by decide) (by decide) okT0 sndT0).mono ?_
  rintro e w3 ⟨rfl, m3, b3⟩
  have I3 : Hid (In w M B sF w3) := Lib.hid ((I2.out.put (P := B) m3 (b3.mono fun _ _ h => .inr h) I2.out.lB).lit worF)
  clear m3 b3 I2
  go_wp2_with fail
  refine (chapter_any _).mono ?_
  rintro e w4 ⟨rfl, k4⟩
  have I4 := Lib.hid (I3.out.grow k4)
  clear k4 I3
  go_wp2_with fail
  refine (new_any T0 65538 7 5 2 (by decide) (by decide) _).mono ?_
  rintro e w5 ⟨P, lo, hi, rfl, l5, h1, h2, h3, h4, h5, k5⟩
  rw [newL0] at l5
  have I5 : Hid (In w M B (sLs 0) w5) := Lib.hid (I4.out.grow k5)
  have L5 : Hid (LayAt w5 lo hi P T0 (lays 0)) := Lib.hid l5
  have hz := pmem_lt I4.out.mem
  have hPw : w.heap.size ≤ P := by have := I4.out.kept.size; omega
  have hPM : P ≠ M := by omega
  have hPB : P ≠ B := by omega
  have HJ : Hid (∀ j, lo ≤ j → j < hi → j ≠ B) := Lib.hid (fun j h1 h2 => by omega)
  clear l5 k5 h1 h2 h3 h4 h5 hz I4
  go_wp2_with fail
  refine (lstep 0 (by decide) false rfl I5.out L5.out hPw hPM hPB HJ.out).mono ?_
  rintro e w6 ⟨rfl, i6, l6⟩
  have I6 := Lib.hid i6
  have L6 := Lib.hid l6
  clear i6 l6
  go_wp2_with fail
  refine (lstep 1 (by decide) false rfl I6.out L6.out hPw hPM hPB HJ.out).mono ?_
  rintro e w7 ⟨rfl, i7, l7⟩
  have I7 := Lib.hid i7
  have L7 := Lib.hid l7
  clear i7 l7
  go_wp2_with fail
  refine (err_any lo hi P T0 _ _ L7.out).mono ?_
  rintro e _ ⟨rfl, rfl⟩
  go_wp2_with fail
  refine (lstep 2 (by decide) false rfl I7.out L7.out hPw hPM hPB HJ.out).mono ?_
  rintro e w8 ⟨rfl, i8, l8⟩
  have I8 := Lib.hid i8
  have L8 := Lib.hid l8
  clear i8 l8
  go_wp2_with fail
  refine (lstep 3 (by decide) true rfl I8.out L8.out hPw hPM hPB HJ.out).mono ?_
  rintro e w9 ⟨rfl, i9, l9⟩
  have I9 := Lib.hid i9
  have L9 := Lib.hid l9
  clear i9 l9
  go_wp2_with fail
  refine (err_any lo hi P T0 _ _ L9.out).mono ?_
  rintro e _ ⟨rfl, rfl⟩
  go_wp2
  go_ret
  exact ⟨M, B, rfl, I9.out.lit worL⟩
theorem wfL : Wf 34 sL.ws := by
  have : ∀ j : Fin 34, 0 ≤ sL.ws j.val ∧ sL.ws j.val < 18446744073709551616 := by decide +kernel
  exact fun i hi => this ⟨i, hi⟩
theorem nod1 : hw 34 sL.ws (atI T0 1 0) = 7 ∧ hw 34 sL.ws (atI T0 1 1) = 5 ∧ hw 34 sL.ws (atI T0 1 2) = 2 ∧ hw 34 sL.ws (atI T0 1 3) = 2 ∧ nextL 34 sL.ws T0 1 2 = [0, 0] ∧ atI T0 1 0 = 22 ∧ nextI T0 0 1 = 21 := by decide +kernel
theorem zz2 {w : World} {g : Nat} {ty : TypeId} (hb : g = w.heap.size) : ∀ i, i < 2 → (w.alloc (.cells #[.int .u64 0, .int .u64 0] ty)).cell? ⟨g, i, none⟩ = some (.int .u64 0) := by
  intro i hi
  rw [cell_new _ _ _ _ i hb]
  have : i = 0 ∨ i = 1 := by omega
  rcases this with rfl | rfl <;> rfl
theorem zero2 {w : World} {a : Option Addr} {c base : Nat} {g : Nat} (own : w.ownsRow base 44 1 (.slice a 2 c) 2 (words [0, 0])) (hc : ∀ i, i < 2 → w.cell? ⟨g, i, none⟩ = some (.int .u64 0)) :
    Calls Tryz.prog 28 #[.slice a 2 c, .slice (some ⟨g, 0, none⟩) 2 2] w fun e w' => e = .returned (.bool true) ∧ Kept w w' := by
  rcases own_lies own with ⟨_, e2, _⟩ | ⟨b, o, c', e1, _, _, hcells⟩
  · cases e2
  · injection e1 with e1 _ _
    subst e1
    exact (Wo.sameWords_yes b o c g 0 2 2 (fun _ => 0) w (by decide) (fun i hi => by
      have hj : i = 0 ∨ i = 1 := by omega
      rcases hj with rfl | rfl
      · exact hcells 0 _ rfl
      · exact hcells 1 _ rfl) (fun i hi => by rw [Nat.zero_add]; exact hc i hi)).mono fun _ _ ⟨x, k⟩ => ⟨x, kept_of k⟩
set_option maxHeartbeats 4000000 in
theorem awake_any (w : World) : Calls Tryz.prog 12 #[] w fun e w' => e = .returned (.bool true) ∧ Kept w w' := by
  have q := eqn
  go_enter Tryz.func12, Tryz.ntmps12
  go_wp2_with fail
  refine (laid2_any _).mono ?_
  rintro e w1 ⟨M, B, rfl, i1⟩
  have I1 := Lib.hid i1
  clear i1
  go_wp2_with fail
  refine (chapter_any _).mono ?_
  rintro e w2 ⟨rfl, k2⟩
  have I2 := Lib.hid (I1.out.grow k2)
  clear k2 I1
  go_wp2_with fail
  refine (node_yes T0 sndT0 1 (by decide) _ 34 sL.ws (by decide) _ (gives_words I2.out.mem)).mono ?_
  rintro e w3 ⟨a, c, rfl, k3, own3⟩
  obtain ⟨v0, v1, v2, v3, v4, v5, v6⟩ := nod1
  have HA := fun W => Lib.hid (show Calls Tryz.prog 32 #[towV T0, .int .i64 1, .int .i64 0] W fun e w' => e = .returned (.int .i64 22) ∧ Kept W w' from by have := at_any T0 1 0 (by unfold I64; omega) W; rwa [v5] at this)
  have HN := fun W => Lib.hid (show Calls Tryz.prog 33 #[towV T0, .int .i64 0, .int .i64 1] W fun e w' => e = .returned (.int .i64 21) ∧ Kept W w' from by have := next_any T0 0 1 (by unfold I64; omega) W; rwa [v6] at this)
  rw [show T0.G.toNat = 2 from rfl, v4] at own3
  rw [v0, v1, v2, v3, show T0.G.toNat = 2 from rfl]
  have I3 := Lib.hid (I2.out.grow k3)
  have O3 := Lib.hid own3
  clear k3 own3 I2
  clear v0 v1 v2 v3 v4 v5 v6
  go_wp2_with fail
  refine (zero2 (own_keep O3.out (((Kept.refl _).alloc _ _).alloc _ _)) (zz2 (by simp))).mono ?_
  rintro e w4 ⟨rfl, k4⟩
  have K4 := Lib.hid (I3.out.kept.trans ((((Kept.refl _).alloc _ _).alloc _ _).trans k4))
  clear k4
  go_wp2_with fail
  refine (chapter_any _).mono ?_
  rintro e w5 ⟨rfl, k5⟩
  go_wp2_with fail
  refine (HA _).out.mono ?_
  rintro e w6 ⟨rfl, k6⟩
  have K6 := Lib.hid (K4.out.trans (k5.trans k6))
  clear k5 k6
  go_wp2_with fail
  refine (chapter_any _).mono ?_
  rintro e w7 ⟨rfl, k7⟩
  go_wp2_with fail
  refine (HN _).out.mono ?_
  rintro e w8 ⟨rfl, k8⟩
  go_wp2
  go_ret
  exact ⟨rfl, K6.out.trans (k7.trans k8)⟩
end Go.Proofs.YtejiogggocnldaaGreat.Tw

namespace Go.Proofs.YtejiogggocnldaaGreat.Tw
set_option maxRecDepth 20000
open Go.RowKit
open Wo (St acc wordAt PMem RefIs)
open Sk (Stk Arn idx Wd)

set_option maxHeartbeats 1000000 in
theorem who_bad (t : Twr) (h : ¬ t.Sound) (a : Int) (w : World) : Calls Tryz.prog 34 #[towV t, .int .i64 a] w fun e w' => e = .returned (.tuple #[.int .i64 0, .int .i64 0, .bool false]) ∧ Kept w w' := by
  have HS := fun W => Lib.hid (sound_no t h W)
  clear h
  go_enter Tryz.func34, Tryz.ntmps34
  go_wp2_with fail
  refine ((HS _).out).mono ?_
  rintro e w1 ⟨rfl, k1⟩
  obtain ⟨a0, a1, a2, a3, a4, a5, a6, a7, a8, a9, a10, a11, a12⟩ := TB.kept (TB.new w _ _ rfl t) k1
  go_wp2
  refine bodyPost_ret (v := .tuple #[.int .i64 0, .int .i64 0, .bool false]) (by simp [results, Tryz.results34, go_sem]) rfl ⟨rfl, ?_⟩
  (go_light; repeat (first | (with_reducible exact Kept.refl _) | (with_reducible assumption) | (with_reducible refine Kept.alloc ?_ _ _) | (with_reducible refine Kept.drew ?_) | (with_reducible refine Kept.drewN ?_ _) | ((with_reducible refine Kept.setCell ?_ ?_ _); rotate_left; focus (first | (simp; done) | (simp; omega))) | refine Kept.trans ?_ (by assumption)))
set_option maxHeartbeats 1000000 in
theorem who_node (t : Twr) (h : t.Sound) (a u v : Int) (hc : ∀ W, Calls Tryz.prog 99 #[.agg #[.int .i64 t.D, .int .i64 t.A.F.N, .int .i64 (4 + t.G)], .int .i64 a] W fun e w' => e = .returned (.tuple #[.int .i64 u, .int .i64 v, .bool true]) ∧ Kept W w') (w : World) : Calls Tryz.prog 34 #[towV t, .int .i64 a] w fun e w' => e = .returned (.tuple #[.int .i64 u, .int .i64 v, .bool true]) ∧ Kept w w' := by
  have HS := fun W => Lib.hid (sound_in t h W)
  have NR := fun W => Lib.hid (nodeRow_any t h W)
  have HC := fun W => Lib.hid (hc W)
  clear h hc
  go_enter Tryz.func34, Tryz.ntmps34
  go_wp2_with fail
  refine ((HS _).out).mono ?_
  rintro e w1 ⟨rfl, k1⟩
  obtain ⟨a0, a1, a2, a3, a4, a5, a6, a7, a8, a9, a10, a11, a12⟩ := TB.kept (TB.new w _ _ rfl t) k1
  go_wp2_with fail
  refine ((NR _).out).mono ?_
  rintro e w2 ⟨rfl, k2⟩
  obtain ⟨a0, a1, a2, a3, a4, a5, a6, a7, a8, a9, a10, a11, a12⟩ := TB.kept ⟨a0, a1, a2, a3, a4, a5, a6, a7, a8, a9, a10, a11, a12⟩ k2
  go_wp2_with fail
  refine ((HC _).out).mono ?_
  rintro e w3 ⟨rfl, k3⟩
  obtain ⟨a0, a1, a2, a3, a4, a5, a6, a7, a8, a9, a10, a11, a12⟩ := TB.kept ⟨a0, a1, a2, a3, a4, a5, a6, a7, a8, a9, a10, a11, a12⟩ k3
  go_wp2
  refine bodyPost_ret (v := .tuple #[.int .i64 u, .int .i64 v, .bool true]) (by simp [results, Tryz.results34, go_sem]) rfl ⟨rfl, ?_⟩
  (go_light; repeat (first | (with_reducible exact Kept.refl _) | (with_reducible assumption) | (with_reducible refine Kept.alloc ?_ _ _) | (with_reducible refine Kept.drew ?_) | (with_reducible refine Kept.drewN ?_ _) | ((with_reducible refine Kept.setCell ?_ ?_ _); rotate_left; focus (first | (simp; done) | (simp; omega))) | refine Kept.trans ?_ (by assumption)))
set_option maxHeartbeats 1000000 in
theorem who_head (t : Twr) (h : t.Sound) (a v : Int) (v0 : 0 ≤ v) (v1 : v ≤ 100) (hc : ∀ W, Calls Tryz.prog 99 #[.agg #[.int .i64 t.D, .int .i64 t.A.F.N, .int .i64 (4 + t.G)], .int .i64 a] W fun e w' => e = .returned (.tuple #[.int .i64 0, .int .i64 0, .bool false]) ∧ Kept W w') (hc2 : ∀ W, Calls Tryz.prog 100 #[.agg #[.int .i64 t.H, .int .i64 1, .int .i64 t.G], .int .i64 a] W fun e w' => e = .returned (.tuple #[.int .i64 0, .int .i64 v, .bool true]) ∧ Kept W w') (w : World) : Calls Tryz.prog 34 #[towV t, .int .i64 a] w fun e w' => e = .returned (.tuple #[.int .i64 (-1), .int .i64 (4 + v), .bool true]) ∧ Kept w w' := by
  have HS := fun W => Lib.hid (sound_in t h W)
  have NR := fun W => Lib.hid (nodeRow_any t h W)
  have HC := fun W => Lib.hid (hc W)
  have HD := fun W => Lib.hid (hc2 W)
  clear h hc hc2
  go_enter Tryz.func34, Tryz.ntmps34
  go_wp2_with fail
  refine ((HS _).out).mono ?_
  rintro e w1 ⟨rfl, k1⟩
  obtain ⟨a0, a1, a2, a3, a4, a5, a6, a7, a8, a9, a10, a11, a12⟩ := TB.kept (TB.new w _ _ rfl t) k1
  go_wp2_with fail
  refine ((NR _).out).mono ?_
  rintro e w2 ⟨rfl, k2⟩
  obtain ⟨a0, a1, a2, a3, a4, a5, a6, a7, a8, a9, a10, a11, a12⟩ := TB.kept ⟨a0, a1, a2, a3, a4, a5, a6, a7, a8, a9, a10, a11, a12⟩ k2
  go_wp2_with fail
  refine ((HC _).out).mono ?_
  rintro e w3 ⟨rfl, k3⟩
  obtain ⟨a0, a1, a2, a3, a4, a5, a6, a7, a8, a9, a10, a11, a12⟩ := TB.kept ⟨a0, a1, a2, a3, a4, a5, a6, a7, a8, a9, a10, a11, a12⟩ k3
  go_wp2_with fail
  refine (headRow_any t _).mono ?_
  rintro e w4 ⟨rfl, k4⟩
  obtain ⟨a0, a1, a2, a3, a4, a5, a6, a7, a8, a9, a10, a11, a12⟩ := TB.kept ⟨a0, a1, a2, a3, a4, a5, a6, a7, a8, a9, a10, a11, a12⟩ k4
  go_wp2_with fail
  refine ((HD _).out).mono ?_
  rintro e w5 ⟨rfl, k5⟩
  obtain ⟨a0, a1, a2, a3, a4, a5, a6, a7, a8, a9, a10, a11, a12⟩ := TB.kept ⟨a0, a1, a2, a3, a4, a5, a6, a7, a8, a9, a10, a11, a12⟩ k5
  go_wp2
  refine bodyPost_ret (v := .tuple #[.int .i64 (-1), .int .i64 (4 + v), .bool true]) (by simp [results, Tryz.results34, go_sem]) rfl ⟨rfl, ?_⟩
  (go_light; repeat (first | (with_reducible exact Kept.refl _) | (with_reducible assumption) | (with_reducible refine Kept.alloc ?_ _ _) | (with_reducible refine Kept.drew ?_) | (with_reducible refine Kept.drewN ?_ _) | ((with_reducible refine Kept.setCell ?_ ?_ _); rotate_left; focus (first | (simp; done) | (simp; omega))) | refine Kept.trans ?_ (by assumption)))
set_option maxHeartbeats 1000000 in
theorem who_none (t : Twr) (h : t.Sound) (a : Int) (hc : ∀ W, Calls Tryz.prog 99 #[.agg #[.int .i64 t.D, .int .i64 t.A.F.N, .int .i64 (4 + t.G)], .int .i64 a] W fun e w' => e = .returned (.tuple #[.int .i64 0, .int .i64 0, .bool false]) ∧ Kept W w') (hc2 : ∀ W, Calls Tryz.prog 100 #[.agg #[.int .i64 t.H, .int .i64 1, .int .i64 t.G], .int .i64 a] W fun e w' => e = .returned (.tuple #[.int .i64 0, .int .i64 0, .bool false]) ∧ Kept W w') (w : World) : Calls Tryz.prog 34 #[towV t, .int .i64 a] w fun e w' => e = .returned (.tuple #[.int .i64 0, .int .i64 0, .bool false]) ∧ Kept w w' := by
  have HS := fun W => Lib.hid (sound_in t h W)
  have NR := fun W => Lib.hid (nodeRow_any t h W)
  have HC := fun W => Lib.hid (hc W)
  have HD := fun W => Lib.hid (hc2 W)
  clear h hc hc2
  go_enter Tryz.func34, Tryz.ntmps34
  go_wp2_with fail
  refine ((HS _).out).mono ?_
  rintro e w1 ⟨rfl, k1⟩
  obtain ⟨a0, a1, a2, a3, a4, a5, a6, a7, a8, a9, a10, a11, a12⟩ := TB.kept (TB.new w _ _ rfl t) k1
  go_wp2_with fail
  refine ((NR _).out).mono ?_
  rintro e w2 ⟨rfl, k2⟩
  obtain ⟨a0, a1, a2, a3, a4, a5, a6, a7, a8, a9, a10, a11, a12⟩ := TB.kept ⟨a0, a1, a2, a3, a4, a5, a6, a7, a8, a9, a10, a11, a12⟩ k2
  go_wp2_with fail
  refine ((HC _).out).mono ?_
  rintro e w3 ⟨rfl, k3⟩
  obtain ⟨a0, a1, a2, a3, a4, a5, a6, a7, a8, a9, a10, a11, a12⟩ := TB.kept ⟨a0, a1, a2, a3, a4, a5, a6, a7, a8, a9, a10, a11, a12⟩ k3
  go_wp2_with fail
  refine (headRow_any t _).mono ?_
  rintro e w4 ⟨rfl, k4⟩
  obtain ⟨a0, a1, a2, a3, a4, a5, a6, a7, a8, a9, a10, a11, a12⟩ := TB.kept ⟨a0, a1, a2, a3, a4, a5, a6, a7, a8, a9, a10, a11, a12⟩ k4
  go_wp2_with fail
  refine ((HD _).out).mono ?_
  rintro e w5 ⟨rfl, k5⟩
  obtain ⟨a0, a1, a2, a3, a4, a5, a6, a7, a8, a9, a10, a11, a12⟩ := TB.kept ⟨a0, a1, a2, a3, a4, a5, a6, a7, a8, a9, a10, a11, a12⟩ k5
  go_wp2
  refine bodyPost_ret (v := .tuple #[.int .i64 0, .int .i64 0, .bool false]) (by simp [results, Tryz.results34, go_sem]) rfl ⟨rfl, ?_⟩
  (go_light; repeat (first | (with_reducible exact Kept.refl _) | (with_reducible assumption) | (with_reducible refine Kept.alloc ?_ _ _) | (with_reducible refine Kept.drew ?_) | (with_reducible refine Kept.drewN ?_ _) | ((with_reducible refine Kept.setCell ?_ ?_ _); rotate_left; focus (first | (simp; done) | (simp; omega))) | refine Kept.trans ?_ (by assumption)))
theorem who_any (t : Twr) (a : Int) (w : World) : Calls Tryz.prog 34 #[towV t, .int .i64 a] w fun e w' => e = .returned (.tuple #[.int .i64 (whoI t a).1, .int .i64 (whoI t a).2.1, .bool (whoI t a).2.2]) ∧ Kept w w' := by
  by_cases h : t.Sound
  · have G1 := h.G1
    have G2 := h.G2
    have D1 := h.D1
    have D2 := h.D2
    have H1 := h.H1
    have H2 := h.H2
    have b3 := size_hi h
    have b4 := size_lo h
    by_cases hn : t.D ≤ a ∧ a < t.D + t.A.F.N * (4 + t.G)
    · have e : whoI t a = ((a - t.D) / (4 + t.G), (a - t.D) % (4 + t.G), true) := by unfold whoI; rw [if_neg (by simpa using h), if_pos hn]
      rw [e]
      exact who_node t h a _ _ (fun W => whose_n_yes t.D t.A.F.N (4 + t.G) a _ rfl D1 (by omega) (by omega) (by omega) (by omega) hn.1 hn.2 _ _ rfl rfl W) w
    · have hc := fun W => whose_n_no t.D t.A.F.N (4 + t.G) a _ rfl D1 (by omega) (by omega) (by omega) (by omega) W
      by_cases hh : t.H ≤ a ∧ a < t.H + t.G
      · have e : whoI t a = (-1, a - t.H + 4, true) := by unfold whoI; rw [if_neg (by simpa using h), if_neg hn, if_pos hh]
        rw [e]
        have k := who_head t h a (a - t.H) (by omega) (by omega) hc (fun W => whose_h_yes t.H 1 t.G a t.G (by omega) H1 (by omega) (by omega) (by omega) (by omega) hh.1 hh.2 0 (a - t.H) (by rw [Int.ediv_eq_zero_of_lt (by omega) (by omega)]) (by rw [Int.emod_eq_of_lt (by omega) (by omega)]) W) w
        rwa [Int.add_comm 4] at k
      · have e : whoI t a = (0, 0, false) := by unfold whoI; rw [if_neg (by simpa using h), if_neg hn, if_neg hh]
        rw [e]
        exact who_none t h a hc (fun W => whose_h_no t.H 1 t.G a t.G (by omega) H1 (by omega) (by omega) (by omega) (by omega) W) w
  · have e : whoI t a = (0, 0, false) := by unfold whoI; rw [if_pos h]
    rw [e]; exact who_bad t h a w
end Go.Proofs.YtejiogggocnldaaGreat.Tw

namespace Go.Proofs.YtejiogggocnldaaGreat.Tw
set_option maxRecDepth 20000
open Go.RowKit
open Wo (St acc wordAt PMem RefIs)
open Sk (Stk Arn idx Wd fitsA pmem_lt pmem_kept)

def T1 : Twr := { T0 with H := 13 }
def T2 : Twr := { T0 with G := 5 }
theorem apL0 : apB (lparts T0) := by
  have : ∀ i : Fin 7, ∀ j : Fin 7, j.val < i.val → meetB ((lparts T0)[i.val]'i.isLt) ((lparts T0)[j.val]'j.isLt) = false := by decide +kernel
  intro i hi j hj h1 h2
  exact this ⟨i, hi⟩ ⟨j, hj⟩ h2
theorem fitsL_yes {t : Twr} {n : Int} (ha : fitsA t.A n = 0) (he : Ep.fitsE t.E n = 0) (p0 : 0 ≤ t.P) (p1 : t.P ≤ n - 3) (hp : apB (lparts t)) : fitsL t n = 0 := by
  unfold fitsL
  rw [if_neg (by simpa using ha), if_neg (by simpa using he), if_pos ⟨p0, p1, hp⟩]
theorem apT0 : apT T0 = true := by
  rw [apT_iff]
  have : ∀ i : Fin 2, ∀ s ∈ (tparts T0).take i.val ++ lparts T0, meetB ((tparts T0)[i.val]'i.isLt) s = false := by decide +kernel
  intro i hi h2 s hs
  exact this ⟨i, hi⟩ s hs
theorem apT1 : apT T1 = false := by
  have h : ¬ ApFrom (tparts T1) (lparts T1) 2 := fun h => by
    have := h 1 (by decide) (by decide) (11, 3) (by decide +kernel)
    exact absurd this (by decide +kernel)
  cases e : apT T1
  · rfl
  · exact absurd ((apT_iff T1).1 e) h
theorem fL34 : fitsL T0 34 = 0 := fitsL_yes (by decide +kernel) (by decide +kernel) (by decide) (by decide) apL0
theorem fL33 : fitsL T0 33 = 0 := fitsL_yes (by decide +kernel) (by decide +kernel) (by decide) (by decide) apL0
theorem fL1 : fitsL T1 34 = 0 := fitsL_yes (t := T1) (by decide +kernel) (by decide +kernel) (by decide) (by decide) apL0
theorem fL2 : fitsL T2 100 = 0 := fitsL_yes (t := T2) (by decide +kernel) (by decide +kernel) (by decide) (by decide) apL0
theorem fit34 : fitsT T0 34 = 0 := by
  unfold fitsT
  rw [if_neg (by simpa using fL34), if_pos sndT0, apT0]
  decide
theorem fit33 : fitsT T0 33 = 2 := by
  unfold fitsT
  rw [if_neg (by simpa using fL33), if_pos sndT0, apT0]
  decide
theorem fit0 : fitsT T0 0 = 3 := by
  have e : fitsA T0.A 0 = 3 := by decide +kernel
  have e2 : fitsL T0 0 = 3 := by unfold fitsL; rw [e, if_pos (by decide)]
  unfold fitsT
  rw [e2, if_pos (by decide)]
theorem sndT1 : T1.Sound := ⟨by decide, by decide, by decide, by decide, by decide, by decide, by decide, by decide⟩
theorem fit1 : fitsT T1 34 = 2 := by
  unfold fitsT
  rw [if_neg (by simpa using fL1), if_pos sndT1, apT1]
  decide
theorem fit2 : fitsT T2 100 = 2 := by
  unfold fitsT
  rw [if_neg (by simpa using fL2), if_neg (fun h => by have := h.G2; revert this; decide)]
set_option maxHeartbeats 1000000 in
theorem whose_any (at_ i p : Int) (h : (whoI T0 at_).2.2 = true ∧ (whoI T0 at_).1 = i ∧ (whoI T0 at_).2.1 = p) (w : World) : Calls Tryz.prog 40 #[.int .i64 at_, .int .i64 i, .int .i64 p] w fun e w' => e = .returned (.bool true) ∧ Kept w w' := by
  have WH := fun W => Lib.hid (show Calls Tryz.prog 34 #[towV T0, .int .i64 at_] W fun e w' => e = .returned (.tuple #[.int .i64 i, .int .i64 p, .bool true]) ∧ Kept W w' from by have := who_any T0 at_ W; rwa [h.1, h.2.1, h.2.2] at this)
  clear h
  go_enter Tryz.func40, Tryz.ntmps40
  go_wp2_with fail
  refine (chapter_any _).mono ?_
  rintro e w1 ⟨rfl, k1⟩
  go_wp2_with fail
  refine (WH _).out.mono ?_
  rintro e w2 ⟨rfl, k2⟩
  go_wp2
  go_ret
  exact ⟨rfl, k1.trans k2⟩
theorem new_er {w : World} {r k j h er : Int} (hr0 : 0 ≤ r) (hr1 : r < 18446744073709551616) (hl : (newL T0 r k j h).er = er) : Calls Tryz.prog 16 #[towV T0, .int .u64 r, .int .u64 k, .int .i64 j, .int .i64 h] w fun e w' => ∃ P, e = .returned (.pointer (some ⟨P, 0, none⟩)) ∧ w'.cell? ⟨P, 0, none⟩ = some (.bool true) ∧ w'.cell? ⟨P, 7, none⟩ = some (.int .i64 er) ∧ Kept w w' := by
  refine (new_any T0 r k j h hr0 hr1 w).mono ?_
  rintro e w' ⟨P, lo, hi, a, l, _, _, _, _, _, kk⟩
  exact ⟨P, a, l.c0, by rw [← hl]; exact l.c7, kk⟩
theorem errs : (newL T0 281474976710657 7 5 2).er = 5 ∧ (newL T0 0 7 5 2).er = 3 ∧ (newL T0 9223372036854841346 7 5 2).er = 3 ∧ (newL T0 65538 7 5 3).er = 3 ∧ (newL T0 65538 7 (-1) 2).er = 3 := by decide +kernel
structure RL (w : World) (P : Nat) (er : Int) : Prop where
  a : w.cell? ⟨P, 0, none⟩ = some (.bool true)
  b : w.cell? ⟨P, 7, none⟩ = some (.int .i64 er)
theorem RL.kept {w w' : World} {P : Nat} {er : Int} (h : RL w P er) (k : Kept w w') : RL w' P er := ⟨k.some h.a, k.some h.b⟩
theorem RL.err {w : World} {P : Nat} {er : Int} (h : RL w P er) : Calls Tryz.prog 20 #[.pointer (some ⟨P, 0, none⟩)] w fun e w' => e = .returned (.int .i64 er) ∧ w = w' := err_made P er w h.a h.b
set_option maxHeartbeats 4000000 in
theorem refused_any (w : World) : Calls Tryz.prog 41 #[] w fun e w' => e = .returned (.bool true) ∧ Kept w w' := by
  obtain ⟨T, hT⟩ : ∃ T, T = T0 := ⟨_, rfl⟩
  obtain ⟨e1, e2, e3, e4, e5⟩ := errs
  have CH := fun W => Lib.hid (show Calls Tryz.prog 31 #[] W fun e w' => e = .returned (towV T) ∧ Kept W w' from by rw [hT]; exact chapter_any W)
  have N1 := fun W => Lib.hid (show Calls Tryz.prog 16 #[towV T, .int .u64 281474976710657, .int .u64 7, .int .i64 5, .int .i64 2] W fun e w' => ∃ P, e = .returned (.pointer (some ⟨P, 0, none⟩)) ∧ RL w' P 5 ∧ Kept W w' from by rw [hT]; exact (new_er (w := W) (by decide) (by decide) e1).mono fun _ _ ⟨P, x, y, z, k⟩ => ⟨P, x, ⟨y, z⟩, k⟩)
  have N2 := fun W => Lib.hid (show Calls Tryz.prog 16 #[towV T, .int .u64 0, .int .u64 7, .int .i64 5, .int .i64 2] W fun e w' => ∃ P, e = .returned (.pointer (some ⟨P, 0, none⟩)) ∧ RL w' P 3 ∧ Kept W w' from by rw [hT]; exact (new_er (w := W) (by decide) (by decide) e2).mono fun _ _ ⟨P, x, y, z, k⟩ => ⟨P, x, ⟨y, z⟩, k⟩)
  have N3 := fun W => Lib.hid (show Calls Tryz.prog 16 #[towV T, .int .u64 9223372036854841346, .int .u64 7, .int .i64 5, .int .i64 2] W fun e w' => ∃ P, e = .returned (.pointer (some ⟨P, 0, none⟩)) ∧ RL w' P 3 ∧ Kept W w' from by rw [hT]; exact (new_er (w := W) (by decide) (by decide) e3).mono fun _ _ ⟨P, x, y, z, k⟩ => ⟨P, x, ⟨y, z⟩, k⟩)
  have N4 := fun W => Lib.hid (show Calls Tryz.prog 16 #[towV T, .int .u64 65538, .int .u64 7, .int .i64 5, .int .i64 3] W fun e w' => ∃ P, e = .returned (.pointer (some ⟨P, 0, none⟩)) ∧ RL w' P 3 ∧ Kept W w' from by rw [hT]; exact (new_er (w := W) (by decide) (by decide) e4).mono fun _ _ ⟨P, x, y, z, k⟩ => ⟨P, x, ⟨y, z⟩, k⟩)
  have N5 := fun W => Lib.hid (show Calls Tryz.prog 16 #[towV T, .int .u64 65538, .int .u64 7, .int .i64 (-1), .int .i64 2] W fun e w' => ∃ P, e = .returned (.pointer (some ⟨P, 0, none⟩)) ∧ RL w' P 3 ∧ Kept W w' from by rw [hT]; exact (new_er (w := W) (by decide) (by decide) e5).mono fun _ _ ⟨P, x, y, z, k⟩ => ⟨P, x, ⟨y, z⟩, k⟩)
  clear e1 e2 e3 e4 e5 hT
  go_enter Tryz.func41, Tryz.ntmps41
  go_wp2_with fail
  refine (CH _).out.mono ?_
  rintro e w1 ⟨rfl, k1⟩
  go_wp2_with fail
  obtain ⟨W1, hW1⟩ : ∃ W1, W1 = w1.alloc (.cells #[.int .i64 T.D, .int .i64 T.H, .int .i64 T.G, .int .i64 T.A.F.T, .int .i64 T.A.F.K, .int .i64 T.A.F.N, .int .i64 T.A.G, .int .i64 T.A.V, .int .i64 T.A.L, .int .i64 T.E.T, .int .i64 T.E.K, .int .i64 T.E.N, .int .i64 T.P] 31) := ⟨_, rfl⟩
  have TT : Hid (TB W1 w1.heap.size T) := Lib.hid (by rw [hW1]; exact TB.new w1 _ _ rfl T)
  have K1 : Hid (Kept w W1) := Lib.hid (by rw [hW1]; exact k1.alloc _ _)
  rw [← hW1]
  clear hW1 k1
  obtain ⟨a0, a1, a2, a3, a4, a5, a6, a7, a8, a9, a10, a11, a12⟩ := TT.out
  have lz := lt_of_cell a0
  have KT : Kept W1 W1 := Kept.refl _
  go_region_held3 (fun w' => w'.cell? ⟨w1.heap.size, 0, none⟩ = some (.int .i64 T.D) ∧ w'.cell? ⟨w1.heap.size, 1, none⟩ = some (.int .i64 T.H) ∧ w'.cell? ⟨w1.heap.size, 2, none⟩ = some (.int .i64 T.G) ∧ w'.cell? ⟨w1.heap.size, 3, none⟩ = some (.int .i64 T.A.F.T) ∧ w'.cell? ⟨w1.heap.size, 4, none⟩ = some (.int .i64 T.A.F.K) ∧ w'.cell? ⟨w1.heap.size, 5, none⟩ = some (.int .i64 T.A.F.N) ∧ w'.cell? ⟨w1.heap.size, 6, none⟩ = some (.int .i64 T.A.G) ∧ w'.cell? ⟨w1.heap.size, 7, none⟩ = some (.int .i64 T.A.V) ∧ w'.cell? ⟨w1.heap.size, 8, none⟩ = some (.int .i64 T.A.L) ∧ w'.cell? ⟨w1.heap.size, 9, none⟩ = some (.int .i64 T.E.T) ∧ w'.cell? ⟨w1.heap.size, 10, none⟩ = some (.int .i64 T.E.K) ∧ w'.cell? ⟨w1.heap.size, 11, none⟩ = some (.int .i64 T.E.N) ∧ w'.cell? ⟨w1.heap.size, 12, none⟩ = some (.int .i64 T.P)) ((((with_reducible refine tb_all (TB.kept TT.out ?_)); (repeat (first | (with_reducible exact KT) | (with_reducible exact Kept.refl _) | (with_reducible refine Kept.alloc ?_ _ _) | (with_reducible refine Kept.drew ?_) | (with_reducible refine Kept.drewN ?_ _))); done))) (first | (go_at_call 16; (with_reducible refine Calls.mono (N1 _).out ?_); rintro e x1 ⟨PA, rfl, rA, y⟩; have KX : Kept W1 x1 := Kept.trans (b := _) (by repeat (first | with_reducible exact KT | with_reducible exact Kept.refl _ | with_reducible refine Kept.alloc ?_ _ _ | with_reducible refine Kept.drew ?_ | with_reducible refine Kept.drewN ?_ _)) y; have RA := Lib.hid rA; clear rA; (try (have RB := Lib.hid (RB.out.kept (Kept.trans (b := _) (by repeat (first | with_reducible exact Kept.refl _ | with_reducible refine Kept.alloc ?_ _ _ | with_reducible refine Kept.drew ?_ | with_reducible refine Kept.drewN ?_ _)) y)))); have KT := KX; clear KX y; obtain ⟨a0, a1, a2, a3, a4, a5, a6, a7, a8, a9, a10, a11, a12⟩ := TB.kept TT.out KT; have lz := lt_of_cell a0) | (go_at_call 16; (with_reducible refine Calls.mono (N2 _).out ?_); rintro e x2 ⟨PB, rfl, rB, y⟩; have KX : Kept W1 x2 := Kept.trans (b := _) (by repeat (first | with_reducible exact KT | with_reducible exact Kept.refl _ | with_reducible refine Kept.alloc ?_ _ _ | with_reducible refine Kept.drew ?_ | with_reducible refine Kept.drewN ?_ _)) y; have RB := Lib.hid rB; clear rB; (try (have RA := Lib.hid (RA.out.kept (Kept.trans (b := _) (by repeat (first | with_reducible exact Kept.refl _ | with_reducible refine Kept.alloc ?_ _ _ | with_reducible refine Kept.drew ?_ | with_reducible refine Kept.drewN ?_ _)) y)))); have KT := KX; clear KX y; obtain ⟨a0, a1, a2, a3, a4, a5, a6, a7, a8, a9, a10, a11, a12⟩ := TB.kept TT.out KT; have lz := lt_of_cell a0))
  all_goals
    go_wp2_with fail
    go_region_held3 (fun w' => w'.cell? ⟨w1.heap.size, 0, none⟩ = some (.int .i64 T.D) ∧ w'.cell? ⟨w1.heap.size, 1, none⟩ = some (.int .i64 T.H) ∧ w'.cell? ⟨w1.heap.size, 2, none⟩ = some (.int .i64 T.G) ∧ w'.cell? ⟨w1.heap.size, 3, none⟩ = some (.int .i64 T.A.F.T) ∧ w'.cell? ⟨w1.heap.size, 4, none⟩ = some (.int .i64 T.A.F.K) ∧ w'.cell? ⟨w1.heap.size, 5, none⟩ = some (.int .i64 T.A.F.N) ∧ w'.cell? ⟨w1.heap.size, 6, none⟩ = some (.int .i64 T.A.G) ∧ w'.cell? ⟨w1.heap.size, 7, none⟩ = some (.int .i64 T.A.V) ∧ w'.cell? ⟨w1.heap.size, 8, none⟩ = some (.int .i64 T.A.L) ∧ w'.cell? ⟨w1.heap.size, 9, none⟩ = some (.int .i64 T.E.T) ∧ w'.cell? ⟨w1.heap.size, 10, none⟩ = some (.int .i64 T.E.K) ∧ w'.cell? ⟨w1.heap.size, 11, none⟩ = some (.int .i64 T.E.N) ∧ w'.cell? ⟨w1.heap.size, 12, none⟩ = some (.int .i64 T.P)) ((((with_reducible refine tb_all (TB.kept TT.out ?_)); (repeat (first | (with_reducible exact KT) | (with_reducible exact Kept.refl _) | (with_reducible refine Kept.alloc ?_ _ _) | (with_reducible refine Kept.drew ?_) | (with_reducible refine Kept.drewN ?_ _))); done))) (first | (go_at_call 16; (with_reducible refine Calls.mono (N3 _).out ?_); rintro e x3 ⟨PC, rfl, rC, y⟩; have KX : Kept W1 x3 := Kept.trans (b := _) (by repeat (first | with_reducible exact KT | with_reducible exact Kept.refl _ | with_reducible refine Kept.alloc ?_ _ _ | with_reducible refine Kept.drew ?_ | with_reducible refine Kept.drewN ?_ _)) y; have RC := Lib.hid rC; clear rC; (try (have RA := Lib.hid (RA.out.kept (Kept.trans (b := _) (by repeat (first | with_reducible exact Kept.refl _ | with_reducible refine Kept.alloc ?_ _ _ | with_reducible refine Kept.drew ?_ | with_reducible refine Kept.drewN ?_ _)) y)))); (try (have RB := Lib.hid (RB.out.kept (Kept.trans (b := _) (by repeat (first | with_reducible exact Kept.refl _ | with_reducible refine Kept.alloc ?_ _ _ | with_reducible refine Kept.drew ?_ | with_reducible refine Kept.drewN ?_ _)) y)))); (try (have RD := Lib.hid (RD.out.kept (Kept.trans (b := _) (by repeat (first | with_reducible exact Kept.refl _ | with_reducible refine Kept.alloc ?_ _ _ | with_reducible refine Kept.drew ?_ | with_reducible refine Kept.drewN ?_ _)) y)))); have KT := KX; clear KX y; obtain ⟨a0, a1, a2, a3, a4, a5, a6, a7, a8, a9, a10, a11, a12⟩ := TB.kept TT.out KT; have lz := lt_of_cell a0) | (go_at_call 16; (with_reducible refine Calls.mono (N4 _).out ?_); rintro e x4 ⟨PD, rfl, rD, y⟩; have KX : Kept W1 x4 := Kept.trans (b := _) (by repeat (first | with_reducible exact KT | with_reducible exact Kept.refl _ | with_reducible refine Kept.alloc ?_ _ _ | with_reducible refine Kept.drew ?_ | with_reducible refine Kept.drewN ?_ _)) y; have RD := Lib.hid rD; clear rD; (try (have RA := Lib.hid (RA.out.kept (Kept.trans (b := _) (by repeat (first | with_reducible exact Kept.refl _ | with_reducible refine Kept.alloc ?_ _ _ | with_reducible refine Kept.drew ?_ | with_reducible refine Kept.drewN ?_ _)) y)))); (try (have RB := Lib.hid (RB.out.kept (Kept.trans (b := _) (by repeat (first | with_reducible exact Kept.refl _ | with_reducible refine Kept.alloc ?_ _ _ | with_reducible refine Kept.drew ?_ | with_reducible refine Kept.drewN ?_ _)) y)))); (try (have RC := Lib.hid (RC.out.kept (Kept.trans (b := _) (by repeat (first | with_reducible exact Kept.refl _ | with_reducible refine Kept.alloc ?_ _ _ | with_reducible refine Kept.drew ?_ | with_reducible refine Kept.drewN ?_ _)) y)))); have KT := KX; clear KX y; obtain ⟨a0, a1, a2, a3, a4, a5, a6, a7, a8, a9, a10, a11, a12⟩ := TB.kept TT.out KT; have lz := lt_of_cell a0))
    all_goals
      go_wp2_with fail
      refine (N5 _).out.mono ?_
      rintro e x5 ⟨PE, rfl, rE, y⟩
      have KW := Lib.hid (KT.trans (Kept.trans (b := _) (by repeat (first | with_reducible exact Kept.refl _ | with_reducible refine Kept.alloc ?_ _ _ | with_reducible refine Kept.drew ?_ | with_reducible refine Kept.drewN ?_ _)) y))
      have RA := Lib.hid (RA.out.kept (Kept.trans (b := _) (by repeat (first | with_reducible exact Kept.refl _ | with_reducible refine Kept.alloc ?_ _ _ | with_reducible refine Kept.drew ?_ | with_reducible refine Kept.drewN ?_ _)) y))
      have RB := Lib.hid (RB.out.kept (Kept.trans (b := _) (by repeat (first | with_reducible exact Kept.refl _ | with_reducible refine Kept.alloc ?_ _ _ | with_reducible refine Kept.drew ?_ | with_reducible refine Kept.drewN ?_ _)) y))
      have RC := Lib.hid (RC.out.kept (Kept.trans (b := _) (by repeat (first | with_reducible exact Kept.refl _ | with_reducible refine Kept.alloc ?_ _ _ | with_reducible refine Kept.drew ?_ | with_reducible refine Kept.drewN ?_ _)) y))
      have RD := Lib.hid (RD.out.kept (Kept.trans (b := _) (by repeat (first | with_reducible exact Kept.refl _ | with_reducible refine Kept.alloc ?_ _ _ | with_reducible refine Kept.drew ?_ | with_reducible refine Kept.drewN ?_ _)) y))
      clear y KT a0 a1 a2 a3 a4 a5 a6 a7 a8 a9 a10 a11 a12 lz
      go_wp2_with fail
      refine (RA.out.err).mono ?_
      rintro e _ ⟨rfl, rfl⟩
      go_wp2_with fail
      refine (RB.out.err).mono ?_
      rintro e _ ⟨rfl, rfl⟩
      go_wp2_with fail
      refine (RC.out.err).mono ?_
      rintro e _ ⟨rfl, rfl⟩
      go_wp2_with fail
      refine (RD.out.err).mono ?_
      rintro e _ ⟨rfl, rfl⟩
      go_wp2_with fail
      refine (rE.err).mono ?_
      rintro e _ ⟨rfl, rfl⟩
      go_wp2
      go_ret
      exact ⟨rfl, K1.out.trans KW.out⟩
end Go.Proofs.YtejiogggocnldaaGreat.Tw
