/- The law's helpers: two, filled, push, front, drop. Written by gen14k.py. -/
import Derived.Test.YtlfdiffbepfgbaaGreatG16
import Derived.Test.YtlfdiffbepfgbaaGreatG17
import Derived.Test.YtlfdiffbepfgbaaGreatG21
import Derived.Test.YtlfdiffbepfgbaaGreatG00
import Derived.Test.YtlfdiffbepfgbaaGreatG20
import Derived.Test.YtlfdiffbepfgbaaGreatG05
import Derived.WalkKit
import Derived.ProofKit
import Derived.Deep.Slices
import Derived.Deep.Fields
import Derived.Lib.SmallJoins
set_option linter.unusedVariables false
set_option linter.unusedSimpArgs false

namespace Go.Proofs.YtlfdiffbepfgbaaGreat.Ri
set_option maxRecDepth 20000
open Go.RowKit
open Wo (St acc wordAt PMem RefIs)
open Sk (Wd pmem_kept pmem_lt pmem_frame p_new p_words p_load kept_of)

def T2 : Rng := ⟨0, 1, 2, 2⟩
theorem okT2 : T2.Ok 5 := ⟨by decide, by decide, by decide, by decide, by decide, by decide, by decide, by decide, by decide⟩
structure In (w0 : World) (M B : Nat) (s : St) (w : World) : Prop where
  mem : PMem w M B 5 s
  kept : Kept w0 w
  lM : w0.heap.size ≤ M
  lB : w0.heap.size ≤ B
  hM : M < w.heap.size
  hB : B < w.heap.size
  wd : Wd 5 s
  c0 : 0 ≤ s.cnt
  c1 : s.cnt ≤ 900000
theorem In.grow {w0 w w' : World} {M B : Nat} {s : St} (h : In w0 M B s w) (k : Kept w w') : In w0 M B s w' := ⟨pmem_kept h.mem k, h.kept.trans k, h.lM, h.lB, Nat.lt_of_lt_of_le h.hM k.size, Nat.lt_of_lt_of_le h.hB k.size, h.wd, h.c0, h.c1⟩
structure Bk (w0 : World) (M B P : Nat) : Prop where
  l : w0.heap.size ≤ P
  m : P ≠ M
  b : P ≠ B
theorem In.bk {w0 w : World} {M B P : Nat} {s : St} (h : In w0 M B s w) (hP : w.heap.size ≤ P) : Bk w0 M B P :=
  ⟨Nat.le_trans h.kept.size hP, fun e => by have := h.hM; omega, fun e => by have := h.hB; omega⟩
theorem In.step {w0 w w' : World} {M B P : Nat} {s s' : St} (h : In w0 M B s w) (hP : Bk w0 M B P) (m : PMem w' M B 5 s') (g : But (fun k => k = P ∨ k = B) w w') (wd : Wd 5 s') (c0 : 0 ≤ s'.cnt) (c1 : s'.cnt ≤ 900000) : In w0 M B s' w' :=
  ⟨m, ((h.kept.but (fun k => k = P ∨ k = B)).trans g (fun _ _ h => h)).kept (fun k hk e => by have := hP.l; have := h.lB; rcases e with e | e <;> omega), h.lM, h.lB, Nat.lt_of_lt_of_le h.hM g.size, Nat.lt_of_lt_of_le h.hB g.size, wd, c0, c1⟩

def rPl (n : Nat) (R : Rng) (s : St) (x : ROp) : Nat → St × ROp
  | 0 => (s, x)
  | k + 1 => (rSt n R (rPl n R s x k).1 (rPl n R s x k).2, rOp n R (rPl n R s x k).1 (rPl n R s x k).2)
theorem rPl_good {n : Nat} {R : Rng} {s : St} {x : ROp} (hs : Wd n s) (hx : x.Good) : ∀ k, (rPl n R s x k).2.Good ∧ Wd n (rPl n R s x k).1 ∧ s.cnt ≤ (rPl n R s x k).1.cnt ∧ (rPl n R s x k).1.cnt ≤ s.cnt + k
  | 0 => ⟨hx, hs, Int.le_refl _, by show s.cnt ≤ s.cnt + (0 : Nat); omega⟩
  | k + 1 => by
    obtain ⟨a, b, c, d⟩ := rPl_good (R := R) hs hx k
    have := rSt_cnt n R (rPl n R s x k).1 (rPl n R s x k).2
    exact ⟨rOp_good a b, rSt_wd a b, by show s.cnt ≤ (rSt n R (rPl n R s x k).1 (rPl n R s x k).2).cnt; omega, by show (rSt n R (rPl n R s x k).1 (rPl n R s x k).2).cnt ≤ s.cnt + (k + 1 : Nat); omega⟩
def Does (x : ROp) (w0 : World) (M B : Nat) (s : St) (P : Nat) (b : Bool) (w : World) (e : Ending) (w' : World) : Prop := e = .returned (.bool b) ∧ RAt w' P T2 x ∧ In w0 M B s w' ∧ But (fun k => k = P ∨ k = B) w w'
theorem step2_Push {w0 w : World} {M B P : Nat} {s : St} {x : ROp} (h : In w0 M B s w) (o : RAt w P T2 x) (hP : Bk w0 M B P) (hx : x.Good) (hc : s.cnt < 900000) :
    Calls Tryz.prog 117 #[.pointer (some ⟨P, 0, none⟩), .pointer (some ⟨M, 0, none⟩)] w (Does (rOp 5 T2 s x) w0 M B (rSt 5 T2 s x) P ((rOp 5 T2 s x).line == 0) w) :=
  (step_Push P M B 5 T2 okT2 x s w o h.mem h.c0 (by omega) ⟨hP.m, hP.b⟩ hx h.wd).mono
    fun _ _ ⟨a, b, m, g⟩ => ⟨a, b, h.step hP m g (rSt_wd hx h.wd) (by have := h.c0; have := (rSt_cnt 5 T2 s x).1; omega) (by have := (rSt_cnt 5 T2 s x).2; omega), g⟩
theorem step2_Front {w0 w : World} {M B P : Nat} {s : St} {x : ROp} (h : In w0 M B s w) (o : RAt w P T2 x) (hP : Bk w0 M B P) (hx : x.Good) (hc : s.cnt < 900000) :
    Calls Tryz.prog 121 #[.pointer (some ⟨P, 0, none⟩), .pointer (some ⟨M, 0, none⟩)] w (Does (rOp 5 T2 s x) w0 M B (rSt 5 T2 s x) P ((rOp 5 T2 s x).line == 0) w) :=
  (step_Front P M B 5 T2 okT2 x s w o h.mem h.c0 (by omega) ⟨hP.m, hP.b⟩ hx h.wd).mono
    fun _ _ ⟨a, b, m, g⟩ => ⟨a, b, h.step hP m g (rSt_wd hx h.wd) (by have := h.c0; have := (rSt_cnt 5 T2 s x).1; omega) (by have := (rSt_cnt 5 T2 s x).2; omega), g⟩
theorem step2_Drop {w0 w : World} {M B P : Nat} {s : St} {x : ROp} (h : In w0 M B s w) (o : RAt w P T2 x) (hP : Bk w0 M B P) (hx : x.Good) (hc : s.cnt < 900000) :
    Calls Tryz.prog 127 #[.pointer (some ⟨P, 0, none⟩), .pointer (some ⟨M, 0, none⟩)] w (Does (rOp 5 T2 s x) w0 M B (rSt 5 T2 s x) P ((rOp 5 T2 s x).line == 0) w) :=
  (step_Drop P M B 5 T2 okT2 x s w o h.mem h.c0 (by omega) ⟨hP.m, hP.b⟩ hx h.wd).mono
    fun _ _ ⟨a, b, m, g⟩ => ⟨a, b, h.step hP m g (rSt_wd hx h.wd) (by have := h.c0; have := (rSt_cnt 5 T2 s x).1; omega) (by have := (rSt_cnt 5 T2 s x).2; omega), g⟩

set_option maxHeartbeats 1000000 in
theorem two_any (w : World) : Calls Tryz.prog 108 #[] w fun e w' => e = .returned (ringV T2) ∧ Kept w w' := by
  go_enter Tryz.func108, Tryz.ntmps108
  go_wp2
  refine bodyPost_ret (v := .agg #[.int .i64 0, .int .i64 1, .int .i64 2, .int .i64 2]) (by simp [results, Tryz.results108, go_sem]) rfl ⟨rfl, ?_⟩
  (go_light; repeat (first | (with_reducible exact Kept.refl _) | (with_reducible assumption) | (with_reducible refine Kept.alloc ?_ _ _) | (with_reducible refine Kept.drew ?_) | (with_reducible refine Kept.drewN ?_ _) | ((with_reducible refine Kept.setCell ?_ ?_ _); rotate_left; focus (first | (simp; done) | (simp; omega))) | refine Kept.trans ?_ (by assumption)))
theorem wd_zero (n : Nat) : Wd n Wo.St.zero := ⟨fun _ => by show (0 : Int) ≤ 0; decide, fun _ => by show (0 : Int) < 18446744073709551616; decide⟩
def s0 : St := fillSt 5 T2 Wo.St.zero
def Chap (s : St) (w : World) (e : Ending) (w' : World) : Prop := ∃ M B, e = .returned (.pointer (some ⟨M, 0, none⟩)) ∧ In w M B s w'
set_option maxHeartbeats 2000000 in
theorem lfilled_any (w : World) : Calls Tryz.prog 210 #[] w (Chap s0 w) := by
  go_enter Tryz.func210, Tryz.ntmps210
  go_wp2_with fail
  refine (p_new 5 (by decide) (by decide) _).mono ?_
  rintro e w1 ⟨rfl, m1, z1, k1⟩
  have M1 := Lib.hid m1
  have K1 := Lib.hid k1
  have Z1 := Lib.hid z1
  clear m1 k1 z1
  go_wp2_with fail
  refine (two_any _).mono ?_
  rintro e w2 ⟨rfl, k2⟩
  have K2 := Lib.hid k2
  clear k2
  go_wp2_with fail
  refine (p_fill _ _ 5 T2 Wo.St.zero _ (pmem_kept M1.out K2.out) (by decide) (by decide) okT2).mono ?_
  rintro e w3 ⟨rfl, m3, b3⟩
  have M3 : Hid (PMem w3 (w.heap.size + 1) w.heap.size 5 s0) := Lib.hid m3
  have K3 : Hid (Kept w w3) := Lib.hid ((((K1.out.trans K2.out).but (fun k => k = w.heap.size)).trans b3 (fun _ _ h => h)).kept (fun k hk h => by omega))
  clear m3 b3
  go_wp2
  go_ret
  exact ⟨w.heap.size + 1, w.heap.size, rfl, M3.out, K3.out, by omega, by omega, (pmem_lt M3.out).1, (pmem_lt M3.out).2, fillTo_wd (wd_zero 5) _, by decide +kernel, by decide +kernel⟩

structure Runs (s : St) (x : ROp) (k : Nat) (er : Int) : Prop where
  on : ∀ i, i < k → (rPl 5 T2 s x i).2.line ≠ 0
  off : (rPl 5 T2 s x k).2.line = 0
  er : (rPl 5 T2 s x k).2.er = er

set_option maxHeartbeats 2000000 in
theorem lpush_any {w0 w : World} {M B P : Nat} {s : St} {x : ROp} {m : Nat} {er : Int} (h : In w0 M B s w) (o : RAt w P T2 x) (hP : Bk w0 M B P) (hx : x.Good) (hc : s.cnt ≤ 800000) (hm : m ≤ 100) (hr : Runs s x (m + 1) er) :
    Calls Tryz.prog 211 #[.pointer (some ⟨M, 0, none⟩), .pointer (some ⟨P, 0, none⟩), .int .i64 (m + 1 : Nat), .int .i64 er] w fun e w' => e = .returned (.bool true) ∧ RAt w' P T2 (rPl 5 T2 s x (m + 1)).2 ∧ In w0 M B (rPl 5 T2 s x (m + 1)).1 w' ∧ But (fun k => k = P ∨ k = B) w w' := by
  have HG := fun k => Lib.hid (rPl_good (R := T2) h.wd hx k)
  have HR := Lib.hid hr
  have HP := Lib.hid hP
  have HI := Lib.hid h
  have HO := Lib.hid o
  have HS : ∀ k W, k ≤ m → In w0 M B (rPl 5 T2 s x k).1 W → RAt W P T2 (rPl 5 T2 s x k).2 → Hid (Calls Tryz.prog 117 #[.pointer (some ⟨P, 0, none⟩), .pointer (some ⟨M, 0, none⟩)] W (Does (rPl 5 T2 s x (k + 1)).2 w0 M B (rPl 5 T2 s x (k + 1)).1 P ((rPl 5 T2 s x (k + 1)).2.line == 0) W)) := fun k W hk i a => Lib.hid (by
    have g := (HG k).out
    exact step2_Push i a HP.out g.1 (by omega))
  clear h o hP hx hr
  have hm2 : ((m + 1 : Nat) : Int) = (m : Int) + 1 := by omega
  rw [hm2]
  go_enter Tryz.func211, Tryz.ntmps211
  go_wp2_with fail
  go_loopw [9] (fun i wr => ∃ k : Nat, k ≤ m ∧ i = .int .i64 (k + 1) ∧ In w0 M B (rPl 5 T2 s x k).1 wr ∧ RAt wr P T2 (rPl 5 T2 s x k).2 ∧ But (fun k => k = P ∨ k = B) w wr) (fun i _ => m + 1 - (intOf i).toNat)
  case atStart => exact ⟨0, Nat.zero_le _, rfl, HI.out, HO.out, But.refl _ _⟩
  case round =>
    obtain ⟨k, hk, rfl, mr, ar, br⟩ := hrel
    have HS1 := HS k _ hk mr ar
    have BR := Lib.hid br
    clear mr ar br
    by_cases hlt : k < m
    · have hl : (k : Int) + 1 < m + 1 := by omega
      have hb1 : ((rPl 5 T2 s x (k + 1)).2.line == 0) = false := by simpa using HR.out.on (k + 1) (by omega)
      have he14 : (rPl 5 T2 s x (k + 1)).2.er = 14 := by
        rcases (HG (k + 1)).out.1.er with ⟨_, e⟩ | ⟨e, _⟩
        · exact e
        · exact absurd e (HR.out.on (k + 1) (by omega))
      rw [hb1] at HS1
      go_wp2_with fail
      refine HS1.out.mono ?_
      rintro e w4 ⟨rfl, a4, m4, g4⟩
      have A4 := Lib.hid a4
      have M4 := Lib.hid m4
      have B4 := Lib.hid (BR.out.trans g4 (fun _ _ h => h))
      have HT : ∀ W, Hid (RAt W P T2 (rPl 5 T2 s x (k + 1)).2 → Calls Tryz.prog 119 #[.pointer (some ⟨P, 0, none⟩)] W fun e w' => e = .returned (.int .i64 14) ∧ W = w') := fun W => Lib.hid (fun a => by have := told_Push P T2 _ W a; rwa [he14] at this)
      clear m4 a4 g4 HS1 he14
      go_wp2_with fail
      refine ((HT _).out A4.out).mono ?_
      rintro e w5 ⟨rfl, rfl⟩
      go_wp2
      go_roundw
      case rel => exact ⟨k + 1, by omega, by go_num, M4.out, A4.out, B4.out⟩
      case measure => simp [intOf]; omega
    · have hl : ¬ (k : Int) + 1 < m + 1 := by omega
      obtain rfl : k = m := by omega
      have hb1 : ((rPl 5 T2 s x (k + 1)).2.line == 0) = true := by simpa using HR.out.off
      have he := HR.out.er
      rw [hb1] at HS1
      go_wp2_with fail
      refine HS1.out.mono ?_
      rintro e w4 ⟨rfl, a4, m4, g4⟩
      have A4 := Lib.hid a4
      have M4 := Lib.hid m4
      have B4 := Lib.hid (BR.out.trans g4 (fun _ _ h => h))
      have HT : ∀ W, Hid (RAt W P T2 (rPl 5 T2 s x (k + 1)).2 → Calls Tryz.prog 119 #[.pointer (some ⟨P, 0, none⟩)] W fun e w' => e = .returned (.int .i64 er) ∧ W = w') := fun W => Lib.hid (fun a => by have := told_Push P T2 _ W a; rwa [he] at this)
      clear m4 a4 g4 HS1 he
      go_wp2_with fail
      refine ((HT _).out A4.out).mono ?_
      rintro e w5 ⟨rfl, rfl⟩
      go_wp2
      go_ret
      exact ⟨rfl, A4.out, M4.out, B4.out⟩
set_option maxHeartbeats 4000000 in
theorem lfront_any {w0 w : World} {M B : Nat} {s : St} {want at_ : Int} (h : In w0 M B s w) (hc : s.cnt ≤ 800000) (hr : Runs s frontNew 2 0) (hv : (rPl 5 T2 s frontNew 2).2.v = want) (ht : (rPl 5 T2 s frontNew 2).2.t = at_) :
    Calls Tryz.prog 212 #[.pointer (some ⟨M, 0, none⟩), .int .i64 want, .int .u64 at_] w fun e w' => e = .returned (.bool true) ∧ In w0 M B (rPl 5 T2 s frontNew 2).1 w' := by
  have g1 := rPl_good (R := T2) h.wd frontNew_good 1
  have g2 := rPl_good (R := T2) h.wd frontNew_good 2
  have l1 : ((rPl 5 T2 s frontNew 1).2.line == 0) = false := by simpa using hr.on 1 (by decide)
  have l2 : ((rPl 5 T2 s frontNew 2).2.line == 0) = true := by simpa using hr.off
  have e1 : (rPl 5 T2 s frontNew 1).2.er = 14 := by
    rcases g1.1.er with ⟨_, e⟩ | ⟨e, _⟩
    · exact e
    · rw [e] at l1; simp at l1
  have tv : toldV (rPl 5 T2 s frontNew 2).2 = want := by unfold toldV; rw [if_pos hr.er, hv]
  have tv1 : toldV (rPl 5 T2 s frontNew 1).2 = 0 := by unfold toldV; rw [if_neg (by rw [e1]; decide)]
  have er2 := hr.er
  have F := Lib.hid (And.intro g1 (And.intro g2 (And.intro l1 (And.intro l2 (And.intro e1 (And.intro tv (And.intro tv1 (And.intro er2 ht))))))))
  have HI := Lib.hid h
  clear h g1 g2 l1 l2 e1 tv tv1 er2 hr hv ht
  go_enter Tryz.func212, Tryz.ntmps212
  go_wp2_with fail
  refine (two_any _).mono ?_
  rintro e w1 ⟨rfl, k1⟩
  have I1 := Lib.hid (HI.out.grow k1)
  clear k1
  go_wp2_with fail
  refine (newFront_yes T2 (by decide) (by decide) _).mono ?_
  rintro e w2 ⟨P, rfl, lP, gP, o2, k2⟩
  have hP := Lib.hid (I1.out.bk lP)
  have I2 := Lib.hid (I1.out.grow k2)
  have O2 := Lib.hid o2
  clear k2 lP gP o2
  have ST1 : Hid (Calls Tryz.prog 121 #[.pointer (some ⟨P, 0, none⟩), .pointer (some ⟨M, 0, none⟩)] w2 (Does (rPl 5 T2 s frontNew 1).2 w0 M B (rPl 5 T2 s frontNew 1).1 P false w2)) := Lib.hid (by
    have := step2_Front I2.out O2.out hP.out frontNew_good (by omega)
    have e : ((rOp 5 T2 s frontNew).line == 0) = false := F.out.2.2.1
    rw [e] at this
    exact this)
  go_wp2_with fail
  refine ST1.out.mono ?_
  rintro e w3 ⟨rfl, o3, i3, b3⟩
  have O3 := Lib.hid o3
  have I3 := Lib.hid i3
  clear o3 i3 b3 ST1 I2 O2 I1
  have TV1 : Hid (Calls Tryz.prog 123 #[.pointer (some ⟨P, 0, none⟩)] w3 fun e w' => e = .returned (.tuple #[.int .i64 0, .int .i64 14]) ∧ w3 = w') := Lib.hid (by
    have := told_Front P T2 _ w3 O3.out
    rw [F.out.2.2.2.2.1, F.out.2.2.2.2.2.2.1] at this
    exact this)
  go_wp2_with fail
  refine TV1.out.mono ?_
  rintro e w4 ⟨rfl, rfl⟩
  have ST2 : Hid (Calls Tryz.prog 121 #[.pointer (some ⟨P, 0, none⟩), .pointer (some ⟨M, 0, none⟩)] w3 (Does (rPl 5 T2 s frontNew 2).2 w0 M B (rPl 5 T2 s frontNew 2).1 P true w3)) := Lib.hid (by
    have := step2_Front I3.out O3.out hP.out F.out.1.1 (by have := F.out.1.2.2.2; omega)
    have e : ((rOp 5 T2 (rPl 5 T2 s frontNew 1).1 (rPl 5 T2 s frontNew 1).2).line == 0) = true := F.out.2.2.2.1
    rw [e] at this
    exact this)
  clear TV1
  go_wp2_with fail
  refine ST2.out.mono ?_
  rintro e w5 ⟨rfl, o5, i5, b5⟩
  have O5 := Lib.hid o5
  have I5 := Lib.hid i5
  clear o5 i5 b5 ST2 I3 O3
  have TV2 : Hid (Calls Tryz.prog 123 #[.pointer (some ⟨P, 0, none⟩)] w5 fun e w' => e = .returned (.tuple #[.int .i64 want, .int .i64 0]) ∧ w5 = w') := Lib.hid (by
    have := told_Front P T2 _ w5 O5.out
    rw [F.out.2.2.2.2.2.1, F.out.2.2.2.2.2.2.2.1] at this
    exact this)
  have TA : Hid (Calls Tryz.prog 125 #[.pointer (some ⟨P, 0, none⟩)] w5 fun e w' => e = .returned (.int .u64 at_) ∧ w5 = w') := Lib.hid (by
    have := at_Front P T2 _ w5 O5.out
    rw [F.out.2.2.2.2.2.2.2.2] at this
    exact this)
  go_wp2_with fail
  refine TV2.out.mono ?_
  rintro e w6 ⟨rfl, rfl⟩
  go_wp2_with fail
  refine TA.out.mono ?_
  rintro e w7 ⟨rfl, rfl⟩
  go_wp2
  go_ret
  exact ⟨rfl, I5.out⟩
set_option maxHeartbeats 4000000 in
theorem ldrop_any {w0 w : World} {M B : Nat} {s : St} {at_ : Int} (h0 : 0 ≤ at_) (h1 : at_ < 18446744073709551616) (h : In w0 M B s w) (hc : s.cnt ≤ 800000) (hr : Runs s (dropNew at_) 2 0) :
    Calls Tryz.prog 213 #[.pointer (some ⟨M, 0, none⟩), .int .u64 at_] w fun e w' => e = .returned (.bool true) ∧ In w0 M B (rPl 5 T2 s (dropNew at_) 2).1 w' := by
  have g1 := rPl_good (R := T2) h.wd (dropNew_good h0 h1) 1
  have g0 := dropNew_good h0 h1
  have l1 : ((rPl 5 T2 s (dropNew at_) 1).2.line == 0) = false := by simpa using hr.on 1 (by decide)
  have l2 : ((rPl 5 T2 s (dropNew at_) 2).2.line == 0) = true := by simpa using hr.off
  have e1 : (rPl 5 T2 s (dropNew at_) 1).2.er = 14 := by
    rcases g1.1.er with ⟨_, e⟩ | ⟨e, _⟩
    · exact e
    · rw [e] at l1; simp at l1
  have er2 := hr.er
  have F := Lib.hid (And.intro g1 (And.intro l1 (And.intro l2 (And.intro e1 er2))))
  have G0 := Lib.hid g0
  have HI := Lib.hid h
  clear h g0 g1 l1 l2 e1 er2 hr
  go_enter Tryz.func213, Tryz.ntmps213
  go_wp2_with fail
  refine (two_any _).mono ?_
  rintro e w1 ⟨rfl, k1⟩
  have I1 := Lib.hid (HI.out.grow k1)
  clear k1
  go_wp2_with fail
  refine (newDrop_yes T2 at_ (by decide) (by decide) _).mono ?_
  rintro e w2 ⟨P, rfl, lP, gP, o2, k2⟩
  have hP := Lib.hid (I1.out.bk lP)
  have I2 := Lib.hid (I1.out.grow k2)
  have O2 := Lib.hid o2
  clear k2 lP gP o2
  have ST1 : Hid (Calls Tryz.prog 127 #[.pointer (some ⟨P, 0, none⟩), .pointer (some ⟨M, 0, none⟩)] w2 (Does (rPl 5 T2 s (dropNew at_) 1).2 w0 M B (rPl 5 T2 s (dropNew at_) 1).1 P false w2)) := Lib.hid (by
    have := step2_Drop I2.out O2.out hP.out G0.out (by omega)
    have e : ((rOp 5 T2 s (dropNew at_)).line == 0) = false := F.out.2.1
    rw [e] at this
    exact this)
  go_wp2_with fail
  refine ST1.out.mono ?_
  rintro e w3 ⟨rfl, o3, i3, b3⟩
  have O3 := Lib.hid o3
  have I3 := Lib.hid i3
  clear o3 i3 b3 ST1 I2 O2 I1
  have TV1 : Hid (Calls Tryz.prog 129 #[.pointer (some ⟨P, 0, none⟩)] w3 fun e w' => e = .returned (.int .i64 14) ∧ w3 = w') := Lib.hid (by
    have := told_Drop P T2 _ w3 O3.out
    rw [F.out.2.2.2.1] at this
    exact this)
  go_wp2_with fail
  refine TV1.out.mono ?_
  rintro e w4 ⟨rfl, rfl⟩
  have ST2 : Hid (Calls Tryz.prog 127 #[.pointer (some ⟨P, 0, none⟩), .pointer (some ⟨M, 0, none⟩)] w3 (Does (rPl 5 T2 s (dropNew at_) 2).2 w0 M B (rPl 5 T2 s (dropNew at_) 2).1 P true w3)) := Lib.hid (by
    have := step2_Drop I3.out O3.out hP.out F.out.1.1 (by have := F.out.1.2.2.2; omega)
    have e : ((rOp 5 T2 (rPl 5 T2 s (dropNew at_) 1).1 (rPl 5 T2 s (dropNew at_) 1).2).line == 0) = true := F.out.2.2.1
    rw [e] at this
    exact this)
  clear TV1
  go_wp2_with fail
  refine ST2.out.mono ?_
  rintro e w5 ⟨rfl, o5, i5, b5⟩
  have O5 := Lib.hid o5
  have I5 := Lib.hid i5
  clear o5 i5 b5 ST2 I3 O3
  have TV2 : Hid (Calls Tryz.prog 129 #[.pointer (some ⟨P, 0, none⟩)] w5 fun e w' => e = .returned (.int .i64 0) ∧ w5 = w') := Lib.hid (by
    have := told_Drop P T2 _ w5 O5.out
    rw [F.out.2.2.2.2] at this
    exact this)
  go_wp2_with fail
  refine TV2.out.mono ?_
  rintro e w6 ⟨rfl, rfl⟩
  go_wp2
  go_ret
  exact ⟨rfl, I5.out⟩
end Go.Proofs.YtlfdiffbepfgbaaGreat.Ri

namespace Go.Proofs.YtlfdiffbepfgbaaGreat.Ri
set_option maxRecDepth 20000
open Go.ChangeShapes Go.WideShapes Go.Deep Go.RowKit

def words (l : List Int) : List Value := l.map (Value.int .u64)
theorem words_flat (l : List Int) : words l = l.flatMap fun x => [Value.int .u64 x] := by simp [words, List.flatMap]; induction l <;> simp_all
theorem words_at (l : List Int) (j : Nat) (h : j < l.length) : (words l)[j]? = some (.int .u64 (l.getD j 0)) := by simp [words, h]
def actc (a : Int × Int × Int × Int) : List Value := [.int .i64 a.1, .int .i64 a.2.1, .int .i64 a.2.2.1, .int .u64 a.2.2.2]
theorem actc_length (a : Int × Int × Int × Int) : (actc a).length = 4 := rfl
theorem cellsAct : Tryz.prog.cellsOf 120 = 4 := by kernel_rfl
theorem cellsInt : Tryz.prog.cellsOf 3 = 1 := by kernel_rfl
theorem cellsU : Tryz.prog.cellsOf 28 = 1 := by kernel_rfl
section
variable {H : Type} {enc : TypeId × Value → H} {w : World} {base : Nat} {spare : Nat → Bool} {held : Bool}
theorem open_wideP {α : Type} {f : α → List Value} {R : α → Prop} {m : Nat} {e t : TypeId} (ht : Tryz.prog.underlying t = some (.slice e)) (hC : Tryz.prog.cellsOf e = m) (hm : 0 < m) (hf : ∀ a, (f a).length = m)
    (ho : ∀ (fuel : Nat) (cs : List Value) (x : DataW H × List MemPlace), DataW.trod enc Tryz.prog w base spare held fuel e cs = some x → ∃ a, cs = f a ∧ R a)
    {fuel : Nat} {a : Option Addr} {len cap : Nat} {x : DataW H × List MemPlace} (h : DataW.trod enc Tryz.prog w base spare held fuel t [.slice a len cap] = some x) :
    ∃ l : List α, l.length = len ∧ Lay w (.slice a len cap) len (l.flatMap f) ∧ ∀ a ∈ l, R a := by
  rcases open_slice ht h with h0 | ⟨y, len', cap', m', n, D, Pl, hcs, _, hl, hm', hmm, _, hi⟩
  · obtain ⟨rfl, rfl, rfl⟩ : a = none ∧ len = 0 ∧ cap = 0 := by simpa using h0.1
    exact ⟨[], rfl, .inl (.inl ⟨rfl, rfl, rfl⟩), by simp⟩
  · obtain ⟨rfl, rfl, rfl⟩ : a = some y ∧ len = len' ∧ cap = cap' := by simpa using hcs
    have hle : len ≤ m' := by rw [hmm]; split <;> omega
    rw [hC] at hi
    have each : ∀ i, i < len → ∃ e : α, (∀ j u, j < m → (f e)[j]? = some u → w.cell? (y.add (i * m + j)) = some u) ∧ R e := by
      intro i hil
      obtain ⟨cs', hc, ht⟩ := hi i (by omega)
      obtain ⟨e, rfl, we⟩ := ho _ _ _ ht
      obtain ⟨_, _, hat⟩ := World.cells?_some hc
      refine ⟨e, fun j u hj hu => ?_, we⟩
      have := hat j hj
      rw [add_add] at this
      exact this.trans hu
    by_cases h0 : len = 0
    · subst h0
      exact ⟨[], rfl, .inr ⟨y, cap, rfl, rfl, rfl, hm'⟩, by simp⟩
    · obtain ⟨b, off, spot⟩ := y
      have hs : spot = none := by
        obtain ⟨e, he, _⟩ := each 0 (by omega)
        have := he 0 _ hm (List.getElem?_eq_getElem (by rw [hf]; exact hm))
        simpa [Addr.add] using World.cell?_spot this
      subst hs
      have pick : ∀ n, n ≤ len → ∃ l : List α, l.length = n ∧ (∀ e ∈ l, R e) ∧ ∀ i e, l[i]? = some e → ∀ j u, j < m → (f e)[j]? = some u → w.cell? ⟨b, off + (i * m + j), none⟩ = some u := by
        intro n
        induction n with
        | zero => intro _; exact ⟨[], rfl, by simp, by simp⟩
        | succ n ih =>
          intro hn
          obtain ⟨l, hl1, hl2, hl3⟩ := ih (by omega)
          obtain ⟨e, he, we⟩ := each n (by omega)
          refine ⟨l ++ [e], by simp [hl1], fun f hf => ?_, fun i g hg j u hj hu => ?_⟩
          · rcases List.mem_append.1 hf with hf | hf
            · exact hl2 f hf
            · simp at hf; subst hf; exact we
          · by_cases hi' : i < l.length
            · rw [List.getElem?_append_left hi'] at hg
              exact hl3 i g hg j u hj hu
            · have h2 := (List.getElem?_eq_some_iff.1 hg).1
              have e1 : i = l.length := by simp at h2; omega
              subst e1
              have e2 : e = g := by simpa using hg
              subst e2
              have := he j u hj hu
              rw [add_none] at this
              rw [hl1]
              exact this
      obtain ⟨l, hl1, hl2, hl3⟩ := pick len (Nat.le_refl _)
      refine ⟨l, hl1, .inl (.inr ⟨b, off, cap, rfl, hl, hm', fun j u hu => ?_⟩), hl2⟩
      have hj : j < l.length * m := by rw [← wide_length hf]; exact (List.getElem?_eq_some_iff.1 hu).1
      have hr : j % m < m := Nat.mod_lt _ hm
      have hi2 : j / m < l.length := Nat.div_lt_of_lt_mul (by rw [Nat.mul_comm]; exact hj)
      have ej : j / m * m + j % m = j := by rw [Nat.mul_comm]; exact Nat.div_add_mod j m
      obtain ⟨e, he⟩ : ∃ e, l[j / m]? = some e := ⟨_, List.getElem?_eq_getElem hi2⟩
      have h3 := hl3 (j / m) e he (j % m) u hr (by rw [← wide_get hf l (j / m) (j % m) e he hr, ej]; exact hu)
      rw [ej] at h3
      exact h3

theorem wf_u64 (x : Int) (h : (Lit.int .u64 x).wf = true) : 0 ≤ x ∧ x < 18446744073709551616 := by
  have e : IntKind.u64.min = 0 := by decide
  have e' : IntKind.u64.max = 18446744073709551615 := by decide
  have := h
  simp [Lit.wf, e, e'] at this
  omega
theorem open_words {fuel : Nat} {a : Option Addr} {len cap : Nat} {x : DataW H × List MemPlace} (h : DataW.trod enc Tryz.prog w base spare held fuel 29 [.slice a len cap] = some x) :
    ∃ l : List Int, l.length = len ∧ Lay w (.slice a len cap) len (words l) ∧ ∀ x ∈ l, 0 ≤ x ∧ x < 18446744073709551616 := by
  obtain ⟨l, h1, h2, h3⟩ := open_wideP (f := fun x => [Value.int .u64 x]) (R := fun x => 0 ≤ x ∧ x < 18446744073709551616) Tryz.underlying29 cellsU (by decide) (fun _ => rfl) (fun fuel cs x h => by
    obtain ⟨q, h1, h2, hw⟩ := DataW.trod_int (cs := cs) Tryz.underlying28 h
    exact ⟨q, by simpa using h1, wf_u64 q hw⟩) h
  exact ⟨l, h1, by rw [words_flat]; exact h2, h3⟩
theorem open_act {fuel : Nat} {cs : List Value} {x : DataW H × List MemPlace} (h : DataW.trod enc Tryz.prog w base spare held fuel 120 cs = some x) : ∃ e : Int × Int × Int × Int, cs = actc e ∧ 0 ≤ e.2.2.2 ∧ e.2.2.2 < 18446744073709551616 := by
  obtain ⟨ys, n2, _, _, hl, hyl, hg⟩ := DataW.trod_struct Tryz.underlying120 h
  rw [cellsAct] at hl
  match cs, hl with
  | [v2, v3, v4, v5], _ =>
    match ys, hyl with
    | [y0, y1, y2, y3], _ =>
      have g0 : DataW.trod enc Tryz.prog w base spare held n2 3 (([v2, v3, v4, v5].drop 0).take (Tryz.prog.cellsOf 3)) = some y0 := hg 0 _ rfl
      have g1 : DataW.trod enc Tryz.prog w base spare held n2 3 (([v2, v3, v4, v5].drop 1).take (Tryz.prog.cellsOf 3)) = some y1 := hg 1 _ rfl
      have g2 : DataW.trod enc Tryz.prog w base spare held n2 3 (([v2, v3, v4, v5].drop 2).take (Tryz.prog.cellsOf 3)) = some y2 := hg 2 _ rfl
      have g3 : DataW.trod enc Tryz.prog w base spare held n2 28 (([v2, v3, v4, v5].drop 3).take (Tryz.prog.cellsOf 28)) = some y3 := hg 3 _ rfl
      simp only [cellsInt, cellsU, List.drop_zero, List.drop_succ_cons, List.take_succ_cons, List.take_zero] at g0 g1 g2 g3
      obtain ⟨q2, e2, _, _⟩ := DataW.trod_int Tryz.underlying3 g0
      obtain ⟨q3, e3, _, _⟩ := DataW.trod_int Tryz.underlying3 g1
      obtain ⟨q4, e4, _, _⟩ := DataW.trod_int Tryz.underlying3 g2
      obtain ⟨q5, e5, _, f5⟩ := DataW.trod_int Tryz.underlying28 g3
      have w5 := wf_u64 q5 f5
      simp at e2 e3 e4 e5
      subst e2; subst e3; subst e4; subst e5
      exact ⟨⟨q2, q3, q4, q5⟩, rfl, w5⟩
theorem open_acts {fuel : Nat} {a : Option Addr} {len cap : Nat} {x : DataW H × List MemPlace} (h : DataW.trod enc Tryz.prog w base spare held fuel 115 [.slice a len cap] = some x) :
    ∃ l : List (Int × Int × Int × Int), l.length = len ∧ Lay w (.slice a len cap) len (l.flatMap actc) ∧ ∀ e ∈ l, 0 ≤ e.2.2.2 ∧ e.2.2.2 < 18446744073709551616 := by
  obtain ⟨l, h1, h2, h3⟩ := open_wideP (f := actc) (R := fun e => 0 ≤ e.2.2.2 ∧ e.2.2.2 < 18446744073709551616) Tryz.underlying115 cellsAct (by decide) actc_length (fun fuel cs x h => open_act h) h
  exact ⟨l, h1, h2, h3⟩
end
end Go.Proofs.YtlfdiffbepfgbaaGreat.Ri
