/- The law's helpers: two, filled, push, front, drop. Written by gen14k.py. -/
import Derived.Test.YtlfdiffbepfgbaaG09
import Derived.Test.YtlfdiffbepfgbaaG10
import Derived.Test.YtlfdiffbepfgbaaG14
import Derived.Test.YtlfdiffbepfgbaaG00
set_option linter.unusedVariables false
set_option linter.unusedSimpArgs false

namespace Go.Proofs.Ytlfdiffbepfgbaa.Ri
set_option maxRecDepth 20000
open Go.RowKit
open Wo (St acc wordAt PMem RefIs)
open Sk (Wd pmem_kept pmem_lt pmem_frame p_new p_words p_load kept_of)

def T2 : Rng := ⟨0, 1, 2, 2⟩
theorem okT2 : T2.Ok 5 := ⟨by decide, by decide, by decide, by decide, by decide, by decide, by decide, by decide, by decide⟩
structure In (w0 : World) (M B : Nat) (s : St) (w : World) : Prop where
  mem : PMem w M B 5 s
  kept : Kept w0 w
  lM : w0.heap.size ≤ M
  lB : w0.heap.size ≤ B
  hM : M < w.heap.size
  hB : B < w.heap.size
  wd : Wd 5 s
  c0 : 0 ≤ s.cnt
  c1 : s.cnt ≤ 900000
theorem In.grow {w0 w w' : World} {M B : Nat} {s : St} (h : In w0 M B s w) (k : Kept w w') : In w0 M B s w' := ⟨pmem_kept h.mem k, h.kept.trans k, h.lM, h.lB, Nat.lt_of_lt_of_le h.hM k.size, Nat.lt_of_lt_of_le h.hB k.size, h.wd, h.c0, h.c1⟩
structure Bk (w0 : World) (M B P : Nat) : Prop where
  l : w0.heap.size ≤ P
  m : P ≠ M
  b : P ≠ B
theorem In.bk {w0 w : World} {M B P : Nat} {s : St} (h : In w0 M B s w) (hP : w.heap.size ≤ P) : Bk w0 M B P :=
  ⟨Nat.le_trans h.kept.size hP, fun e => by have := h.hM; omega, fun e => by have := h.hB; omega⟩
theorem In.step {w0 w w' : World} {M B P : Nat} {s s' : St} (h : In w0 M B s w) (hP : Bk w0 M B P) (m : PMem w' M B 5 s') (g : But (fun k => k = P ∨ k = B) w w') (wd : Wd 5 s') (c0 : 0 ≤ s'.cnt) (c1 : s'.cnt ≤ 900000) : In w0 M B s' w' :=
  ⟨m, ((h.kept.but (fun k => k = P ∨ k = B)).trans g (fun _ _ h => h)).kept (fun k hk e => by have := hP.l; have := h.lB; rcases e with e | e <;> omega), h.lM, h.lB, Nat.lt_of_lt_of_le h.hM g.size, Nat.lt_of_lt_of_le h.hB g.size, wd, c0, c1⟩

def rPl (n : Nat) (R : Rng) (s : St) (x : ROp) : Nat → St × ROp
  | 0 => (s, x)
  | k + 1 => (rSt n R (rPl n R s x k).1 (rPl n R s x k).2, rOp n R (rPl n R s x k).1 (rPl n R s x k).2)
theorem rPl_good {n : Nat} {R : Rng} {s : St} {x : ROp} (hs : Wd n s) (hx : x.Good) : ∀ k, (rPl n R s x k).2.Good ∧ Wd n (rPl n R s x k).1 ∧ s.cnt ≤ (rPl n R s x k).1.cnt ∧ (rPl n R s x k).1.cnt ≤ s.cnt + k
  | 0 => ⟨hx, hs, Int.le_refl _, by show s.cnt ≤ s.cnt + (0 : Nat); omega⟩
  | k + 1 => by
    obtain ⟨a, b, c, d⟩ := rPl_good (R := R) hs hx k
    have := rSt_cnt n R (rPl n R s x k).1 (rPl n R s x k).2
    exact ⟨rOp_good a b, rSt_wd a b, by show s.cnt ≤ (rSt n R (rPl n R s x k).1 (rPl n R s x k).2).cnt; omega, by show (rSt n R (rPl n R s x k).1 (rPl n R s x k).2).cnt ≤ s.cnt + (k + 1 : Nat); omega⟩
def Does (x : ROp) (w0 : World) (M B : Nat) (s : St) (P : Nat) (b : Bool) (w : World) (e : Ending) (w' : World) : Prop := e = .returned (.bool b) ∧ RAt w' P T2 x ∧ In w0 M B s w' ∧ But (fun k => k = P ∨ k = B) w w'
theorem step2_Push {w0 w : World} {M B P : Nat} {s : St} {x : ROp} (h : In w0 M B s w) (o : RAt w P T2 x) (hP : Bk w0 M B P) (hx : x.Good) (hc : s.cnt < 900000) :
    Calls Try.prog 8 #[.pointer (some ⟨P, 0, none⟩), .pointer (some ⟨M, 0, none⟩)] w (Does (rOp 5 T2 s x) w0 M B (rSt 5 T2 s x) P ((rOp 5 T2 s x).line == 0) w) :=
  (step_Push P M B 5 T2 okT2 x s w o h.mem h.c0 (by omega) ⟨hP.m, hP.b⟩ hx h.wd).mono
    fun _ _ ⟨a, b, m, g⟩ => ⟨a, b, h.step hP m g (rSt_wd hx h.wd) (by have := h.c0; have := (rSt_cnt 5 T2 s x).1; omega) (by have := (rSt_cnt 5 T2 s x).2; omega), g⟩
theorem step2_Front {w0 w : World} {M B P : Nat} {s : St} {x : ROp} (h : In w0 M B s w) (o : RAt w P T2 x) (hP : Bk w0 M B P) (hx : x.Good) (hc : s.cnt < 900000) :
    Calls Try.prog 9 #[.pointer (some ⟨P, 0, none⟩), .pointer (some ⟨M, 0, none⟩)] w (Does (rOp 5 T2 s x) w0 M B (rSt 5 T2 s x) P ((rOp 5 T2 s x).line == 0) w) :=
  (step_Front P M B 5 T2 okT2 x s w o h.mem h.c0 (by omega) ⟨hP.m, hP.b⟩ hx h.wd).mono
    fun _ _ ⟨a, b, m, g⟩ => ⟨a, b, h.step hP m g (rSt_wd hx h.wd) (by have := h.c0; have := (rSt_cnt 5 T2 s x).1; omega) (by have := (rSt_cnt 5 T2 s x).2; omega), g⟩
theorem step2_Drop {w0 w : World} {M B P : Nat} {s : St} {x : ROp} (h : In w0 M B s w) (o : RAt w P T2 x) (hP : Bk w0 M B P) (hx : x.Good) (hc : s.cnt < 900000) :
    Calls Try.prog 10 #[.pointer (some ⟨P, 0, none⟩), .pointer (some ⟨M, 0, none⟩)] w (Does (rOp 5 T2 s x) w0 M B (rSt 5 T2 s x) P ((rOp 5 T2 s x).line == 0) w) :=
  (step_Drop P M B 5 T2 okT2 x s w o h.mem h.c0 (by omega) ⟨hP.m, hP.b⟩ hx h.wd).mono
    fun _ _ ⟨a, b, m, g⟩ => ⟨a, b, h.step hP m g (rSt_wd hx h.wd) (by have := h.c0; have := (rSt_cnt 5 T2 s x).1; omega) (by have := (rSt_cnt 5 T2 s x).2; omega), g⟩

set_option maxHeartbeats 1000000 in
theorem two_any (w : World) : Calls Try.prog 23 #[] w fun e w' => e = .returned (ringV T2) ∧ Kept w w' := by
  go_enter Try.func23, Try.ntmps23
  go_wp2
  refine bodyPost_ret (v := .agg #[.int .i64 0, .int .i64 1, .int .i64 2, .int .i64 2]) (by simp [results, Try.results23, go_sem]) rfl ⟨rfl, ?_⟩
  (go_light; repeat (first | (with_reducible exact Kept.refl _) | (with_reducible assumption) | (with_reducible refine Kept.alloc ?_ _ _) | (with_reducible refine Kept.drew ?_) | (with_reducible refine Kept.drewN ?_ _) | ((with_reducible refine Kept.setCell ?_ ?_ _); rotate_left; focus (first | (simp; done) | (simp; omega))) | refine Kept.trans ?_ (by assumption)))
theorem wd_zero (n : Nat) : Wd n Wo.St.zero := ⟨fun _ => by show (0 : Int) ≤ 0; decide, fun _ => by show (0 : Int) < 18446744073709551616; decide⟩
def s0 : St := fillSt 5 T2 Wo.St.zero
def Chap (s : St) (w : World) (e : Ending) (w' : World) : Prop := ∃ M B, e = .returned (.pointer (some ⟨M, 0, none⟩)) ∧ In w M B s w'
set_option maxHeartbeats 2000000 in
theorem lfilled_any (w : World) : Calls Try.prog 27 #[] w (Chap s0 w) := by
  go_enter Try.func27, Try.ntmps27
  go_wp2_with fail
  refine (p_new 5 (by decide) (by decide) _).mono ?_
  rintro e w1 ⟨rfl, m1, z1, k1⟩
  have M1 := Lib.hid m1
  have K1 := Lib.hid k1
  have Z1 := Lib.hid z1
  clear m1 k1 z1
  go_wp2_with fail
  refine (two_any _).mono ?_
  rintro e w2 ⟨rfl, k2⟩
  have K2 := Lib.hid k2
  clear k2
  go_wp2_with fail
  refine (p_fill _ _ 5 T2 Wo.St.zero _ (pmem_kept M1.out K2.out) (by decide) (by decide) okT2).mono ?_
  rintro e w3 ⟨rfl, m3, b3⟩
  have M3 : Hid (PMem w3 (w.heap.size + 1) w.heap.size 5 s0) := Lib.hid m3
  have K3 : Hid (Kept w w3) := Lib.hid ((((K1.out.trans K2.out).but (fun k => k = w.heap.size)).trans b3 (fun _ _ h => h)).kept (fun k hk h => by omega))
  clear m3 b3
  go_wp2
  go_ret
  exact ⟨w.heap.size + 1, w.heap.size, rfl, M3.out, K3.out, by omega, by omega, (pmem_lt M3.out).1, (pmem_lt M3.out).2, fillTo_wd (wd_zero 5) _, by decide +kernel, by decide +kernel⟩

structure Runs (s : St) (x : ROp) (k : Nat) (er : Int) : Prop where
  on : ∀ i, i < k → (rPl 5 T2 s x i).2.line ≠ 0
  off : (rPl 5 T2 s x k).2.line = 0
  er : (rPl 5 T2 s x k).2.er = er

set_option maxHeartbeats 2000000 in
theorem lpush_any {w0 w : World} {M B P : Nat} {s : St} {x : ROp} {m : Nat} {er : Int} (h : In w0 M B s w) (o : RAt w P T2 x) (hP : Bk w0 M B P) (hx : x.Good) (hc : s.cnt ≤ 800000) (hm : m ≤ 100) (hr : Runs s x (m + 1) er) :
    Calls Try.prog 22 #[.pointer (some ⟨M, 0, none⟩), .pointer (some ⟨P, 0, none⟩), .int .i64 (m + 1 : Nat), .int .i64 er] w fun e w' => e = .returned (.bool true) ∧ RAt w' P T2 (rPl 5 T2 s x (m + 1)).2 ∧ In w0 M B (rPl 5 T2 s x (m + 1)).1 w' ∧ But (fun k => k = P ∨ k = B) w w' := by
  have HG := fun k => Lib.hid (rPl_good (R := T2) h.wd hx k)
  have HR := Lib.hid hr
  have HP := Lib.hid hP
  have HI := Lib.hid h
  have HO := Lib.hid o
  have HS : ∀ k W, k ≤ m → In w0 M B (rPl 5 T2 s x k).1 W → RAt W P T2 (rPl 5 T2 s x k).2 → Hid (Calls Try.prog 8 #[.pointer (some ⟨P, 0, none⟩), .pointer (some ⟨M, 0, none⟩)] W (Does (rPl 5 T2 s x (k + 1)).2 w0 M B (rPl 5 T2 s x (k + 1)).1 P ((rPl 5 T2 s x (k + 1)).2.line == 0) W)) := fun k W hk i a => Lib.hid (by
    have g := (HG k).out
    exact step2_Push i a HP.out g.1 (by omega))
  clear h o hP hx hr
  have hm2 : ((m + 1 : Nat) : Int) = (m : Int) + 1 := by omega
  rw [hm2]
  go_enter Try.func22, Try.ntmps22
  go_wp2_with fail
  go_loopw [9] (fun i wr => ∃ k : Nat, k ≤ m ∧ i = .int .i64 (k + 1) ∧ In w0 M B (rPl 5 T2 s x k).1 wr ∧ RAt wr P T2 (rPl 5 T2 s x k).2 ∧ But (fun k => k = P ∨ k = B) w wr) (fun i _ => m + 1 - (intOf i).toNat)
  case atStart => exact ⟨0, Nat.zero_le _, rfl, HI.out, HO.out, But.refl _ _⟩
  case round =>
    obtain ⟨k, hk, rfl, mr, ar, br⟩ := hrel
    have HS1 := HS k _ hk mr ar
    have BR := Lib.hid br
    clear mr ar br
    by_cases hlt : k < m
    · have hl : (k : Int) + 1 < m + 1 := by omega
      have hb1 : ((rPl 5 T2 s x (k + 1)).2.line == 0) = false := by simpa using HR.out.on (k + 1) (by omega)
      have he14 : (rPl 5 T2 s x (k + 1)).2.er = 14 := by
        rcases (HG (k + 1)).out.1.er with ⟨_, e⟩ | ⟨e, _⟩
        · exact e
        · exact absurd e (HR.out.on (k + 1) (by omega))
      rw [hb1] at HS1
      go_wp2_with fail
      refine HS1.out.mono ?_
      rintro e w4 ⟨rfl, a4, m4, g4⟩
      have A4 := Lib.hid a4
      have M4 := Lib.hid m4
      have B4 := Lib.hid (BR.out.trans g4 (fun _ _ h => h))
      have HT : ∀ W, Hid (RAt W P T2 (rPl 5 T2 s x (k + 1)).2 → Calls Try.prog 12 #[.pointer (some ⟨P, 0, none⟩)] W fun e w' => e = .returned (.int .i64 14) ∧ W = w') := fun W => Lib.hid (fun a => by have := told_Push P T2 _ W a; rwa [he14] at this)
      clear m4 a4 g4 HS1 he14
      go_wp2_with fail
      refine ((HT _).out A4.out).mono ?_
      rintro e w5 ⟨rfl, rfl⟩
      go_wp2
      go_roundw
      case rel => exact ⟨k + 1, by omega, by go_num, M4.out, A4.out, B4.out⟩
      case measure => simp [intOf]; omega
    · have hl : ¬ (k : Int) + 1 < m + 1 := by omega
      obtain rfl : k = m := by omega
      have hb1 : ((rPl 5 T2 s x (k + 1)).2.line == 0) = true := by simpa using HR.out.off
      have he := HR.out.er
      rw [hb1] at HS1
      go_wp2_with fail
      refine HS1.out.mono ?_
      rintro e w4 ⟨rfl, a4, m4, g4⟩
      have A4 := Lib.hid a4
      have M4 := Lib.hid m4
      have B4 := Lib.hid (BR.out.trans g4 (fun _ _ h => h))
      have HT : ∀ W, Hid (RAt W P T2 (rPl 5 T2 s x (k + 1)).2 → Calls Try.prog 12 #[.pointer (some ⟨P, 0, none⟩)] W fun e w' => e = .returned (.int .i64 er) ∧ W = w') := fun W => Lib.hid (fun a => by have := told_Push P T2 _ W a; rwa [he] at this)
      clear m4 a4 g4 HS1 he
      go_wp2_with fail
      refine ((HT _).out A4.out).mono ?_
      rintro e w5 ⟨rfl, rfl⟩
      go_wp2
      go_ret
      exact ⟨rfl, A4.out, M4.out, B4.out⟩
set_option maxHeartbeats 4000000 in
theorem lfront_any {w0 w : World} {M B : Nat} {s : St} {want at_ : Int} (h : In w0 M B s w) (hc : s.cnt ≤ 800000) (hr : Runs s frontNew 2 0) (hv : (rPl 5 T2 s frontNew 2).2.v = want) (ht : (rPl 5 T2 s frontNew 2).2.t = at_) :
    Calls Try.prog 25 #[.pointer (some ⟨M, 0, none⟩), .int .i64 want, .int .u64 at_] w fun e w' => e = .returned (.bool true) ∧ In w0 M B (rPl 5 T2 s frontNew 2).1 w' := by
  have g1 := rPl_good (R := T2) h.wd frontNew_good 1
  have g2 := rPl_good (R := T2) h.wd frontNew_good 2
  have l1 : ((rPl 5 T2 s frontNew 1).2.line == 0) = false := by simpa using hr.on 1 (by decide)
  have l2 : ((rPl 5 T2 s frontNew 2).2.line == 0) = true := by simpa using hr.off
  have e1 : (rPl 5 T2 s frontNew 1).2.er = 14 := by
    rcases g1.1.er with ⟨_, e⟩ | ⟨e, _⟩
    · exact e
    · rw [e] at l1; simp at l1
  have tv : toldV (rPl 5 T2 s frontNew 2).2 = want := by unfold toldV; rw [if_pos hr.er, hv]
  have tv1 : toldV (rPl 5 T2 s frontNew 1).2 = 0 := by unfold toldV; rw [if_neg (by rw [e1]; decide)]
  have er2 := hr.er
  have F := Lib.hid (And.intro g1 (And.intro g2 (And.intro l1 (And.intro l2 (And.intro e1 (And.intro tv (And.intro tv1 (And.intro er2 ht))))))))
  have HI := Lib.hid h
  clear h g1 g2 l1 l2 e1 tv tv1 er2 hr hv ht
  go_enter Try.func25, Try.ntmps25
  go_wp2_with fail
  refine (two_any _).mono ?_
  rintro e w1 ⟨rfl, k1⟩
  have I1 := Lib.hid (HI.out.grow k1)
  clear k1
  go_wp2_with fail
  refine (newFront_yes T2 (by decide) (by decide) _).mono ?_
  rintro e w2 ⟨P, rfl, lP, gP, o2, k2⟩
  have hP := Lib.hid (I1.out.bk lP)
  have I2 := Lib.hid (I1.out.grow k2)
  have O2 := Lib.hid o2
  clear k2 lP gP o2
  have ST1 : Hid (Calls Try.prog 9 #[.pointer (some ⟨P, 0, none⟩), .pointer (some ⟨M, 0, none⟩)] w2 (Does (rPl 5 T2 s frontNew 1).2 w0 M B (rPl 5 T2 s frontNew 1).1 P false w2)) := Lib.hid (by
    have := step2_Front I2.out O2.out hP.out frontNew_good (by omega)
    have e : ((rOp 5 T2 s frontNew).line == 0) = false := F.out.2.2.1
    rw [e] at this
    exact this)
  go_wp2_with fail
  refine ST1.out.mono ?_
  rintro e w3 ⟨rfl, o3, i3, b3⟩
  have O3 := Lib.hid o3
  have I3 := Lib.hid i3
  clear o3 i3 b3 ST1 I2 O2 I1
  have TV1 : Hid (Calls Try.prog 7 #[.pointer (some ⟨P, 0, none⟩)] w3 fun e w' => e = .returned (.tuple #[.int .i64 0, .int .i64 14]) ∧ w3 = w') := Lib.hid (by
    have := told_Front P T2 _ w3 O3.out
    rw [F.out.2.2.2.2.1, F.out.2.2.2.2.2.2.1] at this
    exact this)
  go_wp2_with fail
  refine TV1.out.mono ?_
  rintro e w4 ⟨rfl, rfl⟩
  have ST2 : Hid (Calls Try.prog 9 #[.pointer (some ⟨P, 0, none⟩), .pointer (some ⟨M, 0, none⟩)] w3 (Does (rPl 5 T2 s frontNew 2).2 w0 M B (rPl 5 T2 s frontNew 2).1 P true w3)) := Lib.hid (by
    have := step2_Front I3.out O3.out hP.out F.out.1.1 (by have := F.out.1.2.2.2; omega)
    have e : ((rOp 5 T2 (rPl 5 T2 s frontNew 1).1 (rPl 5 T2 s frontNew 1).2).line == 0) = true := F.out.2.2.2.1
    rw [e] at this
    exact this)
  clear TV1
  go_wp2_with fail
  refine ST2.out.mono ?_
  rintro e w5 ⟨rfl, o5, i5, b5⟩
  have O5 := Lib.hid o5
  have I5 := Lib.hid i5
  clear o5 i5 b5 ST2 I3 O3
  have TV2 : Hid (Calls Try.prog 7 #[.pointer (some ⟨P, 0, none⟩)] w5 fun e w' => e = .returned (.tuple #[.int .i64 want, .int .i64 0]) ∧ w5 = w') := Lib.hid (by
    have := told_Front P T2 _ w5 O5.out
    rw [F.out.2.2.2.2.2.1, F.out.2.2.2.2.2.2.2.1] at this
    exact this)
  have TA : Hid (Calls Try.prog 11 #[.pointer (some ⟨P, 0, none⟩)] w5 fun e w' => e = .returned (.int .u64 at_) ∧ w5 = w') := Lib.hid (by
    have := at_Front P T2 _ w5 O5.out
    rw [F.out.2.2.2.2.2.2.2.2] at this
    exact this)
  go_wp2_with fail
  refine TV2.out.mono ?_
  rintro e w6 ⟨rfl, rfl⟩
  go_wp2_with fail
  refine TA.out.mono ?_
  rintro e w7 ⟨rfl, rfl⟩
  go_wp2
  go_ret
  exact ⟨rfl, I5.out⟩
set_option maxHeartbeats 4000000 in
theorem ldrop_any {w0 w : World} {M B : Nat} {s : St} {at_ : Int} (h0 : 0 ≤ at_) (h1 : at_ < 18446744073709551616) (h : In w0 M B s w) (hc : s.cnt ≤ 800000) (hr : Runs s (dropNew at_) 2 0) :
    Calls Try.prog 26 #[.pointer (some ⟨M, 0, none⟩), .int .u64 at_] w fun e w' => e = .returned (.bool true) ∧ In w0 M B (rPl 5 T2 s (dropNew at_) 2).1 w' := by
  have g1 := rPl_good (R := T2) h.wd (dropNew_good h0 h1) 1
  have g0 := dropNew_good h0 h1
  have l1 : ((rPl 5 T2 s (dropNew at_) 1).2.line == 0) = false := by simpa using hr.on 1 (by decide)
  have l2 : ((rPl 5 T2 s (dropNew at_) 2).2.line == 0) = true := by simpa using hr.off
  have e1 : (rPl 5 T2 s (dropNew at_) 1).2.er = 14 := by
    rcases g1.1.er with ⟨_, e⟩ | ⟨e, _⟩
    · exact e
    · rw [e] at l1; simp at l1
  have er2 := hr.er
  have F := Lib.hid (And.intro g1 (And.intro l1 (And.intro l2 (And.intro e1 er2))))
  have G0 := Lib.hid g0
  have HI := Lib.hid h
  clear h g0 g1 l1 l2 e1 er2 hr
  go_enter Try.func26, Try.ntmps26
  go_wp2_with fail
  refine (two_any _).mono ?_
  rintro e w1 ⟨rfl, k1⟩
  have I1 := Lib.hid (HI.out.grow k1)
  clear k1
  go_wp2_with fail
  refine (newDrop_yes T2 at_ (by decide) (by decide) _).mono ?_
  rintro e w2 ⟨P, rfl, lP, gP, o2, k2⟩
  have hP := Lib.hid (I1.out.bk lP)
  have I2 := Lib.hid (I1.out.grow k2)
  have O2 := Lib.hid o2
  clear k2 lP gP o2
  have ST1 : Hid (Calls Try.prog 10 #[.pointer (some ⟨P, 0, none⟩), .pointer (some ⟨M, 0, none⟩)] w2 (Does (rPl 5 T2 s (dropNew at_) 1).2 w0 M B (rPl 5 T2 s (dropNew at_) 1).1 P false w2)) := Lib.hid (by
    have := step2_Drop I2.out O2.out hP.out G0.out (by omega)
    have e : ((rOp 5 T2 s (dropNew at_)).line == 0) = false := F.out.2.1
    rw [e] at this
    exact this)
  go_wp2_with fail
  refine ST1.out.mono ?_
  rintro e w3 ⟨rfl, o3, i3, b3⟩
  have O3 := Lib.hid o3
  have I3 := Lib.hid i3
  clear o3 i3 b3 ST1 I2 O2 I1
  have TV1 : Hid (Calls Try.prog 13 #[.pointer (some ⟨P, 0, none⟩)] w3 fun e w' => e = .returned (.int .i64 14) ∧ w3 = w') := Lib.hid (by
    have := told_Drop P T2 _ w3 O3.out
    rw [F.out.2.2.2.1] at this
    exact this)
  go_wp2_with fail
  refine TV1.out.mono ?_
  rintro e w4 ⟨rfl, rfl⟩
  have ST2 : Hid (Calls Try.prog 10 #[.pointer (some ⟨P, 0, none⟩), .pointer (some ⟨M, 0, none⟩)] w3 (Does (rPl 5 T2 s (dropNew at_) 2).2 w0 M B (rPl 5 T2 s (dropNew at_) 2).1 P true w3)) := Lib.hid (by
    have := step2_Drop I3.out O3.out hP.out F.out.1.1 (by have := F.out.1.2.2.2; omega)
    have e : ((rOp 5 T2 (rPl 5 T2 s (dropNew at_) 1).1 (rPl 5 T2 s (dropNew at_) 1).2).line == 0) = true := F.out.2.2.1
    rw [e] at this
    exact this)
  clear TV1
  go_wp2_with fail
  refine ST2.out.mono ?_
  rintro e w5 ⟨rfl, o5, i5, b5⟩
  have O5 := Lib.hid o5
  have I5 := Lib.hid i5
  clear o5 i5 b5 ST2 I3 O3
  have TV2 : Hid (Calls Try.prog 13 #[.pointer (some ⟨P, 0, none⟩)] w5 fun e w' => e = .returned (.int .i64 0) ∧ w5 = w') := Lib.hid (by
    have := told_Drop P T2 _ w5 O5.out
    rw [F.out.2.2.2.2] at this
    exact this)
  go_wp2_with fail
  refine TV2.out.mono ?_
  rintro e w6 ⟨rfl, rfl⟩
  go_wp2
  go_ret
  exact ⟨rfl, I5.out⟩
end Go.Proofs.Ytlfdiffbepfgbaa.Ri

namespace Go.Proofs.Ytlfdiffbepfgbaa.Ri
set_option maxRecDepth 20000
open Go.RowKit
open Wo (St acc wordAt PMem RefIs)
open Sk (Wd pmem_kept pmem_lt pmem_frame p_new p_words p_load kept_of)

theorem pmem_eq {w : World} {M B n : Nat} {s s' : St} (hm : PMem w M B n s) (h : ∀ i, i < n → s'.ws i = s.ws i) (h1 : s'.kind = s.kind) (h2 : s'.at_ = s.at_) (h3 : s'.old = s.old) (h4 : s'.new = s.new) (h5 : s'.held = s.held) (h6 : s'.cnt = s.cnt) : PMem w M B n s' :=
  ⟨hm.p, fun i hi => by obtain ⟨x, a, b⟩ := hm.words i hi; exact ⟨x, a, fun hin => (b hin).trans (h i hin).symm⟩, hm.size, by rw [h1]; exact hm.c0, by rw [h2]; exact hm.c1, by rw [h3]; exact hm.c2, by rw [h4]; exact hm.c3, by rw [h5]; exact hm.c4, by rw [h6]; exact hm.cnt, hm.fB, hm.ne, hm.hn⟩
def litS (s : St) (l : List Int) : St := ⟨fun i => l.getD i 0, s.kind, s.at_, s.old, s.new, s.held, s.cnt⟩
theorem listAt {f : Nat → Int} {l : List Int} {n : Nat} (h : (List.range n).map f = l) (i : Nat) (hi : i < n) : l.getD i 0 = f i := by
  subst h
  simp [hi]
theorem wd_lit {s : St} {n : Nat} {l : List Int} (h : ∀ x ∈ l, 0 ≤ x ∧ x < 18446744073709551616) : Wd n (litS s l) := by
  refine ⟨fun i => ?_, fun i => ?_⟩
  · show 0 ≤ l.getD i 0
    rw [List.getD_eq_getElem?_getD]
    cases hg : l[i]? with
    | none => simp
    | some x => have := h x (List.mem_of_getElem? hg); simp; omega
  · show l.getD i 0 < 18446744073709551616
    rw [List.getD_eq_getElem?_getD]
    cases hg : l[i]? with
    | none => simp
    | some x => have := h x (List.mem_of_getElem? hg); simp; omega
theorem In.lit {w0 w : World} {M B : Nat} {s : St} {l : List Int} (h : In w0 M B s w) (hl : (List.range 5).map s.ws = l) (hb : ∀ x ∈ l, 0 ≤ x ∧ x < 18446744073709551616) : In w0 M B (litS s l) w :=
  ⟨pmem_eq h.mem (fun i hi => listAt hl i hi) rfl rfl rfl rfl rfl rfl, h.kept, h.lM, h.lB, h.hM, h.hB, wd_lit hb, h.c0, h.c1⟩
theorem sameWords {b o c b' o' c' n : Nat} {f : Nat → Int} {w : World} (hn : n ≤ 4096)
    (hc : ∀ i, i < n → w.cell? ⟨b, o + i, none⟩ = some (.int .u64 (f i))) (hc' : ∀ i, i < n → w.cell? ⟨b', o' + i, none⟩ = some (.int .u64 (f i))) :
    Calls Try.prog 47 #[.slice (some ⟨b, o, none⟩) n c, .slice (some ⟨b', o', none⟩) n c'] w fun e w' => e = .returned (.bool true) ∧ Kept w w' :=
  (Wo.sameWords_yes b o c b' o' c' n f w (by omega) hc hc').mono fun _ _ ⟨x, k⟩ => ⟨x, kept_of k⟩
theorem cells5 {w : World} {g : Nat} {t : TypeId} {a b c d e : Int} {f : Nat → Int} (hf : (List.range 5).map f = [a, b, c, d, e]) (hg : g = w.heap.size) (i : Nat) (hi : i < 5) :
    (w.alloc (.cells #[.int .u64 a, .int .u64 b, .int .u64 c, .int .u64 d, .int .u64 e] t)).cell? ⟨g, 0 + i, none⟩ = some (.int .u64 (f i)) := by
  have e' := listAt hf i hi
  rw [Nat.zero_add, cell_new _ _ _ _ _ hg, ← e']
  have hc : i = 0 ∨ i = 1 ∨ i = 2 ∨ i = 3 ∨ i = 4 := by omega
  rcases hc with rfl | rfl | rfl | rfl | rfl <;> rfl
theorem ints2 {w : World} {g : Nat} {t : TypeId} {a b : Int} (hg : g = w.heap.size) : Reads (w.alloc (.cells #[.int .i64 a, .int .i64 b] t)) (some ⟨g, 0, none⟩) 2 (fun i => [a, b].getD i 0) := by
  refine .inr ⟨g, 0, rfl, fun i hi => ?_⟩
  rw [Nat.zero_add, cell_new _ _ _ _ _ hg]
  have hc : i = 0 ∨ i = 1 := by omega
  rcases hc with rfl | rfl <;> rfl
theorem ints1 {w : World} {g : Nat} {t : TypeId} {a : Int} (hg : g = w.heap.size) : Reads (w.alloc (.cells #[.int .i64 a] t)) (some ⟨g, 0, none⟩) 1 (fun i => [a].getD i 0) := by
  refine .inr ⟨g, 0, rfl, fun i hi => ?_⟩
  rw [Nat.zero_add, cell_new _ _ _ _ _ hg]
  have hc : i = 0 := by omega
  subst hc
  rfl
theorem all2 {w0 w : World} {M B : Nat} {s : St} {l : List Int} (h : In w0 M B s w) (hl : allL 5 s.ws T2 = l) : Calls Try.prog 19 #[ringV T2, .pointer (some ⟨M, 0, none⟩)] w fun e w' => ∃ a c, e = .returned (.slice a l.length c) ∧ Kept w w' ∧ Reads w' a l.length (fun i => l.getD i 0) := by
  have hf : Wf 5 s.ws := fun i _ => ⟨h.wd.lo i, h.wd.hi i⟩
  refine (all_any T2 _ 5 s.ws hf (by decide) w (gives_words h.mem) (by decide) (by decide)).mono ?_
  rintro e w' ⟨a, c, rfl, k, own⟩
  rw [hl] at own ⊢
  refine ⟨a, c, rfl, k, ?_⟩
  rcases own_lies own with ⟨e1, e2, _⟩ | ⟨g, o, c', e1, _, _, hc⟩
  · exact .inl e2
  · injection e1 with e1 _ _
    subst e1
    exact .inr ⟨g, o, rfl, fun i hi => hc i _ (by simp [ints, hi])⟩
theorem cnt0 : s0.cnt ≤ 800000 := by decide +kernel
theorem wor0 : (List.range 5).map s0.ws = [0, 0, 0, 0, 0] := by decide +kernel
theorem run1 : Runs s0 (pushNew 5) 4 0 := ⟨by decide +kernel, by decide +kernel, by decide +kernel⟩
theorem wor1 : (List.range 5).map (rPl 5 T2 s0 (pushNew 5) 4).1.ws = [0, 1, 65541, 0, 0] := by decide +kernel
def sK1 : St := litS (rPl 5 T2 s0 (pushNew 5) 4).1 [0, 1, 65541, 0, 0]
theorem cnt1 : sK1.cnt ≤ 800000 := by decide +kernel
theorem run2 : Runs sK1 (pushNew 7) 4 0 := ⟨by decide +kernel, by decide +kernel, by decide +kernel⟩
theorem wor2 : (List.range 5).map (rPl 5 T2 sK1 (pushNew 7) 4).1.ws = [0, 2, 65541, 65543, 0] := by decide +kernel
def sK2 : St := litS (rPl 5 T2 sK1 (pushNew 7) 4).1 [0, 2, 65541, 65543, 0]
theorem cnt2 : sK2.cnt ≤ 800000 := by decide +kernel
theorem run3 : Runs sK2 (pushNew 9) 2 7 := ⟨by decide +kernel, by decide +kernel, by decide +kernel⟩
theorem wor3 : (List.range 5).map (rPl 5 T2 sK2 (pushNew 9) 2).1.ws = [0, 2, 65541, 65543, 0] := by decide +kernel
def sK3 : St := litS (rPl 5 T2 sK2 (pushNew 9) 2).1 [0, 2, 65541, 65543, 0]
theorem cnt3 : sK3.cnt ≤ 800000 := by decide +kernel
theorem run4 : Runs sK3 frontNew 2 0 := ⟨by decide +kernel, by decide +kernel, by decide +kernel⟩
theorem wor4 : (List.range 5).map (rPl 5 T2 sK3 frontNew 2).1.ws = [0, 2, 65541, 65543, 0] := by decide +kernel
theorem fro4 : (rPl 5 T2 sK3 frontNew 2).2.v = 5 ∧ (rPl 5 T2 sK3 frontNew 2).2.t = 0 := by decide +kernel
def sK4 : St := litS (rPl 5 T2 sK3 frontNew 2).1 [0, 2, 65541, 65543, 0]
theorem cnt4 : sK4.cnt ≤ 800000 := by decide +kernel
theorem run5 : Runs sK4 (dropNew 0) 2 0 := ⟨by decide +kernel, by decide +kernel, by decide +kernel⟩
theorem wor5 : (List.range 5).map (rPl 5 T2 sK4 (dropNew 0) 2).1.ws = [1, 2, 4294967296, 65543, 0] := by decide +kernel
def sK5 : St := litS (rPl 5 T2 sK4 (dropNew 0) 2).1 [1, 2, 4294967296, 65543, 0]
theorem cnt5 : sK5.cnt ≤ 800000 := by decide +kernel
theorem wrd1 : (List.range 5).map sK1.ws = [0, 1, 65541, 0, 0] := by decide +kernel
theorem all3 : allL 5 sK3.ws T2 = [5, 7] := by decide +kernel
theorem wrd5 : (List.range 5).map sK5.ws = [1, 2, 4294967296, 65543, 0] := by decide +kernel
theorem all5 : allL 5 sK5.ws T2 = [7] := by decide +kernel
set_option maxHeartbeats 8000000 in
theorem first_any (w : World) : Calls Try.prog 21 #[] w (Chap sK5 w) := by
  go_enter Try.func21, Try.ntmps21
  go_wp2_with fail
  refine (lfilled_any _).mono ?_
  rintro e w1 ⟨M, B, rfl, i1⟩
  have I1 := Lib.hid i1
  clear i1
  go_wp2_with fail
  refine (two_any _).mono ?_
  rintro e w2 ⟨rfl, k2⟩
  have I2 := Lib.hid (I1.out.grow k2)
  clear k2
  go_wp2_with fail
  refine (newPush_yes T2 5 (by decide) (by decide) (by decide) (by decide) _).mono ?_
  rintro e w3 ⟨P3, rfl, lP, gP, o3, k3⟩
  have hP3 := Lib.hid (I2.out.bk lP)
  have I3 := Lib.hid (I2.out.grow k3)
  have O3 := Lib.hid o3
  clear k3 lP gP o3
  go_wp2_with fail
  refine (lpush_any (m := 3) (er := 0) I3.out O3.out hP3.out (pushNew_good (by decide) (by decide)) cnt0 (by decide) run1).mono ?_
  rintro e w4 ⟨rfl, _, i4, _⟩
  have I4 : Hid (In w M B sK1 w4) := Lib.hid (i4.lit wor1 (by decide))
  clear i4 hP3 O3
  go_wp2_with fail
  refine (p_words _ _ 5 sK1 _ I4.out.mem).mono ?_
  rintro e w5 ⟨b5, c5, rfl, hb1, hb2, hw, hf, k5⟩
  have HW5 := Lib.hid hw
  have I5 := Lib.hid (I4.out.grow k5)
  clear hw hf k5 hb1
  go_wp2_with fail
  refine (sameWords (f := sK1.ws) (by decide) (fun i hi => ?_) (fun i hi => cells5 wrd1 rfl i hi)).mono ?_
  · rw [Nat.zero_add]; exact ((Kept.refl _).alloc _ _).some (HW5.out i hi)
  rintro e w6 ⟨rfl, k6⟩
  have I6 := Lib.hid (I5.out.grow (Kept.trans ((Kept.refl _).alloc _ _) k6))
  clear k6 HW5 hb2
  go_wp2_with fail
  refine (two_any _).mono ?_
  rintro e w7 ⟨rfl, k7⟩
  have I7 := Lib.hid (I6.out.grow k7)
  clear k7
  go_wp2_with fail
  refine (newPush_yes T2 7 (by decide) (by decide) (by decide) (by decide) _).mono ?_
  rintro e w8 ⟨P8, rfl, lP, gP, o8, k8⟩
  have hP8 := Lib.hid (I7.out.bk lP)
  have I8 := Lib.hid (I7.out.grow k8)
  have O8 := Lib.hid o8
  clear k8 lP gP o8
  go_wp2_with fail
  refine (lpush_any (m := 3) (er := 0) I8.out O8.out hP8.out (pushNew_good (by decide) (by decide)) cnt1 (by decide) run2).mono ?_
  rintro e w9 ⟨rfl, _, i9, _⟩
  have I9 : Hid (In w M B sK2 w9) := Lib.hid (i9.lit wor2 (by decide))
  clear i9 hP8 O8
  go_wp2_with fail
  refine (two_any _).mono ?_
  rintro e w10 ⟨rfl, k10⟩
  have I10 := Lib.hid (I9.out.grow k10)
  clear k10
  go_wp2_with fail
  refine (newPush_yes T2 9 (by decide) (by decide) (by decide) (by decide) _).mono ?_
  rintro e w11 ⟨P11, rfl, lP, gP, o11, k11⟩
  have hP11 := Lib.hid (I10.out.bk lP)
  have I11 := Lib.hid (I10.out.grow k11)
  have O11 := Lib.hid o11
  clear k11 lP gP o11
  go_wp2_with fail
  refine (lpush_any (m := 1) (er := 7) I11.out O11.out hP11.out (pushNew_good (by decide) (by decide)) cnt2 (by decide) run3).mono ?_
  rintro e w12 ⟨rfl, _, i12, _⟩
  have I12 : Hid (In w M B sK3 w12) := Lib.hid (i12.lit wor3 (by decide))
  clear i12 hP11 O11
  go_wp2_with fail
  refine (two_any _).mono ?_
  rintro e w13 ⟨rfl, k13⟩
  have I13 := Lib.hid (I12.out.grow k13)
  clear k13
  go_wp2_with fail
  refine (all2 I13.out all3).mono ?_
  rintro e w14 ⟨a14, c14, rfl, k14, r14⟩
  have CG14 := Lib.hid r14
  have I14 := Lib.hid (I13.out.grow k14)
  clear k14 r14
  go_wp2_with fail
  refine (sameInts_yes _ _ 2 _ _ (fun i => [5, 7].getD i 0) _ (by decide) (CG14.out.kept ((Kept.refl _).alloc _ _)) (ints2 rfl)).mono ?_
  rintro e w15 ⟨rfl, k15⟩
  have I15 := Lib.hid (I14.out.grow (Kept.trans ((Kept.refl _).alloc _ _) k15))
  clear k15 CG14
  go_wp2_with fail
  refine (lfront_any (want := 5) (at_ := 0) I15.out cnt3 run4 fro4.1 fro4.2).mono ?_
  rintro e w16 ⟨rfl, i16⟩
  have I16 : Hid (In w M B sK4 w16) := Lib.hid (i16.lit wor4 (by decide))
  clear i16
  go_wp2_with fail
  refine (ldrop_any (at_ := 0) (by decide) (by decide) I16.out cnt4 run5).mono ?_
  rintro e w17 ⟨rfl, i17⟩
  have I17 : Hid (In w M B sK5 w17) := Lib.hid (i17.lit wor5 (by decide))
  clear i17
  go_wp2_with fail
  refine (p_words _ _ 5 sK5 _ I17.out.mem).mono ?_
  rintro e w18 ⟨b18, c18, rfl, hb1, hb2, hw, hf, k18⟩
  have HW18 := Lib.hid hw
  have I18 := Lib.hid (I17.out.grow k18)
  clear hw hf k18 hb1
  go_wp2_with fail
  refine (sameWords (f := sK5.ws) (by decide) (fun i hi => ?_) (fun i hi => cells5 wrd5 rfl i hi)).mono ?_
  · rw [Nat.zero_add]; exact ((Kept.refl _).alloc _ _).some (HW18.out i hi)
  rintro e w19 ⟨rfl, k19⟩
  have I19 := Lib.hid (I18.out.grow (Kept.trans ((Kept.refl _).alloc _ _) k19))
  clear k19 HW18 hb2
  go_wp2_with fail
  refine (two_any _).mono ?_
  rintro e w20 ⟨rfl, k20⟩
  have I20 := Lib.hid (I19.out.grow k20)
  clear k20
  go_wp2_with fail
  refine (all2 I20.out all5).mono ?_
  rintro e w21 ⟨a21, c21, rfl, k21, r21⟩
  have CG21 := Lib.hid r21
  have I21 := Lib.hid (I20.out.grow k21)
  clear k21 r21
  go_wp2_with fail
  refine (sameInts_yes _ _ 1 _ _ (fun i => [7].getD i 0) _ (by decide) (CG21.out.kept ((Kept.refl _).alloc _ _)) (ints1 rfl)).mono ?_
  rintro e w22 ⟨rfl, k22⟩
  have I22 := Lib.hid (I21.out.grow (Kept.trans ((Kept.refl _).alloc _ _) k22))
  clear k22 CG21
  go_wp2
  go_ret
  exact ⟨M, B, rfl, I22.out⟩
theorem ffit4 : fitsR T2 4 = 0 := by decide
theorem ffit3 : fitsR T2 3 = 2 := by decide
set_option maxHeartbeats 4000000 in
theorem awake_any (w : World) : Calls Try.prog 14 #[] w fun e w' => e = .returned (.bool true) ∧ Kept w w' := by
  have F4 : ∀ W, Hid (Calls Try.prog 29 #[ringV T2, .int .i64 4] W fun e w' => e = .returned (.int .i64 0) ∧ Kept W w') := fun W => Lib.hid (by have := pfits_any T2 4 W; rwa [ffit4] at this)
  have F3 : ∀ W, Hid (Calls Try.prog 29 #[ringV T2, .int .i64 3] W fun e w' => e = .returned (.int .i64 2) ∧ Kept W w') := fun W => Lib.hid (by have := pfits_any T2 3 W; rwa [ffit3] at this)
  go_enter Try.func14, Try.ntmps14
  go_wp2_with fail
  refine (first_any _).mono ?_
  rintro e w1 ⟨M, B, rfl, i1⟩
  have K1 := Lib.hid i1.kept
  clear i1
  have nq : ∀ W, (binOp .neq 25 (.pointer (some ⟨M, 0, none⟩)) (.pointer none)).run Try.prog W = .ok (.bool true) W := fun W => by kernel_rfl
  go_wp2_with fail
  refine (two_any _).mono ?_
  rintro e w2 ⟨rfl, k2⟩
  go_wp2_with fail
  refine (F4 _).out.mono ?_
  rintro e w3 ⟨rfl, k3⟩
  go_wp2_with fail
  refine (two_any _).mono ?_
  rintro e w4 ⟨rfl, k4⟩
  go_wp2_with fail
  refine (F3 _).out.mono ?_
  rintro e w5 ⟨rfl, k5⟩
  go_wp2
  go_ret
  exact ⟨rfl, (((K1.out.trans k2).trans k3).trans k4).trans k5⟩
end Go.Proofs.Ytlfdiffbepfgbaa.Ri
