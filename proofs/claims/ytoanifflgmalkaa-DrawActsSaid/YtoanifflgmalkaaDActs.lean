/- The list of acts that DrawActs takes; its walk. -/
import Derived.Test.YtoanifflgmalkaaPair
import Derived.Test.YtoanifflgmalkaaTable
import Derived.KernelRfl
import Derived.Deep.RegionHeld3
import Derived.Deep.DeepCutAuto
import Derived.Deep.CutBlock
namespace Go.Proofs.Ytoanifflgmalkaa
open Go.ChangeShapes Go.WideShapes Go.Deep Go.RowKit

def IntIn (k : IntKind) (v : Value) : Prop := ∃ a : Int, v = .int k a ∧ (Lit.int k a).wf = true
def actR (_ : Nat) (v : Value) : Prop := IntIn .i64 v

theorem cellsAct : Try.prog.cellsOf 36 = 2 := by kernel_rfl
theorem open_acts {H : Type} {enc : TypeId × Value → H} {w : World} {base : Nat} {spare : Nat → Bool} {held : Bool} {fuel : Nat} {a : Option Addr} {len cap : Nat} {x : DataW H × List MemPlace}
    (h : DataW.trod enc Try.prog w base spare held fuel 23 [.slice a len cap] = some x) : IsTable w a len cap 2 actR := by
  rcases open_table Try.underlying23 Try.underlying36 (by kernel_rfl) cellsAct actR (fun j f hj v n y hy => by
    have hlt : j < 2 := (Array.getElem?_eq_some_iff.1 hj).1
    have hc : j = 0 ∨ j = 1 := by omega
    rcases hc with rfl | rfl <;> (simp at hj; subst hj)
    · obtain ⟨q, e, _, wq⟩ := DataW.trod_int Try.underlying3 hy
      simp at e; subst e
      exact ⟨q, rfl, wq⟩
    · obtain ⟨q, e, _, wq⟩ := DataW.trod_int Try.underlying3 hy
      simp at e; subst e
      exact ⟨q, rfl, wq⟩) h with hcs | ⟨y, l, c, hcs, hl, hm, hx⟩
  · simp at hcs
    obtain ⟨rfl, rfl, rfl⟩ := hcs
    exact .inl ⟨rfl, rfl, rfl⟩
  · simp at hcs
    obtain ⟨rfl, rfl, rfl⟩ := hcs
    exact .inr ⟨_, rfl, hl, hm, hx⟩

/-- Between two acts. -/
def ActRel (u : World) (R c' n len : Nat) (f : Nat → Int) (d i : Value) (wr : World) : Prop :=
  ∃ (k D S : Nat) (a : Option Addr) (c t : Nat), k ≤ n ∧ d = .pointer (some ⟨D, 0, none⟩) ∧ i = .int .i64 k ∧ Duo u wr D S a c t R c' t len f
/-- Behind the switch. -/
def MidRel (u : World) (R c' len : Nat) (f : Nat → Int) (d same : Value) (wr : World) : Prop :=
  ∃ (D S : Nat) (a : Option Addr) (c t : Nat), d = .pointer (some ⟨D, 0, none⟩) ∧ same = .bool true ∧ Duo u wr D S a c t R c' t len f

set_option maxHeartbeats 4000000 in
theorem acts_long {w : World} {a : Option Addr} {len cap : Nat} (q : Option Addr) (n c : Nat) (h : 5000 < len ∨ 60 < n) :
    Calls Try.prog 3 #[.slice a len cap, .slice q n c] w fun e w' => e = .returned (.bool true) ∧ Kept w w' := by
  by_cases hl : 5000 < len
  · go_enter Try.func3, Try.ntmps3
    go_wp2_with fail; refine (awake_any _).mono ?_; rintro e w1 ⟨rfl, k1⟩
    go_wp2
    go_ret
    exact ⟨rfl, k1⟩
  · have hn : 60 < n := by omega
    go_enter Try.func3, Try.ntmps3
    go_wp2_with fail; refine (awake_any _).mono ?_; rintro e w1 ⟨rfl, k1⟩
    go_wp2
    go_ret
    exact ⟨rfl, k1⟩

set_option maxHeartbeats 4000000 in
/-- More numbers than there may be: both refuse them. -/
theorem acts_refused {w : World} {a : Option Addr} {len cap : Nat} {f : Nat → Int} (h : Row w a len cap f) (q : Option Addr) (n c : Nat) (hl : len ≤ 5000) (hm : 4096 < len) (hn : n ≤ 60) :
    Calls Try.prog 3 #[.slice a len cap, .slice q n c] w fun e w' => e = .returned (.bool true) ∧ Kept w w' := by
  have H := Lib.hid h
  clear h
  go_enter Try.func3, Try.ntmps3
  go_wp2_with fail; refine (copyInts_any a len cap f w (by omega) H.out).mono ?_; rintro e w1 ⟨b, C, rfl, k1, m1⟩
  have K1 := Lib.hid k1
  have M1 := Lib.hid m1
  clear k1 m1
  go_wp2_with fail; refine (new_long hm).mono ?_; rintro e w2 ⟨rfl, rfl⟩
  go_wp2_with fail; refine (refNew_long hm).mono ?_; rintro e w2 ⟨rfl, rfl⟩
  go_wp2_with fail; refine (sameInts_yes _ _ len C cap f _ (by omega) M1.out.reads (H.out.reads.kept K1.out)).mono ?_; rintro e w3 ⟨rfl, k3⟩
  have K3 := Lib.hid (K1.out.trans k3)
  have M3 := Lib.hid (M1.out.kept k3)
  clear k3
  go_wp2_with fail; refine (overInts_any b C len f _ (by omega) M3.out.cell M3.out.old M3.out.soft).mono ?_; rintro e w4 ⟨rfl, k4⟩
  have K4 := Lib.hid (K3.out.fresh k4 M1.out.new)
  clear k4
  go_wp2
  refine wp_loop_rounds 1 ?_
  rw [rounds_succ]
  go_wp2_with fail; refine (awake_any _).mono ?_; rintro e w5 ⟨rfl, k5⟩
  go_wp2
  go_ret
  exact ⟨rfl, K4.out.trans k5⟩

set_option maxRecDepth 100000 in
set_option maxHeartbeats 8000000 in
theorem acts_loop {w : World} {a : Option Addr} {len cap : Nat} {f : Nat → Int} (h : Row w a len cap f) (hl : len ≤ 4096) (q : Option Addr) (n c : Nat) (hn : n ≤ 60) (wt : IsTable w q n c 2 actR) :
    Calls Try.prog 3 #[.slice a len cap, .slice q n c] w fun e w' => e = .returned (.bool true) ∧ Kept w w' := by
  have H := Lib.hid h
  have WT := Lib.hid wt
  clear h wt
  go_enter Try.func3, Try.ntmps3
  go_wp2_with fail; refine (copyInts_any a len cap f w (by omega) H.out).mono ?_; rintro e w1 ⟨b, C, rfl, k1, m1⟩
  have K1 := Lib.hid k1
  have M1 := Lib.hid m1
  clear k1 m1
  go_wp2_with fail; refine (new_above (M1.out.row H.out.1) hl).mono ?_; rintro e w2 ⟨D, S, a2, C2, rfl, hS, k2, h2⟩
  have K2 := Lib.hid k2
  have H2 := Lib.hid h2
  have S2 := Lib.hid hS
  clear k2 h2 hS
  go_wp2_with fail; refine (refNew_held (H.out.kept (K1.out.trans K2.out)) hl).mono ?_; rintro e w3 ⟨R, C3, rfl, hR, k3, h3⟩
  have K3 := Lib.hid k3
  have H3 := Lib.hid h3
  have R3 := Lib.hid hR
  clear k3 h3 hR
  go_wp2_with fail; refine (sameInts_yes _ _ len C cap f _ (by omega) ((M1.out.reads.kept K2.out).kept K3.out) (H.out.reads.kept ((K1.out.trans K2.out).trans K3.out))).mono ?_; rintro e w4 ⟨rfl, k4⟩
  have K4 := Lib.hid k4
  have M4 := Lib.hid (((M1.out.kept K2.out).kept K3.out).kept k4)
  clear k4
  go_wp2_with fail; refine (overInts_any b C len f _ (by omega) M4.out.cell M4.out.old M4.out.soft).mono ?_; rintro e w5 ⟨rfl, k5⟩
  have hb1 := M1.out.old
  have hP : Duo w w5 D S a2 C2 0 R C3 0 len f :=
    ⟨(((K1.out.trans K2.out).trans K3.out).trans K4.out).fresh k5 M1.out.new,
     ((H2.out.kept K3.out).kept K4.out).past k5 (by have := S2.out.1; omega) (by have := S2.out.2.1; omega) (fun b' e => by have := S2.out.2.2 b' e; omega),
     (H3.out.kept K4.out).past k5 (by have := R3.out.1; have := K2.out.size; omega) (fun b' v l hb' e => by
       have e2 := H3.out.head
       obtain ⟨b'', e2⟩ := e2
       rw [K4.out.some e2] at e
       cases e
       exact R3.out.2 _ _ _ (by have := K2.out.size; omega) e2),
     by have := R3.out.1; have := H2.out.lt.2; omega, by have := S2.out.2.1; have := K1.out.size; omega, by have := R3.out.1; have := K2.out.size; have := K1.out.size; omega⟩
  have P := Lib.hid hP
  clear hP k5
  go_wp2
  go_loopw [6, 10] (ActRel w R C3 n len f) (fun _ i _ => n - (intOf i).toNat)
  case atStart => exact ⟨0, D, S, a2, C2, 0, Nat.zero_le _, rfl, rfl, P.out⟩
  case round =>
    obtain ⟨k, D, S, a2, C2, t, hk, rfl, rfl, hp⟩ := hrel
    have P := Lib.hid hp
    clear hp
    by_cases hlt : k < n
    · obtain ⟨ab, off, rfl, _, _, _, hc⟩ := WT.out.at (by omega) (by decide)
      obtain ⟨a0, e0, w0⟩ := (hc k hlt 0 (by decide)).2
      obtain ⟨a1, e1, w1⟩ := (hc k hlt 1 (by decide)).2
      have cc0 := (hc k hlt 0 (by decide)).1
      have cc1 := (hc k hlt 1 (by decide)).1
      rw [e0] at cc0
      rw [e1] at cc1
      obtain ⟨l1, l2⟩ := wf_i64 a1 w1
      clear e0 e1 w0 w1 hc
      have CC0 := Lib.hid cc0
      have CC1 := Lib.hid cc1
      clear cc0 cc1
      have c0 : wr.cell? ⟨ab, off + k * 2, none⟩ = some (.int .i64 a0) := P.out.kept.some CC0.out
      have c1 : wr.cell? ⟨ab, off + k * 2 + 1, none⟩ = some (.int .i64 a1) := P.out.kept.some CC1.out
      go_upto_block 2 with fail
      go_cut [6, 11] (MidRel w R C3 len f)
      case first =>
        by_cases q0 : a0 = 0
        · subst q0
          go_wp2_with fail; refine (P.out.next).mono ?_; rintro e v1 ⟨rfl, p1⟩
          have P1 := Lib.hid p1
          clear p1
          go_wp2_with fail; refine (P1.out.refNext).mono ?_; rintro e v2 ⟨rfl, p2⟩
          have P2 := Lib.hid p2
          clear p2
          go_wp2
          go_meet
          exact ⟨D, S, a2, C2, _, rfl, rfl, P2.out⟩
        · by_cases q1 : a0 = 1
          · subst q1
            go_wp2_with fail
            go_region_held3 (fun w' => w'.cell? ⟨ab, off + k * 2 + 1, none⟩ = some (.int .i64 a1)) (first | assumption | exact P2.out.kept.some CC1.out | exact P1.out.kept.some CC1.out | go_keep) (first
              | (go_at_call 17; refine ((P.out.go (Kept.refl wr).drew).height a1 l1 l2).mono ?_; rintro e v1 ⟨rfl, p1⟩; have P1 := Lib.hid p1; clear p1)
              | (go_at_call 16; refine (P1.out.refNext).mono ?_; rintro e v2 ⟨rfl, p2⟩; have P2 := Lib.hid p2; clear p2)
              | (go_at_call 18; refine (refHeight_any (f t) a1 (P.out.A.nums.lo t) (P.out.A.nums.hi t) l1 l2 _).mono ?_; rintro e v3 ⟨rfl, rfl⟩))
            go_wp2
            go_meet
            exact ⟨D, S, a2, C2, _, rfl, rfl, P2.out⟩
          · by_cases q2 : a0 = 2
            · subst q2
              go_wp2_with fail
              go_region_held3 (fun w' => w'.cell? ⟨ab, off + k * 2 + 1, none⟩ = some (.int .i64 a1)) (first | assumption | exact P2.out.kept.some CC1.out | exact P1.out.kept.some CC1.out | go_keep) (first
                | (go_at_call 19; refine ((P.out.go (Kept.refl wr).drew).skip a1).mono ?_; rintro e v1 ⟨rfl, p1⟩; have P1 := Lib.hid p1; clear p1)
                | (go_at_call 20; refine (P1.out.refSkip a1).mono ?_; rintro e v2 ⟨rfl, p2⟩; have P2 := Lib.hid p2; clear p2))
              go_wp2
              go_meet
              exact ⟨D, S, a2, C2, _, rfl, rfl, P2.out⟩
            · by_cases q3 : a0 = 3
              · subst q3
                go_wp2_with fail; refine (P.out.copy).mono ?_; rintro e v1 ⟨D1, S1, rfl, p1, hcall⟩
                have P1 := Lib.hid p1
                have HC := Lib.hid hcall
                clear p1 hcall
                go_wp2_with fail; refine (HC.out).mono ?_; rintro e v2 ⟨rfl, p2⟩
                have P2 := Lib.hid p2
                clear p2
                go_wp2
                go_meet
                exact ⟨D1, S1, a2, C2, _, rfl, rfl, P2.out⟩
              · have q0' : (a0 == 0) = false := by simp [q0]
                have q1' : (a0 == 1) = false := by simp [q1]
                have q2' : (a0 == 2) = false := by simp [q2]
                have q3' : (a0 == 3) = false := by simp [q3]
                go_wp2
                go_meet
                exact ⟨D, S, a2, C2, _, rfl, rfl, P.out⟩
      case rest =>
        obtain ⟨D, S, a2, C2, t, rfl, rfl, p3⟩ := hcut
        have P3 := Lib.hid p3
        clear p3 P c0 c1
        go_wp2_with fail; refine (P3.out.left).mono ?_; rintro e v4 ⟨rfl, p4⟩
        have P4 := Lib.hid p4
        clear p4
        go_wp2_with fail; refine (P4.out.refLeft).mono ?_; rintro e v5 ⟨rfl, p5⟩
        have P5 := Lib.hid p5
        clear p5
        go_wp2
        go_roundw
        case rel => exact ⟨k + 1, D, S, a2, C2, t, by omega, rfl, by go_num, P5.out⟩
        case measure => simp [intOf]; omega
    · obtain rfl : k = n := by omega
      go_wp2_with fail; refine (awake_any _).mono ?_; rintro e w8 ⟨rfl, k8⟩
      go_wp2
      go_ret
      exact ⟨rfl, P.out.kept.trans k8⟩
theorem acts_any {w : World} {a : Option Addr} {len cap : Nat} {f : Nat → Int} (h : Row w a len cap f) (q : Option Addr) (n c : Nat) (wt : IsTable w q n c 2 actR) :
    Calls Try.prog 3 #[.slice a len cap, .slice q n c] w fun e w' => e = .returned (.bool true) ∧ Kept w w' := by
  by_cases h1 : len ≤ 5000
  · by_cases h2 : n ≤ 60
    · by_cases h3 : len ≤ 4096
      · exact acts_loop h h3 q n c h2 wt
      · exact acts_refused h q n c h1 (by omega) h2
    · exact acts_long q n c (.inr (by omega))
  · exact acts_long q n c (.inl (by omega))
end Go.Proofs.Ytoanifflgmalkaa
