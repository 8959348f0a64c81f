/- FindKnown. Written by gen16k.py. -/
import Derived.Test.YtejiogggocnldaaG19
import Derived.Test.YtejiogggocnldaaG16
import Derived.Test.YtejiogggocnldaaG22
set_option linter.unusedVariables false
set_option linter.unusedSimpArgs false

namespace Go.Proofs.Ytejiogggocnldaa.Fd
set_option maxRecDepth 20000
open Go.RowKit
open Wo (St acc wordAt PMem RefIs)
open Sk (Stk Arn idx Wd p_load p_cas p_store p_new pmem_lt pmem_kept pmem_frame kept_of acc_cnt)
open Tw (Twr TB towV atI nextI T0 sndT0 okT0 eqn GivesWords gives_words level_told levelL I64 Wf)

def m9T : Nat → FOp
  | 0 => litO [⟨0, 0, 0, 0, 0⟩, ⟨0, 0, 0, 0, 0⟩] 0 14
  | 1 => litO [⟨0, 0, 0, 0, 0⟩, ⟨(-1), 0, 65537, 0, 1⟩] 0 14
  | 2 => litO [⟨0, 0, 0, 0, 0⟩, ⟨(-1), 0, 65537, 0, 3⟩] 65537 14
  | 3 => litO [⟨0, 0, 0, 0, 0⟩, ⟨(-1), 0, 65537, 0, 4⟩] 65537 14
  | 4 => litO [⟨(-1), 0, 65538, 0, 1⟩, ⟨(-1), 0, 65537, 0, 4⟩] 0 14
  | 5 => litO [⟨(-1), 0, 65538, 65537, 3⟩, ⟨(-1), 0, 65537, 0, 4⟩] 65538 14
  | 6 => litO [⟨1, 65538, 65537, 65537, 1⟩, ⟨(-1), 0, 65537, 0, 4⟩] 65538 14
  | 7 => litO [⟨1, 65538, 65537, 65539, 3⟩, ⟨(-1), 0, 65537, 0, 4⟩] 65537 14
  | _ => litO [⟨1, 65538, 65537, 65539, 4⟩, ⟨(-1), 0, 65537, 0, 4⟩] 65537 0
def m9W : Nat → List Int
  | 0 => [1, 2, 3, 0, 1, 1, 1, 0, 0, 0, 0, 0, 0, 0, 65538, 65537, 9, 0, 0, 0, 65539, 0, 4, 0, 0, 0, 65537, 0, 12, 0, 0, 0, 0, 0]
  | 1 => [1, 2, 3, 0, 1, 1, 1, 0, 0, 0, 0, 0, 0, 0, 65538, 65537, 9, 0, 0, 0, 65539, 0, 4, 0, 0, 0, 65537, 0, 12, 0, 0, 0, 0, 0]
  | 2 => [1, 2, 3, 0, 1, 1, 1, 0, 0, 0, 0, 0, 0, 0, 65538, 65537, 9, 0, 0, 0, 65539, 0, 4, 0, 0, 0, 65537, 0, 12, 0, 0, 0, 0, 0]
  | 3 => [1, 2, 3, 0, 1, 1, 1, 0, 0, 0, 0, 0, 0, 0, 65538, 65537, 9, 0, 0, 0, 65539, 0, 4, 0, 0, 0, 65537, 0, 12, 0, 0, 0, 0, 0]
  | 4 => [1, 2, 3, 0, 1, 1, 1, 0, 0, 0, 0, 0, 0, 0, 65538, 65537, 9, 0, 0, 0, 65539, 0, 4, 0, 0, 0, 65537, 0, 12, 0, 0, 0, 0, 0]
  | 5 => [1, 2, 3, 0, 1, 1, 1, 0, 0, 0, 0, 0, 0, 0, 65538, 65537, 9, 0, 0, 0, 65539, 0, 4, 0, 0, 0, 65537, 0, 12, 0, 0, 0, 0, 0]
  | 6 => [1, 2, 3, 0, 1, 1, 1, 0, 0, 0, 0, 0, 0, 0, 65538, 65537, 9, 0, 0, 0, 65539, 0, 4, 0, 0, 0, 65537, 0, 12, 0, 0, 0, 0, 0]
  | 7 => [1, 2, 3, 0, 1, 1, 1, 0, 0, 0, 0, 0, 0, 0, 65538, 65537, 9, 0, 0, 0, 65539, 0, 4, 0, 0, 0, 65537, 0, 12, 0, 0, 0, 0, 0]
  | _ => [1, 2, 3, 0, 1, 1, 1, 0, 0, 0, 0, 0, 0, 0, 65538, 65537, 9, 0, 0, 0, 65539, 0, 4, 0, 0, 0, 65537, 0, 12, 0, 0, 0, 0, 0]
def m10T : Nat → FOp
  | 0 => litO [⟨0, 0, 0, 0, 0⟩, ⟨0, 0, 0, 0, 0⟩] 0 14
  | 1 => litO [⟨0, 0, 0, 0, 0⟩, ⟨(-1), 0, 65537, 0, 1⟩] 0 14
  | 2 => litO [⟨0, 0, 0, 0, 0⟩, ⟨(-1), 0, 65537, 0, 3⟩] 65537 14
  | 3 => litO [⟨0, 0, 0, 0, 0⟩, ⟨0, 65537, 0, 0, 4⟩] 65537 14
  | 4 => litO [⟨0, 65537, 65539, 0, 1⟩, ⟨0, 65537, 0, 0, 4⟩] 65537 14
  | 5 => litO [⟨0, 65537, 65539, 0, 3⟩, ⟨0, 65537, 0, 0, 4⟩] 65539 14
  | 6 => litO [⟨0, 65537, 65539, 0, 4⟩, ⟨0, 65537, 0, 0, 4⟩] 65539 0
  | 7 => litO [⟨0, 65537, 65539, 0, 4⟩, ⟨0, 65537, 0, 0, 4⟩] 65539 0
  | _ => litO [⟨0, 65537, 65539, 0, 4⟩, ⟨0, 65537, 0, 0, 4⟩] 65539 0
def m10W : Nat → List Int
  | 0 => [1, 2, 3, 0, 1, 1, 1, 0, 0, 0, 0, 0, 0, 0, 65538, 65537, 9, 0, 0, 0, 65539, 0, 4, 0, 0, 0, 65537, 0, 12, 0, 0, 0, 0, 0]
  | 1 => [1, 2, 3, 0, 1, 1, 1, 0, 0, 0, 0, 0, 0, 0, 65538, 65537, 9, 0, 0, 0, 65539, 0, 4, 0, 0, 0, 65537, 0, 12, 0, 0, 0, 0, 0]
  | 2 => [1, 2, 3, 0, 1, 1, 1, 0, 0, 0, 0, 0, 0, 0, 65538, 65537, 9, 0, 0, 0, 65539, 0, 4, 0, 0, 0, 65537, 0, 12, 0, 0, 0, 0, 0]
  | 3 => [1, 2, 3, 0, 1, 1, 1, 0, 0, 0, 0, 0, 0, 0, 65538, 65537, 9, 0, 0, 0, 65539, 0, 4, 0, 0, 0, 65537, 0, 12, 0, 0, 0, 0, 0]
  | 4 => [1, 2, 3, 0, 1, 1, 1, 0, 0, 0, 0, 0, 0, 0, 65538, 65537, 9, 0, 0, 0, 65539, 0, 4, 0, 0, 0, 65537, 0, 12, 0, 0, 0, 0, 0]
  | 5 => [1, 2, 3, 0, 1, 1, 1, 0, 0, 0, 0, 0, 0, 0, 65538, 65537, 9, 0, 0, 0, 65539, 0, 4, 0, 0, 0, 65537, 0, 12, 0, 0, 0, 0, 0]
  | 6 => [1, 2, 3, 0, 1, 1, 1, 0, 0, 0, 0, 0, 0, 0, 65538, 65537, 9, 0, 0, 0, 65539, 0, 4, 0, 0, 0, 65537, 0, 12, 0, 0, 0, 0, 0]
  | 7 => [1, 2, 3, 0, 1, 1, 1, 0, 0, 0, 0, 0, 0, 0, 65538, 65537, 9, 0, 0, 0, 65539, 0, 4, 0, 0, 0, 65537, 0, 12, 0, 0, 0, 0, 0]
  | _ => [1, 2, 3, 0, 1, 1, 1, 0, 0, 0, 0, 0, 0, 0, 65538, 65537, 9, 0, 0, 0, 65539, 0, 4, 0, 0, 0, 65537, 0, 12, 0, 0, 0, 0, 0]
def m1T : Nat → FOp
  | 0 => litO [⟨0, 0, 0, 0, 0⟩, ⟨0, 0, 0, 0, 0⟩] 0 14
  | 1 => litO [⟨0, 0, 0, 0, 0⟩, ⟨0, 0, 0, 0, 0⟩] 0 14
  | 2 => litO [⟨0, 0, 0, 0, 0⟩, ⟨0, 0, 0, 0, 0⟩] 0 14
  | _ => litO [⟨0, 0, 0, 0, 0⟩, ⟨0, 0, 0, 0, 0⟩] 0 14
def m1W : Nat → List Int
  | 0 => [1, 2, 3, 0, 1, 1, 1, 0, 0, 0, 0, 0, 0, 0, 65538, 9223372036854775808, 9, 0, 0, 0, 9223372036854841347, 9223372036854775808, 4, 0, 0, 0, 65539, 0, 12, 0, 0, 0, 0, 0]
  | 1 => [1, 2, 3, 0, 1, 1, 1, 0, 0, 0, 0, 0, 0, 0, 65538, 9223372036854775808, 9, 0, 0, 0, 9223372036854841347, 9223372036854775808, 4, 0, 0, 0, 65539, 0, 12, 0, 0, 0, 0, 0]
  | 2 => [1, 2, 3, 0, 1, 1, 1, 0, 0, 0, 0, 0, 0, 0, 65538, 9223372036854775808, 9, 0, 0, 0, 9223372036854841347, 9223372036854775808, 4, 0, 0, 0, 65539, 0, 12, 0, 0, 0, 0, 0]
  | _ => [1, 2, 3, 0, 1, 1, 1, 0, 0, 0, 0, 0, 0, 0, 65538, 9223372036854775808, 9, 0, 0, 0, 9223372036854841347, 9223372036854775808, 4, 0, 0, 0, 65539, 0, 12, 0, 0, 0, 0, 0]

theorem om9 : ∀ j, j < 8 → okStep 9 (m9W j) (m9T j) (m9W (j + 1)) (m9T (j + 1)) (decide (j + 1 = 8)) = true := ok9
theorem om10 : ∀ j, j < 8 → okStep 10 (m10W j) (m10T j) (m10W (j + 1)) (m10T (j + 1)) (decide (6 ≤ j + 1)) = true := by
  have : ∀ j : Fin 8, okStep 10 (m10W j.val) (m10T j.val) (m10W (j.val + 1)) (m10T (j.val + 1)) (decide (6 ≤ j.val + 1)) = true := by decide +kernel
  exact fun j hj => this ⟨j, hj⟩
theorem om1 : ∀ j, j < 3 → okStep 1 (m1W j) (m1T j) (m1W (j + 1)) (m1T (j + 1)) false = true := by
  have : ∀ j : Fin 3, okStep 1 (m1W j.val) (m1T j.val) (m1W (j.val + 1)) (m1T (j.val + 1)) false = true := by decide +kernel
  exact fun j hj => this ⟨j, hj⟩
theorem mW9 : ∀ j, j ≤ 8 → m9W j = lW := by
  have : ∀ j : Fin 9, m9W j.val = lW := by decide +kernel
  exact fun j hj => this ⟨j, by omega⟩
theorem mW10 : ∀ j, j ≤ 8 → m10W j = lW := by
  have : ∀ j : Fin 9, m10W j.val = lW := by decide +kernel
  exact fun j hj => this ⟨j, by omega⟩
def lF : List Int := [1, 2, 3, 0, 1, 1, 1, 0, 0, 0, 0, 0, 0, 0, 65538, 0, 9, 0, 0, 0, 9223372036854841347, 9223372036854775808, 4, 0, 0, 0, 65539, 0, 12, 0, 0, 0, 0, 0]
def lG : List Int := [1, 2, 3, 0, 1, 1, 1, 0, 0, 0, 0, 0, 0, 0, 65538, 9223372036854775808, 9, 0, 0, 0, 9223372036854841347, 9223372036854775808, 4, 0, 0, 0, 65539, 0, 12, 0, 0, 0, 0, 0]
theorem lev0 : levelL 34 (fun i => lF.getD i 0) T0 0 = [1, 2] ∧ levelL 34 (fun i => lF.getD i 0) T0 1 = [] := by decide +kernel
theorem wfF : Wf 34 (fun i => lF.getD i 0) := by
  have : ∀ j : Fin 34, 0 ≤ lF.getD j.val 0 ∧ lF.getD j.val 0 < 18446744073709551616 := by decide +kernel
  exact fun i hi => this ⟨i, hi⟩
theorem Mw.gives {w0 w : World} {M B c : Nat} {l : List Int} (h : Mw w0 M B l c w) : GivesWords (.pointer (some ⟨M, 0, none⟩)) 34 (fun i => l.getD i 0) w := by
  obtain ⟨s, m, h1, _⟩ := h.ex
  have := gives_words m
  rwa [h1] at this
theorem lev_any {w0 w : World} {M B c : Nat} (h : Mw w0 M B lF c w) (l : Int) (hl : I64 l) (r : List Int) (hr : levelL 34 (fun i => lF.getD i 0) T0 l = r) : Calls Try.prog 28 #[towV T0, .int .i64 l, .pointer (some ⟨M, 0, none⟩)] w fun e w' => ∃ a c, e = .returned (.slice a r.length c) ∧ Kept w w' ∧ w'.ownsRow w.heap.size 3 1 (.slice a r.length c) r.length (ints r) := by
  refine (level_told T0 (by decide) l hl _ 34 (fun i => lF.getD i 0) wfF (by decide) w h.gives).mono ?_
  rintro e w' ⟨a, c, x, k, own⟩
  rw [hr, show List.filter (fun _ => true) r = r from List.filter_eq_self.2 (fun _ _ => rfl)] at x own
  exact ⟨a, c, x, k, own⟩
theorem ints_cells (l : List Int) : ints l = cellsI l := rfl
theorem same_two {w : World} {base P c : Nat} {a : Option Addr} {p q : Int} (own : w.ownsRow base 3 1 (.slice a 2 c) 2 (ints [p, q])) (h0 : w.cell? ⟨P, 0, none⟩ = some (.int .i64 p)) (h1 : w.cell? ⟨P, 1, none⟩ = some (.int .i64 q)) : Calls Try.prog 10 #[.slice a 2 c, .slice (some ⟨P, 0, none⟩) 2 2] w fun e w' => e = .returned (.bool true) ∧ Kept w w' := by
  rw [ints_cells] at own
  have hr := reads_own own rfl
  refine (sameInts_yes a (some ⟨P, 0, none⟩) 2 c 2 _ w (by decide) hr (.inr ⟨P, 0, rfl, fun i hi => ?_⟩))
  have : i = 0 ∨ i = 1 := by omega
  rcases this with rfl | rfl
  · exact h0
  · exact h1
theorem same_known {w : World} {base S c : Nat} {a : Option Addr} {f : Nat → Pos} (own : w.ownsRow base 52 1 (.slice a 2 c) 2 (cellsW (posL f (fun q => q.k) 2))) (h0 : w.cell? ⟨S, 0, none⟩ = some (.int .u64 (f 0).k)) (h1 : w.cell? ⟨S, 1, none⟩ = some (.int .u64 (f 1).k)) : Calls Try.prog 23 #[.slice a 2 c, .slice (some ⟨S, 0, none⟩) 2 2] w fun e w' => e = .returned (.bool true) ∧ Kept w w' := by
  obtain ⟨g, o, rfl, hc⟩ := words_own own (posL_len _ _ _) (by decide)
  refine (Wo.sameWords_yes g o c S 0 2 2 _ w (by decide) hc (fun i hi => ?_)).mono fun _ _ ⟨x, k⟩ => ⟨x, kept_of k⟩
  have : i = 0 ∨ i = 1 := by omega
  rcases this with rfl | rfl
  · exact h0
  · exact h1
def KRel (w0 w1 : World) (M B X Y : Nat) (x : Value) (wr : World) : Prop :=
  ∃ j : Nat, j ≤ 8 ∧ x = .int .i64 (j : Nat) ∧ FdAt wr X T0 9 (m9T j) ∧ FdAt wr Y T0 10 (m10T j) ∧ Mw w0 M B lW (23 + 2 * j) wr
theorem bad16 (key : Int) (w : World) (t : Twr) (ht : ¬ t.Sound) : Calls Try.prog 19 #[towV t, .int .u64 key] w fun e w' => ∃ F, e = .returned (.pointer (some ⟨F, 0, none⟩)) ∧ FdAt w' F nilT 0 ⟨fun _ => Pos.zero, 0, 2⟩ ∧ Kept w w' := by
  refine (fnew_any t key w).mono ?_
  rintro e w' ⟨F, a, b, c, d, k⟩
  rw [if_neg ht, if_neg ht] at d
  unfold newF at d
  rw [if_neg ht] at d
  exact ⟨F, a, d, k⟩
theorem ubad (F : Nat) (p : Option Addr) (w : World) (h : FdAt w F nilT 0 ⟨fun _ => Pos.zero, 0, 2⟩) : Calls Try.prog 13 #[.pointer (some ⟨F, 0, none⟩), .pointer p] w fun e w' => e = .returned (.bool true) ∧ Kept w w' :=
  fstep_of F p true _ w (fstep_over F 0 _ (by decide) p w h.tf.t2 h.ps (fun y hy => by omega))
def Todd : Twr := { T0 with G := 5 }
theorem todd : ¬ Todd.Sound := fun h => by have := h.G2; revert this; decide
set_option maxHeartbeats 8000000 in
theorem fknown_any (w : World) : Calls Try.prog 5 #[] w fun e w' => e = .returned (.bool true) ∧ Kept w w' := by
  have q := eqn
  go_enter Try.func5, Try.ntmps5
  go_wp2_with fail
  refine (written_any _).mono ?_
  rintro e w1 ⟨M, B, rfl, m1⟩
  have M1 := Lib.hid m1
  have l1 := m1.lt
  clear m1
  go_wp2_with fail
  refine (chapter16_any _).mono ?_
  rintro e w2 ⟨rfl, k2⟩
  have M2 := Lib.hid (M1.out.grow k2)
  have z2 := k2.size
  clear k2 M1
  go_wp2_with fail
  refine (new16 9 _).mono ?_
  rintro e w3 ⟨X, rfl, x1, x2, xd, k3⟩
  have M3 := Lib.hid (M2.out.grow k3)
  have X3 := Lib.hid xd
  have hXM : X ≠ M := by omega
  have hXB : X ≠ B := by omega
  have hX0 : w.heap.size ≤ X := by have := M2.out.kept.size; omega
  clear xd k3 M2
  go_wp2_with fail
  refine (chapter16_any _).mono ?_
  rintro e w4 ⟨rfl, k4⟩
  have M4 := Lib.hid (M3.out.grow k4)
  have X4 := Lib.hid (X3.out.kept k4)
  have z4 := k4.size
  clear k4 M3 X3
  go_wp2_with fail
  refine (new16 10 _).mono ?_
  rintro e w5 ⟨Y, rfl, y1, y2, yd, k5⟩
  have M5 := Lib.hid (M4.out.grow k5)
  have X5 : Hid (FdAt w5 X T0 9 (m9T 0)) := Lib.hid ((X4.out.kept k5).like (k4 rfl rfl rfl rfl) rfl rfl)
  have Y5 : Hid (FdAt w5 Y T0 10 (m10T 0)) := Lib.hid (yd.like (k4 rfl rfl rfl rfl) rfl rfl)
  have hYM : Y ≠ M := by omega
  have hYB : Y ≠ B := by omega
  have hYX : Y ≠ X := by omega
  have hY0 : w.heap.size ≤ Y := by omega
  clear yd k5 M4 X4
  go_wp2_with fail
  go_loopw [4] (KRel w w5 M B X Y) (fun x _ => 9 - (intOf x).toNat)
  case atStart => exact ⟨0, by decide, rfl, X5.out, Y5.out, M5.out⟩
  case round =>
    obtain ⟨j, hj, rfl, fx, fy, mj⟩ := hrel
    by_cases hlt : j < 8
    · have hli : (j : Int) < 8 := by omega
      have SX := Lib.hid (kstep (om9 j hlt) (by rw [mW9 j hj]; exact mj) (by omega) fx hX0 hXM hXB)
      rw [mW9 (j + 1) (by omega)] at SX
      have FY := Lib.hid fy
      clear fx fy mj
      go_wp2_with fail
      refine SX.out.mono ?_
      rintro e v1 ⟨rfl, m, f, b⟩
      have FX := Lib.hid f
      have SY := Lib.hid (kstep (om10 j hlt) (by rw [mW10 j hj]; exact m) (by omega) (FY.out.but b (by omega)) hY0 hYM hYB)
      rw [mW10 (j + 1) (by omega)] at SY
      clear m f b SX FY
      go_wp2_with fail
      refine SY.out.mono ?_
      rintro e v2 ⟨rfl, m, f, b⟩
      have FX := Lib.hid (FX.out.but b (by omega))
      have FY := Lib.hid f
      have MM := Lib.hid (m.up (c' := 23 + 2 * (j + 1)) (by omega))
      clear m f b SY
      go_wp2
      exact ⟨⟨j + 1, by omega, by go_num, FX.out, FY.out, MM.out⟩, by simp [intOf]; omega⟩
    · have hj8 : j = 8 := by omega
      subst hj8
      have FX := Lib.hid fx
      have FY := Lib.hid fy
      have M0 := Lib.hid mj
      clear fx fy mj
      go_wp2_with fail
      refine (known_ok X T0 9 _ 2 hG (by decide) _ FX.out rfl).mono ?_
      rintro e v1 ⟨a1, c1, rfl, k1, own⟩
      rw [posL_len] at own ⊢
      have O1 := Lib.hid own
      have FY := Lib.hid (FY.out.kept k1)
      have N1 := Lib.hid (M0.out.grow k1)
      clear own k1 FX M0
      go_wp2_with fail
      refine (same_known (f := (m9T 8).pos) (fown_keep O1.out ((Kept.refl _).alloc _ _)) (cell_new _ _ _ _ 0 rfl) (cell_new _ _ _ _ 1 rfl)).mono ?_
      rintro e v2 ⟨rfl, k2⟩
      have FY := Lib.hid ((FY.out.kept ((Kept.refl _).alloc _ _)).kept k2)
      have N2 := Lib.hid ((N1.out.grow ((Kept.refl _).alloc _ _)).grow k2)
      clear k2 N1 O1
      go_wp2_with fail
      refine (known_ok Y T0 10 _ 2 hG (by decide) _ FY.out rfl).mono ?_
      rintro e v3 ⟨a3, c3, rfl, k3, own⟩
      rw [posL_len] at own ⊢
      have O3 := Lib.hid own
      have N3 := Lib.hid (N2.out.grow k3)
      clear own k3 FY N2
      go_wp2_with fail
      refine (same_known (f := (m10T 8).pos) (fown_keep O3.out ((Kept.refl _).alloc _ _)) (cell_new _ _ _ _ 0 rfl) (cell_new _ _ _ _ 1 rfl)).mono ?_
      rintro e v4 ⟨rfl, k4⟩
      have N4 := Lib.hid ((N3.out.grow ((Kept.refl _).alloc _ _)).grow k4)
      clear k4 N3 O3
      go_wp2_with fail
      refine (mstore N4.out (by decide) 20 20 rfl 9223372036854841347 (by decide) (by decide)).mono ?_
      rintro e v5 ⟨rfl, n5, b5⟩
      have N5 := Lib.hid n5
      clear n5 b5 N4
      go_wp2_with fail
      refine (mstore N5.out (by decide) 21 21 rfl 9223372036854775808 (by decide) (by decide)).mono ?_
      rintro e v6 ⟨rfl, n6, b6⟩
      have N6 : Hid (Mw w M B (k5W 0) 41 v6) := Lib.hid n6
      have l6 := n6.lt
      clear n6 b6 N5
      go_wp2_with fail
      refine (finds_any w M B 41 5 10 (by decide) (by decide) (by decide) k5T k5W z5 e5 rfl ok5 _ _ _ (N6.out.grow (((Kept.refl _).alloc _ _).alloc _ _)) (two_new rfl (by simp)) (by omega) (by simp; omega)).mono ?_
      rintro e v7 ⟨rfl, n7⟩
      have N7 : Hid (Mw w M B lF 51 v7) := Lib.hid n7
      clear n7 N6
      go_wp2_with fail
      refine (chapter16_any _).mono ?_
      rintro e v8 ⟨rfl, k8⟩
      have N8 := Lib.hid (N7.out.grow k8)
      clear k8 N7
      go_wp2_with fail
      refine (lev_any N8.out 0 (by unfold I64; omega) [1, 2] lev0.1).mono ?_
      rintro e v9 ⟨a9, c9, rfl, k9, own⟩
      have O9 := Lib.hid own
      have N9 := Lib.hid (N8.out.grow k9)
      clear own k9 N8
      go_wp2_with fail
      refine (same_two (fown_keep O9.out ((Kept.refl _).alloc _ _)) (cell_new _ _ _ _ 0 rfl) (cell_new _ _ _ _ 1 rfl)).mono ?_
      rintro e v10 ⟨rfl, k10⟩
      have N10 := Lib.hid ((N9.out.grow ((Kept.refl _).alloc _ _)).grow k10)
      clear k10 N9 O9
      go_wp2_with fail
      refine (chapter16_any _).mono ?_
      rintro e v11 ⟨rfl, k11⟩
      have N11 := Lib.hid (N10.out.grow k11)
      clear k11 N10
      go_wp2_with fail
      refine (lev_any N11.out 1 (by unfold I64; omega) [] lev0.2).mono ?_
      rintro e v12 ⟨a12, c12, rfl, k12, -⟩
      have N12 := Lib.hid (N11.out.grow k12)
      clear k12 N11
      go_wp2_with fail
      refine (mstore N12.out (by decide) 15 15 rfl 9223372036854775808 (by decide) (by decide)).mono ?_
      rintro e v13 ⟨rfl, n13, b13⟩
      have N13 : Hid (Mw w M B lG 52 v13) := Lib.hid n13
      clear n13 b13 N12
      go_wp2_with fail
      refine (chapter16_any _).mono ?_
      rintro e v14 ⟨rfl, k14⟩
      have N14 := Lib.hid (N13.out.grow k14)
      have z14 := N14.out.lt
      clear k14 N13
      go_wp2_with fail
      refine (new16 1 _).mono ?_
      rintro e v15 ⟨Z, rfl, d1, d2, zd, k15⟩
      have N15 := Lib.hid (N14.out.grow k15)
      have Z15 : Hid (FdAt v15 Z T0 1 (m1T 0)) := Lib.hid (zd.like (k4 rfl rfl rfl rfl) rfl rfl)
      have hZM : Z ≠ M := by omega
      have hZB : Z ≠ B := by omega
      have hZ0 : w.heap.size ≤ Z := by have := N14.out.kept.size; omega
      clear zd k15 N14
      go_wp2_with fail
      refine (ferr_made Z 14 _ Z15.out.md Z15.out.er).mono ?_
      rintro e _ ⟨rfl, rfl⟩
      go_wp2_with fail
      refine (preds_bad (some ⟨Z, 0, none⟩) _ 14 (by decide) (fun W k => ferr_made Z 14 W (Z15.out.kept k).md (Z15.out.kept k).er)).mono ?_
      rintro e v16 ⟨rfl, k16⟩
      have N16 := Lib.hid (N15.out.grow k16)
      have Z16 := Lib.hid (Z15.out.kept k16)
      clear k16 N15 Z15
      go_wp2_with fail
      refine (fby_made Z 0 _ Z16.out.by_).mono ?_
      rintro e _ ⟨rfl, rfl⟩
      go_wp2_with fail
      refine (kstep (om1 0 (by decide)) (show Mw w M B (m1W 0) 52 _ from N16.out) (by decide) Z16.out hZ0 hZM hZB).mono ?_
      rintro e v17 ⟨rfl, n, f, b⟩
      have N17 : Hid (Mw w M B lG 53 v17) := Lib.hid n
      have Z17 := Lib.hid f
      clear n f b N16 Z16
      go_wp2_with fail
      refine (kstep (om1 1 (by decide)) (show Mw w M B (m1W 1) 53 _ from N17.out) (by decide) Z17.out hZ0 hZM hZB).mono ?_
      rintro e v18 ⟨rfl, n, f, b⟩
      have N18 : Hid (Mw w M B lG 54 v18) := Lib.hid n
      have Z18 := Lib.hid f
      clear n f b N17 Z17
      go_wp2_with fail
      refine (kstep (om1 2 (by decide)) (show Mw w M B (m1W 2) 54 _ from N18.out) (by decide) Z18.out hZ0 hZM hZB).mono ?_
      rintro e v19 ⟨rfl, n, f, b⟩
      have N19 : Hid (Mw w M B lG 55 v19) := Lib.hid n
      have Z19 := Lib.hid f
      clear n f b N18 Z18
      go_wp2_with fail
      refine (fby_made Z 0 _ Z19.out.by_).mono ?_
      rintro e _ ⟨rfl, rfl⟩
      go_wp2_with fail
      refine (chapter16_any _).mono ?_
      rintro e v20 ⟨rfl, k20⟩
      have N20 := Lib.hid (N19.out.grow k20)
      clear k20 N19 Z19
      go_wp2_with fail
      refine (bad16 1 _ Todd todd).mono ?_
      rintro e v21 ⟨U, rfl, ud, k21⟩
      have N21 := Lib.hid ((N20.out.grow ((Kept.refl _).alloc _ _)).grow k21)
      have U21 := Lib.hid ud
      clear ud k21 N20
      go_wp2_with fail
      refine (awake16_any _).mono ?_
      rintro e v22 ⟨rfl, k22⟩
      have N22 := Lib.hid (N21.out.grow k22)
      have U22 := Lib.hid (U21.out.kept k22)
      clear k22 N21 U21
      go_wp2_with fail
      refine (ubad U _ _ U22.out).mono ?_
      rintro e v23 ⟨rfl, k23⟩
      have N23 := Lib.hid (N22.out.grow k23)
      have U23 := Lib.hid (U22.out.kept k23)
      clear k23 N22 U22
      go_wp2_with fail
      refine (ferr_made U 2 _ U23.out.md U23.out.er).mono ?_
      rintro e _ ⟨rfl, rfl⟩
      go_wp2_with fail
      refine (fstep_nil _ _).mono ?_
      rintro e _ ⟨rfl, rfl⟩
      go_wp2_with fail
      refine (ferr_nil _).mono ?_
      rintro e _ ⟨rfl, rfl⟩
      go_wp2_with fail
      refine (fby_nil _).mono ?_
      rintro e _ ⟨rfl, rfl⟩
      go_wp2
      go_ret
      exact ⟨rfl, N23.out.kept⟩
end Go.Proofs.Ytejiogggocnldaa.Fd
