/- FifoPlays. -/
import Derived.Test.YtpmalbdnjpbijaaFiKnown
namespace Go.Proofs.Ytpmalbdnjpbijaa
open Go.RowKit

theorem plA_length (room : Int) (l : List Opn) : (plA room l).length ≤ l.length := by
  unfold plA
  split
  · rw [playA_length]; exact Nat.le_refl _
  · exact Nat.zero_le _
theorem plQ_length (room : Int) (l : List Opn) : (plQ room l).length ≤ 1024 := by
  unfold plQ
  split
  · rename_i h
    have := chk_zero h
    exact Nat.le_trans (playQ_room _ l) (by omega)
  · exact Nat.zero_le _

set_option maxRecDepth 100000 in
set_option maxHeartbeats 8000000 in
theorem fifoPlays_any {w : World} (room : Int) {a : Option Addr} {n c : Nat} (hh : ∃ l : List Opn, l.length = n ∧ Lay w (.slice a n c) n (flatO l)) :
    Calls Try.prog 4 #[.int .i64 room, .slice a n c] w fun e w' => e = .returned (.bool true) ∧ Kept w w' := by
  obtain ⟨l, rfl, hL⟩ := hh
  by_cases hl : 80 < l.length
  · obtain ⟨n, hn⟩ : ∃ n, n = l.length := ⟨_, rfl⟩
    rw [← hn] at hl ⊢
    clear hL hn
    go_enter Try.func4, Try.ntmps4
    go_wp2_with fail; refine (awake_any _).mono ?_; rintro ed w1 ⟨rfl, k1⟩
    go_wp2
    go_ret
    exact ⟨rfl, k1⟩
  · have HL := Lib.hid hL
    have l5 : l.length ≤ 1000 := by omega
    have C1 := Lib.hid (fun W a c (L : Lay W (.slice a l.length c) l.length (flatO l)) => play_any room L l5)
    have C2 := Lib.hid (fun W (k : Kept w W) => refPlay_any room (HL.out.kept k) l5)
    have pa := plA_length room l
    have pq := plQ_length room l
    obtain ⟨A, hA⟩ : ∃ A, plA room l = A := ⟨_, rfl⟩
    obtain ⟨Q, hQ⟩ : ∃ Q, plQ room l = Q := ⟨_, rfl⟩
    obtain ⟨x, hx⟩ : ∃ x, chkF room 0 = x := ⟨_, rfl⟩
    rw [hA, hQ, hx] at C1 C2
    rw [hA] at pa
    rw [hQ] at pq
    clear hL hA hQ hx
    go_enter Try.func4, Try.ntmps4
    go_wp2_with fail; refine (copyOps_any HL.out (by omega)).mono ?_; rintro ed w1 ⟨a1, c1, rfl, k1, own1⟩
    have K1 := Lib.hid k1
    have L1 := Lib.hid (own_lies own1).lay
    clear k1 own1
    go_wp2_with fail; refine (C1.out _ _ _ L1.out).mono ?_; rintro ed w2 ⟨a2, c2, b2, d2, rfl, k2, oa2, ow2, ap2⟩
    have K2 := Lib.hid k2
    have A2 := Lib.hid oa2
    have W2 := Lib.hid ow2
    have AP := Lib.hid ap2
    clear k2 oa2 ow2 ap2
    go_wp2_with fail; refine (C2.out _ (K1.out.trans K2.out)).mono ?_; rintro ed w3 ⟨a3, c3, b3, d3, rfl, k3, la3, lw3⟩
    have K3 := Lib.hid (K2.out.trans k3)
    have A3 := Lib.hid (own_kept A2.out k3)
    have W3 := Lib.hid (own_kept W2.out k3)
    have LA := Lib.hid la3
    have LW := Lib.hid lw3
    clear k3 la3 lw3
    go_wp2_with fail; refine (sameAnswers_yes (own_lies A3.out).lay LA.out (by omega)).mono ?_; rintro ed w4 ⟨rfl, k4⟩
    have K4 := Lib.hid (K3.out.trans k4)
    have A4 := Lib.hid (own_kept A3.out k4)
    have W4 := Lib.hid (own_kept W3.out k4)
    have LW4 := Lib.hid (LW.out.kept k4)
    clear k4
    go_wp2_with fail; refine (sameWords_yes (own_lies W4.out).lay LW4.out (by omega)).mono ?_; rintro ed w5 ⟨rfl, k5⟩
    have K5 := Lib.hid (K4.out.trans k5)
    have A5 := Lib.hid (own_kept A4.out k5)
    have W5 := Lib.hid (own_kept W4.out k5)
    clear k5
    go_wp2_with fail; refine (overAnswers_any A5.out (by omega)).mono ?_; rintro ed w6 ⟨rfl, b6⟩
    have K6 := Lib.hid ((K5.out.wrote b6 (fun j e => (A5.out.lt j e).1)) : Kept w1 w6)
    have W6 := Lib.hid (own_but W5.out b6 (fun g hg e => AP.out g e hg))
    clear b6
    go_wp2_with fail; refine (overWords_any W6.out (by omega)).mono ?_; rintro ed w7 ⟨rfl, b7⟩
    have K7 := Lib.hid ((K6.out.wrote b7 (fun j e => (W6.out.lt j e).1)) : Kept w1 w7)
    clear b7
    go_wp2_with fail; refine (sameOps_yes (L1.out.kept K7.out) ((HL.out.kept K1.out).kept K7.out) (by omega)).mono ?_; rintro ed w8 ⟨rfl, k8⟩
    have K8 := Lib.hid (K7.out.trans k8)
    clear k8
    go_wp2_with fail; refine (awake_any _).mono ?_; rintro ed w9 ⟨rfl, k9⟩
    go_wp2
    go_ret
    exact ⟨rfl, (K1.out.trans K8.out).trans k9⟩
end Go.Proofs.Ytpmalbdnjpbijaa
