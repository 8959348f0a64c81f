/- EventParts. -/
import Derived.Test.YtjbplbfedndjpaaEvGen
namespace Go.Proofs.Ytjbplbfedndjpaa
open Go.RowKit Go.Maps

set_option maxRecDepth 100000 in
set_option maxHeartbeats 8000000 in
theorem eventParts_any {w : World} {a : Option Addr} {n c : Nat} {a' : Option Addr} {n' c' : Nat} (hh : ∃ h : List Ev, h.length = n ∧ Lay w (.slice a n c) n (flatE h) ∧ ∀ e ∈ h, Wf e)
    (hi : ∃ l : List Int, l.length = n' ∧ Lay w (.slice a' n' c') n' (ints l) ∧ ∀ e ∈ l, -9223372036854775808 ≤ e ∧ e ≤ 9223372036854775807) :
    Calls Try.prog 4 #[.slice a n c, .slice a' n' c'] w fun e w' => e = .returned (.bool true) ∧ Kept w w' := by
  obtain ⟨h, rfl, hE, hw⟩ := hh
  obtain ⟨l, rfl, hI, hwl⟩ := hi
  by_cases hl : 200 < h.length
  · obtain ⟨n, hn⟩ : ∃ n, n = h.length := ⟨_, rfl⟩
    rw [← hn] at hl ⊢
    clear hE hw hn hI hwl
    go_enter Try.func4, Try.ntmps4
    go_wp2_with fail; refine (awake_any _).mono ?_; rintro ed w1 ⟨rfl, k1⟩
    go_wp2
    go_ret
    exact ⟨rfl, k1⟩
  by_cases hll : 50 < l.length
  · obtain ⟨n, hn⟩ : ∃ n, n = h.length := ⟨_, rfl⟩
    obtain ⟨m, hm⟩ : ∃ m, m = l.length := ⟨_, rfl⟩
    rw [← hn] at hl ⊢
    rw [← hm] at hll ⊢
    clear hE hw hn hI hwl hm
    go_enter Try.func4, Try.ntmps4
    go_wp2_with fail; refine (awake_any _).mono ?_; rintro ed w1 ⟨rfl, k1⟩
    go_wp2
    go_ret
    exact ⟨rfl, k1⟩
  · have HE := Lib.hid hE
    have HW := Lib.hid hw
    have HI := Lib.hid hI
    have HWL := Lib.hid hwl
    have h5 : h.length ≤ 5000 := by omega
    have l5 : l.length ≤ 5000 := by omega
    have k5 := Nat.le_trans (kep_le h) h5
    have o5 := Nat.le_trans (onl_le h l) h5
    obtain ⟨x, hx⟩ : ∃ x, x = chk h := ⟨_, rfl⟩
    have C1 := Lib.hid (fun W a c (L : Lay W (.slice a h.length c) h.length (flatE h)) => hx ▸ whole_of L HW.out h5)
    have C2 := Lib.hid (fun W (k : Kept w W) => hx ▸ refWhole_of (HE.out.kept k) h5)
    have C3 := Lib.hid (fun W a c v (L : Lay W (.slice a h.length c) h.length (flatE h)) (M : Lay W v l.length (ints l)) => only_any L HW.out h5 M HWL.out l5)
    have C4 := Lib.hid (fun W (k : Kept w W) => refOnly_any (HE.out.kept k) h5 (HI.out.kept k) l5)
    clear hE hw hx hI hwl
    go_enter Try.func4, Try.ntmps4
    go_wp2_with fail; refine (copyEvents_any HE.out (by omega)).mono ?_; rintro ed w1 ⟨a1, c1, rfl, k1, own1⟩
    have K1 := Lib.hid k1
    have O1 := Lib.hid own1
    clear k1 own1
    go_wp2_with fail; refine (copyInts_any (HI.out.kept K1.out) (by omega)).mono ?_; rintro ed w2 ⟨a2, c2, rfl, k2, own2⟩
    have K2 := Lib.hid (K1.out.trans k2)
    have L2 := Lib.hid (own_lies (own_kept O1.out k2)).lay
    have M2 := Lib.hid (own_lies own2).lay
    clear k2 own2
    go_wp2_with fail; refine (C1.out _ _ _ L2.out).mono ?_; rintro ed w3 ⟨a3, c3, rfl, k3, own3⟩
    have K3 := Lib.hid k3
    have O3 := Lib.hid own3
    clear k3 own3
    go_wp2_with fail; refine (C2.out _ (K2.out.trans K3.out)).mono ?_; rintro ed w4 ⟨a4, c4, rfl, k4, own4⟩
    have K4 := Lib.hid (K3.out.trans k4)
    have O4 := Lib.hid (own_kept O3.out k4)
    have B4 := Lib.hid k4.size
    have M4 := Lib.hid (own_lies own4).lay
    clear k4 own4
    go_wp2_with fail; refine (C3.out _ _ _ _ (L2.out.kept K4.out) (M2.out.kept K4.out)).mono ?_; rintro ed w5 ⟨a5, c5, rfl, k5, own5⟩
    have K5 := Lib.hid (K4.out.trans k5)
    have O5 := Lib.hid (own_kept O4.out k5)
    have M5 := Lib.hid (M4.out.kept k5)
    have P5 := Lib.hid own5
    clear k5 own5
    go_wp2_with fail; refine (sameEvents_yes (own_lies O5.out).lay M5.out (by omega)).mono ?_; rintro ed w6 ⟨rfl, k6⟩
    have K6 := Lib.hid (K5.out.trans k6)
    have O6 := Lib.hid (own_kept O5.out k6)
    have P6 := Lib.hid (own_kept P5.out k6)
    clear k6
    go_wp2_with fail; refine (C4.out _ (K2.out.trans K6.out)).mono ?_; rintro ed w7 ⟨a7, c7, rfl, k7, own7⟩
    have K7 := Lib.hid (K6.out.trans k7)
    have O7 := Lib.hid (own_kept O6.out k7)
    have P7 := Lib.hid (own_kept P6.out k7)
    have Q7 := Lib.hid (own_lies own7).lay
    clear k7 own7
    go_wp2_with fail; refine (sameEvents_yes (own_lies P7.out).lay Q7.out (by omega)).mono ?_; rintro ed w8 ⟨rfl, k8⟩
    have K8 := Lib.hid (K7.out.trans k8)
    have O8 := Lib.hid (own_kept O7.out k8)
    have P8 := Lib.hid (own_kept P7.out k8)
    clear k8
    go_wp2_with fail; refine (overEvents_any O8.out (by omega)).mono ?_; rintro ed w9 ⟨rfl, b9⟩
    have K9 := Lib.hid ((((K8.out.but _).trans b9 (fun _ _ h => h)).kept (fun j hj e => by have := (O8.out.lt j e).1; omega)) : Kept w2 w9)
    have P9 := Lib.hid (show OwnE w9 w2.heap.size (.slice a5 (onl h l).length c5) (onl h l) from own_mono (own_but P8.out b9 (fun g hg e => by
      have h1 := (P8.out.lt g hg).1
      have h2 := (O3.out.lt g e).2
      have h3 := B4.out
      omega)) K4.out.size)
    clear b9
    go_wp2_with fail; refine (overEvents_any P9.out (by omega)).mono ?_; rintro ed w10 ⟨rfl, b10⟩
    have K10 := Lib.hid ((((K9.out.but _).trans b10 (fun _ _ h => h)).kept (fun j hj e => by have := (P9.out.lt j e).1; omega)) : Kept w2 w10)
    clear b10
    go_wp2_with fail; refine (sameEvents_yes (L2.out.kept K10.out) ((HE.out.kept K2.out).kept K10.out) (by omega)).mono ?_; rintro ed w11 ⟨rfl, k11⟩
    have K11 := Lib.hid (K10.out.trans k11)
    clear k11
    go_wp2_with fail; refine (sameInts_yes (M2.out.kept K11.out) ((HI.out.kept K2.out).kept K11.out) (by omega)).mono ?_; rintro ed w12 ⟨rfl, k12⟩
    have K12 := Lib.hid (K11.out.trans k12)
    clear k12
    go_wp2_with fail; refine (awake_any _).mono ?_; rintro ed w13 ⟨rfl, k13⟩
    go_wp2
    go_ret
    exact ⟨rfl, (K2.out.trans K12.out).trans k13⟩
end Go.Proofs.Ytjbplbfedndjpaa
