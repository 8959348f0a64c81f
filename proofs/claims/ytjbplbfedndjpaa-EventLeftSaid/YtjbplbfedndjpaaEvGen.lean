/- The contracts for every history, whether it may be or not. -/
import Derived.Test.YtjbplbfedndjpaaEvAwake
namespace Go.Proofs.Ytjbplbfedndjpaa
open Go.RowKit Go.Maps

def spn (h : List Ev) : List Sp := if chk h = 0 then spans h else []
def pnd (h : List Ev) : List Int := if chk h = 0 then pend h else []
def kep (h : List Ev) : List Ev := if chk h = 0 then keep h else []
def mos (h : List Ev) : Int := if chk h = 0 then (most h).2 else 0
theorem spans_le (h : List Ev) : (spans h).length ≤ h.length := by
  have := cls_length h
  simp [spans]; omega
theorem spn_le (h : List Ev) : (spn h).length ≤ h.length := by
  unfold spn
  split
  · exact spans_le h
  · simp
theorem pend_le (h : List Ev) : (pend h).length ≤ h.length := Nat.le_trans (pendOf_length (spans h)) (spans_le h)
theorem pnd_le (h : List Ev) : (pnd h).length ≤ h.length := by
  unfold pnd
  split
  · exact pend_le h
  · simp
theorem kep_le (h : List Ev) : (kep h).length ≤ h.length := by
  unfold kep
  split
  · exact keep_le h
  · simp
section
variable {w : World} {a : Option Addr} {c : Nat} {h : List Ev}
theorem calls_of (hE : Lay w (.slice a h.length c) h.length (flatE h)) (hw : ∀ e ∈ h, Wf e) (hl : h.length ≤ 5000) : Calls Try.prog 11 #[.slice a h.length c] w (RetS2 w (spn h) (chk h)) := by
  by_cases hz : chk h = 0
  · have e : spn h = spans h := if_pos hz
    rw [e, hz]; exact calls_ok hE hw hl hz
  · have e : spn h = [] := if_neg hz
    rw [e]; exact calls_bad hE hw hl _ rfl hz
theorem refCalls_of (hE : Lay w (.slice a h.length c) h.length (flatE h)) (hl : h.length ≤ 5000) : Calls Try.prog 12 #[.slice a h.length c] w (RetS2 w (spn h) (chk h)) := by
  by_cases hz : chk h = 0
  · have e : spn h = spans h := if_pos hz
    rw [e, hz]; exact refCalls_ok hE hl hz
  · have e : spn h = [] := if_neg hz
    rw [e]; exact refCalls_bad hE hl _ rfl hz
theorem pending_of (hE : Lay w (.slice a h.length c) h.length (flatE h)) (hw : ∀ e ∈ h, Wf e) (hl : h.length ≤ 5000) : Calls Try.prog 13 #[.slice a h.length c] w (RetI w (pnd h)) := by
  by_cases hz : chk h = 0
  · have e : pnd h = pend h := if_pos hz
    rw [e]; exact pending_ok hE hw hl hz
  · have e : pnd h = [] := if_neg hz
    rw [e]; exact pending_bad hE hw hl _ rfl hz
theorem refPend_of (hE : Lay w (.slice a h.length c) h.length (flatE h)) (hl : h.length ≤ 5000) : Calls Try.prog 18 #[.slice a h.length c] w (RetI w (pnd h)) := by
  have e : pnd h = pendOf (spn h) := by
    unfold pnd spn
    split
    · rfl
    · rfl
  rw [e]
  exact refPending_of (refCalls_of hE hl) (Nat.le_trans (spn_le h) hl)
theorem whole_of (hE : Lay w (.slice a h.length c) h.length (flatE h)) (hw : ∀ e ∈ h, Wf e) (hl : h.length ≤ 5000) : Calls Try.prog 25 #[.slice a h.length c] w (RetE2 w (kep h) (chk h)) := by
  by_cases hz : chk h = 0
  · have e : kep h = keep h := if_pos hz
    rw [e, hz]; exact whole_ok hE hw hl hz
  · have e : kep h = [] := if_neg hz
    rw [e]; exact whole_bad hE hw hl _ rfl hz
theorem refWhole_of (hE : Lay w (.slice a h.length c) h.length (flatE h)) (hl : h.length ≤ 5000) : Calls Try.prog 26 #[.slice a h.length c] w (RetE2 w (kep h) (chk h)) := by
  by_cases hz : chk h = 0
  · have e : kep h = keep h := if_pos hz
    rw [e, hz]; exact refWhole_ok hE hl hz
  · have e : kep h = [] := if_neg hz
    rw [e]; exact refWhole_bad hE hl _ rfl hz
theorem most_of (hE : Lay w (.slice a h.length c) h.length (flatE h)) (hw : ∀ e ∈ h, Wf e) (hl : h.length ≤ 5000) : Calls Try.prog 19 #[.slice a h.length c] w fun ed w' => ed = .returned (.int .i64 (mos h)) ∧ Kept w w' := by
  by_cases hz : chk h = 0
  · have e : mos h = (most h).2 := if_pos hz
    rw [e]; exact most_ok hE hw hl hz
  · have e : mos h = 0 := if_neg hz
    rw [e]; exact most_bad hE hw hl _ rfl hz
theorem refMost_of (hE : Lay w (.slice a h.length c) h.length (flatE h)) (hl : h.length ≤ 5000) : Calls Try.prog 20 #[.slice a h.length c] w fun ed w' => ed = .returned (.int .i64 (mos h)) ∧ Kept w w' := by
  by_cases hz : chk h = 0
  · have e : mos h = (most h).2 := if_pos hz
    rw [e]; exact refMost_ok hE hl hz
  · have e : mos h = 0 := if_neg hz
    rw [e]; exact refMost_bad hE hl _ rfl hz
end

set_option maxRecDepth 100000 in
set_option maxHeartbeats 8000000 in
theorem eventCalls_any {w : World} {a : Option Addr} {n c : Nat} (hh : ∃ h : List Ev, h.length = n ∧ Lay w (.slice a n c) n (flatE h) ∧ ∀ e ∈ h, Wf e) :
    Calls Try.prog 3 #[.slice a n c] w fun e w' => e = .returned (.bool true) ∧ Kept w w' := by
  obtain ⟨h, rfl, hE, hw⟩ := hh
  by_cases hl : 200 < h.length
  · obtain ⟨n, hn⟩ : ∃ n, n = h.length := ⟨_, rfl⟩
    rw [← hn] at hl ⊢
    clear hE hw hn
    go_enter Try.func3, Try.ntmps3
    go_wp2_with fail; refine (awake_any _).mono ?_; rintro ed w1 ⟨rfl, k1⟩
    go_wp2
    go_ret
    exact ⟨rfl, k1⟩
  · have HE := Lib.hid hE
    have HW := Lib.hid hw
    have h5 : h.length ≤ 5000 := by omega
    have s5 := Nat.le_trans (spn_le h) h5
    have p5 := Nat.le_trans (pnd_le h) h5
    obtain ⟨x, hx⟩ : ∃ x, x = chk h := ⟨_, rfl⟩
    obtain ⟨y, hy⟩ : ∃ y, y = mos h := ⟨_, rfl⟩
    have C1 := Lib.hid (fun W a c (L : Lay W (.slice a h.length c) h.length (flatE h)) => hx ▸ calls_of L HW.out h5)
    have C2 := Lib.hid (fun W (k : Kept w W) => hx ▸ refCalls_of (HE.out.kept k) h5)
    have C3 := Lib.hid (fun W a c (L : Lay W (.slice a h.length c) h.length (flatE h)) => pending_of L HW.out h5)
    have C4 := Lib.hid (fun W a c (L : Lay W (.slice a h.length c) h.length (flatE h)) => hx ▸ check_any L HW.out h5)
    have C5 := Lib.hid (fun W (k : Kept w W) => hx ▸ refCheck_any (HE.out.kept k) h5)
    have C6 := Lib.hid (fun W (k : Kept w W) => refPend_of (HE.out.kept k) h5)
    have C7 := Lib.hid (fun W a c (L : Lay W (.slice a h.length c) h.length (flatE h)) => hy ▸ most_of L HW.out h5)
    have C8 := Lib.hid (fun W (k : Kept w W) => hy ▸ refMost_of (HE.out.kept k) h5)
    clear hE hw hx hy
    go_enter Try.func3, Try.ntmps3
    go_wp2_with fail; refine (copyEvents_any HE.out (by omega)).mono ?_; rintro ed w1 ⟨a1, c1, rfl, k1, own1⟩
    have K1 := Lib.hid k1
    have L1 := Lib.hid (own_lies own1).lay
    clear k1 own1
    go_wp2_with fail; refine (C1.out _ _ _ L1.out).mono ?_; rintro ed w2 ⟨a2, c2, rfl, k2, own2⟩
    have K2 := Lib.hid k2
    have O2 := Lib.hid own2
    clear k2 own2
    go_wp2_with fail; refine (C2.out _ (K1.out.trans K2.out)).mono ?_; rintro ed w3 ⟨a3, c3, rfl, k3, own3⟩
    have K3 := Lib.hid (K2.out.trans k3)
    have B3 := Lib.hid k3.size
    have O3 := Lib.hid (own_kept O2.out k3)
    have M3 := Lib.hid (own_lies own3).lay
    clear k3 own3
    go_wp2_with fail; refine (C3.out _ _ _ (L1.out.kept K3.out)).mono ?_; rintro ed w4 ⟨a4, c4, rfl, k4, own4⟩
    have K4 := Lib.hid (K3.out.trans k4)
    have O4 := Lib.hid (own_kept O3.out k4)
    have M4 := Lib.hid (M3.out.kept k4)
    have P4 := Lib.hid own4
    have B4 := Lib.hid (show w1.heap.size ≤ w3.heap.size from K3.out.size)
    clear k4 own4
    go_wp2_with fail; refine (sameSpans_yes (own_lies O4.out).lay M4.out (by omega)).mono ?_; rintro ed w5 ⟨rfl, k5⟩
    have K5 := Lib.hid (K4.out.trans k5)
    have O5 := Lib.hid (own_kept O4.out k5)
    have P5 := Lib.hid (own_kept P4.out k5)
    clear k5
    go_wp2_with fail; refine (C4.out _ _ _ (L1.out.kept K5.out)).mono ?_; rintro ed w6 ⟨rfl, k6⟩
    have K6 := Lib.hid (K5.out.trans k6)
    have O6 := Lib.hid (own_kept O5.out k6)
    have P6 := Lib.hid (own_kept P5.out k6)
    clear k6
    go_wp2_with fail; refine (C5.out _ (K1.out.trans K6.out)).mono ?_; rintro ed w7 ⟨rfl, k7⟩
    have K7 := Lib.hid (K6.out.trans k7)
    have O7 := Lib.hid (own_kept O6.out k7)
    have P7 := Lib.hid (own_kept P6.out k7)
    clear k7
    go_wp2_with fail; refine (C6.out _ (K1.out.trans K7.out)).mono ?_; rintro ed w8 ⟨a8, c8, rfl, k8, own8⟩
    have K8 := Lib.hid (K7.out.trans k8)
    have O8 := Lib.hid (own_kept O7.out k8)
    have P8 := Lib.hid (own_kept P7.out k8)
    have Q8 := Lib.hid (own_lies own8).lay
    clear k8 own8
    go_wp2_with fail; refine (sameInts_yes (own_lies P8.out).lay Q8.out (by omega)).mono ?_; rintro ed w9 ⟨rfl, k9⟩
    have K9 := Lib.hid (K8.out.trans k9)
    have O9 := Lib.hid (own_kept O8.out k9)
    have P9 := Lib.hid (own_kept P8.out k9)
    clear k9
    go_wp2_with fail; refine (C7.out _ _ _ (L1.out.kept K9.out)).mono ?_; rintro ed w10 ⟨rfl, k10⟩
    have K10 := Lib.hid (K9.out.trans k10)
    have O10 := Lib.hid (own_kept O9.out k10)
    have P10 := Lib.hid (own_kept P9.out k10)
    clear k10
    go_wp2_with fail; refine (C8.out _ (K1.out.trans K10.out)).mono ?_; rintro ed w11 ⟨rfl, k11⟩
    have K11 := Lib.hid (K10.out.trans k11)
    have O11 := Lib.hid (own_kept O10.out k11)
    have P11 := Lib.hid (own_kept P10.out k11)
    clear k11
    go_wp2_with fail; refine (overSpans_any O11.out (by omega)).mono ?_; rintro ed w12 ⟨rfl, b12⟩
    have K12 := Lib.hid ((((K11.out.but _).trans b12 (fun _ _ h => h)).kept (fun j hj e => by have := (O11.out.lt j e).1; omega)) : Kept w1 w12)
    have P12 := Lib.hid (show OwnI w12 w1.heap.size (.slice a4 (pnd h).length c4) (pnd h) from own_mono (own_but P11.out b12 (fun g hg e => by
      have h1 := (P11.out.lt g hg).1
      have h2 := (O2.out.lt g e).2
      have h3 := B4.out
      have h4 := B3.out
      omega)) B4.out)
    clear b12
    go_wp2_with fail; refine (overInts_any P12.out (by omega)).mono ?_; rintro ed w13 ⟨rfl, b13⟩
    have K13 := Lib.hid ((((K12.out.but _).trans b13 (fun _ _ h => h)).kept (fun j hj e => by have := (P12.out.lt j e).1; omega)) : Kept w1 w13)
    clear b13
    go_wp2_with fail; refine (sameEvents_yes (L1.out.kept K13.out) ((HE.out.kept K1.out).kept K13.out) (by omega)).mono ?_; rintro ed w14 ⟨rfl, k14⟩
    have K14 := Lib.hid (K13.out.trans k14)
    clear k14
    go_wp2_with fail; refine (awake_any _).mono ?_; rintro ed w15 ⟨rfl, k15⟩
    go_wp2
    go_ret
    exact ⟨rfl, (K1.out.trans K14.out).trans k15⟩
end Go.Proofs.Ytjbplbfedndjpaa
