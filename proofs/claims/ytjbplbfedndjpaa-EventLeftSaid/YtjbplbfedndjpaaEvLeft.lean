/- EventLeft. -/
import Derived.Test.YtjbplbfedndjpaaEvKnown
namespace Go.Proofs.Ytjbplbfedndjpaa
open Go.RowKit Go.Maps

theorem flatE_take (h : List Ev) (k : Nat) (j : Nat) (u : Value) (hu : (flatE (h.take k))[j]? = some u) : (flatE h)[j]? = some u := by
  obtain ⟨t, ht⟩ : ∃ t, h = h.take k ++ t := ⟨h.drop k, by rw [List.take_append_drop]⟩
  rw [ht]
  unfold flatE at hu ⊢
  rw [List.flatMap_append, List.getElem?_append_left (List.getElem?_eq_some_iff.1 hu).1]
  exact hu
theorem Lay.take {w : World} {a : Option Addr} {c : Nat} {h : List Ev} (hE : Lay w (.slice a h.length c) h.length (flatE h)) (k : Nat) (hk : k ≤ h.length) : Lay w (.slice a k c) k (flatE (h.take k)) :=
  hE.pre hk (fun e => by subst e; simp [flatE]) (fun j u hu => flatE_take h k j u hu)
theorem check_pre {w : World} {a : Option Addr} {c : Nat} {h : List Ev} (hE : Lay w (.slice a h.length c) h.length (flatE h)) (hw : ∀ e ∈ h, Wf e) (hl : h.length ≤ 4000) (hv : Vd h) (k : Nat) (hk : k ≤ h.length) :
    Calls Try.prog 15 #[.slice a k c] w fun ed w' => ed = .returned (.int .i64 0) ∧ Kept w w' := by
  have e : (h.take k).length = k := by rw [List.length_take]; omega
  have L := hE.take k hk
  have c1 : chk (h.take k) = 0 := chk_of_vd (vd_take hv k) (by omega)
  have := check_at (h := h.take k) (a := a) (c := c) (by rw [e]; exact L) (fun x hx => hw x (List.mem_of_mem_take hx)) (by omega) 0 c1
  rw [e] at this
  exact this

set_option maxRecDepth 100000 in
set_option maxHeartbeats 8000000 in
theorem eventLeft_any {w : World} {a : Option Addr} {n c : Nat} {a' : Option Addr} {n' c' : Nat} (x : Int) (hh : ∃ h : List Ev, h.length = n ∧ Lay w (.slice a n c) n (flatE h) ∧ ∀ e ∈ h, Wf e)
    (hi : ∃ l : List Int, l.length = n' ∧ Lay w (.slice a' n' c') n' (ints l) ∧ ∀ e ∈ l, -9223372036854775808 ≤ e ∧ e ≤ 9223372036854775807) :
    Calls Try.prog 8 #[.slice a n c, .slice a' n' c', .int .i64 x] w fun e w' => e = .returned (.bool true) ∧ Kept w w' := by
  obtain ⟨h, rfl, hE, hw⟩ := hh
  obtain ⟨l, rfl, hI, hwl⟩ := hi
  obtain ⟨n, hn⟩ : ∃ n, n = h.length := ⟨_, rfl⟩
  by_cases hl : 100 < h.length
  · rw [← hn] at hl ⊢
    clear hE hw hn hI hwl
    go_enter Try.func8, Try.ntmps8
    go_wp2_with fail; refine (known_any _).mono ?_; rintro ed w1 ⟨rfl, k1⟩
    go_wp2
    go_ret
    exact ⟨rfl, k1⟩
  by_cases hll : 50 < l.length
  · obtain ⟨m, hm⟩ : ∃ m, m = l.length := ⟨_, rfl⟩
    rw [← hn] at hl ⊢
    rw [← hm] at hll ⊢
    clear hE hw hn hI hwl hm
    go_enter Try.func8, Try.ntmps8
    go_wp2_with fail; refine (known_any _).mono ?_; rintro ed w1 ⟨rfl, k1⟩
    go_wp2
    go_ret
    exact ⟨rfl, k1⟩
  have h5 : h.length ≤ 5000 := by omega
  have l5 : l.length ≤ 5000 := by omega
  have HE := Lib.hid hE
  have HI := Lib.hid hI
  have HW := Lib.hid hw
  have HWL := Lib.hid hwl
  by_cases hv : chk h = 0
  · have hvd := vd_of_chk hv
    have VD := Lib.hid hvd
    have C0 := Lib.hid (fun W (k : Kept w W) => check_at (HE.out.kept k) HW.out h5 0 hv)
    have C1 := Lib.hid (fun W (k : Kept w W) => whole_ok (HE.out.kept k) HW.out h5 hv)
    have C2 := Lib.hid (fun W (k : Kept w W) => calls_ok (HE.out.kept k) HW.out h5 hv)
    have kl := keep_le h
    have wk : ∀ e ∈ keep h, Wf e := fun e he => hw e (List.mem_filter.1 he).1
    have ck : chk (keep h) = 0 := chk_of_vd (vd_keep hvd) (by omega)
    have ol := onl_le h l
    have wo : ∀ e ∈ onl h l, Wf e := fun e he => hw e (List.mem_filter.1 he).1
    have co : chk (onl h l) = 0 := chk_of_vd (vd_onl hvd l) (by omega)
    have C3 := Lib.hid (fun W a c (L : Lay W (.slice a (keep h).length c) (keep h).length (flatE (keep h))) => pend_keep (h := h) ▸ pending_ok L wk (by omega) ck)
    have C4 := Lib.hid (fun W (k : Kept w W) => pending_ok (HE.out.kept k) HW.out h5 hv)
    have C5 := Lib.hid (fun W a c (L : Lay W (.slice a (keep h).length c) (keep h).length (flatE (keep h))) => check_at L wk (by omega) 0 ck)
    have C6 := Lib.hid (fun W (k : Kept w W) => only_any (HE.out.kept k) HW.out h5 (HI.out.kept k) HWL.out l5)
    have C7 := Lib.hid (fun W a c (L : Lay W (.slice a (onl h l).length c) (onl h l).length (flatE (onl h l))) => check_at L wo (by omega) 0 co)
    have C8 := Lib.hid (fun W (k : Kept w W) (q : Nat) (hq : q ≤ h.length) => check_pre (HE.out.kept k) HW.out (by omega) VD.out q hq)
    have cnt := left_count hvd
    have sl := spans_le h
    have pl := pend_le h
    obtain ⟨q, hq⟩ : ∃ q : Nat, x % ((h.length : Int) + 1) = q := by
      have h1 := Int.emod_nonneg x (show ((h.length : Int) + 1) ≠ 0 by omega)
      exact Int.eq_ofNat_of_zero_le h1
    have hqn : q ≤ h.length := by
      have h2 := Int.emod_lt_of_pos x (show (0 : Int) < (h.length : Int) + 1 by omega)
      omega
    have PK := Lib.hid (fun W => pick_at x ((h.length : Int) + 1) q (by omega) (by omega) hq W)
    have beq1 : (((keep h).length : Int) != 2 * (((spans h).length : Int) - ((pend h).length : Int))) = false := by simp; omega
    have lc : h.length ≤ c := by obtain ⟨a', c', e, h1, _⟩ := hE.form; cases e; exact h1
    clear hE hw hI hwl hv hvd wk ck wo co hq hn n cnt
    go_enter Try.func8, Try.ntmps8
    go_wp2_with fail; refine (known_any _).mono ?_; rintro ed w1 ⟨rfl, k1⟩
    have K1 := Lib.hid k1
    clear k1
    go_wp2_with fail; refine (C0.out _ K1.out).mono ?_; rintro ed w2 ⟨rfl, k2⟩
    have K2 := Lib.hid (K1.out.trans k2)
    clear k2
    go_wp2_with fail; refine (C1.out _ K2.out).mono ?_; rintro ed w3 ⟨a3, c3, rfl, k3, own3⟩
    have K3 := Lib.hid (K2.out.trans k3)
    have L3 := Lib.hid (own_lies own3).lay
    clear k3 own3
    go_wp2_with fail; refine (C2.out _ K3.out).mono ?_; rintro ed w4 ⟨a4, c4, rfl, k4, own4⟩
    have K4 := Lib.hid (K3.out.trans k4)
    have L4 := Lib.hid (L3.out.kept k4)
    clear k4 own4
    go_wp2_with fail; refine (C3.out _ _ _ L4.out).mono ?_; rintro ed w5 ⟨a5, c5, rfl, k5, own5⟩
    have K5 := Lib.hid (K4.out.trans k5)
    have L5 := Lib.hid (L4.out.kept k5)
    clear k5 own5
    go_wp2_with fail; refine (C4.out _ K5.out).mono ?_; rintro ed w6 ⟨a6, c6, rfl, k6, own6⟩
    have K6 := Lib.hid (K5.out.trans k6)
    have L6 := Lib.hid (L5.out.kept k6)
    clear k6 own6
    go_wp2_with fail; refine (C5.out _ _ _ L6.out).mono ?_; rintro ed w7 ⟨rfl, k7⟩
    have K7 := Lib.hid (K6.out.trans k7)
    clear k7
    go_wp2_with fail; refine (C6.out _ K7.out).mono ?_; rintro ed w8 ⟨a8, c8, rfl, k8, own8⟩
    have K8 := Lib.hid (K7.out.trans k8)
    have L8 := Lib.hid (own_lies own8).lay
    clear k8 own8
    go_wp2_with fail; refine (C7.out _ _ _ L8.out).mono ?_; rintro ed w9 ⟨rfl, k9⟩
    have K9 := Lib.hid (K8.out.trans k9)
    clear k9
    go_wp2_with fail; refine (PK.out _).mono ?_; rintro ed w10 ⟨rfl, rfl⟩
    go_wp2_with fail; refine (C8.out _ K9.out q hqn).mono ?_; rintro ed w11 ⟨rfl, k11⟩
    go_wp2
    go_ret
    exact ⟨rfl, K9.out.trans k11⟩
  · obtain ⟨v, hv2⟩ : ∃ v, v = chk h := ⟨_, rfl⟩
    have hz : v ≠ 0 := by rw [hv2]; exact hv
    have b1 : (v != 0) = true := by simpa using hz
    have C0 := Lib.hid (fun W (k : Kept w W) => check_at (HE.out.kept k) HW.out h5 v hv2.symm)
    clear hE hw hI hwl hv hv2 hz hn n
    go_enter Try.func8, Try.ntmps8
    go_wp2_with fail; refine (known_any _).mono ?_; rintro ed w1 ⟨rfl, k1⟩
    have K1 := Lib.hid k1
    clear k1
    go_wp2_with fail; refine (C0.out _ K1.out).mono ?_; rintro ed w2 ⟨rfl, k2⟩
    go_wp2
    go_ret
    exact ⟨rfl, K1.out.trans k2⟩
end Go.Proofs.Ytjbplbfedndjpaa
