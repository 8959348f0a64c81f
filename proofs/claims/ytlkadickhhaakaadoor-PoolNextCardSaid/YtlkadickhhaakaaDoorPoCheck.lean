/- The program's Check: isNoIndex, slices.IndexFunc and ContainsFunc over it; freed. -/
import Derived.Test.YtlkadickhhaakaaDoorPoBits
import Derived.Deep.QuietTactic
import Derived.BigQuiet
import Derived.OwnWalk
import Derived.LoopN
namespace Go.Proofs.YtlkadickhhaakaaDoor
open Go.RowKit
attribute [local go_sem ↓] ld_named st_named lv_named ix_named zv_named

theorem asc_iff {s : List Int} : asc s = true ↔ ∀ j x y, s[j]? = some x → s[j + 1]? = some y → x < y := by
  induction s with
  | nil => simp [asc]
  | cons a s ih =>
    cases s with
    | nil => simp [asc]
    | cons b s =>
      simp only [asc, Bool.and_eq_true, decide_eq_true_eq, ih]
      constructor
      · rintro ⟨h1, h2⟩ j x y hx hy
        cases j with
        | zero => simp at hx hy; subst hx; subst hy; exact h1
        | succ j => exact h2 j x y (by simpa using hx) (by simpa using hy)
      · intro h
        exact ⟨h 0 a b rfl rfl, fun j x y hx hy => h (j + 1) x y (by simpa using hx) (by simpa using hy)⟩

theorem noIdx_any (x : Int) (w : World) : Calls Tryd.prog 41 #[.int .i64 x] w fun e w' => e = .returned (.bool (noIdx x)) ∧ w' = w := by
  by_cases h1 : x < 0
  · have e : noIdx x = true := by simp [noIdx, h1]
    rw [e]
    go_enter Tryd.func41, Tryd.ntmps41
    go_wp2
    go_ret
    exact ⟨rfl, rfl⟩
  · have e : noIdx x = decide (x ≥ 1024) := by simp [noIdx, h1]
    rw [e]
    go_enter Tryd.func41, Tryd.ntmps41
    go_wp2
    go_ret
    exact ⟨rfl, rfl⟩

theorem ret_int {x y : Int} (h : x = y) : Ending.returned (.int .i64 x) = Ending.returned (.int .i64 y) := by rw [h]
theorem ret_bool {x y : Bool} (h : x = y) : Ending.returned (.bool x) = Ending.returned (.bool y) := by rw [h]

/-- How a list of ints is read. -/
theorem lay_one {w : World} {a : Option Addr} {n c : Nat} {s : List Int} (h : Lay w (.slice a n c) n (ints s)) (hn : n = s.length) (i : Nat) (x : Int) (hx : s[i]? = some x) :
    ∃ g o, a = some ⟨g, o, none⟩ ∧ w.cell? ⟨g, o + i, none⟩ = some (.int .i64 x) := by
  have := (List.getElem?_eq_some_iff.1 hx).1
  subst hn
  obtain ⟨g, o, c', e, _, _, hc⟩ := h.ints (by omega)
  cases e
  exact ⟨g, o, rfl, hc i x hx⟩

set_option maxHeartbeats 2000000 in
theorem indexFunc_any {w : World} {a : Option Addr} {n c : Nat} {s : List Int} (h : Lay w (.slice a n c) n (ints s)) (hn : n = s.length) :
    Calls Tryd.prog 49 #[.slice a n c, .func (.func 41) #[] #[]] w fun e w' => (∃ r : Int, e = .returned (.int .i64 r) ∧ decide (r ≥ 0) = s.any noIdx) ∧ Kept w w' := by
  obtain ⟨a', c', e, hnc, hcm⟩ := h.form
  cases e
  unfold maxLen at hcm
  have CE := Lib.hid (fun i x hx => lay_one h hn i x hx)
  have HN := Lib.hid hn
  clear h hn
  go_enter Tryd.func49, Tryd.ntmps49
  go_wp2
  go_loopw [8] (fun i wr => ∃ k : Nat, k ≤ n ∧ i = .int .i64 k ∧ (∀ j x, j < k → s[j]? = some x → noIdx x = false) ∧ Kept w wr) (fun i _ => n - (intOf i).toNat)
  case atStart => exact ⟨0, Nat.zero_le _, rfl, fun j x hj => by omega, Kept.refl _⟩
  case round =>
    obtain ⟨k, hkn, rfl, hlo, hk⟩ := hrel
    have LO := Lib.hid hlo
    have KE := Lib.hid hk
    clear hlo hk
    by_cases hlt : k < n
    · obtain ⟨x, hx⟩ : ∃ x, s[k]? = some x := ⟨_, List.getElem?_eq_getElem (by rw [← HN.out]; omega)⟩
      obtain ⟨g, o, rfl, c0⟩ := CE.out k x hx
      have c1 := KE.out.some c0
      have HX := Lib.hid hx
      have GE := Lib.hid (fun W => noIdx_any x W)
      clear hx c0
      cases hq : noIdx x with
      | false =>
        have HQ := Lib.hid hq
        rw [hq] at GE
        clear hq
        go_wp2_with fail; go_at_call 41; refine (GE.out _).mono ?_; rintro e v1 ⟨rfl, rfl⟩
        go_wp2
        go_roundw
        case rel => exact ⟨k + 1, by omega, by go_num, fun j y hj hy => by
          by_cases e : j = k
          · subst e; have h1 := HX.out; rw [hy] at h1; cases h1; exact HQ.out
          · exact LO.out j y (by omega) hy, KE.out⟩
        case measure => simp [intOf]; omega
      | true =>
        have HK := Lib.hid (show decide ((k : Int) ≥ 0) = s.any noIdx by
          rw [List.any_eq_true.2 ⟨x, List.mem_iff_getElem?.2 ⟨k, HX.out⟩, hq⟩]
          simp)
        rw [hq] at GE
        clear hq
        go_wp2_with fail; go_at_call 41; refine (GE.out _).mono ?_; rintro e v1 ⟨rfl, rfl⟩
        go_wp2
        go_ret
        exact ⟨⟨_, rfl, HK.out⟩, KE.out⟩
    · have HK := Lib.hid (show decide ((-1 : Int) ≥ 0) = s.any noIdx by
        have : s.any noIdx = false := by
          rw [List.any_eq_false]
          intro x hx
          obtain ⟨j, hj⟩ := List.mem_iff_getElem?.1 hx
          have h1 := (List.getElem?_eq_some_iff.1 hj).1
          have := LO.out j x (by have := HN.out; omega) hj
          simp [this]
        rw [this]
        rfl)
      go_wp2
      go_ret
      exact ⟨⟨_, rfl, HK.out⟩, KE.out⟩

set_option maxHeartbeats 1000000 in
theorem contains_any {w : World} {a : Option Addr} {n c : Nat} {s : List Int} (h : Lay w (.slice a n c) n (ints s)) (hn : n = s.length) :
    Calls Tryd.prog 43 #[.slice a n c, .func (.func 41) #[] #[]] w fun e w' => e = .returned (.bool (s.any noIdx)) ∧ Kept w w' := by
  have H := Lib.hid h
  have HN := Lib.hid hn
  clear h hn
  go_enter Tryd.func43, Tryd.ntmps43
  go_wp2_with fail; refine (indexFunc_any H.out HN.out).mono ?_; rintro e w1 ⟨⟨r, rfl, hr⟩, k1⟩
  have HR := Lib.hid hr
  clear hr
  go_wp2
  go_ret
  exact ⟨ret_bool HR.out, k1⟩

set_option maxHeartbeats 2000000 in
theorem check_any {w : World} {a : Option Addr} {n c : Nat} {s : List Int} (h : Lay w (.slice a n c) n (ints s)) (hn : n = s.length) :
    Calls Tryd.prog 18 #[.slice a n c] w fun e w' => e = .returned (.int .i64 (chk s)) ∧ Kept w w' := by
  obtain ⟨a', c', e, hnc, hcm⟩ := h.form
  cases e
  unfold maxLen at hcm
  have CE := Lib.hid (fun W (k : Kept w W) i x hx => lay_one (h.kept k) hn i x hx)
  have H := Lib.hid h
  have HN := Lib.hid hn
  clear h hn
  cases hq : s.any noIdx with
  | true =>
    have HC := Lib.hid (show (3 : Int) = chk s by unfold chk; rw [hq]; rfl)
    have GE := Lib.hid (contains_any H.out HN.out)
    rw [hq] at GE
    clear hq
    go_enter Tryd.func18, Tryd.ntmps18
    go_wp2_with fail; refine GE.out.mono ?_; rintro e w1 ⟨rfl, k1⟩
    go_wp2
    go_ret
    exact ⟨ret_int HC.out, k1⟩
  | false =>
    have HC := Lib.hid (show chk s = if asc s then 0 else 9 by unfold chk; rw [hq]; rfl)
    have GE := Lib.hid (contains_any H.out HN.out)
    rw [hq] at GE
    clear hq
    go_enter Tryd.func18, Tryd.ntmps18
    go_wp2_with fail; refine GE.out.mono ?_; rintro e w1 ⟨rfl, k1⟩
    have K1 := Lib.hid k1
    clear k1
    go_wp2
    go_loopw [3] (fun i wr => ∃ k : Nat, i = .int .i64 ((k : Int) + 1) ∧ k ≤ n ∧ (∀ j x y, j < k → s[j]? = some x → s[j + 1]? = some y → x < y) ∧ Kept w wr) (fun i _ => n + 1 - (intOf i).toNat)
    case atStart => exact ⟨0, rfl, Nat.zero_le _, fun j x y hj => by omega, K1.out⟩
    case round =>
      obtain ⟨k, rfl, hkn, hlo, hk⟩ := hrel
      have LO := Lib.hid hlo
      have KE := Lib.hid hk
      clear hlo hk
      by_cases hlt : k + 1 < n
      · obtain ⟨x, hx⟩ : ∃ x, s[k]? = some x := ⟨_, List.getElem?_eq_getElem (by rw [← HN.out]; omega)⟩
        obtain ⟨y, hy⟩ : ∃ y, s[k + 1]? = some y := ⟨_, List.getElem?_eq_getElem (by rw [← HN.out]; omega)⟩
        obtain ⟨g, o, e1, c0⟩ := CE.out _ KE.out k x hx
        subst e1
        obtain ⟨g', o', e2, c1⟩ := CE.out _ KE.out (k + 1) y hy
        cases e2
        have HX := Lib.hid hx
        have HY := Lib.hid hy
        clear hx hy
        have i1 : (k : Int) + 1 < n := by omega
        have i2 : (k : Int) < n := by omega
        by_cases hxy : x < y
        · have d1 : decide (x ≥ y) = false := by simp; omega
          have HXY := Lib.hid hxy
          clear hxy
          go_wp2
          go_quiet (fail)
          go_wp2
          go_roundw
          case rel => exact ⟨k + 1, by go_num, by omega, fun j x' y' hj hx' hy' => by
            by_cases e : j = k
            · subst e; have h1 := HX.out; rw [hx'] at h1; cases h1; have h2 := HY.out; rw [hy'] at h2; cases h2; exact HXY.out
            · exact LO.out j x' y' (by omega) hx' hy', KE.out.drewN _⟩
          case measure => simp [intOf]; omega
        · have d1 : decide (x ≥ y) = true := by simp; omega
          have HR := Lib.hid (show (9 : Int) = chk s by
            rw [HC.out, if_neg]
            intro ha
            exact hxy (asc_iff.1 ha k x y HX.out HY.out))
          clear hxy
          go_wp2
          go_quiet (fail)
          go_wp2
          go_ret
          exact ⟨ret_int HR.out, KE.out.drewN _⟩
      · have HR := Lib.hid (show (0 : Int) = chk s by
          rw [HC.out, if_pos]
          refine asc_iff.2 fun j x y hx hy => LO.out j x y ?_ hx hy
          have := (List.getElem?_eq_some_iff.1 hy).1
          have := HN.out
          omega)
        have i1 : decide ((k : Int) + 1 < (n : Int)) = false := by simp; omega
        go_wp2
        go_ret
        exact ⟨ret_int HR.out, KE.out⟩

set_option maxHeartbeats 1000000 in
theorem freed_any {R : Array Value} {M : Nat → Bool} (hR : Ws R M) (a : Int) (w : World) :
    Calls Tryd.prog 47 #[.agg R, .int .i64 a] w fun e w' => e = .returned (.int .i64 (freed M a)) ∧ Kept w w' := by
  have ld := ws_ld (WsAt.new w R 57 hR.size hR.one _ rfl)
  have NI := Lib.hid (fun W => noIdx_any a W)
  cases hq : noIdx a with
  | true =>
    have HF := Lib.hid (show (3 : Int) = freed M a by simp [freed, hq])
    rw [hq] at NI
    clear hq
    go_enter Tryd.func47, Tryd.ntmps47
    go_wp2_with fail; refine (NI.out _).mono ?_; rintro e w1 ⟨rfl, rfl⟩
    go_wp2
    go_ret
    exact ⟨ret_int HF.out, (Kept.refl w).alloc _ _⟩
  | false =>
    obtain ⟨i, hi, rfl⟩ := noIdx_iff.1 hq
    have HS := Lib.hid (fun W => has_any hR i hi W)
    rw [hq] at NI
    cases hm : M i with
    | true =>
      have HF := Lib.hid (show (8 : Int) = freed M i by simp [freed, hq, hm])
      rw [hm] at HS
      clear hq hm
      go_enter Tryd.func47, Tryd.ntmps47
      go_wp2_with fail; refine (NI.out _).mono ?_; rintro e w1 ⟨rfl, rfl⟩
      go_wp2_with fail; refine (HS.out _).mono ?_; rintro e w2 ⟨rfl, k2⟩
      go_wp2
      go_ret
      exact ⟨ret_int HF.out, ((Kept.refl w).alloc _ _).trans k2⟩
    | false =>
      have HF := Lib.hid (show (0 : Int) = freed M i by simp [freed, hq, hm])
      rw [hm] at HS
      clear hq hm
      go_enter Tryd.func47, Tryd.ntmps47
      go_wp2_with fail; refine (NI.out _).mono ?_; rintro e w1 ⟨rfl, rfl⟩
      go_wp2_with fail; refine (HS.out _).mono ?_; rintro e w2 ⟨rfl, k2⟩
      go_wp2
      go_ret
      exact ⟨ret_int HF.out, ((Kept.refl w).alloc _ _).trans k2⟩
end Go.Proofs.YtlkadickhhaakaaDoor
