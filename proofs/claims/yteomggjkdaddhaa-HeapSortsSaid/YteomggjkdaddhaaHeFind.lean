/- The program's search: cmp.Compare, byKey, search; Check; IndexFunc, Place, Least. -/
import Derived.Test.YteomggjkdaddhaaHeWith
import Derived.LoopN
import Derived.Deep.Light
namespace Go.Proofs.Yteomggjkdaddhaa
open Go.RowKit

theorem ret_int {k : IntKind} {a b : Int} (h : a = b) : Ending.returned (.int k a) = .returned (.int k b) := by rw [h]
theorem ret_at {a b : Int} {x y : Bool} (h : a = b) (h' : x = y) : Ending.returned (.tuple #[.int .i64 a, .bool x]) = .returned (.tuple #[.int .i64 b, .bool y]) := by rw [h, h']
theorem nan_any (x : Int) (w : World) : Calls Try.prog 42 #[.int .u64 x] w fun e w' => e = .returned (.bool false) ∧ w = w' := by
  go_enter Try.func42, Try.ntmps42
  go_wp2
  go_ret
  exact ⟨by simp, rfl⟩
def cmpI (a b : Int) : Int := if a < b then -1 else if b < a then 1 else 0
set_option maxHeartbeats 1000000 in
theorem compare_any (a b : Int) (w : World) : Calls Try.prog 38 #[.int .u64 a, .int .u64 b] w fun e w' => e = .returned (.int .i64 (cmpI a b)) ∧ w = w' := by
  unfold cmpI
  by_cases h1 : a < b
  · rw [if_pos h1]
    go_enter Try.func38, Try.ntmps38
    go_wp2_with fail; refine (nan_any _ _).mono ?_; rintro e v1 ⟨rfl, rfl⟩
    go_wp2_with fail; refine (nan_any _ _).mono ?_; rintro e v1 ⟨rfl, rfl⟩
    go_wp2
    go_ret
    exact ⟨rfl, rfl⟩
  rw [if_neg h1]
  by_cases h2 : b < a
  · rw [if_pos h2]
    go_enter Try.func38, Try.ntmps38
    go_wp2_with fail; refine (nan_any _ _).mono ?_; rintro e v1 ⟨rfl, rfl⟩
    go_wp2_with fail; refine (nan_any _ _).mono ?_; rintro e v1 ⟨rfl, rfl⟩
    go_wp2
    go_ret
    exact ⟨rfl, rfl⟩
  · rw [if_neg h2]
    go_enter Try.func38, Try.ntmps38
    go_wp2_with fail; refine (nan_any _ _).mono ?_; rintro e v1 ⟨rfl, rfl⟩
    go_wp2_with fail; refine (nan_any _ _).mono ?_; rintro e v1 ⟨rfl, rfl⟩
    go_wp2
    go_ret
    exact ⟨rfl, rfl⟩
theorem byKey_any (x : It) (key : Int) (w : World) : Calls Try.prog 32 #[.agg #[.int .u64 x.k, .int .i64 x.a], .int .u64 key] w fun e w' => e = .returned (.int .i64 (cmpI x.k key)) ∧ Kept w w' := by
  go_enter Try.func32, Try.ntmps32
  go_wp2_with fail; refine (compare_any _ _ _).mono ?_; rintro e v1 ⟨rfl, rfl⟩
  go_wp2
  go_ret
  exact ⟨rfl, by (go_light; repeat (first | (with_reducible exact Kept.refl _) | (with_reducible assumption) | (with_reducible refine Kept.alloc ?_ _ _) | (with_reducible refine Kept.drew ?_) | (with_reducible refine Kept.drewN ?_ _) | ((with_reducible refine Kept.setCell ?_ ?_ _); rotate_left; focus (first | (simp; done) | (simp; omega))) | refine Kept.trans ?_ (by assumption)))⟩
theorem byKey_at {x : It} {key c : Int} {w : World} (h : cmpI x.k key = c) : Calls Try.prog 32 #[.agg #[.int .u64 x.k, .int .i64 x.a], .int .u64 key] w fun e w' => e = .returned (.int .i64 c) ∧ Kept w w' := by
  subst h; exact byKey_any x key w

structure SrAt (l : List It) (key : Int) (f t n : Nat) : Prop where
  le : f ≤ t
  tn : t ≤ n
  lo : ∀ i x, i < f → l[i]? = some x → x.k < key
  hi : ∀ i x, t ≤ i → l[i]? = some x → ¬ x.k < key
def SrRel (w : World) (l : List It) (key : Int) (n : Nat) (a b : Value) (wr : World) : Prop := ∃ f t : Nat, a = .int .i64 f ∧ b = .int .i64 t ∧ SrAt l key f t n ∧ Kept w wr
theorem SrAt.up {l : List It} {key : Int} {f t n m : Nat} {x : It} (h : SrAt l key f t n) (ha : asc l = true) (hm : m < t) (hx : l[m]? = some x) (hk : x.k < key) : SrAt l key (m + 1) t n :=
  ⟨hm, h.tn, fun i y hi hy => by
    by_cases e : i = m
    · subst e; rw [hx] at hy; cases hy; exact hk
    · have := asc_lt ha hy hx (by omega); omega, h.hi⟩
theorem SrAt.down {l : List It} {key : Int} {f t n m : Nat} {x : It} (h : SrAt l key f t n) (ha : asc l = true) (hm : f ≤ m) (hmt : m < t) (hx : l[m]? = some x) (hk : ¬ x.k < key) : SrAt l key f m n :=
  ⟨hm, by have := h.tn; omega, h.lo, fun i y hi hy => by
    by_cases e : i = m
    · subst e; rw [hx] at hy; cases hy; exact hk
    · have := asc_lt ha hx hy (by omega); omega⟩
theorem SrAt.done {l : List It} {key : Int} {f n : Nat} (h : SrAt l key f f n) (hn : n = l.length) : pl key l = f :=
  pl_eq h.lo (fun x hx => h.hi f x (Nat.le_refl _) hx) (by have := h.tn; omega)

set_option maxHeartbeats 4000000 in
theorem search_any {w : World} {a : Option Addr} {c n : Nat} {l : List It} (key : Int) (h : Lay w (.slice a n c) n (flatI l)) (hn : n = l.length) (ha : asc l = true) :
    Calls Try.prog 31 #[.slice a n c, .int .u64 key, .func (.func 32) #[] #[]] w fun e w' => e = .returned (.tuple #[.int .i64 (pl key l), .bool (hs key l)]) ∧ Kept w w' := by
  obtain ⟨a', c', e, hnc, hcm⟩ := h.form
  cases e
  unfold maxLen at hcm
  have HL := Lib.hid h
  have HN := Lib.hid hn
  have HA := Lib.hid ha
  have CE := Lib.hid (fun i x (W : World) (k : Kept w W) (hi : l[i]? = some x) => show ∃ g o, a = some ⟨g, o, none⟩ ∧ ItAt W g (o + i * 2) x by
    have hl := h.kept k
    have := (List.getElem?_eq_some_iff.1 hi).1
    rw [hn] at hl
    obtain ⟨g, o, c', e, _, _, hc⟩ := hl.it (by omega)
    cases e
    exact ⟨g, o, rfl, hc i x hi⟩)
  obtain ⟨Pl, hPl⟩ : ∃ Pl, pl key l = Pl := ⟨_, rfl⟩
  obtain ⟨Hs, hHs⟩ : ∃ Hs, hs key l = Hs := ⟨_, rfl⟩
  have HP := Lib.hid hPl
  have HH := Lib.hid hHs
  rw [hPl, hHs]
  clear h hn ha hPl hHs
  go_enter Try.func31, Try.ntmps31
  go_wp2
  go_loopw [8, 9] (fun a b wr => SrRel w l key n a b wr) (fun a b _ => (intOf b).toNat - (intOf a).toNat)
  case atStart => exact ⟨0, n, rfl, rfl, ⟨Nat.zero_le _, Nat.le_refl _, fun i x hi => by omega, fun i x hi hx => by have := (List.getElem?_eq_some_iff.1 hx).1; have := HN.out; omega⟩, Kept.refl _⟩
  case round =>
    obtain ⟨f, t, rfl, rfl, hs, hk⟩ := hrel
    have KE := Lib.hid hk
    have HS := Lib.hid hs
    have h1 := hs.le
    have h2 := hs.tn
    clear hk hs
    by_cases hlt : f < t
    · obtain ⟨m, hm⟩ : ∃ m, m = f + (t - f) / 2 := ⟨_, rfl⟩
      have m1 : f ≤ m := by omega
      have m2 : m < t := by omega
      have m3 : (f : Int) + ((t : Int) - (f : Int)) / 2 = (m : Int) := by omega
      obtain ⟨x, hx⟩ : ∃ x, l[m]? = some x := ⟨_, List.getElem?_eq_getElem (by rw [← HN.out]; omega)⟩
      obtain ⟨g, o, rfl, c0, c1⟩ := CE.out m x wr KE.out hx
      have HX := Lib.hid hx
      clear hm hx
      by_cases hk : x.k < key
      · have BK := Lib.hid (show cmpI x.k key = -1 by unfold cmpI; rw [if_pos hk])
        have HK := Lib.hid hk
        clear hk
        go_wp2_with fail; refine (byKey_at BK.out).mono ?_; rintro e v1 ⟨rfl, k1⟩
        have K1 := Lib.hid (KE.out.trans k1)
        clear k1
        go_wp2
        go_roundw
        case rel => exact ⟨m + 1, t, by go_num, rfl, HS.out.up HA.out m2 HX.out HK.out, K1.out⟩
        case measure => simp [intOf]; omega
      · have BK := Lib.hid (show cmpI x.k key = (if key < x.k then 1 else 0) by unfold cmpI; rw [if_neg hk])
        obtain ⟨d, hd⟩ : ∃ d : Int, (if key < x.k then 1 else 0) = d := ⟨_, rfl⟩
        have hd0 : ¬ d < 0 := by rw [← hd]; split <;> decide
        rw [hd] at BK
        have HK := Lib.hid hk
        clear hk hd
        go_wp2_with fail; refine (byKey_at BK.out).mono ?_; rintro e v1 ⟨rfl, k1⟩
        have K1 := Lib.hid (KE.out.trans k1)
        clear k1
        go_wp2
        go_roundw
        case rel => exact ⟨f, m, rfl, rfl, HS.out.down HA.out m1 m2 HX.out (by have := HK.out; omega), K1.out⟩
        case measure => simp [intOf]; omega
    · obtain rfl : f = t := by omega
      have hp := HS.out.done HN.out
      have hq := hp.symm.trans HP.out
      have HF := Lib.hid (show (f : Int) = Pl by omega)
      by_cases hf : f < n
      · obtain ⟨x, hx⟩ : ∃ x, l[f]? = some x := ⟨_, List.getElem?_eq_getElem (by rw [← HN.out]; omega)⟩
        obtain ⟨g, o, rfl, c0, c1⟩ := CE.out f x wr KE.out hx
        have hh := hs_some (key := key) (l := l) (x := x) (by rw [hp]; exact hx)
        have hk := HS.out.hi f x (Nat.le_refl _) hx
        have BK := Lib.hid (show cmpI x.k key = (if key < x.k then 1 else 0) by unfold cmpI; rw [if_neg hk])
        obtain ⟨d, hd⟩ : ∃ d : Int, (if key < x.k then 1 else 0) = d := ⟨_, rfl⟩
        have HD := Lib.hid (show (d == 0) = Hs by
          rw [← HH.out, hh, ← hd]
          by_cases h : key < x.k
          · rw [if_pos h]; simp; omega
          · rw [if_neg h]; simp; omega)
        rw [hd] at BK
        clear hk hd hp hh hx hq
        go_wp2_with fail; refine (byKey_at BK.out).mono ?_; rintro e v1 ⟨rfl, k1⟩
        go_wp2
        go_ret2
        exact ⟨ret_at HF.out HD.out, KE.out.trans k1⟩
      · have HD := Lib.hid (show false = Hs by rw [← HH.out, hs_none (key := key) (l := l) (by rw [hp, ← HN.out]; omega)])
        clear hp hq
        go_wp2
        go_ret2
        exact ⟨ret_at HF.out HD.out, KE.out⟩

/-! ### Check -/
def CkRel (w : World) (l : List It) (n : Nat) (i : Value) (wr : World) : Prop := ∃ k : Nat, 1 ≤ k ∧ i = .int .i64 k ∧ (∀ j x y, j + 1 < k → l[j]? = some x → l[j + 1]? = some y → x.k < y.k) ∧ (∃ q, wr = w.drewN q) ∧ k ≤ n + 1
set_option maxHeartbeats 4000000 in
theorem check_any {w : World} {a : Option Addr} {c n : Nat} {l : List It} (h : Lay w (.slice a n c) n (flatI l)) (hn : n = l.length) :
    Calls Try.prog 21 #[.slice a n c] w fun e w' => e = .returned (.int .i64 (chk l)) ∧ Kept w w' := by
  obtain ⟨a', c', e, hnc, hcm⟩ := h.form
  cases e
  unfold maxLen at hcm
  by_cases h1024 : 1024 < n
  · have hc : chk l = 7 := by unfold chk; rw [← hn, if_pos h1024]
    rw [hc]
    clear h hn hc
    go_enter Try.func21, Try.ntmps21
    go_wp2
    go_ret
    exact ⟨rfl, Kept.refl _⟩
  have HC := Lib.hid (show chk l = if asc l = true then 0 else 9 by unfold chk; rw [← hn, if_neg h1024])
  have CE := Lib.hid (fun i x (hi : l[i]? = some x) => show ∃ g o, a = some ⟨g, o, none⟩ ∧ ItAt w g (o + i * 2) x by
    have hl := h
    have := (List.getElem?_eq_some_iff.1 hi).1
    rw [hn] at hl
    obtain ⟨g, o, c', e, _, _, hc⟩ := hl.it (by omega)
    cases e
    exact ⟨g, o, rfl, hc i x hi⟩)
  have HN := Lib.hid hn
  obtain ⟨r, hr⟩ : ∃ r, chk l = r := ⟨_, rfl⟩
  rw [hr] at HC ⊢
  clear h hn hr
  go_enter Try.func21, Try.ntmps21
  go_wp2
  go_loopw [3] (fun i wr => CkRel w l n i wr) (fun i _ => n + 1 - (intOf i).toNat)
  case atStart => exact ⟨1, Nat.le_refl _, rfl, fun j x y hj => by omega, ⟨0, rfl⟩, by omega⟩
  case round =>
    obtain ⟨k, hk1, rfl, hlo, ⟨q, rfl⟩, hkn⟩ := hrel
    have LO := Lib.hid hlo
    clear hlo
    by_cases hlt : k < n
    · obtain ⟨j, rfl⟩ : ∃ j, k = j + 1 := ⟨k - 1, by omega⟩
      obtain ⟨x, hx⟩ : ∃ x, l[j]? = some x := ⟨_, List.getElem?_eq_getElem (by rw [← HN.out]; omega)⟩
      obtain ⟨y, hy⟩ : ∃ y, l[j + 1]? = some y := ⟨_, List.getElem?_eq_getElem (by rw [← HN.out]; omega)⟩
      obtain ⟨g, o, rfl, c0, c1⟩ := CE.out j x hx
      obtain ⟨g', o', e, d0, d1⟩ := CE.out (j + 1) y hy
      cases e
      have HX := Lib.hid hx
      have HY := Lib.hid hy
      clear hx hy c1 d1
      have ej : ((j + 1 : Nat) : Int) - 1 = (j : Int) := by omega
      by_cases hk : x.k < y.k
      · have b1 : decide (x.k ≥ y.k) = false := by simp; omega
        go_wp2
        go_quiet (fail)
        go_wp2
        go_roundw
        case rel => exact ⟨j + 2, by omega, by go_num, fun i u v hi hu hv => by
          by_cases e : i = j
          · subst e; have h1 := HX.out; have h2 := HY.out; rw [hu] at h1; rw [hv] at h2; cases h1; cases h2; exact hk
          · exact LO.out i u v (by omega) hu hv, ⟨q + nq, rfl⟩, by omega⟩
        case measure => simp [intOf]; omega
      · have b1 : decide (x.k ≥ y.k) = true := by simp; omega
        have HR := Lib.hid (show (9 : Int) = r by rw [HC.out, asc_no HX.out HY.out hk]; rfl)
        go_wp2
        go_quiet (fail)
        go_wp2
        go_ret
        exact ⟨ret_int HR.out, ((Kept.refl _).drewN _).drewN _⟩
    · have HR := Lib.hid (show (0 : Int) = r by
        rw [HC.out, if_pos ((asc_iff l).2 fun i x y hx hy => LO.out i x y (by have := (List.getElem?_eq_some_iff.1 hy).1; have := HN.out; omega) hx hy)])
      go_wp2
      go_ret
      exact ⟨ret_int HR.out, (Kept.refl _).drewN _⟩
end Go.Proofs.Yteomggjkdaddhaa
