/- The document's answers: index, Among, Check, behind. -/
import Derived.Test.YtlkadickhhaakaaDoorPoPlay
import Derived.Test.YtlkadickhhaakaaDoorPoKit
namespace Go.Proofs.YtlkadickhhaakaaDoor
open Go.RowKit
attribute [local go_sem ↓] app_named

/-- An int is appended to a row of the call's own. -/
theorem int_append {W : World} {N : Nat} {v : Value} {L : List Int} (hrow : OwnI W N v L) (hN : N ≤ W.heap.size) (hl : L.length ≤ 2000) (x : Int) (n : Nat) (hn : n = L.length) :
    ∃ a c w1, (appSem #[22, 22] 22 #[v, .slice (some ⟨W.heap.size, 0, none⟩) 1 1]).run Tryd.prog (W.alloc (.cells #[.int .i64 x] 3)) = .ok (.slice a (n + 1) c) w1 ∧
      w1.ownsRow N 3 1 (.slice a (n + 1) c) (n + 1) (ints (L ++ [x])) ∧ But (fun j => v.ownBlock = some j) W w1 := by
  subst hn
  obtain ⟨i0, hi, hz0, hz1, hz2⟩ := info_parts infoInt
  have kA : Kept W (W.alloc (.cells #[.int .i64 x] 3)) := (Kept.refl W).alloc _ _
  obtain ⟨a, c, w1, hr, own, but, at_⟩ := append_lay (P := Tryd.prog) (W.alloc (.cells #[.int .i64 x] 3)) N 22 22 3 i0 _ 1 8 Tryd.underlying22 hi hz0 hz1 hz2 (by rfl) (by decide) v L.length (ints L) (own_kept hrow kA) (.slice (some ⟨W.heap.size, 0, none⟩) 1 1) 1 (ints [x])
    (ints_length [x]) (lay_new (by exact heap_alloc_new _ _) (by decide)) (ints_one _) (by unfold maxLen; omega) (by omega) (by simp; omega)
  rw [app_named] at hr
  exact ⟨a, c, w1, hr, by rw [ints_append]; exact own, (kA.but _).trans but (fun _ _ h => h)⟩
/-- So are answers. -/
theorem ans_app {W : World} {N : Nat} {v : Value} {L : List Ann} (hrow : OwnA W N v L) (hN : N ≤ W.heap.size) (hl : L.length ≤ 2000) (xs : List Ann) (hxs : xs.length ≤ 10) (cs : Array Value) (hcs : cs = (flatA xs).toArray) (n k : Nat) (hn : n = L.length) (hk : k = xs.length) :
    ∃ a c w1, (appSem #[33, 33] 33 #[v, .slice (some ⟨W.heap.size, 0, none⟩) k k]).run Tryd.prog (W.alloc (.cells cs 28)) = .ok (.slice a (n + k) c) w1 ∧
      w1.ownsRow N 28 3 (.slice a (n + k) c) (n + k) (flatA (L ++ xs)) ∧ But (fun j => v.ownBlock = some j) W w1 := by
  subst hn
  subst hk
  obtain ⟨i0, hi, hz0, hz1, hz2⟩ := info_parts infoA
  have kA : Kept W (W.alloc (.cells cs 28)) := (Kept.refl W).alloc _ _
  obtain ⟨a, c, w1, hr, own, but, at_⟩ := append_lay (P := Tryd.prog) (W.alloc (.cells cs 28)) N 33 33 28 i0 _ 3 24 Tryd.underlying33 hi hz0 hz1 hz2 (by rfl) (by decide) v L.length (flatA L) (own_kept hrow kA) (.slice (some ⟨W.heap.size, 0, none⟩) xs.length xs.length) xs.length (flatA xs)
    (flatA_length xs) (lay_new (by rw [hcs]; exact heap_alloc_new _ _) (by omega)) (flatA_one _) (by unfold maxLen; omega) (by omega) (by simp; omega)
  rw [app_named] at hr
  exact ⟨a, c, w1, hr, by rw [show flatA (L ++ xs) = flatA L ++ flatA xs by simp [flatA]]; exact own, (kA.but _).trans but (fun _ _ h => h)⟩

theorem index_S (x : Int) (w : World) : Calls Tryd.prog 39 #[.int .i64 x] w fun e w' => e = .returned (.bool (!noIdx x)) ∧ w' = w := by
  by_cases h1 : 0 ≤ x
  · have e : (!noIdx x) = decide (x < 1024) := by
      unfold noIdx
      rw [decide_eq_false (p := x < 0) (by omega), Bool.false_or, Bool.eq_iff_iff]
      simp
    have i1 : x ≥ 0 := h1
    rw [e]
    go_enter Tryd.func39, Tryd.ntmps39
    go_wp2
    go_ret
    exact ⟨rfl, rfl⟩
  · have e : (!noIdx x) = false := by
      unfold noIdx
      rw [decide_eq_true (p := x < 0) (by omega)]
      rfl
    have i1 : ¬ (x ≥ 0) := h1
    rw [e]
    go_enter Tryd.func39, Tryd.ntmps39
    go_wp2
    go_ret
    exact ⟨rfl, rfl⟩

set_option maxHeartbeats 2000000 in
theorem among_any {w : World} {a : Option Addr} {n c : Nat} {s : List Int} (h : Lay w (.slice a n c) n (ints s)) (hn : n = s.length) (x : Int) :
    Calls Tryd.prog 31 #[.slice a n c, .int .i64 x] w fun e w' => e = .returned (.bool (decide (x ∈ s))) ∧ w' = w := by
  obtain ⟨a', c', e, hnc, hcm⟩ := h.form
  cases e
  unfold maxLen at hcm
  have CE := Lib.hid (fun i y hy => lay_one h hn i y hy)
  have HN := Lib.hid hn
  clear h hn
  go_enter Tryd.func31, Tryd.ntmps31
  go_wp2
  go_loopw [5] (fun i wr => ∃ k : Nat, k ≤ n ∧ i = .int .i64 k ∧ (∀ j y, j < k → s[j]? = some y → y ≠ x) ∧ wr = w) (fun i _ => n - (intOf i).toNat)
  case atStart => exact ⟨0, Nat.zero_le _, rfl, fun j y hj => by omega, rfl⟩
  case round =>
    obtain ⟨k, hkn, rfl, hlo, rfl⟩ := hrel
    have LO := Lib.hid hlo
    clear hlo
    by_cases hlt : k < n
    · obtain ⟨y, hy⟩ : ∃ y, s[k]? = some y := ⟨_, List.getElem?_eq_getElem (by rw [← HN.out]; omega)⟩
      obtain ⟨g, o, rfl, c0⟩ := CE.out k y hy
      have HY := Lib.hid hy
      clear hy
      by_cases hxy : y = x
      · have HK := Lib.hid (show true = decide (x ∈ s) by
          rw [decide_eq_true (p := x ∈ s) (List.mem_iff_getElem?.2 ⟨k, by rw [← hxy]; exact HY.out⟩)])
        have i1 : (y == x) = true := by simpa using hxy
        clear hxy
        go_wp2
        go_ret
        exact ⟨ret_bool HK.out, rfl⟩
      · have HXY := Lib.hid hxy
        have i1 : (y == x) = false := by simpa using hxy
        clear hxy
        go_wp2
        go_roundw
        case rel => exact ⟨k + 1, by omega, by go_num, fun j z hj hz => by
          by_cases e : j = k
          · subst e; have h1 := HY.out; rw [hz] at h1; cases h1; exact HXY.out
          · exact LO.out j z (by omega) hz, trivial⟩
        case measure => simp [intOf]; omega
    · have HK := Lib.hid (show false = decide (x ∈ s) by
        rw [decide_eq_false (p := x ∈ s) (fun hx => by
          obtain ⟨j, hj⟩ := List.mem_iff_getElem?.1 hx
          have h1 := (List.getElem?_eq_some_iff.1 hj).1
          exact LO.out j x (by have := HN.out; omega) hj rfl)])
      go_wp2
      go_ret
      exact ⟨ret_bool HK.out, rfl⟩

set_option maxHeartbeats 4000000 in
theorem refCheck_any {w : World} {a : Option Addr} {n c : Nat} {s : List Int} (h : Lay w (.slice a n c) n (ints s)) (hn : n = s.length) :
    Calls Tryd.prog 19 #[.slice a n c] w fun e w' => e = .returned (.int .i64 (chk s)) ∧ Kept w w' := by
  obtain ⟨a', c', e, hnc, hcm⟩ := h.form
  cases e
  unfold maxLen at hcm
  have CE := Lib.hid (fun W (k : Kept w W) i x hx => lay_one (h.kept k) hn i x hx)
  have HN := Lib.hid hn
  clear h hn
  go_enter Tryd.func19, Tryd.ntmps19
  go_wp2
  go_loopw [3] (fun i wr => ∃ k : Nat, k ≤ n ∧ i = .int .i64 k ∧ (∀ j x, j < k → s[j]? = some x → noIdx x = false) ∧ Kept w wr) (fun i _ => n - (intOf i).toNat)
  case atStart => exact ⟨0, Nat.zero_le _, rfl, fun j x hj => by omega, Kept.refl _⟩
  case round =>
    obtain ⟨k, hkn, rfl, hlo, hk⟩ := hrel
    have LO := Lib.hid hlo
    have KE := Lib.hid hk
    clear hlo hk
    by_cases hlt : k < n
    · obtain ⟨x, hx⟩ : ∃ x, s[k]? = some x := ⟨_, List.getElem?_eq_getElem (by rw [← HN.out]; omega)⟩
      obtain ⟨g, o, rfl, c0⟩ := CE.out _ KE.out k x hx
      have HX := Lib.hid hx
      have GE := Lib.hid (fun W => index_S x W)
      clear hx
      cases hq : noIdx x with
      | false =>
        have HQ := Lib.hid hq
        rw [hq] at GE
        clear hq
        go_wp2_with fail; refine (GE.out _).mono ?_; rintro e v1 ⟨rfl, rfl⟩
        go_wp2
        go_roundw
        case rel => exact ⟨k + 1, by omega, by go_num, fun j y hj hy => by
          by_cases e : j = k
          · subst e; have h1 := HX.out; rw [hy] at h1; cases h1; exact HQ.out
          · exact LO.out j y (by omega) hy, KE.out⟩
        case measure => simp [intOf]; omega
      | true =>
        have HC := Lib.hid (show (3 : Int) = chk s by
          unfold chk
          rw [List.any_eq_true.2 ⟨x, List.mem_iff_getElem?.2 ⟨k, HX.out⟩, hq⟩]
          rfl)
        rw [hq] at GE
        clear hq
        go_wp2_with fail; refine (GE.out _).mono ?_; rintro e v1 ⟨rfl, rfl⟩
        go_wp2
        go_ret
        exact ⟨ret_int HC.out, KE.out⟩
    · have HC := Lib.hid (show chk s = if asc s then 0 else 9 by
        have : s.any noIdx = false := by
          rw [List.any_eq_false]
          intro x hx
          obtain ⟨j, hj⟩ := List.mem_iff_getElem?.1 hx
          have h1 := (List.getElem?_eq_some_iff.1 hj).1
          have := LO.out j x (by have := HN.out; omega) hj
          simp [this]
        unfold chk
        rw [this]
        rfl)
      clear LO
      go_wp2
      clear hlt
      go_loopw [4] (fun i wr => ∃ k : Nat, i = .int .i64 ((k : Int) + 1) ∧ k ≤ n ∧ (∀ j x y, j < k → s[j]? = some x → s[j + 1]? = some y → x < y) ∧ Kept w wr) (fun i _ => n + 1 - (intOf i).toNat)
      case atStart => exact ⟨0, rfl, Nat.zero_le _, fun j x y hj => by omega, KE.out⟩
      case round =>
        obtain ⟨k, rfl, hkn, hlo, hk⟩ := hrel
        have LO := Lib.hid hlo
        have KE := Lib.hid hk
        clear hlo hk
        by_cases hlt : k + 1 < n
        · obtain ⟨x, hx⟩ : ∃ x, s[k]? = some x := ⟨_, List.getElem?_eq_getElem (by rw [← HN.out]; omega)⟩
          obtain ⟨y, hy⟩ : ∃ y, s[k + 1]? = some y := ⟨_, List.getElem?_eq_getElem (by rw [← HN.out]; omega)⟩
          obtain ⟨g, o, e1, c0⟩ := CE.out _ KE.out k x hx
          subst e1
          obtain ⟨g', o', e2, c1⟩ := CE.out _ KE.out (k + 1) y hy
          cases e2
          have HX := Lib.hid hx
          have HY := Lib.hid hy
          clear hx hy
          have i1 : (k : Int) + 1 < n := by omega
          have i2 : (k : Int) < n := by omega
          by_cases hxy : x < y
          · have d1 : decide (x ≥ y) = false := by simp; omega
            have HXY := Lib.hid hxy
            clear hxy
            go_wp2
            go_quiet (fail)
            go_wp2
            go_roundw
            case rel => exact ⟨k + 1, by go_num, by omega, fun j x' y' hj hx' hy' => by
              by_cases e : j = k
              · subst e; have h1 := HX.out; rw [hx'] at h1; cases h1; have h2 := HY.out; rw [hy'] at h2; cases h2; exact HXY.out
              · exact LO.out j x' y' (by omega) hx' hy', KE.out.drewN _⟩
            case measure => simp [intOf]; omega
          · have d1 : decide (x ≥ y) = true := by simp; omega
            have HR := Lib.hid (show (9 : Int) = chk s by
              rw [HC.out, if_neg]
              intro ha
              exact hxy (asc_iff.1 ha k x y HX.out HY.out))
            clear hxy
            go_wp2
            go_quiet (fail)
            go_wp2
            go_ret
            exact ⟨ret_int HR.out, KE.out.drewN _⟩
        · have HR := Lib.hid (show (0 : Int) = chk s by
            rw [HC.out, if_pos]
            refine asc_iff.2 fun j x y hx hy => LO.out j x y ?_ hx hy
            have := (List.getElem?_eq_some_iff.1 hy).1
            have := HN.out
            omega)
          have i1 : decide ((k : Int) + 1 < (n : Int)) = false := by simp; omega
          go_wp2
          go_ret
          exact ⟨ret_int HR.out, KE.out⟩

/-! ### behind -/
theorem memTo_yes {M : Nat → Bool} {k : Nat} (h : M k = true) : cast (memTo M (k + 1)) = cast (memTo M k) ++ [(k : Int)] := by rw [memTo_succ, h, cast_append]; rfl
theorem memTo_no {M : Nat → Bool} {k : Nat} (h : M k = false) : cast (memTo M (k + 1)) = cast (memTo M k) := by rw [memTo_succ, h]; simp
theorem castTo_len (M : Nat → Bool) (k : Nat) : (cast (memTo M k)).length ≤ k := by rw [cast_length]; exact memTo_len M k

set_option maxRecDepth 100000 in
set_option maxHeartbeats 8000000 in
theorem behind_7 {w : World} {a : Option Addr} {n c : Nat} {s : List Int} (h : Lay w (.slice a n c) n (ints s)) (hn : n = s.length) (ok oa ob ou xn xv : Int) (h7 : ok = 7) :
    Calls Tryd.prog 38 #[.slice a n c, .agg #[.int .i64 ok, .int .i64 oa, .int .i64 ob, .int .u64 ou], .agg #[.int .i64 0, .int .i64 xn, .int .u64 xv]] w (RetI w (memI (aft (setOf s) ⟨ok, oa, ob, ou⟩ ⟨0, xn, xv⟩))) := by
  obtain ⟨N, hNN⟩ : ∃ N, N = aft (setOf s) ⟨ok, oa, ob, ou⟩ ⟨0, xn, xv⟩ := ⟨_, rfl⟩
  rw [← hNN]
  have H7 := Lib.hid h7
  have d7 : (ok == 7) = true := by simpa using h7
  clear h7
  have BO := OpBox.new w ⟨ok, oa, ob, ou⟩ 25 w.heap.size rfl
  have K0 := Lib.hid (show Kept w ((w.alloc (.cells #[.int .i64 ok, .int .i64 oa, .int .i64 ob, .int .u64 ou] 25)).alloc (.cells #[.int .i64 0, .int .i64 xn, .int .u64 xv] 28)) from ((Kept.refl w).alloc _ _).alloc _ _)
  have BB := Lib.hid (show ((w.alloc (.cells #[.int .i64 ok, .int .i64 oa, .int .i64 ob, .int .u64 ou] 25)).alloc (.cells #[.int .i64 0, .int .i64 xn, .int .u64 xv] 28)).cell? ⟨w.heap.size, 0, none⟩ = some (.int .i64 ok) ∧
      ((w.alloc (.cells #[.int .i64 ok, .int .i64 oa, .int .i64 ob, .int .u64 ou] 25)).alloc (.cells #[.int .i64 0, .int .i64 xn, .int .u64 xv] 28)).cell? ⟨w.heap.size, 1, none⟩ = some (.int .i64 oa) ∧
      ((w.alloc (.cells #[.int .i64 ok, .int .i64 oa, .int .i64 ob, .int .u64 ou] 25)).alloc (.cells #[.int .i64 0, .int .i64 xn, .int .u64 xv] 28)).cell? ⟨w.heap.size + 1, 1, none⟩ = some (.int .i64 xn) from
    ⟨((Kept.refl _).alloc _ _).some BO.c0, ((Kept.refl _).alloc _ _).some BO.c1, cell_new _ _ _ _ 1 (by simp)⟩)
  have AMA := Lib.hid (fun W (k : Kept w W) (x : Int) => among_any (h.kept k) hn x)
  have HNN := Lib.hid hNN
  obtain ⟨W1, hW1⟩ : ∃ W1, W1 = ((w.alloc (.cells #[.int .i64 ok, .int .i64 oa, .int .i64 ob, .int .u64 ou] 25)).alloc (.cells #[.int .i64 0, .int .i64 xn, .int .u64 xv] 28)) := ⟨_, rfl⟩
  rw [← hW1] at K0 BB
  have HW := Lib.hid hW1
  have hsz1 : W1.heap.size = w.heap.size + 2 := by rw [hW1]; simp
  clear h hn BO hNN hW1
  go_enter Tryd.func38, Tryd.ntmps38
  go_wp2
  rw [← HW.out]
  go_loopw [8, 7] (fun i v wr => ∃ (k m : Nat) (a' : Option Addr) (c' : Nat), k ≤ 1024 ∧ i = .int .i64 k ∧ v = .slice a' m c' ∧ m = (cast (memTo N k)).length ∧ wr.ownsRow (w.heap.size + 2) 3 1 (.slice a' m c') (cast (memTo N k)).length (ints (cast (memTo N k))) ∧ Kept W1 wr) (fun i _ _ => 1024 - (intOf i).toNat)
  case atStart => exact ⟨0, 0, none, 0, Nat.zero_le _, rfl, rfl, rfl, World.ownsRow_nil _ _ _ _, Kept.refl _⟩
  case round =>
    obtain ⟨k, m, a', c', hkn, rfl, rfl, hm, hown, hk⟩ := hrel
    have hsz : w.heap.size + 2 ≤ wr.heap.size := by have := hk.size; omega
    obtain ⟨b0, b1, b2⟩ := BB.out
    have d0 := hk.some b0
    have d1 := hk.some b1
    have d2 := hk.some b2
    by_cases hlt : k < 1024
    · have hle := castTo_len N k
      obtain ⟨a1, c1, w1, hr, own1, but1⟩ := int_append (L := cast (memTo N k)) hown (by omega) (by omega) k m hm
      have KE1 := Lib.hid (show Kept W1 w1 from hk.wrote but1 (fun j hj => by have := (hown.lt j hj).1; omega))
      have OW1 := Lib.hid (show w1.ownsRow (w.heap.size + 2) 3 1 (.slice a1 (m + 1) c1) (cast (memTo N k) ++ [(k : Int)]).length (ints (cast (memTo N k) ++ [(k : Int)])) by
        rw [List.length_append, ← hm]; exact own1)
      have OW := Lib.hid hown
      have HL := Lib.hid hm
      have KE := Lib.hid (K0.out.trans hk)
      have KE' := Lib.hid hk
      have lk : (k : Int) < 1024 := by omega
      have AM := Lib.hid (fun W (q : Kept w W) => AMA.out W q k)
      clear hown hm hk own1 but1 b0 b1 b2
      have hmem : decide ((k : Int) ∈ s) = setOf s k := rfl
      rw [hmem] at AM
      clear hmem
      by_cases hx : (k : Int) = xn
      · have i1 : ((k : Int) == xn) = true := by simpa using hx
        have hN : N k = false := by rw [HNN.out]; simp [aft, upd, hx, H7.out]
        clear hx
        cases hS : setOf s k with
        | true =>
          rw [hS] at AM
          clear hS
          have HY := Lib.hid (memTo_no hN)
          clear hN
          go_wp2_with fail; refine (AM.out _ KE.out).mono ?_; rintro e v1 ⟨rfl, rfl⟩
          go_wp2
          go_roundw
          case rel => exact ⟨k + 1, _, _, _, by omega, by go_num, rfl, by rw [HY.out]; exact HL.out, by rw [HY.out]; exact OW.out, KE'.out⟩
          case measure => simp [intOf]; omega
        | false =>
          rw [hS] at AM
          clear hS
          have HY := Lib.hid (memTo_no hN)
          clear hN
          go_wp2_with fail; refine (AM.out _ KE.out).mono ?_; rintro e v1 ⟨rfl, rfl⟩
          go_wp2
          go_roundw
          case rel => exact ⟨k + 1, _, _, _, by omega, by go_num, rfl, by rw [HY.out]; exact HL.out, by rw [HY.out]; exact OW.out, KE'.out⟩
          case measure => simp [intOf]; omega
      · have i1 : ((k : Int) == xn) = false := by simpa using hx
        have hN : N k = setOf s k := by rw [HNN.out]; simp [aft, upd, hx, H7.out]
        clear hx
        cases hS : setOf s k with
        | true =>
          rw [hS] at AM hN
          clear hS
          have HY := Lib.hid (memTo_yes hN)
          clear hN
          go_wp2_with fail; refine (AM.out _ KE.out).mono ?_; rintro e v1 ⟨rfl, rfl⟩
          go_wp2
          go_roundw
          case rel => exact ⟨k + 1, _, _, _, by omega, by go_num, rfl, by rw [HY.out, List.length_append, ← HL.out]; rfl, by rw [HY.out]; exact OW1.out, KE1.out⟩
          case measure => simp [intOf]; omega
        | false =>
          rw [hS] at AM hN
          clear hS
          have HY := Lib.hid (memTo_no hN)
          clear hN
          go_wp2_with fail; refine (AM.out _ KE.out).mono ?_; rintro e v1 ⟨rfl, rfl⟩
          go_wp2
          go_roundw
          case rel => exact ⟨k + 1, _, _, _, by omega, by go_num, rfl, by rw [HY.out]; exact HL.out, by rw [HY.out]; exact OW.out, KE'.out⟩
          case measure => simp [intOf]; omega
    · obtain rfl : k = 1024 := by omega
      go_wp2
      go_ret
      exact ⟨a', c', by rw [hm]; rfl, K0.out.trans hk, own_mono (by rw [hm] at hown; exact hown) (by omega)⟩

set_option maxRecDepth 100000 in
set_option maxHeartbeats 8000000 in
theorem behind_8 {w : World} {a : Option Addr} {n c : Nat} {s : List Int} (h : Lay w (.slice a n c) n (ints s)) (hn : n = s.length) (ok oa ob ou xn xv : Int) (h8 : ok = 8) :
    Calls Tryd.prog 38 #[.slice a n c, .agg #[.int .i64 ok, .int .i64 oa, .int .i64 ob, .int .u64 ou], .agg #[.int .i64 0, .int .i64 xn, .int .u64 xv]] w (RetI w (memI (aft (setOf s) ⟨ok, oa, ob, ou⟩ ⟨0, xn, xv⟩))) := by
  obtain ⟨N, hNN⟩ : ∃ N, N = aft (setOf s) ⟨ok, oa, ob, ou⟩ ⟨0, xn, xv⟩ := ⟨_, rfl⟩
  rw [← hNN]
  have H7 := Lib.hid h8
  have d8 : (ok == 8) = true := by simpa using h8
  have d7 : (ok == 7) = false := by simp [h8]
  clear h8
  have BO := OpBox.new w ⟨ok, oa, ob, ou⟩ 25 w.heap.size rfl
  have K0 := Lib.hid (show Kept w ((w.alloc (.cells #[.int .i64 ok, .int .i64 oa, .int .i64 ob, .int .u64 ou] 25)).alloc (.cells #[.int .i64 0, .int .i64 xn, .int .u64 xv] 28)) from ((Kept.refl w).alloc _ _).alloc _ _)
  have BB := Lib.hid (show ((w.alloc (.cells #[.int .i64 ok, .int .i64 oa, .int .i64 ob, .int .u64 ou] 25)).alloc (.cells #[.int .i64 0, .int .i64 xn, .int .u64 xv] 28)).cell? ⟨w.heap.size, 0, none⟩ = some (.int .i64 ok) ∧
      ((w.alloc (.cells #[.int .i64 ok, .int .i64 oa, .int .i64 ob, .int .u64 ou] 25)).alloc (.cells #[.int .i64 0, .int .i64 xn, .int .u64 xv] 28)).cell? ⟨w.heap.size, 1, none⟩ = some (.int .i64 oa) ∧
      ((w.alloc (.cells #[.int .i64 ok, .int .i64 oa, .int .i64 ob, .int .u64 ou] 25)).alloc (.cells #[.int .i64 0, .int .i64 xn, .int .u64 xv] 28)).cell? ⟨w.heap.size + 1, 1, none⟩ = some (.int .i64 xn) from
    ⟨((Kept.refl _).alloc _ _).some BO.c0, ((Kept.refl _).alloc _ _).some BO.c1, cell_new _ _ _ _ 1 (by simp)⟩)
  have AMA := Lib.hid (fun W (k : Kept w W) (x : Int) => among_any (h.kept k) hn x)
  have HNN := Lib.hid hNN
  obtain ⟨W1, hW1⟩ : ∃ W1, W1 = ((w.alloc (.cells #[.int .i64 ok, .int .i64 oa, .int .i64 ob, .int .u64 ou] 25)).alloc (.cells #[.int .i64 0, .int .i64 xn, .int .u64 xv] 28)) := ⟨_, rfl⟩
  rw [← hW1] at K0 BB
  have HW := Lib.hid hW1
  have hsz1 : W1.heap.size = w.heap.size + 2 := by rw [hW1]; simp
  clear h hn BO hNN hW1
  go_enter Tryd.func38, Tryd.ntmps38
  go_wp2
  rw [← HW.out]
  go_loopw [8, 7] (fun i v wr => ∃ (k m : Nat) (a' : Option Addr) (c' : Nat), k ≤ 1024 ∧ i = .int .i64 k ∧ v = .slice a' m c' ∧ m = (cast (memTo N k)).length ∧ wr.ownsRow (w.heap.size + 2) 3 1 (.slice a' m c') (cast (memTo N k)).length (ints (cast (memTo N k))) ∧ Kept W1 wr) (fun i _ _ => 1024 - (intOf i).toNat)
  case atStart => exact ⟨0, 0, none, 0, Nat.zero_le _, rfl, rfl, rfl, World.ownsRow_nil _ _ _ _, Kept.refl _⟩
  case round =>
    obtain ⟨k, m, a', c', hkn, rfl, rfl, hm, hown, hk⟩ := hrel
    have hsz : w.heap.size + 2 ≤ wr.heap.size := by have := hk.size; omega
    obtain ⟨b0, b1, b2⟩ := BB.out
    have d0 := hk.some b0
    have d1 := hk.some b1
    have d2 := hk.some b2
    by_cases hlt : k < 1024
    · have hle := castTo_len N k
      obtain ⟨a1, c1, w1, hr, own1, but1⟩ := int_append (L := cast (memTo N k)) hown (by omega) (by omega) k m hm
      have KE1 := Lib.hid (show Kept W1 w1 from hk.wrote but1 (fun j hj => by have := (hown.lt j hj).1; omega))
      have OW1 := Lib.hid (show w1.ownsRow (w.heap.size + 2) 3 1 (.slice a1 (m + 1) c1) (cast (memTo N k) ++ [(k : Int)]).length (ints (cast (memTo N k) ++ [(k : Int)])) by
        rw [List.length_append, ← hm]; exact own1)
      have OW := Lib.hid hown
      have HL := Lib.hid hm
      have KE := Lib.hid (K0.out.trans hk)
      have KE' := Lib.hid hk
      have lk : (k : Int) < 1024 := by omega
      have AM := Lib.hid (fun W (q : Kept w W) => AMA.out W q k)
      clear hown hm hk own1 but1 b0 b1 b2
      have hmem : decide ((k : Int) ∈ s) = setOf s k := rfl
      rw [hmem] at AM
      clear hmem
      by_cases hx : (k : Int) = oa
      · have i1 : ((k : Int) == oa) = true := by simpa using hx
        have hN : N k = true := by rw [HNN.out]; simp [aft, upd, hx, H7.out]
        clear hx
        cases hS : setOf s k with
        | true =>
          rw [hS] at AM
          clear hS
          have HY := Lib.hid (memTo_yes hN)
          clear hN
          go_wp2_with fail; refine (AM.out _ KE.out).mono ?_; rintro e v1 ⟨rfl, rfl⟩
          go_wp2
          go_roundw
          case rel => exact ⟨k + 1, _, _, _, by omega, by go_num, rfl, by rw [HY.out, List.length_append, ← HL.out]; rfl, by rw [HY.out]; exact OW1.out, KE1.out⟩
          case measure => simp [intOf]; omega
        | false =>
          rw [hS] at AM
          clear hS
          have HY := Lib.hid (memTo_yes hN)
          clear hN
          go_wp2_with fail; refine (AM.out _ KE.out).mono ?_; rintro e v1 ⟨rfl, rfl⟩
          go_wp2
          go_roundw
          case rel => exact ⟨k + 1, _, _, _, by omega, by go_num, rfl, by rw [HY.out, List.length_append, ← HL.out]; rfl, by rw [HY.out]; exact OW1.out, KE1.out⟩
          case measure => simp [intOf]; omega
      · have i1 : ((k : Int) == oa) = false := by simpa using hx
        have hN : N k = setOf s k := by rw [HNN.out]; simp [aft, upd, hx, H7.out]
        clear hx
        cases hS : setOf s k with
        | true =>
          rw [hS] at AM hN
          clear hS
          have HY := Lib.hid (memTo_yes hN)
          clear hN
          go_wp2_with fail; refine (AM.out _ KE.out).mono ?_; rintro e v1 ⟨rfl, rfl⟩
          go_wp2
          go_roundw
          case rel => exact ⟨k + 1, _, _, _, by omega, by go_num, rfl, by rw [HY.out, List.length_append, ← HL.out]; rfl, by rw [HY.out]; exact OW1.out, KE1.out⟩
          case measure => simp [intOf]; omega
        | false =>
          rw [hS] at AM hN
          clear hS
          have HY := Lib.hid (memTo_no hN)
          clear hN
          go_wp2_with fail; refine (AM.out _ KE.out).mono ?_; rintro e v1 ⟨rfl, rfl⟩
          go_wp2
          go_roundw
          case rel => exact ⟨k + 1, _, _, _, by omega, by go_num, rfl, by rw [HY.out]; exact HL.out, by rw [HY.out]; exact OW.out, KE'.out⟩
          case measure => simp [intOf]; omega
    · obtain rfl : k = 1024 := by omega
      go_wp2
      go_ret
      exact ⟨a', c', by rw [hm]; rfl, K0.out.trans hk, own_mono (by rw [hm] at hown; exact hown) (by omega)⟩

set_option maxRecDepth 100000 in
set_option maxHeartbeats 8000000 in
theorem behind_0 {w : World} {a : Option Addr} {n c : Nat} {s : List Int} (h : Lay w (.slice a n c) n (ints s)) (hn : n = s.length) (ok oa ob ou xn xv : Int) (h7 : ok ≠ 7) (h8 : ok ≠ 8) :
    Calls Tryd.prog 38 #[.slice a n c, .agg #[.int .i64 ok, .int .i64 oa, .int .i64 ob, .int .u64 ou], .agg #[.int .i64 0, .int .i64 xn, .int .u64 xv]] w (RetI w (memI (aft (setOf s) ⟨ok, oa, ob, ou⟩ ⟨0, xn, xv⟩))) := by
  obtain ⟨N, hNN⟩ : ∃ N, N = aft (setOf s) ⟨ok, oa, ob, ou⟩ ⟨0, xn, xv⟩ := ⟨_, rfl⟩
  rw [← hNN]
  have H78 := Lib.hid (And.intro h7 h8)
  have d7 : (ok == 7) = false := by simpa using h7
  have d8 : (ok == 8) = false := by simpa using h8
  clear h7 h8
  have BO := OpBox.new w ⟨ok, oa, ob, ou⟩ 25 w.heap.size rfl
  have K0 := Lib.hid (show Kept w ((w.alloc (.cells #[.int .i64 ok, .int .i64 oa, .int .i64 ob, .int .u64 ou] 25)).alloc (.cells #[.int .i64 0, .int .i64 xn, .int .u64 xv] 28)) from ((Kept.refl w).alloc _ _).alloc _ _)
  have BB := Lib.hid (show ((w.alloc (.cells #[.int .i64 ok, .int .i64 oa, .int .i64 ob, .int .u64 ou] 25)).alloc (.cells #[.int .i64 0, .int .i64 xn, .int .u64 xv] 28)).cell? ⟨w.heap.size, 0, none⟩ = some (.int .i64 ok) ∧
      ((w.alloc (.cells #[.int .i64 ok, .int .i64 oa, .int .i64 ob, .int .u64 ou] 25)).alloc (.cells #[.int .i64 0, .int .i64 xn, .int .u64 xv] 28)).cell? ⟨w.heap.size, 1, none⟩ = some (.int .i64 oa) ∧
      ((w.alloc (.cells #[.int .i64 ok, .int .i64 oa, .int .i64 ob, .int .u64 ou] 25)).alloc (.cells #[.int .i64 0, .int .i64 xn, .int .u64 xv] 28)).cell? ⟨w.heap.size + 1, 1, none⟩ = some (.int .i64 xn) from
    ⟨((Kept.refl _).alloc _ _).some BO.c0, ((Kept.refl _).alloc _ _).some BO.c1, cell_new _ _ _ _ 1 (by simp)⟩)
  have AMA := Lib.hid (fun W (k : Kept w W) (x : Int) => among_any (h.kept k) hn x)
  have HNN := Lib.hid hNN
  obtain ⟨W1, hW1⟩ : ∃ W1, W1 = ((w.alloc (.cells #[.int .i64 ok, .int .i64 oa, .int .i64 ob, .int .u64 ou] 25)).alloc (.cells #[.int .i64 0, .int .i64 xn, .int .u64 xv] 28)) := ⟨_, rfl⟩
  rw [← hW1] at K0 BB
  have HW := Lib.hid hW1
  have hsz1 : W1.heap.size = w.heap.size + 2 := by rw [hW1]; simp
  clear h hn BO hNN hW1
  go_enter Tryd.func38, Tryd.ntmps38
  go_wp2
  rw [← HW.out]
  go_loopw [8, 7] (fun i v wr => ∃ (k m : Nat) (a' : Option Addr) (c' : Nat), k ≤ 1024 ∧ i = .int .i64 k ∧ v = .slice a' m c' ∧ m = (cast (memTo N k)).length ∧ wr.ownsRow (w.heap.size + 2) 3 1 (.slice a' m c') (cast (memTo N k)).length (ints (cast (memTo N k))) ∧ Kept W1 wr) (fun i _ _ => 1024 - (intOf i).toNat)
  case atStart => exact ⟨0, 0, none, 0, Nat.zero_le _, rfl, rfl, rfl, World.ownsRow_nil _ _ _ _, Kept.refl _⟩
  case round =>
    obtain ⟨k, m, a', c', hkn, rfl, rfl, hm, hown, hk⟩ := hrel
    have hsz : w.heap.size + 2 ≤ wr.heap.size := by have := hk.size; omega
    obtain ⟨b0, b1, b2⟩ := BB.out
    have d0 := hk.some b0
    have d1 := hk.some b1
    have d2 := hk.some b2
    by_cases hlt : k < 1024
    · have hle := castTo_len N k
      obtain ⟨a1, c1, w1, hr, own1, but1⟩ := int_append (L := cast (memTo N k)) hown (by omega) (by omega) k m hm
      have KE1 := Lib.hid (show Kept W1 w1 from hk.wrote but1 (fun j hj => by have := (hown.lt j hj).1; omega))
      have OW1 := Lib.hid (show w1.ownsRow (w.heap.size + 2) 3 1 (.slice a1 (m + 1) c1) (cast (memTo N k) ++ [(k : Int)]).length (ints (cast (memTo N k) ++ [(k : Int)])) by
        rw [List.length_append, ← hm]; exact own1)
      have OW := Lib.hid hown
      have HL := Lib.hid hm
      have KE := Lib.hid (K0.out.trans hk)
      have KE' := Lib.hid hk
      have lk : (k : Int) < 1024 := by omega
      have AM := Lib.hid (fun W (q : Kept w W) => AMA.out W q k)
      clear hown hm hk own1 but1 b0 b1 b2
      have hmem : decide ((k : Int) ∈ s) = setOf s k := rfl
      rw [hmem] at AM
      clear hmem
      have hN : N k = setOf s k := by rw [HNN.out]; simp [aft, H78.out.1, H78.out.2]
      cases hS : setOf s k with
      | true =>
        rw [hS] at AM hN
        clear hS
        have HY := Lib.hid (memTo_yes hN)
        clear hN
        go_wp2_with fail; refine (AM.out _ KE.out).mono ?_; rintro e v1 ⟨rfl, rfl⟩
        go_wp2
        go_roundw
        case rel => exact ⟨k + 1, _, _, _, by omega, by go_num, rfl, by rw [HY.out, List.length_append, ← HL.out]; rfl, by rw [HY.out]; exact OW1.out, KE1.out⟩
        case measure => simp [intOf]; omega
      | false =>
        rw [hS] at AM hN
        clear hS
        have HY := Lib.hid (memTo_no hN)
        clear hN
        go_wp2_with fail; refine (AM.out _ KE.out).mono ?_; rintro e v1 ⟨rfl, rfl⟩
        go_wp2
        go_roundw
        case rel => exact ⟨k + 1, _, _, _, by omega, by go_num, rfl, by rw [HY.out]; exact HL.out, by rw [HY.out]; exact OW.out, KE'.out⟩
        case measure => simp [intOf]; omega
    · obtain rfl : k = 1024 := by omega
      go_wp2
      go_ret
      exact ⟨a', c', by rw [hm]; rfl, K0.out.trans hk, own_mono (by rw [hm] at hown; exact hown) (by omega)⟩

set_option maxHeartbeats 1000000 in
theorem behind_any {w : World} {a : Option Addr} {n c : Nat} {s : List Int} (h : Lay w (.slice a n c) n (ints s)) (hn : n = s.length) (hc : chk s = 0) (o : Opn) (x : Ann) :
    Calls Tryd.prog 38 #[.slice a n c, .agg #[.int .i64 o.k, .int .i64 o.a, .int .i64 o.b, .int .u64 o.u], .agg #[.int .i64 x.e, .int .i64 x.n, .int .u64 x.v]] w (RetI w (memI (aft (setOf s) o x))) := by
  obtain ⟨ok, oa, ob, ou⟩ := o
  obtain ⟨xe, xn, xv⟩ := x
  by_cases he : xe = 0
  · subst he
    by_cases h7 : ok = 7
    · exact behind_7 h hn ok oa ob ou xn xv h7
    · by_cases h8 : ok = 8
      · exact behind_8 h hn ok oa ob ou xn xv h8
      · exact behind_0 h hn ok oa ob ou xn xv h7 h8
  · have hm : memI (aft (setOf s) ⟨ok, oa, ob, ou⟩ ⟨xe, xn, xv⟩) = s := by
      have : aft (setOf s) ⟨ok, oa, ob, ou⟩ ⟨xe, xn, xv⟩ = setOf s := by simp [aft, he]
      rw [this]; exact memI_setOf hc
    rw [hm]
    have hl := chk_len hc
    have d0 : (xe != 0) = true := by simpa using he
    subst hn
    have CI := Lib.hid (fun W (k : Kept w W) => copyInts_any (h.kept k) (by omega))
    clear h hc he hm
    go_enter Tryd.func38, Tryd.ntmps38
    go_wp2_with fail; refine (CI.out _ (((Kept.refl w).alloc _ _).alloc _ _)).mono ?_; rintro e w1 ⟨a1, c1, rfl, k1, own1⟩
    go_wp2
    go_ret
    have k0 : Kept w ((w.alloc (.cells #[.int .i64 ok, .int .i64 oa, .int .i64 ob, .int .u64 ou] 25)).alloc (.cells #[.int .i64 xe, .int .i64 xn, .int .u64 xv] 28)) := ((Kept.refl w).alloc _ _).alloc _ _
    exact ⟨a1, c1, rfl, k0.trans k1, own_mono own1 k0.size⟩
end Go.Proofs.YtlkadickhhaakaaDoor
