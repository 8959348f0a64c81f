/- The document's answers: Next, Rest, Play. -/
import Derived.Test.YtlkadickhhaakaaDoorPoRefA
namespace Go.Proofs.YtlkadickhhaakaaDoor
open Go.RowKit
attribute [local go_sem ↓] app_named

set_option maxRecDepth 100000 in
set_option maxHeartbeats 8000000 in
theorem refNext_S {w : World} {a : Option Addr} {n c : Nat} {s : List Int} (h : Lay w (.slice a n c) n (ints s)) (hn : n = s.length) (o : Opn) (x : Ann) :
    Calls Tryd.prog 11 #[.slice a n c, .agg #[.int .i64 o.k, .int .i64 o.a, .int .i64 o.b, .int .u64 o.u], .agg #[.int .i64 x.e, .int .i64 x.n, .int .u64 x.v]] w (RetN w (nextL s o x) (decide (x ∈ allS s o))) := by
  have K0 := Lib.hid (show Kept w ((w.alloc (.cells #[.int .i64 o.k, .int .i64 o.a, .int .i64 o.b, .int .u64 o.u] 25)).alloc (.cells #[.int .i64 x.e, .int .i64 x.n, .int .u64 x.v] 28)) from ((Kept.refl w).alloc _ _).alloc _ _)
  have BO := Lib.hid (show OpBox ((w.alloc (.cells #[.int .i64 o.k, .int .i64 o.a, .int .i64 o.b, .int .u64 o.u] 25)).alloc (.cells #[.int .i64 x.e, .int .i64 x.n, .int .u64 x.v] 28)) w.heap.size o from (OpBox.new w o 25 w.heap.size rfl).kept ((Kept.refl _).alloc _ _))
  have BA := Lib.hid (show AnBox ((w.alloc (.cells #[.int .i64 o.k, .int .i64 o.a, .int .i64 o.b, .int .u64 o.u] 25)).alloc (.cells #[.int .i64 x.e, .int .i64 x.n, .int .u64 x.v] 28)) (w.heap.size + 1) x from AnBox.new _ x 28 _ (by simp))
  have AL := Lib.hid (fun W (k : Kept w W) => refAll_S (h.kept k) hn o)
  have BH := Lib.hid (fun W (k : Kept w W) (hc : chk s = 0) => behind_any (h.kept k) hn hc o x)
  have HCK := Lib.hid (show x ∈ allS s o → chk s = 0 from fun hx => by
    by_cases hc : chk s = 0
    · exact hc
    · simp [allS, hc] at hx)
  obtain ⟨L, hL⟩ : ∃ L, L = allS s o := ⟨_, rfl⟩
  have HL := Lib.hid hL
  rw [← hL] at AL ⊢
  have HLL := Lib.hid (show L.length ≤ 1026 by
    rw [hL]
    unfold allS
    split
    · unfold outs
      split
      · rw [List.length_append, List.length_map]; have := memI_len (setOf s); simp; omega
      · split <;> simp
    · simp)
  clear h hn hL
  go_enter Tryd.func11, Tryd.ntmps11
  go_wp2_with fail; refine (AL.out _ K0.out).mono ?_; rintro e w1 ⟨a1, c1, rfl, k1, own1⟩
  obtain ⟨b0, b1, b2, b3⟩ := BO.out.kept k1
  have BA1 := Lib.hid (BA.out.kept k1)
  have BO1 := Lib.hid (BO.out.kept k1)
  have K1 := Lib.hid (K0.out.trans k1)
  obtain ⟨n1, hn1⟩ : ∃ n1, n1 = L.length := ⟨_, rfl⟩
  have lay1 : Lay w1 (.slice a1 n1 c1) n1 (flatA L) := by rw [hn1]; exact (own_lies own1).lay
  rw [← hn1]
  have HN1 := Lib.hid hn1
  have hn1' : n1 ≤ 1026 := by rw [hn1]; exact HLL.out
  have LY := Lib.hid (show ∀ W (k : Kept w1 W) i y, L[i]? = some y → ∃ g o, a1 = some ⟨g, o, none⟩ ∧ AnAt W g (o + i * 3) y from fun W k i y hy => an_one (lay1.kept k) hn1 i y hy)
  clear k1 own1 lay1 hn1 b0 b1 b2 b3
  go_wp2
  go_loopw [9] (fun i wr => ∃ k : Nat, k ≤ n1 ∧ i = .int .i64 k ∧ (∀ j y, j < k → L[j]? = some y → y ≠ x) ∧ Kept w1 wr) (fun i _ => n1 - (intOf i).toNat)
  case atStart => exact ⟨0, Nat.zero_le _, rfl, fun j y hj => by omega, Kept.refl _⟩
  case round =>
    obtain ⟨k, hkn, rfl, hlo, hk⟩ := hrel
    have LO := Lib.hid hlo
    have KE := Lib.hid hk
    clear hlo hk
    by_cases hlt : k < n1
    · obtain ⟨y, hy⟩ : ∃ y, L[k]? = some y := ⟨_, List.getElem?_eq_getElem (by rw [← HN1.out]; omega)⟩
      obtain ⟨g, oo, rfl, y0, y1, y2⟩ := LY.out _ KE.out k y hy
      obtain ⟨x0, x1, x2, _⟩ := BA1.out.kept KE.out
      have HY := Lib.hid hy
      have EQ := ann_eql y x
      clear hy
      by_cases hxy : y = x
      · have hmem : x ∈ L := List.mem_iff_getElem?.2 ⟨k, by rw [← hxy]; exact HY.out⟩
        have HC := Lib.hid (HCK.out (by rw [← HL.out]; exact hmem))
        have HD := Lib.hid (show true = decide (x ∈ L) by rw [decide_eq_true hmem])
        have HNX := Lib.hid (show memI (aft (setOf s) o x) = nextL s o x by unfold nextL; rw [← HL.out, if_pos hmem])
        rw [decide_eq_true hxy] at EQ
        obtain ⟨b0, b1, b2, b3⟩ := BO1.out.kept KE.out
        clear hxy hmem
        go_wp2
        go_quiet (fail)
        go_wp2_with fail; refine (BH.out _ (K1.out.trans (KE.out.drewN _)) HC.out).mono ?_; rintro e w3 ⟨a3, c3, rfl, k3, own3⟩
        go_wp2
        exact bodyPost_ret (v := .tuple #[.slice a3 (memI (aft (setOf s) o x)).length c3, .bool true]) (by simp [results, Tryd.results11, go_sem]) rfl (by
          rw [← HD.out, ← HNX.out]
          have kk := K1.out.trans (KE.out.drewN nq)
          exact ⟨a3, c3, rfl, kk.trans k3, own_mono own3 kk.size⟩)
      · have HXY := Lib.hid hxy
        rw [decide_eq_false hxy] at EQ
        clear hxy
        go_wp2
        go_quiet (fail)
        go_wp2
        go_roundw
        case rel => exact ⟨k + 1, by omega, by go_num, fun j z hj hz => by
          by_cases e : j = k
          · subst e; have h1 := HY.out; rw [hz] at h1; cases h1; exact HXY.out
          · exact LO.out j z (by omega) hz, KE.out.drewN _⟩
        case measure => simp [intOf]; omega
    · have HM := Lib.hid (show x ∉ L from fun hx => by
        obtain ⟨j, hj⟩ := List.mem_iff_getElem?.1 hx
        have h1 := (List.getElem?_eq_some_iff.1 hj).1
        exact LO.out j x (by have := HN1.out; omega) hj rfl)
      have HD := Lib.hid (show false = decide (x ∈ L) by rw [decide_eq_false HM.out])
      have HNX := Lib.hid (show ([] : List Int) = nextL s o x by unfold nextL; rw [← HL.out, if_neg HM.out])
      go_wp2
      exact bodyPost_ret (v := .tuple #[.slice none 0 0, .bool false]) (by simp [results, Tryd.results11, go_sem]) rfl (by
        rw [← HD.out, ← HNX.out]
        exact ⟨none, 0, rfl, K1.out.trans KE.out, World.ownsRow_nil _ _ _ _⟩)

/-! ### Rest -/
theorem infoB : (Tryd.prog.info? 4).map (fun i => (i.zero, i.size, i.bytes)) = some (some (.bool false), 1, 1) := by kernel_rfl
theorem make_boolsN (n : Nat) (hn : n ≤ 100000) : ∃ Z : Array Value, (∀ i, i < n → Z[i]? = some (.bool false)) ∧
    ∀ w : World, (Instr.makeSlice 65 (.int .i64 (n : Int)) (.int .i64 (n : Int))).run Tryd.prog w = .ok (.slice (some ⟨w.heap.size, 0, none⟩) n n) (w.alloc (.cells Z 4)) := by
  obtain ⟨i0, hi, hz0, hz1, hz2⟩ := info_parts infoB
  refine ⟨madeCells #[.bool false] n, fun i h => ?_, fun w => ?_⟩
  · have e : (madeCells #[.bool false] n)[i]? = (madeCells #[.bool false] n).toList[i]? := by simp
    rw [e, toList_madeCells_one]
    simp [h]
  · have h := run_makeSlice (P := Tryd.prog) w 65 4 i0 (.bool false) Tryd.underlying65 hi hz0 .i64 .i64 (n : Int) (n : Int) (by omega) (Int.le_refl _) (by rw [hz1]; omega) (by rw [hz2]; omega) (by omega)
    rw [h, hz1]
    simp [Value.cells]
theorem make_bools : ∃ Z : Array Value, (∀ i, i < 1024 → Z[i]? = some (.bool false)) ∧
    ∀ w : World, (Instr.makeSlice 65 (.int .i64 1024) (.int .i64 1024)).run Tryd.prog w = .ok (.slice (some ⟨w.heap.size, 0, none⟩) 1024 1024) (w.alloc (.cells Z 4)) := make_boolsN 1024 (by decide)
/-- The table: which of the first k are there. -/
structure TabB (w : World) (g : Nat) (f : Nat → Bool) : Prop where
  cell : ∀ i, i < 1024 → w.cell? ⟨g, i, none⟩ = some (.bool (f i))
  soft : ∀ i, w.frozen? ⟨g, i, none⟩ = false
theorem TabB.lt {w : World} {g : Nat} {f : Nat → Bool} (h : TabB w g f) : g < w.heap.size := lt_of_cell (h.cell 0 (by decide))
theorem TabB.kept {w w' : World} {g : Nat} {f : Nat → Bool} (h : TabB w g f) (k : Kept w w') : TabB w' g f := ⟨fun i hi => k.some (h.cell i hi), fun i => k.soft h.lt (h.soft i)⟩
theorem TabB.set {w : World} {g : Nat} {f f' : Nat → Bool} (h : TabB w g f) (i : Nat) (hf : ∀ j, j < 1024 → f' j = if j = i then true else f j) : TabB (w.setCell ⟨g, i, none⟩ (.bool true)) g f' := by
  refine ⟨fun j hj => ?_, fun j => by rw [World.frozen?_setCell]; exact h.soft j⟩
  rw [cell_set, h.cell j hj, hf j hj]
  by_cases e : i = j
  · subst e; simp
  · rw [if_neg e, if_neg (fun h => e h.symm)]
theorem setOf_no {s : List Int} {k : Nat} {x : Int} (h : s[k]? = some x) (hx : noIdx x = true) (j : Nat) (hj : j < 1024) : setOf (s.take (k + 1)) j = setOf (s.take k) j := by
  have hne : (j : Int) ≠ x := fun e' => by
    have := noIdx_iff.2 ⟨j, hj, e'.symm⟩
    rw [this] at hx; cases hx
  unfold setOf
  rw [take_snoc s k x h]
  simp [hne]
set_option maxRecDepth 100000 in
theorem rest_mem (s : List Int) (N : Nat) (hN : N ≤ 1024) : cast (memTo (fun i => !setOf s i) N) = memI (restM s N) := by
  unfold memI mem
  have h1 := memTo_skip (restM s N) N (1024 - N) (fun t _ => by
    have : ¬ (N + t < N) := by omega
    simp [restM, this])
  rw [show N + (1024 - N) = 1024 by omega] at h1
  rw [h1]
  congr 1
  exact memTo_congr (fun i hi => by simp [restM, setOf, hi])

set_option maxRecDepth 100000 in
set_option maxHeartbeats 8000000 in
theorem refRest_S {w : World} {a : Option Addr} {n c : Nat} {s : List Int} (h : Lay w (.slice a n c) n (ints s)) (hn : n = s.length) (z : Int) :
    Calls Tryd.prog 15 #[.slice a n c, .int .i64 z] w (RetI w (memI (restM s (restN z)))) := by
  obtain ⟨a', c', e, hnc, hcm⟩ := h.form
  cases e
  unfold maxLen at hcm
  obtain ⟨Z, hZ, hmake⟩ := make_bools
  obtain ⟨N, hNN⟩ : ∃ N, N = restN z := ⟨_, rfl⟩
  rw [← hNN]
  have HZN := Lib.hid (show N ≤ 1024 ∧ ∀ k : Nat, k ≤ N → (k < N ↔ ((k : Int) < z ∧ k < 1024)) by
    rw [hNN]; unfold restN
    refine ⟨by omega, fun k hk => by omega⟩)
  have CE := Lib.hid (fun W (k : Kept w W) i x hx => lay_one (h.kept k) hn i x hx)
  have HN := Lib.hid hn
  have T0 := Lib.hid (show TabB (w.alloc (.cells Z 4)) w.heap.size (setOf (s.take 0)) from ⟨fun i hi => by rw [cell_new _ _ _ _ _ rfl, hZ i hi]; simp [setOf], fun i => by rw [frozen?_alloc_cells]; simp [World.frozen?]⟩)
  have K0 := Lib.hid (show Kept w (w.alloc (.cells Z 4)) from (Kept.refl w).alloc _ _)
  clear h hn hZ hNN
  go_enter Tryd.func15, Tryd.ntmps15
  go_wp2
  go_loopw [6] (fun i wr => ∃ k : Nat, k ≤ n ∧ i = .int .i64 k ∧ TabB wr w.heap.size (setOf (s.take k)) ∧ Kept w wr) (fun i _ => n - (intOf i).toNat)
  case atStart => exact ⟨0, Nat.zero_le _, rfl, T0.out, K0.out⟩
  case round =>
    obtain ⟨k, hkn, rfl, ht, hk⟩ := hrel
    have TB := Lib.hid ht
    have KE := Lib.hid hk
    clear ht hk
    by_cases hlt : k < n
    · obtain ⟨x, hx⟩ : ∃ x, s[k]? = some x := ⟨_, List.getElem?_eq_getElem (by rw [← HN.out]; omega)⟩
      obtain ⟨g, o, rfl, c0⟩ := CE.out _ KE.out k x hx
      have HX := Lib.hid hx
      have GE := Lib.hid (fun W => index_S x W)
      clear hx
      cases hq : noIdx x with
      | true =>
        have HQ := Lib.hid hq
        rw [hq] at GE
        clear hq
        go_wp2_with fail; refine (GE.out _).mono ?_; rintro e v1 ⟨rfl, rfl⟩
        go_wp2
        go_roundw
        case rel => exact ⟨k + 1, by omega, by go_num, ⟨fun i hi => by rw [setOf_no HX.out HQ.out i hi]; exact TB.out.cell i hi, TB.out.soft⟩, KE.out⟩
        case measure => simp [intOf]; omega
      | false =>
        obtain ⟨i, hi, e⟩ := noIdx_iff.1 hq
        rw [hq] at GE
        subst e
        have t0 := TB.out.cell i hi
        have t1 := TB.out.soft i
        have hi' : (i : Int) < 1024 := by omega
        clear hq
        go_wp2_with fail; refine (GE.out _).mono ?_; rintro e v1 ⟨rfl, rfl⟩
        go_wp2
        go_roundw
        case rel => exact ⟨k + 1, by omega, by go_num, TB.out.set i (fun j hj => by
          rw [← setOf_take HX.out j]
          unfold upd
          by_cases e : j = i
          · subst e; simp
          · rw [if_neg e, if_neg (by omega)]), KE.out.setCell (p := ⟨w.heap.size, i, none⟩) (Nat.le_refl _) _⟩
        case measure => simp [intOf]; omega
    · obtain rfl : k = n := by omega
      have hall : s.take k = s := by rw [HN.out]; exact List.take_length
      have TB2 := Lib.hid (show TabB wr w.heap.size (setOf s) by have := TB.out; rw [hall] at this; exact this)
      have hgl := TB.out.lt
      obtain ⟨wo, rfl⟩ : ∃ wo : World, wo = wr := ⟨_, rfl⟩
      clear hall TB
      go_wp2
      clear hlt
      go_loopw [8, 7] (fun i v wr => ∃ (k m : Nat) (a' : Option Addr) (c' : Nat), k ≤ N ∧ i = .int .i64 k ∧ v = .slice a' m c' ∧ m = (cast (memTo (fun i => !setOf s i) k)).length ∧ wr.ownsRow wo.heap.size 3 1 (.slice a' m c') (cast (memTo (fun i => !setOf s i) k)).length (ints (cast (memTo (fun i => !setOf s i) k))) ∧ Kept wo wr) (fun i _ _ => N - (intOf i).toNat)
      case atStart => exact ⟨0, 0, none, 0, Nat.zero_le _, rfl, rfl, rfl, World.ownsRow_nil _ _ _ _, Kept.refl _⟩
      case round =>
        obtain ⟨k, m, a', c', hkn, rfl, rfl, hm, hown, hk⟩ := hrel
        have hsz := hk.size
        obtain ⟨hN, hd⟩ := HZN.out
        have hd := hd k hkn
        by_cases hlt : k < N
        · obtain ⟨i1, i2⟩ := hd.1 hlt
          have i3 : (k : Int) < 1024 := by omega
          have t0 := (TB2.out.kept hk).cell k (by omega)
          have hle := castTo_len (fun i => !setOf s i) k
          cases hS : setOf s k with
          | true =>
            rw [hS] at t0
            have HY := Lib.hid (memTo_no (M := fun i => !setOf s i) (k := k) (by simp [hS]))
            have OW := Lib.hid hown
            have HM := Lib.hid hm
            have KE2 := Lib.hid hk
            clear hown hm hS hd hN hk
            go_wp2
            go_roundw
            case rel => exact ⟨k + 1, _, _, _, by omega, by go_num, rfl, by rw [HY.out]; exact HM.out, by rw [HY.out]; exact OW.out, KE2.out⟩
            case measure => simp [intOf]; omega
          | false =>
            rw [hS] at t0
            have HY := Lib.hid (memTo_yes (M := fun i => !setOf s i) (k := k) (by simp [hS]))
            obtain ⟨a1, c1, w2, hr, own1, but1⟩ := int_append (L := cast (memTo (fun i => !setOf s i) k)) hown hsz (by omega) k m hm
            have KE2 := Lib.hid (show Kept wo w2 from hk.wrote but1 (fun j hj => (hown.lt j hj).1))
            have OW := Lib.hid (show w2.ownsRow wo.heap.size 3 1 (.slice a1 (m + 1) c1) (cast (memTo (fun i => !setOf s i) (k + 1))).length (ints (cast (memTo (fun i => !setOf s i) (k + 1)))) by
              rw [HY.out, List.length_append, ← hm]; exact own1)
            have HM := Lib.hid hm
            clear hown hm hS hd hN own1 but1 hk
            go_wp2
            go_roundw
            case rel => exact ⟨k + 1, _, _, _, by omega, by go_num, rfl, by rw [HY.out, List.length_append, ← HM.out]; rfl, OW.out, KE2.out⟩
            case measure => simp [intOf]; omega
        · obtain rfl : k = N := by omega
          have RT := Lib.hid (show RetI w (memI (restM s k)) (.returned (.slice a' m c')) wr by
            rw [← rest_mem s k hN]
            exact ⟨a', c', by rw [hm], KE.out.trans hk, own_mono (by rw [hm] at hown; exact hown) KE.out.size⟩)
          have hno : ¬ ((k : Int) < z ∧ k < 1024) := fun hh => hlt (hd.2 hh)
          clear hown hm hd hk hlt
          by_cases hz : (k : Int) < z
          · have i3 : decide ((k : Int) < 1024) = false := by simp; omega
            clear hno hN
            go_wp2
            go_ret
            exact RT.out
          · clear hno hN
            go_wp2
            go_ret
            exact RT.out
end Go.Proofs.YtlkadickhhaakaaDoor
