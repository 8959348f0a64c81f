/- Answers in variables: stored, read, told; compared. -/
import Derived.Test.YtlkadickhhaakaaDoorPoPoss
namespace Go.Proofs.YtlkadickhhaakaaDoor
open Go.RowKit
attribute [local go_sem ↓] ld_named st_named lv_named ix_named zv_named

theorem AnBox.put {W : World} {g : Nat} {a : Ann} (h : AnBox W g a) (x : Ann) : AnBox (((W.setCell ⟨g, 0, none⟩ (.int .i64 x.e)).setCell ⟨g, 1, none⟩ (.int .i64 x.n)).setCell ⟨g, 2, none⟩ (.int .u64 x.v)) g x :=
  ⟨by simp [cell_set, h.c0], by simp [cell_set, h.c1], by simp [cell_set, h.c2], fun i => by simp only [World.frozen?_setCell]; exact h.s i⟩
theorem an_var {W : World} {b : Nat} {x : Ann} (h : AnBox W b x) : (loadVar 28 ⟨b, 0, none⟩).run Tryd.prog W = .ok (.agg #[.int .i64 x.e, .int .i64 x.n, .int .u64 x.v]) W := by
  have := run_loadVar_mid (P := Tryd.prog) W b 0 _ (anc x) _ (fun j v hv => by
    rw [Nat.zero_add]
    match j, hv with
    | 0, hv => cases hv; exact h.c0
    | 1, hv => cases hv; exact h.c1
    | 2, hv => cases hv; exact h.c2) Tryd.underlying28 rfl (by
      obtain ⟨i0, hi, _, hz1, _⟩ := info_parts infoA
      rw [hi]; simp [hz1, anc])
  simpa [anc] using this
/-- A function whose results are an answer in a variable, and one more. -/
theorem ans_result {fn : Func} {tmps : Array Value} {n m b : Nat} {w : World} {x : Ann} {v : Value} (hr : fn.results = #[.cell n 28, .tmp m]) (ht : tmps.getD n undef = .pointer (some ⟨b, 0, none⟩)) (hm : tmps.getD m undef = v) (h : AnBox w b x) :
    (results fn tmps).run Tryd.prog w = .ok (.tuple #[.agg #[.int .i64 x.e, .int .i64 x.n, .int .u64 x.v], v]) w := by
  have hv := an_var h
  have ht' : tmps[n]?.getD undef = .pointer (some ⟨b, 0, none⟩) := by simpa using ht
  have hm' : tmps[m]?.getD undef = v := by simpa using hm
  unfold results
  rw [hr]
  simp [ht', hm', asAddr, hv]

/-- A function whose result is an answer in a variable. -/
theorem ans_result1 {fn : Func} {tmps : Array Value} {n b : Nat} {w : World} {x : Ann} (hr : fn.results = #[.cell n 28]) (ht : tmps.getD n undef = .pointer (some ⟨b, 0, none⟩)) (h : AnBox w b x) :
    (results fn tmps).run Tryd.prog w = .ok (.agg #[.int .i64 x.e, .int .i64 x.n, .int .u64 x.v]) w := by
  have hv := an_var h
  have ht' : tmps[n]?.getD undef = .pointer (some ⟨b, 0, none⟩) := by simpa using ht
  unfold results
  rw [hr]
  simp [ht', asAddr, hv]
theorem ann_eql (x y : Ann) : ∀ W, (binOp .eql 28 (.agg #[.int .i64 x.e, .int .i64 x.n, .int .u64 x.v]) (.agg #[.int .i64 y.e, .int .i64 y.n, .int .u64 y.v])).run Tryd.prog W = .ok (.bool (decide (x = y))) W := by
  intro W
  obtain ⟨a, b, c⟩ := x
  obtain ⟨a', b', c'⟩ := y
  by_cases h1 : a = a'
  · subst h1
    by_cases h2 : b = b'
    · subst h2
      by_cases h3 : c = c'
      · subst h3
        go_simp
      · have e1 : (c == c') = false := by simpa using h3
        go_simp
    · have e1 : (b == b') = false := by simpa using h2
      go_simp
  · have e1 : (a == a') = false := by simpa using h1
    go_simp
theorem ann_neq (x y : Ann) : ∀ W, (binOp .neq 28 (.agg #[.int .i64 x.e, .int .i64 x.n, .int .u64 x.v]) (.agg #[.int .i64 y.e, .int .i64 y.n, .int .u64 y.v])).run Tryd.prog W = .ok (.bool (!decide (x = y))) W := by
  intro W
  have h := ann_eql x y W
  obtain ⟨a, b, c⟩ := x
  obtain ⟨a', b', c'⟩ := y
  by_cases h1 : a = a'
  · subst h1
    by_cases h2 : b = b'
    · subst h2
      by_cases h3 : c = c'
      · subst h3
        go_simp
      · have e1 : (c == c') = false := by simpa using h3
        go_simp
    · have e1 : (b == b') = false := by simpa using h2
      go_simp
  · have e1 : (a == a') = false := by simpa using h1
    go_simp

/-- How a list of answers is read. -/
theorem an_one {w : World} {a : Option Addr} {n c : Nat} {s : List Ann} (h : Lay w (.slice a n c) n (flatA s)) (hn : n = s.length) (i : Nat) (x : Ann) (hx : s[i]? = some x) :
    ∃ g o, a = some ⟨g, o, none⟩ ∧ AnAt w g (o + i * 3) x := by
  have := (List.getElem?_eq_some_iff.1 hx).1
  subst hn
  obtain ⟨g, o, c', e, _, _, hc⟩ := h.an (by omega)
  cases e
  exact ⟨g, o, rfl, hc i x hx⟩
theorem AnAt.kept {w w' : World} {g o : Nat} {e : Ann} (h : AnAt w g o e) (k : Kept w w') : AnAt w' g o e := ⟨k.some h.c0, k.some h.c1, k.some h.c2⟩

set_option maxHeartbeats 4000000 in
theorem index_any {w : World} {a : Option Addr} {n c : Nat} {s : List Ann} (h : Lay w (.slice a n c) n (flatA s)) (hn : n = s.length) (x : Ann) :
    Calls Tryd.prog 45 #[.slice a n c, .agg #[.int .i64 x.e, .int .i64 x.n, .int .u64 x.v]] w fun e w' => (∃ r : Int, e = .returned (.int .i64 r) ∧ decide (r ≥ 0) = decide (x ∈ s)) ∧ Kept w w' := by
  obtain ⟨a', c', e, hnc, hcm⟩ := h.form
  cases e
  unfold maxLen at hcm
  have CE := Lib.hid (fun W (k : Kept w W) i y hy => an_one (h.kept k) hn i y hy)
  have HN := Lib.hid hn
  have BX := Lib.hid (show AnBox (w.alloc (.cells #[.int .i64 x.e, .int .i64 x.n, .int .u64 x.v] 28)) w.heap.size x from AnBox.new w x _ _ rfl)
  have K0 := Lib.hid (show Kept w (w.alloc (.cells #[.int .i64 x.e, .int .i64 x.n, .int .u64 x.v] 28)) from (Kept.refl w).alloc _ _)
  clear h hn
  go_enter Tryd.func45, Tryd.ntmps45
  go_wp2
  go_loopw [8] (fun i wr => ∃ k : Nat, k ≤ n ∧ i = .int .i64 k ∧ (∀ j y, j < k → s[j]? = some y → x ≠ y) ∧ AnBox wr w.heap.size x ∧ Kept w wr) (fun i _ => n - (intOf i).toNat)
  case atStart => exact ⟨0, Nat.zero_le _, rfl, fun j y hj => by omega, BX.out, K0.out⟩
  case round =>
    obtain ⟨k, hkn, rfl, hlo, hbx, hk⟩ := hrel
    have LO := Lib.hid hlo
    have KE := Lib.hid hk
    have BE := Lib.hid hbx
    clear hlo hk hbx
    by_cases hlt : k < n
    · obtain ⟨y, hy⟩ : ∃ y, s[k]? = some y := ⟨_, List.getElem?_eq_getElem (by rw [← HN.out]; omega)⟩
      obtain ⟨g, o, rfl, hat⟩ := CE.out _ KE.out k y hy
      obtain ⟨c0, c1, c2⟩ := hat
      obtain ⟨b0, b1, b2, _⟩ := BE.out
      have HY := Lib.hid hy
      clear hy
      have EQ := ann_eql x y
      by_cases hxy : x = y
      · rw [decide_eq_true hxy] at EQ
        have HK := Lib.hid (show decide ((k : Int) ≥ 0) = decide (x ∈ s) by
          rw [decide_eq_true (p := x ∈ s) (List.mem_iff_getElem?.2 ⟨k, by rw [hxy]; exact HY.out⟩)]
          simp)
        clear hxy
        go_wp2
        go_quiet (fail)
        go_wp2
        go_ret
        exact ⟨⟨_, rfl, HK.out⟩, KE.out.drewN _⟩
      · rw [decide_eq_false hxy] at EQ
        have HXY := Lib.hid hxy
        clear hxy
        go_wp2
        go_quiet (fail)
        go_wp2
        go_roundw
        case rel => exact ⟨k + 1, by omega, by go_num, fun j z hj hz => by
          by_cases e : j = k
          · subst e; have h1 := HY.out; rw [hz] at h1; cases h1; exact HXY.out
          · exact LO.out j z (by omega) hz, BE.out.kept ((Kept.refl _).drewN _), KE.out.drewN _⟩
        case measure => simp [intOf]; omega
    · have HK := Lib.hid (show decide ((-1 : Int) ≥ 0) = decide (x ∈ s) by
        rw [decide_eq_false (p := x ∈ s) (fun hx => by
          obtain ⟨j, hj⟩ := List.mem_iff_getElem?.1 hx
          have h1 := (List.getElem?_eq_some_iff.1 hj).1
          exact LO.out j x (by have := HN.out; omega) hj rfl)]
        rfl)
      go_wp2
      go_ret
      exact ⟨⟨_, rfl, HK.out⟩, KE.out⟩

set_option maxHeartbeats 1000000 in
theorem has_ans {w : World} {a : Option Addr} {n c : Nat} {s : List Ann} (h : Lay w (.slice a n c) n (flatA s)) (hn : n = s.length) (x : Ann) :
    Calls Tryd.prog 34 #[.slice a n c, .agg #[.int .i64 x.e, .int .i64 x.n, .int .u64 x.v]] w fun e w' => e = .returned (.bool (decide (x ∈ s))) ∧ Kept w w' := by
  have IX := Lib.hid (fun W (k : Kept w W) => index_any (h.kept k) hn x)
  have BX := AnBox.new w x 28 w.heap.size rfl
  obtain ⟨b0, b1, b2, _⟩ := BX
  clear h hn
  go_enter Tryd.func34, Tryd.ntmps34
  go_wp2_with fail; refine (IX.out _ ((Kept.refl w).alloc _ _)).mono ?_; rintro e w1 ⟨⟨r, rfl, hr⟩, k1⟩
  have HR := Lib.hid hr
  clear hr
  go_wp2
  go_ret
  exact ⟨ret_bool HR.out, ((Kept.refl w).alloc _ _).trans k1⟩
end Go.Proofs.YtlkadickhhaakaaDoor
