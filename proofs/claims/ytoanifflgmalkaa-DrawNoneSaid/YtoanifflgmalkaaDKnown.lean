/- The chapter's examples: awake and DrawKnown; and DrawNone. -/
import Derived.Test.YtoanifflgmalkaaMakes
import Derived.Test.YtoanifflgmalkaaHts
namespace Go.Proofs.Ytoanifflgmalkaa
open Go.RowKit

/-! ### The contracts once more, with their values named -/
section
variable {w : World} {D S : Nat} {a : Option Addr} {len cap t : Nat} {f : Nat → Int}
/-- What was written lies behind the first world. -/
theorem Kept.fresh {u v x : World} {S : Nat} (h : Kept u v) (k : But (fun k => k = S) v x) (hS : u.heap.size ≤ S) : Kept u x :=
  ((h.but (fun k => k = S)).trans k (fun _ _ h => h)).kept (fun k hk e => by omega)
theorem next_at (h : Held w D S a len cap t f) (v : Int) (t' : Nat) (hv : f t = v) (ht : t + min 1 (len - t) = t') :
    Calls Try.prog 15 #[.pointer (some ⟨D, 0, none⟩)] w fun e w' => e = .returned (.int .i64 v) ∧ But (fun k => k = S) w w' ∧ Held w' D S a len cap t' f := by
  subst hv; subst ht; exact next_held h
theorem skip_at (h : Held w D S a len cap t f) (m : Int) (c : Int) (t' : Nat) (hc : ((min m.toNat (len - t) : Nat) : Int) = c) (ht : t + min m.toNat (len - t) = t') :
    Calls Try.prog 19 #[.pointer (some ⟨D, 0, none⟩), .int .i64 m] w fun e w' => e = .returned (.int .i64 c) ∧ But (fun k => k = S) w w' ∧ Held w' D S a len cap t' f := by
  subst hc; subst ht; exact skip_held h m
theorem left_at (h : Held w D S a len cap t f) (v : Int) (hv : (len : Int) - t = v) :
    Calls Try.prog 22 #[.pointer (some ⟨D, 0, none⟩)] w fun e w' => e = .returned (.int .i64 v) ∧ Kept w w' := by
  subst hv; exact left_held h
theorem drawHeight_at (h : Held w D S a len cap t f) (m v : Int) (t' : Nat) (h3 : -9223372036854775808 ≤ m) (h4 : m ≤ 9223372036854775807) (hv : hgt (f t) m = v) (ht : t + min 1 (len - t) = t') :
    Calls Try.prog 17 #[.pointer (some ⟨D, 0, none⟩), .int .i64 m] w fun e w' => e = .returned (.int .i64 v) ∧ But (fun k => k = S) w w' ∧ Held w' D S a len cap t' f := by
  subst hv; subst ht; exact drawHeight_held h m h3 h4
theorem height_at (n m v : Int) (h1 : -9223372036854775808 ≤ n) (h2 : n ≤ 9223372036854775807) (h3 : -9223372036854775808 ≤ m) (h4 : m ≤ 9223372036854775807) (hv : hgt n m = v) (w : World) :
    Calls Try.prog 26 #[.int .i64 n, .int .i64 m] w fun e w' => e = .returned (.int .i64 v) ∧ w = w' := by
  subst hv; exact height_any n m h1 h2 h3 h4 w
end

/-- The numbers of a literal. -/
def lit (l : List Int) (i : Nat) : Int := l.getD i 0
theorem lit_nums (l : List Int) (h : ∀ x ∈ l, -9223372036854775808 ≤ x ∧ x ≤ 9223372036854775807) : Nums (lit l) l.length := by
  have hx : ∀ i, lit l i = 0 ∨ lit l i ∈ l := fun i => by
    by_cases hi : i < l.length
    · exact .inr (getD_mem l i hi)
    · exact .inl (by simp [lit, List.getElem?_eq_none (by omega : l.length ≤ i)])
  exact ⟨fun i => by rcases hx i with e | e; omega; exact (h _ e).1, fun i => by rcases hx i with e | e; omega; exact (h _ e).2, fun i hi => by simp [lit, List.getElem?_eq_none hi]⟩
theorem lit_row (w : World) (l : List Int) (T : TypeId) (h : ∀ x ∈ l, -9223372036854775808 ≤ x ∧ x ≤ 9223372036854775807) (hl : l.length ≤ 1000000) :
    Row (w.alloc (.cells (l.map (Value.int .i64)).toArray T)) (some ⟨w.heap.size, 0, none⟩) l.length l.length (lit l) :=
  ⟨lit_nums l h, Nat.le_refl _, by unfold maxLen; omega, .inr (.inr ⟨_, 0, rfl, by simp, fun i hi => by
    rw [cell_new _ _ _ _ _ rfl]
    simp [lit, hi]⟩)⟩

set_option maxHeartbeats 4000000 in
theorem awake_any (w : World) : Calls Try.prog 9 #[] w fun e w' => e = .returned (.bool true) ∧ Kept w w' := by
  have HR := Lib.hid (lit_row w [3, 8, 1] 3 (by decide) (by decide))
  have k0 : Kept w (w.alloc (.cells #[.int .i64 3, .int .i64 8, .int .i64 1] 3)) := (Kept.refl w).alloc _ _
  have K0 := Lib.hid k0
  clear k0
  go_enter Try.func9, Try.ntmps9
  go_wp2_with fail; refine (new_held HR.out (by decide)).mono ?_; rintro e w1 ⟨D, S, a', C, rfl, hS, k1, h1⟩
  have hS : w.heap.size ≤ S := by simp at hS; omega
  have H1 := Lib.hid h1
  have K1 := Lib.hid (K0.out.trans k1)
  have HS := Lib.hid hS
  clear h1 k1 hS
  go_wp2_with fail; refine (left_at H1.out 3 (by decide)).mono ?_; rintro e w2 ⟨rfl, k2⟩
  have H2 := Lib.hid (H1.out.kept k2)
  have K2 := Lib.hid (K1.out.trans k2)
  clear k2
  go_wp2_with fail; refine (next_at H2.out 3 1 (by decide) (by decide)).mono ?_; rintro e w3 ⟨rfl, k3, h3⟩
  have H3 := Lib.hid h3
  have K3 := Lib.hid (K2.out.fresh k3 HS.out)
  clear h3 k3
  go_wp2_with fail; refine (drawHeight_at H3.out 4 1 2 (by decide) (by decide) (by decide +kernel) (by decide)).mono ?_; rintro e w4 ⟨rfl, k4, h4⟩
  have H4 := Lib.hid h4
  have K4 := Lib.hid (K3.out.fresh k4 HS.out)
  clear h4 k4
  go_wp2_with fail; refine (left_at H4.out 1 (by decide)).mono ?_; rintro e w5 ⟨rfl, k5⟩
  have H5 := Lib.hid (H4.out.kept k5)
  have K5 := Lib.hid (K4.out.trans k5)
  clear k5
  go_wp2_with fail; refine (next_at H5.out 1 3 (by decide) (by decide)).mono ?_; rintro e w6 ⟨rfl, k6, h6⟩
  have H6 := Lib.hid h6
  have K6 := Lib.hid (K5.out.fresh k6 HS.out)
  clear h6 k6
  go_wp2_with fail; refine (next_at H6.out 0 3 (by decide) (by decide)).mono ?_; rintro e w7 ⟨rfl, k7, h7⟩
  have H7 := Lib.hid h7
  have K7 := Lib.hid (K6.out.fresh k7 HS.out)
  clear h7 k7
  go_wp2_with fail; refine (height_at 3 4 3 (by decide) (by decide) (by decide) (by decide) (by decide +kernel) _).mono ?_; rintro e w8 ⟨rfl, rfl⟩
  go_wp2
  go_ret
  exact ⟨rfl, K7.out⟩
set_option maxHeartbeats 4000000 in
theorem known_any (w : World) : Calls Try.prog 6 #[] w fun e w' => e = .returned (.bool true) ∧ Kept w w' := by
  obtain ⟨Z, _, hmk⟩ := make_ints 4097 (by decide)
  have hmake : ∀ w : World, (Instr.makeSlice 22 (.int .i64 4097) (.int .i64 4097)).run Try.prog w = .ok (.slice (some ⟨w.heap.size, 0, none⟩) 4097 4097) (w.alloc (.cells Z 3)) := hmk
  clear hmk
  have HR := Lib.hid (lit_row w [1, 2, 3, 4] 3 (by decide) (by decide))
  have k0 : Kept w (w.alloc (.cells #[.int .i64 1, .int .i64 2, .int .i64 3, .int .i64 4] 3)) := (Kept.refl w).alloc _ _
  have K0 := Lib.hid k0
  clear k0
  go_enter Try.func6, Try.ntmps6
  go_wp2_with fail; refine (height_at (0) 4 1 (by decide) (by decide) (by decide) (by decide) (by decide +kernel) _).mono ?_; rintro e h0 ⟨rfl, rfl⟩
  go_wp2_with fail; refine (height_at (1) 4 2 (by decide) (by decide) (by decide) (by decide) (by decide +kernel) _).mono ?_; rintro e h1 ⟨rfl, rfl⟩
  go_wp2_with fail; refine (height_at (5) 4 2 (by decide) (by decide) (by decide) (by decide) (by decide +kernel) _).mono ?_; rintro e h2 ⟨rfl, rfl⟩
  go_wp2_with fail; refine (height_at (-1) 4 4 (by decide) (by decide) (by decide) (by decide) (by decide +kernel) _).mono ?_; rintro e h3 ⟨rfl, rfl⟩
  go_wp2_with fail; refine (height_at (7) 2 2 (by decide) (by decide) (by decide) (by decide) (by decide +kernel) _).mono ?_; rintro e h4 ⟨rfl, rfl⟩
  go_wp2_with fail; refine (height_at (7) 0 1 (by decide) (by decide) (by decide) (by decide) (by decide +kernel) _).mono ?_; rintro e h5 ⟨rfl, rfl⟩
  go_wp2_with fail; refine (new_held HR.out (by decide)).mono ?_; rintro e w1 ⟨D, S, a', C, rfl, hS, k1, h1⟩
  have hS : w.heap.size ≤ S := by simp at hS; omega
  have H1 := Lib.hid h1
  have K1 := Lib.hid (K0.out.trans k1)
  have HS := Lib.hid hS
  clear h1 k1 hS
  go_wp2_with fail; refine (new_long (by decide)).mono ?_; rintro e w2 ⟨rfl, rfl⟩
  have H2 := Lib.hid (H1.out.kept ((Kept.refl _).alloc Z 3))
  have K2 := Lib.hid (K1.out.alloc Z 3)
  go_wp2_with fail; refine (skip_at H2.out 2 2 2 (by decide) (by decide)).mono ?_; rintro e w3 ⟨rfl, k3, h3⟩
  have H3 := Lib.hid h3
  have K3 := Lib.hid (K2.out.fresh k3 HS.out)
  clear h3 k3
  go_wp2_with fail; refine (next_at H3.out 3 3 (by decide) (by decide)).mono ?_; rintro e w4 ⟨rfl, k4, h4⟩
  have H4 := Lib.hid h4
  have K4 := Lib.hid (K3.out.fresh k4 HS.out)
  clear h4 k4
  go_wp2_with fail; refine (skip_at H4.out 9 1 4 (by decide) (by decide)).mono ?_; rintro e w5 ⟨rfl, k5, h5⟩
  have H5 := Lib.hid h5
  have K5 := Lib.hid (K4.out.fresh k5 HS.out)
  clear h5 k5
  go_wp2_with fail; refine (skip_at H5.out (-1) 0 4 (by decide) (by decide)).mono ?_; rintro e w6 ⟨rfl, k6, h6⟩
  have H6 := Lib.hid h6
  have K6 := Lib.hid (K5.out.fresh k6 HS.out)
  clear h6 k6
  go_wp2_with fail; refine (next_at H6.out 0 4 (by decide) (by decide)).mono ?_; rintro e w7 ⟨rfl, k7, h7⟩
  have H7 := Lib.hid h7
  have K7 := Lib.hid (K6.out.fresh k7 HS.out)
  clear h7 k7
  go_wp2_with fail; refine (awake_any _).mono ?_; rintro e w8 ⟨rfl, k8⟩
  have K8 := Lib.hid (K7.out.trans k8)
  clear k8
  go_wp2_with fail; refine (heights_any (lit_row w8 [0, 1, 3] 3 (by decide) (by decide)) (by decide) 2 (by decide) (by decide)).mono ?_; rintro e w9 ⟨b, rfl, k9, h9⟩
  have K9 := Lib.hid ((K8.out.alloc _ _).trans k9)
  have H9 := Lib.hid h9.reads
  clear k9 h9
  have hr : Reads (w9.alloc (.cells #[.int .i64 1, .int .i64 2, .int .i64 2] 3)) (some ⟨w9.heap.size, 0, none⟩) 3 (hts (lit [0, 1, 3]) 2 3) := by
    refine .inr ⟨_, 0, rfl, fun i hi => ?_⟩
    rw [cell_new _ _ _ _ _ rfl]
    have h3 : i = 0 ∨ i = 1 ∨ i = 2 := by omega
    have e0 : hts (lit [0, 1, 3]) 2 3 0 = 1 := by decide +kernel
    have e1 : hts (lit [0, 1, 3]) 2 3 1 = 2 := by decide +kernel
    have e2 : hts (lit [0, 1, 3]) 2 3 2 = 2 := by decide +kernel
    rcases h3 with rfl | rfl | rfl
    · rw [e0]; rfl
    · rw [e1]; rfl
    · rw [e2]; rfl
  have HQ := Lib.hid hr
  clear hr
  go_wp2_with fail; refine (sameInts_yes _ _ 3 3 3 _ _ (by decide) (H9.out.kept ((Kept.refl _).alloc _ _)) HQ.out).mono ?_; rintro e w10 ⟨rfl, k10⟩
  go_wp2
  go_ret
  exact ⟨rfl, (K9.out.alloc _ _).trans k10⟩

set_option maxHeartbeats 4000000 in
theorem range_any (n most more : Int) (h0 : -9223372036854775808 ≤ n) (h1 : n ≤ 9223372036854775807) (h2 : -9223372036854775808 ≤ most) (h3 : most ≤ 9223372036854775807) (h4 : -9223372036854775808 ≤ more) (h5 : more ≤ 9223372036854775807) (w : World) :
    Calls Try.prog 7 #[.int .i64 n, .int .i64 most, .int .i64 more] w fun e w' => e = .returned (.bool true) ∧ Kept w w' := by
  have g := ones_le n
  go_enter Try.func7, Try.ntmps7
  go_wp2_with fail; refine (known_any _).mono ?_; rintro e w1 ⟨rfl, k1⟩
  have K1 := Lib.hid k1
  clear k1
  go_wp2_with fail; refine (height_any n most h0 h1 h2 h3 _).mono ?_; rintro e w2 ⟨rfl, rfl⟩
  go_wp2_with fail; refine (height_any n more h0 h1 h4 h5 _).mono ?_; rintro e w3 ⟨rfl, rfl⟩
  obtain ⟨x, hx⟩ : ∃ x, x = hgt n most := ⟨_, rfl⟩
  obtain ⟨y, hy⟩ : ∃ y, y = hgt n more := ⟨_, rfl⟩
  obtain ⟨z, hz⟩ : ∃ z, z = hgt n 65 := ⟨_, rfl⟩
  rw [← hx, ← hy]
  have q1 : 1 ≤ x := by rw [hx]; unfold hgt; omega
  have q2 : x ≤ 1 ∨ x ≤ most := by rw [hx]; unfold hgt; omega
  have q3 : most ≤ more → x ≤ y := by rw [hx, hy]; unfold hgt; omega
  have q4 : (z ≤ max 1 most → x = z) ∧ (max 1 most ≤ z → x = max 1 most) := by rw [hx, hz]; unfold hgt; omega
  have HZ := Lib.hid hz
  have Q4 := Lib.hid q4
  clear hx hy hz q4 g
  by_cases hm : (1 : Int) < most
  · by_cases hmm : most ≤ more
    · have q5 := q3 hmm
      have q6 : ¬ x < 1 := by omega
      have q7 : ¬ x > most := by omega
      have q8 : ¬ y < x := by omega
      clear q3
      go_wp2_with fail; refine (height_any n 65 h0 h1 (by decide) (by decide) _).mono ?_; rintro e w4 ⟨rfl, rfl⟩
      rw [← HZ.out]
      by_cases hzm : most < z
      · have q9 : x = most := by have := Q4.out; omega
        subst q9
        go_wp2
        go_ret
        exact ⟨rfl, K1.out⟩
      · have q9 : x = z := by have := Q4.out; omega
        subst q9
        go_wp2
        go_ret
        exact ⟨rfl, K1.out⟩
    · have q6 : ¬ x < 1 := by omega
      have q7 : ¬ x > most := by omega
      clear q3
      go_wp2_with fail; refine (height_any n 65 h0 h1 (by decide) (by decide) _).mono ?_; rintro e w4 ⟨rfl, rfl⟩
      rw [← HZ.out]
      by_cases hzm : most < z
      · have q9 : x = most := by have := Q4.out; omega
        subst q9
        go_wp2
        go_ret
        exact ⟨rfl, K1.out⟩
      · have q9 : x = z := by have := Q4.out; omega
        subst q9
        go_wp2
        go_ret
        exact ⟨rfl, K1.out⟩
  · have e1 : x = 1 := by omega
    have q6 : ¬ x < 1 := by omega
    have q7 : ¬ x > 1 := by omega
    have Q5 := Lib.hid (show 1 ≤ z by rw [HZ.out]; unfold hgt; omega)
    by_cases hmm : most ≤ more
    · have q8 : ¬ y < x := by have := q3 hmm; omega
      clear q3 e1 q2
      go_wp2_with fail; refine (height_any n 65 h0 h1 (by decide) (by decide) _).mono ?_; rintro e w4 ⟨rfl, rfl⟩
      rw [← HZ.out]
      have e1 : x = 1 := by omega
      subst e1
      by_cases hzm : 1 < z
      · go_wp2
        go_ret
        exact ⟨rfl, K1.out⟩
      · have q9 : z = 1 := by have := Q5.out; omega
        subst q9
        go_wp2
        go_ret
        exact ⟨rfl, K1.out⟩
    · clear q3 e1 q2
      go_wp2_with fail; refine (height_any n 65 h0 h1 (by decide) (by decide) _).mono ?_; rintro e w4 ⟨rfl, rfl⟩
      rw [← HZ.out]
      have e1 : x = 1 := by omega
      subst e1
      by_cases hzm : 1 < z
      · go_wp2
        go_ret
        exact ⟨rfl, K1.out⟩
      · have q9 : z = 1 := by have := Q5.out; omega
        subst q9
        go_wp2
        go_ret
        exact ⟨rfl, K1.out⟩
set_option maxHeartbeats 4000000 in
theorem none_any (n : Int) (h0 : -9223372036854775808 ≤ n) (h1 : n ≤ 9223372036854775807) (w : World) :
    Calls Try.prog 5 #[.int .i64 n] w fun e w' => e = .returned (.bool true) ∧ Kept w w' := by
  have N1 : ∀ w : World, Hid (Nobody w none) := fun _ => Lib.hid (.inl rfl)
  go_enter Try.func5, Try.ntmps5
  go_wp2
  obtain ⟨W, hW⟩ : ∃ W, (w.alloc (.cells #[.pointer none] 46)).alloc (.cells #[.pointer none, .pointer (some ⟨w.heap.size, 0, none⟩)] 26) = W := ⟨_, rfl⟩
  have K0 := Lib.hid (show Kept w W by rw [← hW]; exact ((Kept.refl w).alloc _ _).alloc _ _)
  have N2 := Lib.hid (show Nobody W (some ⟨w.heap.size, 0, none⟩) by rw [← hW]; exact .inr ⟨_, rfl, ((Kept.refl _).alloc _ _).some (cell_new _ _ _ _ 0 rfl)⟩)
  have c0 : W.cell? ⟨w.heap.size + 1, 0, none⟩ = some (.pointer none) := by rw [← hW]; exact cell_new _ _ _ _ 0 (by simp)
  have c1 : W.cell? ⟨w.heap.size + 1, 1, none⟩ = some (.pointer (some ⟨w.heap.size, 0, none⟩)) := by rw [← hW]; exact cell_new _ _ _ _ 1 (by simp)
  rw [hW]
  clear hW
  refine wp_loop_rounds 3 ?_
  rw [rounds_succ]
  go_wp2_with fail; refine (next_none (N1 _ |>.out)).mono ?_; rintro e v1 ⟨rfl, k1⟩
  have J1 := Lib.hid k1
  clear k1
  go_wp2_with fail; refine (left_none (N1 _ |>.out)).mono ?_; rintro e v2 ⟨rfl, k2⟩
  have J2 := Lib.hid (J1.out.trans k2)
  clear k2
  go_wp2_with fail; refine (skip_none (N1 _ |>.out) n).mono ?_; rintro e v3 ⟨rfl, k3⟩
  have J3 := Lib.hid (J2.out.trans k3)
  clear k3
  go_wp2_with fail; refine (drawHeight_none (N1 _ |>.out) n h0 h1).mono ?_; rintro e v4 ⟨rfl, k4⟩
  have J4 := Lib.hid (J3.out.trans k4)
  clear k4
  go_wp2_with fail; refine (copy_none (N1 _ |>.out)).mono ?_; rintro e v5 ⟨rfl, k5⟩
  have J5 := Lib.hid (J4.out.trans k5)
  clear k5
  have c2 := J5.out.some c1
  go_wp2
  rw [rounds_succ]
  go_wp2_with fail; refine (next_none (N2.out.kept ((Kept.refl W).trans J5.out))).mono ?_; rintro e v6 ⟨rfl, k6⟩
  have J6 := Lib.hid (J5.out.trans k6)
  clear k6
  go_wp2_with fail; refine (left_none (N2.out.kept ((Kept.refl W).trans J6.out))).mono ?_; rintro e v7 ⟨rfl, k7⟩
  have J7 := Lib.hid (J6.out.trans k7)
  clear k7
  go_wp2_with fail; refine (skip_none (N2.out.kept ((Kept.refl W).trans J7.out)) n).mono ?_; rintro e v8 ⟨rfl, k8⟩
  have J8 := Lib.hid (J7.out.trans k8)
  clear k8
  go_wp2_with fail; refine (drawHeight_none (N2.out.kept ((Kept.refl W).trans J8.out)) n h0 h1).mono ?_; rintro e v9 ⟨rfl, k9⟩
  have J9 := Lib.hid (J8.out.trans k9)
  clear k9
  go_wp2_with fail; refine (copy_none (N2.out.kept ((Kept.refl W).trans J9.out))).mono ?_; rintro e v10 ⟨rfl, k10⟩
  have J10 := Lib.hid (J9.out.trans k10)
  clear k10
  go_wp2
  rw [rounds_succ]
  go_wp2_with fail; refine (awake_any _).mono ?_; rintro e v11 ⟨rfl, k11⟩
  go_wp2
  go_ret
  exact ⟨rfl, (K0.out.trans J10.out).trans k11⟩
end Go.Proofs.Ytoanifflgmalkaa
