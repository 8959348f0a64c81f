/- seek: whose pin is asked for next. -/
import Derived.Test.YtmfbjlaajcdbnaaG04
import Derived.Test.YtmfbjlaajcdbnaaG09
import Derived.Test.YtmfbjlaajcdbnaaG10
import Derived.Deep.RegionHeld3
set_option linter.unusedVariables false
set_option linter.unusedSimpArgs false

namespace Go.Proofs.Ytmfbjlaajcdbnaa.Ep
set_option maxRecDepth 100000
open Go.RowKit Go.Shelf
open Wo (St acc wordAt PMem RefIs)
open Sk (Stk Wd Blk leaves)
attribute [local go_sem] Oper.semAt_some

structure SkI (w : World) (N0 a b : Nat) (S : Stk) (c i : Int) (made : Bool) (nx W u q er : Int) (pre : List Int) (X : World) : Prop where
  pr : pre = [] ∨ (pre = [c] ∧ i = c)
  core : X.cell? ⟨w.heap.size, 3, none⟩ = some (.int .i64 c)
  st : Box6 X (w.heap.size + 1) made nx W u q er
  re : Box6 X (w.heap.size + 1 + 1) false 0 0 0 0 0
  f1 : ∀ j, X.frozen? ⟨w.heap.size + 1, j, none⟩ = false
  f2 : ∀ j, X.frozen? ⟨w.heap.size + 1 + 1, j, none⟩ = false
  bx : PBoxes X a b S i
  kept : Kept w X
  sz : N0 ≤ X.heap.size
structure SkX (w : World) (N0 : Nat) (S : Stk) (c i : Int) (made : Bool) (W er : Int) (X : World) : Prop where
  lt : skip c i < S.N
  re : Box6 X (w.heap.size + 1 + 1) made 2 W (skip c i) (S.K + skip c i) er
  kept : Kept w X
  sz : N0 ≤ X.heap.size
structure SkB (w : World) (N0 a b : Nat) : Prop where
  la : w.heap.size + 1 + 1 < a
  lb : w.heap.size + 1 + 1 < b
  ha : a < N0
  hb : b < N0
theorem SkI.keep {w : World} {N0 a b : Nat} {S : Stk} {c i : Int} {made : Bool} {nx W u q er : Int} {pre : List Int} {X X' : World} (h : SkI w N0 a b S c i made nx W u q er pre X) (k : Kept X X') : SkI w N0 a b S c i made nx W u q er pre X' :=
  ⟨h.pr, k.some h.core, h.st.kept k, h.re.kept k, fun j => k.soft (lt_of_cell h.st.c0) (h.f1 j), fun j => k.soft (lt_of_cell h.re.c0) (h.f2 j), h.bx.kept k, h.kept.trans k, Nat.le_trans h.sz k.size⟩
theorem SkI.turn {w : World} {N0 a b : Nat} {S : Stk} {c i : Int} {made : Bool} {nx W u q er : Int} {pre : List Int} {X : World} {l : Nat} {y y' : Loop} (h : SkI w N0 a b S c i made nx W u q er pre X) (hb : SkB w N0 a b) (hl : N0 ≤ l) (hy : X.heap[l]? = some (.loop y)) : SkI w N0 a b S c i made nx W u q er pre (X.putObj l (.loop y')) := by
  have k : But (fun k => k = l) X (X.putObj l (.loop y')) := Sk.but_turned (But.refl _ _) hy rfl rfl (.inl rfl)
  have := hb.la
  have := hb.lb
  have := hb.ha
  have := hb.hb
  refine ⟨h.pr, k.some h.core (by omega), h.st.but k (by omega), h.re.but k (by omega), fun j => k.soft (lt_of_cell h.st.c0) (h.f1 j), fun j => k.soft (lt_of_cell h.re.c0) (h.f2 j), ⟨k.some h.bx.a0 (by omega), k.some h.bx.a1 (by omega), k.some h.bx.a2 (by omega), k.some h.bx.b0 (by omega)⟩, ?_, Nat.le_trans h.sz k.size⟩
  exact (Sk.but_turned (h.kept.but (fun _ => False)) hy rfl rfl (.inr (by omega))).kept fun _ _ h => h
theorem SkX.keep {w : World} {N0 : Nat} {S : Stk} {c i : Int} {made : Bool} {W er : Int} {X X' : World} (h : SkX w N0 S c i made W er X) (k : Kept X X') : SkX w N0 S c i made W er X' := ⟨h.lt, h.re.kept k, h.kept.trans k, Nat.le_trans h.sz k.size⟩
theorem SkX.turn {w : World} {N0 a b : Nat} {S : Stk} {c i : Int} {made : Bool} {W er : Int} {X : World} {l : Nat} {y y' : Loop} (h : SkX w N0 S c i made W er X) (hb : SkB w N0 a b) (hl : N0 ≤ l) (hy : X.heap[l]? = some (.loop y)) : SkX w N0 S c i made W er (X.putObj l (.loop y')) := by
  have k : But (fun k => k = l) X (X.putObj l (.loop y')) := Sk.but_turned (But.refl _ _) hy rfl rfl (.inl rfl)
  have := hb.la
  have := hb.ha
  exact ⟨h.lt, h.re.but k (by omega), (Sk.but_turned (h.kept.but (fun _ => False)) hy rfl rfl (.inr (by omega))).kept fun _ _ h => h, Nat.le_trans h.sz k.size⟩

set_option maxHeartbeats 4000000 in
theorem seek_any (S : Stk) (c p : Int) (made : Bool) (nx W u q er i : Int) (w : World) (i0 : 0 ≤ i) (i1 : i ≤ 1000) (hN : S.N ≤ 1000) (K0 : 0 ≤ S.K) (K1 : S.K ≤ 10000) :
    Calls Try.prog 104 #[advV S c p, stV made nx W u q er, .int .i64 i] w fun e w' => e = .returned (if skip c i < S.N then stV made 2 W (skip c i) (S.K + skip c i) er else stV made 3 W u q er) ∧ Kept w w' := by
  obtain ⟨V, hV⟩ : ∃ V, V = (if skip c i < S.N then stV made 2 W (skip c i) (S.K + skip c i) er else stV made 3 W u q er) := ⟨_, rfl⟩
  rw [← hV]
  have HV := Lib.hid hV
  clear hV
  refine (callsIn_wide (n := 6)).1 ?_
  refine callsIn_of_wp_marks Try.func104 rfl trivial ?_ rfl
  simp only [Try.ntmps104, List.size_toArray, List.length_cons, List.length_nil, Nat.reduceAdd, Nat.reduceSub, Array.replicate_succ, Array.replicate_zero, List.push_toArray, List.append_toArray, List.nil_append, List.cons_append]
  rw [wpIn_wide]
  go_wp2_with fail
  obtain ⟨W0, hW0⟩ : ∃ W0, W0 = (((w.alloc (.cells #[.int .i64 S.T, .int .i64 S.K, .int .i64 S.N, .int .i64 c, .int .i64 p] 137)).alloc (.cells #[.bool made, .int .i64 nx, .int .u64 W, .int .i64 u, .int .i64 q, .int .i64 er] 68)).alloc (.cells #[.bool false, .int .i64 0, .int .u64 0, .int .i64 0, .int .i64 0, .int .i64 0] 68)) := ⟨_, rfl⟩
  have T0 : Three w W0 made nx W u q er := by rw [hW0]; exact three_new ..
  have a3 : W0.cell? ⟨w.heap.size, 3, none⟩ = some (.int .i64 c) := by rw [hW0]; exact (((Kept.refl _).alloc _ _).alloc _ _).some (cell_new _ _ _ _ 3 rfl)
  rw [← hW0]
  have z0 : W0.heap.size = w.heap.size + 1 + 1 + 1 := by rw [hW0]; simp
  clear hW0
  refine (pins_any S i _).mono ?_
  rintro e w3 ⟨a, b, rfl, la, lb, ha, hb, bs, k3⟩
  have SI : Hid (SkI w w3.heap.size a b S c i made nx W u q er [] w3) := Lib.hid ⟨.inl rfl, k3.some a3, T0.st.kept k3, T0.re.kept k3, fun j => k3.soft (by have := T0.lt; omega) (T0.f1 j), fun j => k3.soft T0.lt (T0.f2 j), bs, T0.k.trans k3, Nat.le_refl _⟩
  have SB : Hid (SkB w w3.heap.size a b) := Lib.hid ⟨by omega, by omega, ha, hb⟩
  have h3 : w.heap.size + 1 + 1 < w3.heap.size := Nat.lt_of_lt_of_le T0.lt k3.size
  clear T0 a3 z0 la lb ha hb bs k3
  go_wp2_with fail
  rename_i K hK0
  rw [← wpIn_wide (n := 6)]
  refine range_manyN (Bs := fun k => k = w.heap.size + 1 ∨ k = w.heap.size + 1 + 1 ∨ w3.heap.size + 1 + 1 ≤ k) (by decide) (gf := 96) (lb := #[.pointer (some ⟨b, 0, none⟩), .pointer (some ⟨a, 0, none⟩)]) rfl (enters_of Try.func96 (by kernel_rfl) rfl) (fun x : Int => #[Value.int .i64 x, Value.int .i64 (S.K + x)]) (fun _ => rfl)
    (fun k h => by rcases h with h | h | h <;> omega)
    (fun pre X => SkI w w3.heap.size a b S c i made nx W u q er pre X)
    (fun cd pre X => cd = .ret ∧ SkX w w3.heap.size S c i made W er X)
    (fun pre x => pre = cs i pre.length ∧ x = i + (pre.length : Int) ∧ x < S.N) (fun xs => ∃ k : Nat, xs = cs i k ∧ S.N ≤ i + k)
    ?_ ?_ ?_ ?_ ?_ ?_
    (fun x => { tmps := #[advV S c p, stV made nx W u q er, .int .i64 i, .pointer (some ⟨w.heap.size, 0, none⟩), .pointer (some ⟨w.heap.size + 1, 0, none⟩), undef, .pointer (some ⟨w.heap.size + 1 + 1, 0, none⟩), .int .i64 x, .int .i64 (S.K + x), .pointer (some ⟨w.heap.size, 0, none⟩), .pointer (some ⟨w.heap.size, 0, none⟩), .agg #[.int .i64 S.T, .int .i64 S.K, .int .i64 S.N], .int .i64 i,
      .func (.func 96) #[] #[.pointer (some ⟨b, 0, none⟩), .pointer (some ⟨a, 0, none⟩)], .int .i64 x, .int .i64 (S.K + x), undef, undef, undef, undef, undef, undef, undef, undef, undef, undef, undef, undef, undef], defers := [] })
    ?_ ?_ ?_ ?_
  · exact fun X k => SI.out.keep k
  · exact fun pre X X' h k => h.keep k
  · exact fun pre X l y y' hl hy h => h.turn SB.out hl hy
  · exact fun cd pre X X' h k => ⟨h.1, h.2.keep k⟩
  · exact fun cd pre X l y y' hl hy h => ⟨h.1, h.2.turn SB.out hl hy⟩
  · intro l X0 J Jx k0 z0 hl hJk hJb hY h0
    exact pins_in 5 (by decide) l a b S i i0 (by omega) (by omega) (by omega) (by omega) J Jx hJk (fun pre X h => (hJb pre X h).1.bx) hY X0 h0
  · intro l x X K hK
    gi_wp2
    exact hK
  · intro l pre x X hI hso hsz hbut
    obtain ⟨hso1, hso2, hso3⟩ := hso
    have HI := Lib.hid hI
    obtain ⟨hpr, hcore, ⟨s0, s1, s2, s3, s4, s5⟩, hre, hf1, hf2, hbx, hk, hz⟩ := hI
    by_cases hxc : x = c
    · have hne : (x != c) = false := by simp [hxc]
      have hpr2 : pre ++ [x] = [c] ∧ i = c := by
        rcases hpr with rfl | ⟨rfl, e⟩
        · simp at hso2; exact ⟨by simp [hxc], by omega⟩
        · simp at hso2; omega
      have HP := Lib.hid hpr2
      have HXC := Lib.hid hxc
      clear hso1 hso2 hpr hpr2 hxc
      gi_wp2
      refine .inl ⟨?_, Sk.Blk.refl _ _⟩
      have h := HI.out
      exact ⟨.inr HP.out, h.core, h.st, h.re, h.f1, h.f2, h.bx, h.kept, h.sz⟩
    · have hne : (x != c) = true := by simpa using hxc
      have hsk : skip c i = x := by
        unfold skip
        rcases hpr with rfl | ⟨rfl, e⟩
        · simp at hso2; rw [if_neg (by omega)]; omega
        · simp at hso2; rw [if_pos e]; omega
      have HSK := Lib.hid hsk
      clear hso1 hso2 hpr hxc hsk
      have hB2 : But (fun k => k = w.heap.size + 1) X ((X.setCell ⟨w.heap.size + 1, 3, none⟩ (.int .i64 x)).setCell ⟨w.heap.size + 1, 4, none⟩ (.int .i64 (S.K + x))) := ((But.refl _ _).here _ _).here _ _
      have HB2 := Lib.hid hB2
      have hrl := lt_of_cell hre.c0
      clear hB2
      gi_wp2_with (refine ⟨trivial, ?_⟩; gi_at_call 101; refine (CallsIn.inRound l (callsIn_wide.2 (then_any _ _ _ _ _ _ _ _))).mono ?_; rintro e v ⟨rfl, k4⟩; obtain ⟨r0, r1, r2, r3, r4, r5⟩ := (hre.but HB2.out (by omega)).kept k4; have rf : (∀ j, v.frozen? ⟨w.heap.size + 1 + 1, j, none⟩ = false) := (fun j => (HB2.out.then k4).soft hrl (hf2 j)); have K4 := Lib.hid k4)
      obtain ⟨W9, hW9⟩ : ∃ W9, W9 = ((((((v.setCell ⟨w.heap.size + 1 + 1, 0, none⟩ (.bool made)).setCell ⟨w.heap.size + 1 + 1, 1, none⟩ (.int .i64 2)).setCell ⟨w.heap.size + 1 + 1, 2, none⟩ (.int .u64 W)).setCell ⟨w.heap.size + 1 + 1, 3, none⟩ (.int .i64 x)).setCell ⟨w.heap.size + 1 + 1, 4, none⟩ (.int .i64 (S.K + x))).setCell ⟨w.heap.size + 1 + 1, 5, none⟩ (.int .i64 er)) := ⟨_, rfl⟩
      obtain ⟨BX9, b9⟩ := put6_facts ⟨r0, r1, r2, r3, r4, r5⟩ hW9
      rw [← hW9]
      have hkw := hk
      have BL : But (fun k => k = w.heap.size + 1 ∨ k = w.heap.size + 1 + 1) X W9 := ((HB2.out.mono (fun _ _ h => .inl h)).then K4.out).trans b9 (fun _ _ h => .inr h)
      refine .inr ⟨.ret, .inl ⟨rfl, rfl⟩, ⟨rfl, ?_, ?_, ?_, ?_⟩, (Sk.Blk.of BL).mono (fun k _ h => h.elim .inl (fun h => .inr (.inl h)))⟩
      · rw [HSK.out]; exact hso3
      · rw [HSK.out]; exact BX9
      · exact ((hk.but (fun k => k = w.heap.size + 1 ∨ k = w.heap.size + 1 + 1)).trans BL (fun _ _ h => h)).kept fun j hj e => by rcases e with e | e <;> omega
      · exact Nat.le_trans hz BL.size
  · intro D xs X hN hI hbut hD hd
    obtain ⟨k, hx, hneg⟩ := hN
    obtain ⟨hpr, hcore, ⟨s0, s1, s2, s3, s4, s5⟩, hre, hf1, hf2, hbx, hk, hz⟩ := hI
    have hsk : ¬ skip c i < S.N := by
      have hl := cs_length i k
      rw [← hx] at hl
      rcases hpr with rfl | ⟨rfl, e⟩
      · simp at hl; subst hl; simp at hneg; have := (skip_lo (c := c) (i := i)).1; omega
      · simp at hl; subst hl; simp at hneg; unfold skip; rw [if_pos e]; omega
    have HV2 := Lib.hid (HV.out.trans (if_neg hsk))
    have hDw : w.heap.size ≤ D := by omega
    clear hx hneg hpr hsk hbx hcore
    have HBT := Lib.hid hbut
    clear hbut
    apply hK0
    go_wp2_with fail
    refine (then_any _ _ _ _ _ _ _ _).mono ?_
    rintro e v ⟨rfl, k4⟩
    have hDv := (k4.below.block _ (Array.getElem?_eq_some_iff.1 hd).1).trans hd
    obtain ⟨r0, r1, r2, r3, r4, r5⟩ := hre.kept k4
    have rf : ∀ j, v.frozen? ⟨w.heap.size + 1 + 1, j, none⟩ = false := fun j => k4.soft (lt_of_cell hre.c0) (hf2 j)
    have KV := Lib.hid (hk.trans k4)
    have rl := lt_of_cell r0
    have HD := Lib.hid hDv
    clear k4 hd hDv hre hf1 hf2 s0 s1 s2 s3 s4 s5 hk
    go_wp2
    obtain ⟨W9, hW9⟩ : ∃ W9, W9 = ((((((v.setCell ⟨w.heap.size + 1 + 1, 0, none⟩ (.bool made)).setCell ⟨w.heap.size + 1 + 1, 1, none⟩ (.int .i64 3)).setCell ⟨w.heap.size + 1 + 1, 2, none⟩ (.int .u64 W)).setCell ⟨w.heap.size + 1 + 1, 3, none⟩ (.int .i64 u)).setCell ⟨w.heap.size + 1 + 1, 4, none⟩ (.int .i64 q)).setCell ⟨w.heap.size + 1 + 1, 5, none⟩ (.int .i64 er)) := ⟨_, rfl⟩
    obtain ⟨BX9, b9⟩ := put6_facts ⟨r0, r1, r2, r3, r4, r5⟩ hW9
    rw [← hW9]
    clear hW9 r0 r1 r2 r3 r4 r5
    have hd9 : W9.heap[D]? = some (.deferred (some [])) := (b9.block _ (Array.getElem?_eq_some_iff.1 HD.out).1 (fun e => by have e : D = w.heap.size + 1 + 1 := e; omega)).trans HD.out
    have bD : But (fun k => k = D) W9 (W9.putObj D (.deferred none)) := Sk.but_turned (But.refl _ _) hd9 rfl rfl (.inl rfl)
    obtain ⟨e0, e1, e2, e3, e4, e5⟩ := BX9.but bD (by omega)
    have kk : Kept w (W9.putObj D (.deferred none)) := (((KV.out.but (fun k => k = w.heap.size + 1 + 1 ∨ k = D)).trans b9 (fun _ _ h => .inl h)).trans bD (fun _ _ h => .inr h)).kept fun j hj e => by rcases e with e | e <;> omega
    refine ⟨by simp, .inl ⟨_, _, rfl, run_takeDeferred hd9, ?_⟩⟩
    exact ⟨V, by rw [HV2.out]; simp [results, Try.results104, go_sem, e0, e1, e2, e3, e4, e5], rfl, kk⟩
  · intro D cd xs X hI hbut hD hd
    obtain ⟨rfl, hlt, ⟨r0, r1, r2, r3, r4, r5⟩, hk, hz⟩ := hI
    have HV2 := Lib.hid (HV.out.trans (if_pos hlt))
    have hDw : w.heap.size ≤ D := by omega
    clear hbut
    rw [wpIn_wide]
    go_wp2
    have bD : But (fun k => k = D) X (X.putObj D (.deferred none)) := Sk.but_turned (But.refl _ _) hd rfl rfl (.inl rfl)
    obtain ⟨e0, e1, e2, e3, e4, e5⟩ := Box6.but ⟨r0, r1, r2, r3, r4, r5⟩ bD (by omega)
    have kk : Kept w (X.putObj D (.deferred none)) := ((hk.but (fun k => k = D)).trans bD (fun _ _ h => h)).kept fun j hj e => by have e : j = D := e; omega
    refine ⟨by simp, .inl ⟨_, _, rfl, run_takeDeferred hd, ?_⟩⟩
    exact ⟨V, by rw [HV2.out]; simp [results, Try.results104, go_sem, e0, e1, e2, e3, e4, e5], rfl, kk⟩
end Go.Proofs.Ytmfbjlaajcdbnaa.Ep

namespace Go.Proofs.Ytmfbjlaajcdbnaa.Ep
set_option maxRecDepth 20000
open Go.RowKit
open Wo (St acc wordAt PMem RefIs)
open Sk (Stk Wd p_load p_store p_cas pmem_kept pmem_lt pmem_frame)

set_option maxHeartbeats 2000000 in
theorem look_eq (S : Stk) (c : Int) (p : Int) (made : Bool) (nx W u q er : Int) (M B n : Nat) (s : St) (w : World) (hm : PMem w M B n s) (h0 : 0 ≤ s.cnt) (h1 : s.cnt ≤ 1000000) (hwd : 0 ≤ wordAt n s S.T ∧ wordAt n s S.T < 18446744073709551616) (he : ep (wordAt n s S.T) = p) (NX U Q : Int) (hsk : (if skip c 0 < S.N then stV made 2 (wordAt n s S.T) (skip c 0) (S.K + skip c 0) er else stV made 3 (wordAt n s S.T) u q er) = stV made NX (wordAt n s S.T) U Q er) (hN : S.N ≤ 1000) (K0 : 0 ≤ S.K) (K1 : S.K ≤ 10000) :
    Calls Try.prog 80 #[advV S c p, stV made nx W u q er, .pointer (some ⟨M, 0, none⟩)] w (Row M B n (acc n s 1 S.T false 0) (stV made NX (wordAt n s S.T) U Q er) w) := by
  have SEK : ∀ X, Hid (Calls Try.prog 104 #[advV S c p, stV made nx (wordAt n s S.T) u q er, .int .i64 0] X fun e w' => e = .returned (stV made NX (wordAt n s S.T) U Q er) ∧ Kept X w') := fun X => Lib.hid (by rw [← hsk]; exact seek_any S c p made nx (wordAt n s S.T) u q er 0 X (by omega) (by omega) hN K0 K1)
  clear hsk
  have hl := (pmem_lt hm).2
  have hlM := (pmem_lt hm).1
  have HM := Lib.hid hm
  clear hm
  go_enter Try.func80, Try.ntmps80
  go_upto_region 1 with fail
  obtain ⟨W0, hW0⟩ : ∃ W0, W0 = (((w.alloc (.cells #[.int .i64 S.T, .int .i64 S.K, .int .i64 S.N, .int .i64 c, .int .i64 p] 137)).alloc (.cells #[.bool made, .int .i64 nx, .int .u64 W, .int .i64 u, .int .i64 q, .int .i64 er] 68)).alloc (.cells #[.bool false, .int .i64 0, .int .u64 0, .int .i64 0, .int .i64 0, .int .i64 0] 68)) := ⟨_, rfl⟩
  have T0 : Three w W0 made nx W u q er := by rw [hW0]; exact three_new ..
  have a0 : W0.cell? ⟨w.heap.size, 0, none⟩ = some (.int .i64 S.T) := by rw [hW0]; exact (((Kept.refl _).alloc _ _).alloc _ _).some (cell_new _ _ _ _ 0 rfl)
  have a1 : W0.cell? ⟨w.heap.size, 1, none⟩ = some (.int .i64 S.K) := by rw [hW0]; exact (((Kept.refl _).alloc _ _).alloc _ _).some (cell_new _ _ _ _ 1 rfl)
  have a2 : W0.cell? ⟨w.heap.size, 2, none⟩ = some (.int .i64 S.N) := by rw [hW0]; exact (((Kept.refl _).alloc _ _).alloc _ _).some (cell_new _ _ _ _ 2 rfl)
  have a3 : W0.cell? ⟨w.heap.size, 3, none⟩ = some (.int .i64 c) := by rw [hW0]; exact (((Kept.refl _).alloc _ _).alloc _ _).some (cell_new _ _ _ _ 3 rfl)
  have a4 : W0.cell? ⟨w.heap.size, 4, none⟩ = some (.int .i64 p) := by rw [hW0]; exact (((Kept.refl _).alloc _ _).alloc _ _).some (cell_new _ _ _ _ 4 rfl)
  rw [← hW0]
  clear hW0
  have TT := Lib.hid T0
  obtain ⟨q0, q1, q2, q3, q4, q5⟩ := T0.st
  have V0 := hwd.1
  have V1 := hwd.2
  have SEE : ∀ X, Hid (Calls Try.prog 73 #[stV made nx (wordAt n s S.T) u q er] X fun e w' => e = .returned (.int .u32 (ep (wordAt n s S.T))) ∧ Kept X w') := fun X => Lib.hid (seen_any made nx (wordAt n s S.T) u q er X V0 V1)
  have ep0 := ep_lo (wordAt n s S.T)
  have ep1 := ep_hi (wordAt n s S.T)
  go_wp2_with fail
  refine (p_load M B n s S.T _ (pmem_kept HM.out TT.out.k) h0 h1).mono ?_
  rintro e w3 ⟨rfl, m3, b3⟩
  have BT : But (fun k => k = B) W0 w3 := b3
  obtain ⟨q0, q1, q2, q3, q4, q5⟩ := Box6.but ⟨q0, q1, q2, q3, q4, q5⟩ b3 (by omega)
  have a0 := b3.some a0 (by omega)
  have a1 := b3.some a1 (by omega)
  have a2 := b3.some a2 (by omega)
  have a3 := b3.some a3 (by omega)
  have a4 := b3.some a4 (by omega)
  have qf : ∀ i, w3.frozen? ⟨w.heap.size + 1, i, none⟩ = false := fun i => BT.soft (by have := TT.out.lt; omega) (TT.out.f1 i)
  have rf : ∀ i, w3.frozen? ⟨w.heap.size + 1 + 1, i, none⟩ = false := fun i => BT.soft TT.out.lt (TT.out.f2 i)
  have RE := TT.out.re.but BT (by omega)
  have lX := Nat.lt_of_lt_of_le TT.out.lt BT.size
  have M3 := Lib.hid m3
  have BX : Hid (But (fun k => k = B) w w3) := Lib.hid ((TT.out.k.but (fun k => k = B)).trans BT (fun _ _ h => h))
  clear m3 b3
  go_upto_region 2 with fail
  obtain ⟨Wn, hWn⟩ : ∃ Wn, Wn = w3.setCell ⟨w.heap.size + 1, 2, none⟩ (.int .u64 (wordAt n s S.T)) := ⟨_, rfl⟩
  have bn : But (fun k => k = w.heap.size + 1) w3 Wn := by rw [hWn]; exact (But.refl _ _).here _ _
  have BOX : Box6 Wn (w.heap.size + 1) made nx (wordAt n s S.T) u q er := by
    rw [hWn]
    refine ⟨?_, ?_, ?_, ?_, ?_, ?_⟩
    · simp [cell_set, q0]
    · simp [cell_set, q1]
    · simp [cell_set, q2]
    · simp [cell_set, q3]
    · simp [cell_set, q4]
    · simp [cell_set, q5]
  rw [← hWn]
  clear hWn q0 q1 q2 q3 q4 q5
  obtain ⟨q0, q1, q2, q3, q4, q5⟩ := BOX
  have a0 := bn.some a0 (by omega)
  have a1 := bn.some a1 (by omega)
  have a2 := bn.some a2 (by omega)
  have a3 := bn.some a3 (by omega)
  have a4 := bn.some a4 (by omega)
  have rf : ∀ i, Wn.frozen? ⟨w.heap.size + 1 + 1, i, none⟩ = false := fun i => bn.soft lX (rf i)
  have RE := RE.but bn (by omega)
  have lX := Nat.lt_of_lt_of_le lX bn.size
  have M3 := Lib.hid (pmem_frame M3.out bn (by omega) (by omega))
  have BX : Hid (But (fun k => k = B) w Wn) := Lib.hid (BX.out.trans bn (fun i hi e => by have e : i = w.heap.size + 1 := e; omega))
  clear bn
  have k0 : Kept Wn Wn := Kept.refl _
  have hwr : IntKind.i64.wrap (ep (wordAt n s S.T)) = ep (wordAt n s S.T) := by rw [IntKind.wrap_i64]; omega
  have hne : (IntKind.i64.wrap (ep (wordAt n s S.T)) != p) = false := by rw [hwr]; simp [he]
  clear he hwr
  go_region_held3 (fun w' => w'.cell? ⟨w.heap.size, 0, none⟩ = some (.int .i64 S.T) ∧ w'.cell? ⟨w.heap.size, 1, none⟩ = some (.int .i64 S.K) ∧ w'.cell? ⟨w.heap.size, 2, none⟩ = some (.int .i64 S.N) ∧ w'.cell? ⟨w.heap.size, 3, none⟩ = some (.int .i64 c) ∧ w'.cell? ⟨w.heap.size, 4, none⟩ = some (.int .i64 p) ∧ w'.cell? ⟨w.heap.size + 1, 0, none⟩ = some (.bool made) ∧ w'.cell? ⟨w.heap.size + 1, 1, none⟩ = some (.int .i64 nx) ∧ w'.cell? ⟨w.heap.size + 1, 2, none⟩ = some (.int .u64 (wordAt n s S.T)) ∧ w'.cell? ⟨w.heap.size + 1, 3, none⟩ = some (.int .i64 u) ∧ w'.cell? ⟨w.heap.size + 1, 4, none⟩ = some (.int .i64 q) ∧ w'.cell? ⟨w.heap.size + 1, 5, none⟩ = some (.int .i64 er)) (first | go_keep | (exact ⟨k4.some a0, k4.some a1, k4.some a2, k4.some a3, k4.some a4, k4.some q0, k4.some q1, k4.some q2, k4.some q3, k4.some q4, k4.some q5⟩)) (first
    | (go_at_call 73; refine (SEE _).out.mono ?_; rintro e w4 ⟨rfl, k4⟩; have KT : Kept Wn w4 := Kept.trans (b := _) (by first | exact Kept.refl _ | exact (Kept.refl _).drew | exact (Kept.refl _).drewN _) k4))
  rename_i hcells
  clear hcells
  obtain ⟨q0, q1, q2, q3, q4, q5⟩ := Box6.kept ⟨q0, q1, q2, q3, q4, q5⟩ KT
  have a0 := KT.some a0
  have a1 := KT.some a1
  have a2 := KT.some a2
  have a3 := KT.some a3
  have a4 := KT.some a4
  have rf : ∀ i, w4.frozen? ⟨w.heap.size + 1 + 1, i, none⟩ = false := fun i => KT.soft lX (rf i)
  have BY := Lib.hid (BX.out.then KT)
  have MY := Lib.hid (pmem_kept M3.out KT)
  have lY := Nat.lt_of_lt_of_le lX KT.size
  have RE := RE.kept KT
  clear k4 KT SEE k0
  go_wp2_with fail
  refine (SEK _).out.mono ?_
  rintro e w8 ⟨rfl, k8⟩
  have rf : ∀ i, w8.frozen? ⟨w.heap.size + 1 + 1, i, none⟩ = false := fun i => k8.soft lY (rf i)
  have BY := Lib.hid (BY.out.then k8)
  have MY := Lib.hid (pmem_kept MY.out k8)
  obtain ⟨r0, r1, r2, r3, r4, r5⟩ := RE.kept k8
  clear k8
  go_wp2
  refine put6_go ⟨r0, r1, r2, r3, r4, r5⟩ ?_
  rintro W9 ⟨e0, e1, e2, e3, e4, e5⟩ b9
  refine bodyPost_ret (v := stV made NX (wordAt n s S.T) U Q er) (by simp [results, Try.results80, go_sem, e0, e1, e2, e3, e4, e5]) rfl ⟨rfl, pmem_frame MY.out b9 (by omega) (by omega), (BY.out.trans b9 (fun i hi e => by have e : i = w.heap.size + 1 + 1 := e; omega))⟩
set_option maxHeartbeats 2000000 in
theorem look_ne (S : Stk) (c : Int) (p : Int) (made : Bool) (nx W u q er : Int) (M B n : Nat) (s : St) (w : World) (hm : PMem w M B n s) (h0 : 0 ≤ s.cnt) (h1 : s.cnt ≤ 1000000) (hwd : 0 ≤ wordAt n s S.T ∧ wordAt n s S.T < 18446744073709551616) (he : ¬ ep (wordAt n s S.T) = p) :
    Calls Try.prog 80 #[advV S c p, stV made nx W u q er, .pointer (some ⟨M, 0, none⟩)] w (Row M B n (acc n s 1 S.T false 0) (stV made 0 (wordAt n s S.T) u q 14) w) := by
  have hl := (pmem_lt hm).2
  have hlM := (pmem_lt hm).1
  have HM := Lib.hid hm
  clear hm
  go_enter Try.func80, Try.ntmps80
  go_upto_region 1 with fail
  obtain ⟨W0, hW0⟩ : ∃ W0, W0 = (((w.alloc (.cells #[.int .i64 S.T, .int .i64 S.K, .int .i64 S.N, .int .i64 c, .int .i64 p] 137)).alloc (.cells #[.bool made, .int .i64 nx, .int .u64 W, .int .i64 u, .int .i64 q, .int .i64 er] 68)).alloc (.cells #[.bool false, .int .i64 0, .int .u64 0, .int .i64 0, .int .i64 0, .int .i64 0] 68)) := ⟨_, rfl⟩
  have T0 : Three w W0 made nx W u q er := by rw [hW0]; exact three_new ..
  have a0 : W0.cell? ⟨w.heap.size, 0, none⟩ = some (.int .i64 S.T) := by rw [hW0]; exact (((Kept.refl _).alloc _ _).alloc _ _).some (cell_new _ _ _ _ 0 rfl)
  have a1 : W0.cell? ⟨w.heap.size, 1, none⟩ = some (.int .i64 S.K) := by rw [hW0]; exact (((Kept.refl _).alloc _ _).alloc _ _).some (cell_new _ _ _ _ 1 rfl)
  have a2 : W0.cell? ⟨w.heap.size, 2, none⟩ = some (.int .i64 S.N) := by rw [hW0]; exact (((Kept.refl _).alloc _ _).alloc _ _).some (cell_new _ _ _ _ 2 rfl)
  have a3 : W0.cell? ⟨w.heap.size, 3, none⟩ = some (.int .i64 c) := by rw [hW0]; exact (((Kept.refl _).alloc _ _).alloc _ _).some (cell_new _ _ _ _ 3 rfl)
  have a4 : W0.cell? ⟨w.heap.size, 4, none⟩ = some (.int .i64 p) := by rw [hW0]; exact (((Kept.refl _).alloc _ _).alloc _ _).some (cell_new _ _ _ _ 4 rfl)
  rw [← hW0]
  clear hW0
  have TT := Lib.hid T0
  obtain ⟨q0, q1, q2, q3, q4, q5⟩ := T0.st
  have V0 := hwd.1
  have V1 := hwd.2
  have SEE : ∀ X, Hid (Calls Try.prog 73 #[stV made nx (wordAt n s S.T) u q er] X fun e w' => e = .returned (.int .u32 (ep (wordAt n s S.T))) ∧ Kept X w') := fun X => Lib.hid (seen_any made nx (wordAt n s S.T) u q er X V0 V1)
  have ep0 := ep_lo (wordAt n s S.T)
  have ep1 := ep_hi (wordAt n s S.T)
  go_wp2_with fail
  refine (p_load M B n s S.T _ (pmem_kept HM.out TT.out.k) h0 h1).mono ?_
  rintro e w3 ⟨rfl, m3, b3⟩
  have BT : But (fun k => k = B) W0 w3 := b3
  obtain ⟨q0, q1, q2, q3, q4, q5⟩ := Box6.but ⟨q0, q1, q2, q3, q4, q5⟩ b3 (by omega)
  have a0 := b3.some a0 (by omega)
  have a1 := b3.some a1 (by omega)
  have a2 := b3.some a2 (by omega)
  have a3 := b3.some a3 (by omega)
  have a4 := b3.some a4 (by omega)
  have qf : ∀ i, w3.frozen? ⟨w.heap.size + 1, i, none⟩ = false := fun i => BT.soft (by have := TT.out.lt; omega) (TT.out.f1 i)
  have rf : ∀ i, w3.frozen? ⟨w.heap.size + 1 + 1, i, none⟩ = false := fun i => BT.soft TT.out.lt (TT.out.f2 i)
  have RE := TT.out.re.but BT (by omega)
  have lX := Nat.lt_of_lt_of_le TT.out.lt BT.size
  have M3 := Lib.hid m3
  have BX : Hid (But (fun k => k = B) w w3) := Lib.hid ((TT.out.k.but (fun k => k = B)).trans BT (fun _ _ h => h))
  clear m3 b3
  go_upto_region 2 with fail
  obtain ⟨Wn, hWn⟩ : ∃ Wn, Wn = w3.setCell ⟨w.heap.size + 1, 2, none⟩ (.int .u64 (wordAt n s S.T)) := ⟨_, rfl⟩
  have bn : But (fun k => k = w.heap.size + 1) w3 Wn := by rw [hWn]; exact (But.refl _ _).here _ _
  have BOX : Box6 Wn (w.heap.size + 1) made nx (wordAt n s S.T) u q er := by
    rw [hWn]
    refine ⟨?_, ?_, ?_, ?_, ?_, ?_⟩
    · simp [cell_set, q0]
    · simp [cell_set, q1]
    · simp [cell_set, q2]
    · simp [cell_set, q3]
    · simp [cell_set, q4]
    · simp [cell_set, q5]
  rw [← hWn]
  clear hWn q0 q1 q2 q3 q4 q5
  obtain ⟨q0, q1, q2, q3, q4, q5⟩ := BOX
  have a0 := bn.some a0 (by omega)
  have a1 := bn.some a1 (by omega)
  have a2 := bn.some a2 (by omega)
  have a3 := bn.some a3 (by omega)
  have a4 := bn.some a4 (by omega)
  have rf : ∀ i, Wn.frozen? ⟨w.heap.size + 1 + 1, i, none⟩ = false := fun i => bn.soft lX (rf i)
  have RE := RE.but bn (by omega)
  have lX := Nat.lt_of_lt_of_le lX bn.size
  have M3 := Lib.hid (pmem_frame M3.out bn (by omega) (by omega))
  have BX : Hid (But (fun k => k = B) w Wn) := Lib.hid (BX.out.trans bn (fun i hi e => by have e : i = w.heap.size + 1 := e; omega))
  clear bn
  have k0 : Kept Wn Wn := Kept.refl _
  have hwr : IntKind.i64.wrap (ep (wordAt n s S.T)) = ep (wordAt n s S.T) := by rw [IntKind.wrap_i64]; omega
  have hne : (IntKind.i64.wrap (ep (wordAt n s S.T)) != p) = true := by rw [hwr]; simpa using he
  clear he hwr
  go_region_held3 (fun w' => w'.cell? ⟨w.heap.size, 0, none⟩ = some (.int .i64 S.T) ∧ w'.cell? ⟨w.heap.size, 1, none⟩ = some (.int .i64 S.K) ∧ w'.cell? ⟨w.heap.size, 2, none⟩ = some (.int .i64 S.N) ∧ w'.cell? ⟨w.heap.size, 3, none⟩ = some (.int .i64 c) ∧ w'.cell? ⟨w.heap.size, 4, none⟩ = some (.int .i64 p) ∧ w'.cell? ⟨w.heap.size + 1, 0, none⟩ = some (.bool made) ∧ w'.cell? ⟨w.heap.size + 1, 1, none⟩ = some (.int .i64 nx) ∧ w'.cell? ⟨w.heap.size + 1, 2, none⟩ = some (.int .u64 (wordAt n s S.T)) ∧ w'.cell? ⟨w.heap.size + 1, 3, none⟩ = some (.int .i64 u) ∧ w'.cell? ⟨w.heap.size + 1, 4, none⟩ = some (.int .i64 q) ∧ w'.cell? ⟨w.heap.size + 1, 5, none⟩ = some (.int .i64 er)) (first | go_keep | (exact ⟨k4.some a0, k4.some a1, k4.some a2, k4.some a3, k4.some a4, k4.some q0, k4.some q1, k4.some q2, k4.some q3, k4.some q4, k4.some q5⟩)) (first
    | (go_at_call 73; refine (SEE _).out.mono ?_; rintro e w4 ⟨rfl, k4⟩; have KT : Kept Wn w4 := Kept.trans (b := _) (by first | exact Kept.refl _ | exact (Kept.refl _).drew | exact (Kept.refl _).drewN _) k4))
  rename_i hcells
  clear hcells
  obtain ⟨q0, q1, q2, q3, q4, q5⟩ := Box6.kept ⟨q0, q1, q2, q3, q4, q5⟩ KT
  have a0 := KT.some a0
  have a1 := KT.some a1
  have a2 := KT.some a2
  have a3 := KT.some a3
  have a4 := KT.some a4
  have rf : ∀ i, w4.frozen? ⟨w.heap.size + 1 + 1, i, none⟩ = false := fun i => KT.soft lX (rf i)
  have BY := Lib.hid (BX.out.then KT)
  have MY := Lib.hid (pmem_kept M3.out KT)
  have lY := Nat.lt_of_lt_of_le lX KT.size
  have RE := RE.kept KT
  clear k4 KT SEE k0
  go_wp2_with fail
  refine (end_any _ _ _ _ _ _ _ _).mono ?_
  rintro e w8 ⟨rfl, k8⟩
  have rf : ∀ i, w8.frozen? ⟨w.heap.size + 1 + 1, i, none⟩ = false := fun i => k8.soft lY (rf i)
  have BY := Lib.hid (BY.out.then k8)
  have MY := Lib.hid (pmem_kept MY.out k8)
  obtain ⟨r0, r1, r2, r3, r4, r5⟩ := RE.kept k8
  clear k8
  go_wp2
  refine put6_go ⟨r0, r1, r2, r3, r4, r5⟩ ?_
  rintro W9 ⟨e0, e1, e2, e3, e4, e5⟩ b9
  refine bodyPost_ret (v := stV made 0 (wordAt n s S.T) u q 14) (by simp [results, Try.results80, go_sem, e0, e1, e2, e3, e4, e5]) rfl ⟨rfl, pmem_frame MY.out b9 (by omega) (by omega), (BY.out.trans b9 (fun i hi e => by have e : i = w.heap.size + 1 + 1 := e; omega))⟩
end Go.Proofs.Ytmfbjlaajcdbnaa.Ep
