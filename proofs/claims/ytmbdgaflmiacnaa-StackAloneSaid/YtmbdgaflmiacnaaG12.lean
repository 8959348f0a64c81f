/- Chain, the program's: a range over the iterator that collects, and leaves when it has as many as there are places. -/
import Derived.Test.YtmbdgaflmiacnaaG10
import Derived.Test.YtmbdgaflmiacnaaG03
import Derived.Test.YtmbdgaflmiacnaaG08
import Derived.Test.YtmbdgaflmiacnaaG05
import Derived.Lib.Hide
import Derived.Deep.Light
set_option linter.unusedVariables false
set_option linter.unusedSimpArgs false

namespace Go.Proofs.Ytmbdgaflmiacnaa.Sk
set_option maxRecDepth 100000
open Go.RowKit Go.Shelf
open Wo (St acc wordAt PMem RefIs)
attribute [local go_sem] Oper.semAt_some

theorem infoInt : (Try.prog.info? 3).map (fun i => (i.zero, i.size, i.bytes)) = some (some (.int .i64 0), 1, 8) := by kernel_rfl

structure ChI (w : World) (L t a b c N0 : Nat) (S : Stk) (v : Value) (n : Nat) (f : Nat → Int) (pre : List Int) (W : World) : Prop where
  box : ∃ u, Boxed W L 62 u ∧ W.ownsRow (N0 + 2) 3 1 u pre.length (ints pre)
  st : W.cell? ⟨t, 2, none⟩ = some (.int .i64 S.N)
  bx : Boxes W a b c S v n f
  kept : Kept w W
  sz : N0 ≤ W.heap.size
  pr : pre = sqs n f S pre.length ∧ ∀ i, i < pre.length → 0 ≤ sq n f S i
structure ChB (w : World) (L t a b c N0 : Nat) (v : Value) : Prop where
  hl : L < N0
  ht : t < N0
  ha : a < N0
  hb : b < N0
  hc : c < N0
  lt : L ≠ t
  la : L ≠ a
  lb : L ≠ b
  lc : L ≠ c
  hv : ∀ g, v.ownBlock = some g → g < N0 ∧ g ≠ L
  wl : w.heap.size ≤ L
  wN : w.heap.size ≤ N0

theorem ChI.keep {w : World} {L t a b c N0 : Nat} {S : Stk} {v : Value} {n : Nat} {f : Nat → Int} {pre : List Int} {W W' : World} (h : ChI w L t a b c N0 S v n f pre W) (k : Kept W W') (hb : ChB w L t a b c N0 v) : ChI w L t a b c N0 S v n f pre W' := by
  obtain ⟨⟨u, h1, h2⟩, h3, h4, h5, h6, h7⟩ := h
  refine ⟨⟨u, (k.below.block _ (by have := hb.hl; omega)).trans h1, own_same h2 fun g hg => k.below.block g (h2.lt g hg).2⟩, k.some h3, h4.kept k, h5.trans k, Nat.le_trans h6 k.size, h7⟩
theorem ChI.turn {w : World} {L t a b c N0 : Nat} {S : Stk} {v : Value} {n : Nat} {f : Nat → Int} {pre : List Int} {W : World} {l : Nat} {y y' : Loop} (h : ChI w L t a b c N0 S v n f pre W) (hb : ChB w L t a b c N0 v) (hl : N0 ≤ l) (hy : W.heap[l]? = some (.loop y)) : ChI w L t a b c N0 S v n f pre (W.putObj l (.loop y')) := by
  obtain ⟨⟨u, h1, h2⟩, h3, h4, h5, h6, h7⟩ := h
  have k : But (fun k => k = l) W (W.putObj l (.loop y')) := but_turned (But.refl _ _) hy rfl rfl (.inl rfl)
  have := hb.hl
  have := hb.ht
  have := hb.ha
  have := hb.hb
  have := hb.hc
  have := hb.wN
  refine ⟨⟨u, (World.putObj_heap_other (by omega)).trans h1, ownsRow_putObj h2 _ hy rfl⟩, k.some h3 (by omega), h4.but k (by omega) (by omega) (by omega) (fun g hg e => by have := (hb.hv g hg).1; omega), ?_, Nat.le_trans h6 k.size, h7⟩
  exact (but_turned (h5.but (fun _ => False)) hy rfl rfl (.inr (by omega))).kept fun _ _ h => h

def GivesWords (mv : Value) (n : Nat) (f : Nat → Int) (w : World) : Prop :=
  ∀ W, Kept w W → Calls Try.prog 24 #[mv] W fun e w' => ∃ v, e = .returned v ∧ Wds w' v n f ∧ (∀ g, v.ownBlock = some g → W.heap.size ≤ g) ∧ Kept W w'

set_option maxHeartbeats 4000000 in
theorem chain_any (S : Stk) (mv : Value) (n : Nat) (f : Nat → Int) (hf : Wf n f) (w : World) (hg : GivesWords mv n f w) (hN : S.N ≤ 4096) :
    Calls Try.prog 19 #[.agg #[.int .i64 S.T, .int .i64 S.K, .int .i64 S.N], mv] w (RetI w (chn n f S)) := by
  have HG := Lib.hid hg
  have HF := Lib.hid hf
  clear hg hf
  refine (callsIn_wide (n := 6)).1 ?_
  refine callsIn_of_wp_marks Try.func19 rfl trivial ?_ rfl
  simp only [Try.ntmps19, List.size_toArray, List.length_cons, List.length_nil, Nat.reduceAdd, Nat.reduceSub, Array.replicate_succ, Array.replicate_zero, List.push_toArray, List.append_toArray, List.nil_append, List.cons_append]
  rw [wpIn_wide]
  go_upto_region 2 with fail
  obtain ⟨W1, hW1⟩ : ∃ W1, W1 = (w.alloc (.cells #[.int .i64 S.T, .int .i64 S.K, .int .i64 S.N] 23)).alloc (.cells #[.slice none 0 0] 62) := ⟨_, rfl⟩
  have t0 : W1.cell? ⟨w.heap.size, 0, none⟩ = some (.int .i64 S.T) := by rw [hW1]; exact ((Kept.refl _).alloc _ _).some (cell_new w _ _ _ 0 rfl)
  have t1 : W1.cell? ⟨w.heap.size, 1, none⟩ = some (.int .i64 S.K) := by rw [hW1]; exact ((Kept.refl _).alloc _ _).some (cell_new w _ _ _ 1 rfl)
  have t2 : W1.cell? ⟨w.heap.size, 2, none⟩ = some (.int .i64 S.N) := by rw [hW1]; exact ((Kept.refl _).alloc _ _).some (cell_new w _ _ _ 2 rfl)
  have bx : Boxed W1 (w.heap.size + 1) 62 (.slice none 0 0) := by
    rw [hW1]
    have := Boxed.new (w.alloc (.cells #[.int .i64 S.T, .int .i64 S.K, .int .i64 S.N] 23)) 62 (.slice none 0 0)
    simpa using this
  have k1 : Kept w W1 := by rw [hW1]; exact ((Kept.refl w).alloc _ _).alloc _ _
  have z1 : W1.heap.size = w.heap.size + 2 := by rw [hW1]; simp
  rw [← hW1]
  have Z1 := Lib.hid z1
  have K1 := Lib.hid k1
  have BX := Lib.hid bx
  clear hW1 k1 z1 bx
  go_region_held3 (fun w' => w'.cell? ⟨w.heap.size, 0, none⟩ = some (.int .i64 S.T) ∧ w'.cell? ⟨w.heap.size, 1, none⟩ = some (.int .i64 S.K) ∧ w'.cell? ⟨w.heap.size, 2, none⟩ = some (.int .i64 S.N)) (first | go_keep | (exact ⟨k2.some t0, k2.some t1, k2.some t2⟩) | (exact ⟨k3.some (k2.some t0), k3.some (k2.some t1), k3.some (k2.some t2)⟩)) (first
    | (go_at_call 24; refine (HG.out _ (K1.out.trans (by first | exact Kept.refl _ | exact (Kept.refl _).drew | exact (Kept.refl _).drewN _))).mono ?_; rintro e w2 ⟨v, rfl, wd, fv, k2⟩; have KT : Kept W1 w2 := Kept.trans (b := _) (by first | exact Kept.refl _ | exact (Kept.refl _).drew | exact (Kept.refl _).drewN _) k2)
    | (go_at_call 50; refine (indices_any S v n f _ (wd.kept (by first | exact Kept.refl _ | exact (Kept.refl _).drew | exact (Kept.refl _).drewN _))).mono ?_; rintro e w3 ⟨a, b, c, rfl, la, lb, lc, ha, hb, hc, bs, k3⟩; have KU : Kept W1 w3 := Kept.trans (b := _) (by first | exact KT | exact KT.drew | exact KT.drewN _) k3))
  have hb : ChB w (w.heap.size + 1) w.heap.size a b c w3.heap.size v := by
    have z3 := k3.size
    have z2 := KT.size
    have zz := Z1.out
    refine ⟨by omega, by omega, ha, hb, hc, by omega, by omega, by omega, by omega, fun g hg => ?_, by omega, by omega⟩
    have h4 : W1.heap.size ≤ g := fv g hg
    refine ⟨?_, by omega⟩
    rcases wd with ⟨_, rfl⟩ | ⟨g', cc, rfl, hg', _⟩
    · cases hg
    · have : g' = g := by simpa [Value.ownBlock] using hg
      omega
  have HBx := Lib.hid (show Boxed w3 (w.heap.size + 1) 62 (.slice none 0 0) from (KU.below.block _ (by have := Z1.out; omega)).trans BX.out)
  have HS := Lib.hid bs
  have HT := Lib.hid (KU.some t2)
  have HK := Lib.hid (K1.out.trans KU)
  have HB := Lib.hid hb
  have h3 : w.heap.size + 2 ≤ w3.heap.size := by have := Z1.out; have := KU.size; omega
  clear t0 t1 t2 k2 KT k3 KU bs wd fv la lb lc ha hb hc K1 BX Z1
  obtain ⟨i0, hi, hz0, hz1, hz2⟩ := info_parts infoInt
  rename_i hcells
  clear hcells
  go_wp2_with fail
  rename_i K hK0
  rw [← wpIn_wide (n := 6)]
  obtain ⟨NN, hNN⟩ : ∃ NN, NN = max S.N.toNat 1 := ⟨_, rfl⟩
  refine range_many (Bs := fun k => k = w.heap.size + 1 ∨ w3.heap.size + 1 + 1 ≤ k) (by decide) (gf := 69) (lb := #[.pointer (some ⟨c, 0, none⟩), .pointer (some ⟨a, 0, none⟩)]) rfl (enters_of Try.func69 (by kernel_rfl) rfl) (fun x : Int => Value.int .i64 x)
    (fun k h => h.elim (fun h => .inl (by omega)) .inr)
    (fun pre W => ChI w (w.heap.size + 1) w.heap.size a b c w3.heap.size S v n f pre W ∧ pre.length < NN)
    (fun cd pre W => cd = .exit 0 ∧ ChI w (w.heap.size + 1) w.heap.size a b c w3.heap.size S v n f pre W ∧ pre.length = S.N.toNat)
    (fun pre x => pre = sqs n f S pre.length ∧ x = sq n f S pre.length ∧ 0 ≤ x) (fun xs => ∃ k, xs = sqs n f S k ∧ sq n f S k < 0)
    ?_ ?_ ?_ ?_ ?_ ?_
    (fun x => { tmps := #[.agg #[.int .i64 S.T, .int .i64 S.K, .int .i64 S.N], mv, .pointer (some ⟨w.heap.size, 0, none⟩), undef, .slice none 0 0, .pointer (some ⟨w.heap.size + 1, 0, none⟩), .int .i64 x, .agg #[.int .i64 S.T, .int .i64 S.K, .int .i64 S.N], mv, v, .func (.func 69) #[] #[.pointer (some ⟨c, 0, none⟩), .pointer (some ⟨a, 0, none⟩)], .int .i64 x, undef, undef, undef, undef, undef, undef, undef, undef, undef, undef], defers := [] }) ?_ ?_ ?_ ?_
  · exact fun W k => ⟨⟨⟨_, (k.below.block _ (by omega)).trans HBx.out, World.ownsRow_nil _ _ _ _⟩, k.some HT.out, HS.out.kept k, HK.out.trans k, k.size, rfl, fun i h => absurd h (Nat.not_lt_zero _)⟩, by simp only [List.length_nil]; omega⟩
  · exact fun pre W W' h k => ⟨h.1.keep k HB.out, h.2⟩
  · exact fun pre W l y y' hl hy h => ⟨h.1.turn HB.out (by omega) hy, h.2⟩
  · exact fun cd pre W W' h k => ⟨h.1, h.2.1.keep k HB.out, h.2.2⟩
  · exact fun cd pre W l y y' hl hy h => ⟨h.1, h.2.1.turn HB.out (by omega) hy, h.2.2⟩
  · intro l W0 J Jx k0 z0 hl hJk hJb hY h0
    exact indices_in 5 (by decide) l a b c S v n f HF.out NN J Jx hJk (fun pre W h => ⟨(hJb pre W h).1.1.bx, (hJb pre W h).1.2⟩) hY W0 h0
  · intro l x W K hK
    gi_wp2
    exact hK
  · intro l pre x W hI hso hsz hbut
    obtain ⟨⟨⟨u, hu, hrow⟩, hst, hbx, hk, hs2, hpr1, hpr2⟩, hlt⟩ := hI
    obtain ⟨hso1, hso2, hso3⟩ := hso
    have hNp : x < S.N := by rw [hso2]; exact sq_pos (by rw [← hso2]; exact hso3)
    obtain ⟨k, hkk⟩ : ∃ k, k = pre.length := ⟨_, rfl⟩
    have hsx : ints (pre ++ [x]) = ints pre ++ [.int .i64 x] := ints_append _ _
    have hlx : (pre ++ [x]).length = k + 1 := by simp [hkk]
    have hpx : pre ++ [x] = sqs n f S (k + 1) := by rw [sqs_succ, hkk, ← hso2, ← hso1]
    have hpp : ∀ i, i < k + 1 → 0 ≤ sq n f S i := fun i hi => by
      by_cases e : i = k
      · subst e; rw [hkk, ← hso2]; exact hso3
      · exact hpr2 i (by omega)
    rw [hNN] at hlt
    have hk1 : k + 1 ≤ S.N.toNat := by omega
    have hk2 : k ≤ 4096 := by omega
    rw [← hkk] at hrow
    have HKK := Lib.hid hkk
    have HSX := Lib.hid hsx
    have HLX := Lib.hid hlx
    have HPX := Lib.hid hpx
    have HPP := Lib.hid hpp
    have HK1 := Lib.hid hk1
    have HN := Lib.hid hNN
    clear hsx hlx hpx hpp hso1 hso2 hpr1 hpr2 hlt hNN hkk
    have hcell := hu.cell
    by_cases hq : (k : Int) + 1 = S.N
    · have q1 : ((k : Int) + 1 == S.N) = true := by simp [hq]
      have q2 : (((k + 1 : Nat) : Int) == S.N) = true := by simp [hq]
      have HQ := Lib.hid hq
      clear hq hk1
      gi_wp2_with (gi_at_builtin; refine wpListIn_append_own _ rfl _ _ _ rfl (w3.heap.size + 2) 3 i0 _ 1 8 Try.underlying62 hi hz0 hz1 hz2 rfl (by decide) _ _ _ rfl (hrow.alloc _) ⟨W.heap.size, 0, none⟩ 1 1 [.int .i64 x] rfl rfl (cell_one_new _ _ _) (by simp [Value.oneCell']) (by unfold maxLen; omega) (by omega) (by simp; omega) ?_; intro v' w4 hown' hgrow _; obtain ⟨g', cap', rfl⟩ := ownsRow_succ hown'; obtain ⟨hv1, hv2, hr2, hk2', hb2⟩ := hu.appended (by decide) (own_mono hrow (by omega : w.heap.size ≤ _)) hk.size (Nat.le_add_right _ 1) (own_mono hown' (by omega : w.heap.size ≤ _)) hgrow; have hc1 := hv1.cell; have hf1 := hv1.frozen; have hN4 : w4.cell? ⟨w.heap.size, 2, none⟩ = some (.int .i64 S.N) := (World.cell?_of_block (hgrow.block w.heap.size (by simp; omega) (fun e => by have := (hrow.lt _ e.symm).1; omega))).trans (((Kept.refl W).alloc _ _).some hst))
      have own3 : (w4.setCell ⟨w.heap.size + 1, 0, none⟩ (.slice (some ⟨g', 0, none⟩) (k + 1) cap')).ownsRow (w3.heap.size + 2) 3 1 (.slice (some ⟨g', 0, none⟩) (k + 1) cap') (k + 1) (ints pre ++ [.int .i64 x]) :=
        own_same hown' fun g hg => by
          have := (hown'.lt g hg).1
          exact Below.heap_setCell _ _ _ _ (by simp; omega)
      have FB : Blk (fun k => k = w.heap.size + 1 ∨ w3.heap.size + 1 + 1 ≤ k) W (w4.setCell ⟨w.heap.size + 1, 0, none⟩ (.slice (some ⟨g', 0, none⟩) (k + 1) cap')) := by
        refine ⟨hb2.os, hb2.tape, hb2.output, hb2.size, fun i hi hni => ?_⟩
        rw [Below.heap_setCell _ _ _ _ (by simp; omega)]
        exact (hgrow.block i (by simp; omega) (fun e => by have := (hrow.lt i e.symm).1; omega)).trans (((Kept.refl W).alloc _ _).below.block i hi)
      have hB := HB.out
      have CI : ChI w (w.heap.size + 1) w.heap.size a b c w3.heap.size S v n f (pre ++ [x]) (w4.setCell ⟨w.heap.size + 1, 0, none⟩ (.slice (some ⟨g', 0, none⟩) (k + 1) cap')) := by
        refine ⟨⟨_, hv2, by rw [HLX.out, HSX.out]; exact own3⟩, by rw [cell_set_far _ _ _ _ _ _ (by omega)]; exact hN4, hbx.blk FB ?_ ?_ ?_ ?_, ⟨hk.below.trans hb2⟩, Nat.le_trans hs2 hb2.size, by rw [HLX.out]; exact HPX.out, by rw [HLX.out]; exact HPP.out⟩
        · have := hB.ha; have := hB.la; omega
        · have := hB.hb; have := hB.lb; omega
        · have := hB.hc; have := hB.lc; omega
        · intro g hg
          have := hB.hv g hg
          omega
      exact .inr ⟨.exit 0, .inr ⟨0, rfl, rfl⟩, ⟨rfl, CI, by rw [HLX.out]; have := HQ.out; omega⟩, FB⟩
    · have q1 : ((k : Int) + 1 == S.N) = false := by simp [hq]
      have q2 : (((k + 1 : Nat) : Int) == S.N) = false := by simp [hq]
      have HQ := Lib.hid hq
      clear hq hk1
      gi_wp2_with (gi_at_builtin; refine wpListIn_append_own _ rfl _ _ _ rfl (w3.heap.size + 2) 3 i0 _ 1 8 Try.underlying62 hi hz0 hz1 hz2 rfl (by decide) _ _ _ rfl (hrow.alloc _) ⟨W.heap.size, 0, none⟩ 1 1 [.int .i64 x] rfl rfl (cell_one_new _ _ _) (by simp [Value.oneCell']) (by unfold maxLen; omega) (by omega) (by simp; omega) ?_; intro v' w4 hown' hgrow _; obtain ⟨g', cap', rfl⟩ := ownsRow_succ hown'; obtain ⟨hv1, hv2, hr2, hk2', hb2⟩ := hu.appended (by decide) (own_mono hrow (by omega : w.heap.size ≤ _)) hk.size (Nat.le_add_right _ 1) (own_mono hown' (by omega : w.heap.size ≤ _)) hgrow; have hc1 := hv1.cell; have hf1 := hv1.frozen; have hN4 : w4.cell? ⟨w.heap.size, 2, none⟩ = some (.int .i64 S.N) := (World.cell?_of_block (hgrow.block w.heap.size (by simp; omega) (fun e => by have := (hrow.lt _ e.symm).1; omega))).trans (((Kept.refl W).alloc _ _).some hst))
      have own3 : (w4.setCell ⟨w.heap.size + 1, 0, none⟩ (.slice (some ⟨g', 0, none⟩) (k + 1) cap')).ownsRow (w3.heap.size + 2) 3 1 (.slice (some ⟨g', 0, none⟩) (k + 1) cap') (k + 1) (ints pre ++ [.int .i64 x]) :=
        own_same hown' fun g hg => by
          have := (hown'.lt g hg).1
          exact Below.heap_setCell _ _ _ _ (by simp; omega)
      have FB : Blk (fun k => k = w.heap.size + 1 ∨ w3.heap.size + 1 + 1 ≤ k) W (w4.setCell ⟨w.heap.size + 1, 0, none⟩ (.slice (some ⟨g', 0, none⟩) (k + 1) cap')) := by
        refine ⟨hb2.os, hb2.tape, hb2.output, hb2.size, fun i hi hni => ?_⟩
        rw [Below.heap_setCell _ _ _ _ (by simp; omega)]
        exact (hgrow.block i (by simp; omega) (fun e => by have := (hrow.lt i e.symm).1; omega)).trans (((Kept.refl W).alloc _ _).below.block i hi)
      have hB := HB.out
      have CI : ChI w (w.heap.size + 1) w.heap.size a b c w3.heap.size S v n f (pre ++ [x]) (w4.setCell ⟨w.heap.size + 1, 0, none⟩ (.slice (some ⟨g', 0, none⟩) (k + 1) cap')) := by
        refine ⟨⟨_, hv2, by rw [HLX.out, HSX.out]; exact own3⟩, by rw [cell_set_far _ _ _ _ _ _ (by omega)]; exact hN4, hbx.blk FB ?_ ?_ ?_ ?_, ⟨hk.below.trans hb2⟩, Nat.le_trans hs2 hb2.size, by rw [HLX.out]; exact HPX.out, by rw [HLX.out]; exact HPP.out⟩
        · have := hB.ha; have := hB.la; omega
        · have := hB.hb; have := hB.lb; omega
        · have := hB.hc; have := hB.lc; omega
        · intro g hg
          have := hB.hv g hg
          omega
      refine .inl ⟨⟨CI, ?_⟩, FB⟩
      rw [HN.out]
      have := HKK.out
      have := HQ.out
      have := HK1.out
      omega
  · intro D xs W hN hI hbut hD hd
    obtain ⟨⟨⟨u, hu, hrow⟩, hst, hbx, hk, hs2, hpr1, hpr2⟩, hlt⟩ := hI
    obtain ⟨k, hx, hneg⟩ := hN
    have hl : xs.length = k := by rw [hx]; exact sqs_length _ _ _ _
    have hc : chn n f S = xs := by rw [hx]; exact chn_eq (by rw [hNN] at hlt; omega) (by rw [← hl]; exact hpr2) (.inl hneg)
    have hDw : w.heap.size ≤ D := by omega
    have bD : Blk (fun _ => False) w (W.putObj D (.deferred none)) := Blk.turned (Blk.of (hk.but _)) hd (Or.inr hDw)
    have kD : Kept w (W.putObj D (.deferred none)) := bD.kept (fun _ _ h => h)
    have HCN := Lib.hid hc
    clear hc hl hx hneg hlt hpr1 hpr2 hst hbx hNN
    apply hK0
    have hcell := hu.cell
    go_wp2
    obtain ⟨a', c', rfl⟩ := own_form hrow
    refine ⟨by simp, .inl ⟨_, _, rfl, run_takeDeferred hd, ?_⟩⟩
    rw [HCN.out]
    exact ⟨.slice a' xs.length c', by simp [results, Try.results19, go_sem], a', c', rfl, kD, own_mono (ownsRow_putObj hrow _ hd rfl) (by have := HB.out.wN; omega)⟩
  · intro D cd xs W hI hbut hD hd
    obtain ⟨rfl, ⟨⟨u, hu, hrow⟩, hst, hbx, hk, hs2, hpr1, hpr2⟩, hlen⟩ := hI
    have hc : chn n f S = xs := by
      refine Eq.trans ?_ hpr1.symm
      exact chn_eq (by omega) hpr2 (.inr hlen)
    have HCN := Lib.hid hc
    clear hc hpr1 hpr2 hst hbx hNN hlen
    have hDw : w.heap.size ≤ D := by omega
    have bD : Blk (fun _ => False) w (W.putObj D (.deferred none)) := Blk.turned (Blk.of (hk.but _)) hd (Or.inr hDw)
    have kD : Kept w (W.putObj D (.deferred none)) := bD.kept (fun _ _ h => h)
    have hcell := hu.cell
    obtain ⟨a', c', rfl⟩ := own_form hrow
    rw [wpIn_wide]
    go_wp2
    refine ⟨by simp, .inl ⟨_, _, rfl, run_takeDeferred hd, ?_⟩⟩
    rw [HCN.out]
    exact ⟨.slice a' xs.length c', by simp [results, Try.results19, go_sem], a', c', rfl, kD, own_mono (ownsRow_putObj hrow _ hd rfl) (by have := HB.out.wN; omega)⟩
end Go.Proofs.Ytmbdgaflmiacnaa.Sk

namespace Go.Proofs.Ytmbdgaflmiacnaa.Sk
set_option maxRecDepth 20000
open Go.RowKit
open Wo (St acc wordAt PMem RefIs)

theorem idx_zero (N : Int) : idx N 0 = -1 := by unfold idx; split <;> omega
theorem atV_word (n : Nat) (s : St) (N x : Int) : atV n s.ws N x = idx N (wordAt n s x) := by
  unfold atV Wo.wordAt
  split
  · rfl
  · rw [idx_zero]
theorem sq_zero (n : Nat) (s : St) (S : Stk) : sq n s.ws S 0 = idx S.N (wordAt n s S.T) := atV_word _ _ _ _
theorem sq_next (n : Nat) (s : St) (S : Stk) (k : Nat) (h : S.Ok n) (hk : 0 ≤ sq n s.ws S k) : sq n s.ws S (k + 1) = idx S.N (wordAt n s (S.K + sq n s.ws S k)) := by
  have h1 := sq_pos hk
  have := h.N2
  have := h.K1
  have := h.K2
  have := h.n2
  have := h.N1
  have e : wrap64 (S.K + sq n s.ws S k) = S.K + sq n s.ws S k := by unfold wrap64; omega
  show atV n s.ws S.N (wrap64 (S.K + sq n s.ws S k)) = _
  rw [e, atV_word]

theorem gives_mem {w : World} {M B n : Nat} {s : St} (hm : PMem w M B n s) : GivesWords (.pointer (some ⟨M, 0, none⟩)) n s.ws w := fun W k =>
  (p_words M B n s W (pmem_kept hm k)).mono fun _ _ ⟨b, c, x, y, z, u, _, k'⟩ => ⟨_, x, .inr ⟨b, c, rfl, z, u⟩, fun g hg => by
    have : b = g := by simpa [Value.ownBlock] using hg
    omega, k'⟩
theorem wf_of {n : Nat} {s : St} (h : Wd n s) : Wf n s.ws := fun i _ => ⟨h.lo i, h.hi i⟩

theorem p_chain {w : World} {M B n : Nat} {s : St} (S : Stk) (hm : PMem w M B n s) (hs : Wd n s) (hS : S.Ok n) :
    Calls Try.prog 19 #[.agg #[.int .i64 S.T, .int .i64 S.K, .int .i64 S.N], .pointer (some ⟨M, 0, none⟩)] w (RetI w (chn n s.ws S)) :=
  chain_any S _ n s.ws (wf_of hs) w (gives_mem hm) hS.N2

theorem retI_of {w w' : World} {n : Nat} {f : Nat → Int} {S : Stk} {k : Nat} {a : Option Addr} {c base : Nat} (h : w'.ownsRow base 3 1 (.slice a k c) k (ints (sqs n f S k))) (k1 : Kept w w') (hb : w.heap.size ≤ base) (E : chn n f S = sqs n f S k) : RetI w (chn n f S) (.returned (.slice a k c)) w' := by
  rw [E]
  exact ⟨a, c, by rw [sqs_length], k1, by rw [sqs_length]; exact own_mono h hb⟩
def lenV : Value → Nat
  | .slice _ n _ => n
  | _ => 0
end Go.Proofs.Ytmbdgaflmiacnaa.Sk

namespace Go.Proofs.Ytmbdgaflmiacnaa.Sk
set_option maxRecDepth 20000
open Go.RowKit
open Wo (St acc wordAt PMem RefIs)

def fitsE (S : Stk) (n : Int) : Int :=
  if n < 1 ∨ 4096 < n then 3
  else if S.N < 1 ∨ 4096 < S.N ∨ S.T < 0 ∨ n ≤ S.T ∨ S.K < 0 ∨ n - S.N < S.K ∨ (S.K ≤ S.T ∧ S.T < S.K + S.N) then 2 else 0
theorem fitsE_ok {S : Stk} {n : Int} (h : fitsE S n = 0) : S.Ok n.toNat ∧ 1 ≤ n ∧ n ≤ 4096 := by
  unfold fitsE at h
  split at h
  · omega
  · split at h
    · omega
    · exact ⟨⟨by omega, by omega, by omega, by omega, by omega, by omega, by omega, by omega, by omega⟩, by omega, by omega⟩
theorem fitsE_is (S : Stk) (n : Int) : fitsE S n = 0 ∨ fitsE S n = 2 ∨ fitsE S n = 3 := by
  unfold fitsE
  split
  · simp
  · split <;> simp

set_option maxHeartbeats 400000 in
theorem sized_yes (S : Stk) (w : World) (h0 : 1 ≤ S.N) (h1 : S.N ≤ 4096) : Calls Try.prog 44 #[.agg #[.int .i64 S.T, .int .i64 S.K, .int .i64 S.N]] w fun e w' => e = .returned (.bool true) ∧ Kept w w' := by
  go_enter Try.func44, Try.ntmps44
  go_wp2
  go_ret
  exact ⟨rfl, by (go_light; repeat (first | (with_reducible exact Kept.refl _) | (with_reducible assumption) | (with_reducible refine Kept.alloc ?_ _ _) | (with_reducible refine Kept.drew ?_) | (with_reducible refine Kept.drewN ?_ _) | ((with_reducible refine Kept.setCell ?_ ?_ _); rotate_left; focus (first | (simp; done) | (simp; omega))) | refine Kept.trans ?_ (by assumption)))⟩
set_option maxHeartbeats 400000 in
theorem sized_no (S : Stk) (w : World) (h : S.N < 1 ∨ 4096 < S.N) : Calls Try.prog 44 #[.agg #[.int .i64 S.T, .int .i64 S.K, .int .i64 S.N]] w fun e w' => e = .returned (.bool false) ∧ Kept w w' := by
  rcases h with h | h
  · go_enter Try.func44, Try.ntmps44
    go_wp2
    go_ret
    exact ⟨rfl, by (go_light; repeat (first | (with_reducible exact Kept.refl _) | (with_reducible assumption) | (with_reducible refine Kept.alloc ?_ _ _) | (with_reducible refine Kept.drew ?_) | (with_reducible refine Kept.drewN ?_ _) | ((with_reducible refine Kept.setCell ?_ ?_ _); rotate_left; focus (first | (simp; done) | (simp; omega))) | refine Kept.trans ?_ (by assumption)))⟩
  · have h0 : 1 ≤ S.N := by omega
    have h2 : decide (S.N ≤ 4096) = false := by simp; omega
    go_enter Try.func44, Try.ntmps44
    go_wp2
    go_ret
    exact ⟨rfl, by (go_light; repeat (first | (with_reducible exact Kept.refl _) | (with_reducible assumption) | (with_reducible refine Kept.alloc ?_ _ _) | (with_reducible refine Kept.drew ?_) | (with_reducible refine Kept.drewN ?_ _) | ((with_reducible refine Kept.setCell ?_ ?_ _); rotate_left; focus (first | (simp; done) | (simp; omega))) | refine Kept.trans ?_ (by assumption)))⟩
set_option maxHeartbeats 1000000 in
theorem pfits_n1 (S : Stk) (n : Int) (w : World) (c0 : n < 1) : Calls Try.prog 26 #[.agg #[.int .i64 S.T, .int .i64 S.K, .int .i64 S.N], .int .i64 n] w fun e w' => e = .returned (.int .i64 3) ∧ Kept w w' := by
  go_enter Try.func26, Try.ntmps26
  go_wp2
  go_ret
  exact ⟨rfl, by (go_light; repeat (first | (with_reducible exact Kept.refl _) | (with_reducible assumption) | (with_reducible refine Kept.alloc ?_ _ _) | (with_reducible refine Kept.drew ?_) | (with_reducible refine Kept.drewN ?_ _) | ((with_reducible refine Kept.setCell ?_ ?_ _); rotate_left; focus (first | (simp; done) | (simp; omega))) | refine Kept.trans ?_ (by assumption)))⟩
set_option maxHeartbeats 1000000 in
theorem pfits_n2 (S : Stk) (n : Int) (w : World) (c0 : 1 ≤ n) (c1 : 4096 < n) : Calls Try.prog 26 #[.agg #[.int .i64 S.T, .int .i64 S.K, .int .i64 S.N], .int .i64 n] w fun e w' => e = .returned (.int .i64 3) ∧ Kept w w' := by
  go_enter Try.func26, Try.ntmps26
  go_wp2
  go_ret
  exact ⟨rfl, by (go_light; repeat (first | (with_reducible exact Kept.refl _) | (with_reducible assumption) | (with_reducible refine Kept.alloc ?_ _ _) | (with_reducible refine Kept.drew ?_) | (with_reducible refine Kept.drewN ?_ _) | ((with_reducible refine Kept.setCell ?_ ?_ _); rotate_left; focus (first | (simp; done) | (simp; omega))) | refine Kept.trans ?_ (by assumption)))⟩
set_option maxHeartbeats 1000000 in
theorem pfits_N1 (S : Stk) (n : Int) (w : World) (c0 : 1 ≤ n) (c1 : n ≤ 4096) (c2 : S.N < 1) : Calls Try.prog 26 #[.agg #[.int .i64 S.T, .int .i64 S.K, .int .i64 S.N], .int .i64 n] w fun e w' => e = .returned (.int .i64 2) ∧ Kept w w' := by
  go_enter Try.func26, Try.ntmps26
  go_wp2_with fail
  refine (sized_no S _ (by omega)).mono ?_
  rintro e w1 ⟨rfl, k1⟩
  have a0 : w1.cell? ⟨w.heap.size, 0, none⟩ = some (.int .i64 S.T) := k1.some (by simp)
  have a1 : w1.cell? ⟨w.heap.size, 1, none⟩ = some (.int .i64 S.K) := k1.some (by simp)
  have a2 : w1.cell? ⟨w.heap.size, 2, none⟩ = some (.int .i64 S.N) := k1.some (by simp)
  go_wp2
  go_ret
  exact ⟨rfl, by (go_light; repeat (first | (with_reducible exact Kept.refl _) | (with_reducible assumption) | (with_reducible refine Kept.alloc ?_ _ _) | (with_reducible refine Kept.drew ?_) | (with_reducible refine Kept.drewN ?_ _) | ((with_reducible refine Kept.setCell ?_ ?_ _); rotate_left; focus (first | (simp; done) | (simp; omega))) | refine Kept.trans ?_ (by assumption)))⟩
set_option maxHeartbeats 1000000 in
theorem pfits_N2 (S : Stk) (n : Int) (w : World) (c0 : 1 ≤ n) (c1 : n ≤ 4096) (c2 : 1 ≤ S.N) (c3 : 4096 < S.N) : Calls Try.prog 26 #[.agg #[.int .i64 S.T, .int .i64 S.K, .int .i64 S.N], .int .i64 n] w fun e w' => e = .returned (.int .i64 2) ∧ Kept w w' := by
  go_enter Try.func26, Try.ntmps26
  go_wp2_with fail
  refine (sized_no S _ (by omega)).mono ?_
  rintro e w1 ⟨rfl, k1⟩
  have a0 : w1.cell? ⟨w.heap.size, 0, none⟩ = some (.int .i64 S.T) := k1.some (by simp)
  have a1 : w1.cell? ⟨w.heap.size, 1, none⟩ = some (.int .i64 S.K) := k1.some (by simp)
  have a2 : w1.cell? ⟨w.heap.size, 2, none⟩ = some (.int .i64 S.N) := k1.some (by simp)
  go_wp2
  go_ret
  exact ⟨rfl, by (go_light; repeat (first | (with_reducible exact Kept.refl _) | (with_reducible assumption) | (with_reducible refine Kept.alloc ?_ _ _) | (with_reducible refine Kept.drew ?_) | (with_reducible refine Kept.drewN ?_ _) | ((with_reducible refine Kept.setCell ?_ ?_ _); rotate_left; focus (first | (simp; done) | (simp; omega))) | refine Kept.trans ?_ (by assumption)))⟩
set_option maxHeartbeats 1000000 in
theorem pfits_T1 (S : Stk) (n : Int) (w : World) (c0 : 1 ≤ n) (c1 : n ≤ 4096) (c2 : 1 ≤ S.N) (c3 : S.N ≤ 4096) (c4 : S.T < 0) : Calls Try.prog 26 #[.agg #[.int .i64 S.T, .int .i64 S.K, .int .i64 S.N], .int .i64 n] w fun e w' => e = .returned (.int .i64 2) ∧ Kept w w' := by
  go_enter Try.func26, Try.ntmps26
  go_wp2_with fail
  refine (sized_yes S _ c2 c3).mono ?_
  rintro e w1 ⟨rfl, k1⟩
  have a0 : w1.cell? ⟨w.heap.size, 0, none⟩ = some (.int .i64 S.T) := k1.some (by simp)
  have a1 : w1.cell? ⟨w.heap.size, 1, none⟩ = some (.int .i64 S.K) := k1.some (by simp)
  have a2 : w1.cell? ⟨w.heap.size, 2, none⟩ = some (.int .i64 S.N) := k1.some (by simp)
  go_wp2
  go_ret
  exact ⟨rfl, by (go_light; repeat (first | (with_reducible exact Kept.refl _) | (with_reducible assumption) | (with_reducible refine Kept.alloc ?_ _ _) | (with_reducible refine Kept.drew ?_) | (with_reducible refine Kept.drewN ?_ _) | ((with_reducible refine Kept.setCell ?_ ?_ _); rotate_left; focus (first | (simp; done) | (simp; omega))) | refine Kept.trans ?_ (by assumption)))⟩
set_option maxHeartbeats 1000000 in
theorem pfits_T2 (S : Stk) (n : Int) (w : World) (c0 : 1 ≤ n) (c1 : n ≤ 4096) (c2 : 1 ≤ S.N) (c3 : S.N ≤ 4096) (c4 : 0 ≤ S.T) (c5 : n ≤ S.T) : Calls Try.prog 26 #[.agg #[.int .i64 S.T, .int .i64 S.K, .int .i64 S.N], .int .i64 n] w fun e w' => e = .returned (.int .i64 2) ∧ Kept w w' := by
  go_enter Try.func26, Try.ntmps26
  go_wp2_with fail
  refine (sized_yes S _ c2 c3).mono ?_
  rintro e w1 ⟨rfl, k1⟩
  have a0 : w1.cell? ⟨w.heap.size, 0, none⟩ = some (.int .i64 S.T) := k1.some (by simp)
  have a1 : w1.cell? ⟨w.heap.size, 1, none⟩ = some (.int .i64 S.K) := k1.some (by simp)
  have a2 : w1.cell? ⟨w.heap.size, 2, none⟩ = some (.int .i64 S.N) := k1.some (by simp)
  go_wp2
  go_ret
  exact ⟨rfl, by (go_light; repeat (first | (with_reducible exact Kept.refl _) | (with_reducible assumption) | (with_reducible refine Kept.alloc ?_ _ _) | (with_reducible refine Kept.drew ?_) | (with_reducible refine Kept.drewN ?_ _) | ((with_reducible refine Kept.setCell ?_ ?_ _); rotate_left; focus (first | (simp; done) | (simp; omega))) | refine Kept.trans ?_ (by assumption)))⟩
set_option maxHeartbeats 1000000 in
theorem pfits_K1 (S : Stk) (n : Int) (w : World) (c0 : 1 ≤ n) (c1 : n ≤ 4096) (c2 : 1 ≤ S.N) (c3 : S.N ≤ 4096) (c4 : 0 ≤ S.T) (c5 : S.T < n) (c6 : S.K < 0) : Calls Try.prog 26 #[.agg #[.int .i64 S.T, .int .i64 S.K, .int .i64 S.N], .int .i64 n] w fun e w' => e = .returned (.int .i64 2) ∧ Kept w w' := by
  go_enter Try.func26, Try.ntmps26
  go_wp2_with fail
  refine (sized_yes S _ c2 c3).mono ?_
  rintro e w1 ⟨rfl, k1⟩
  have a0 : w1.cell? ⟨w.heap.size, 0, none⟩ = some (.int .i64 S.T) := k1.some (by simp)
  have a1 : w1.cell? ⟨w.heap.size, 1, none⟩ = some (.int .i64 S.K) := k1.some (by simp)
  have a2 : w1.cell? ⟨w.heap.size, 2, none⟩ = some (.int .i64 S.N) := k1.some (by simp)
  go_wp2
  go_ret
  exact ⟨rfl, by (go_light; repeat (first | (with_reducible exact Kept.refl _) | (with_reducible assumption) | (with_reducible refine Kept.alloc ?_ _ _) | (with_reducible refine Kept.drew ?_) | (with_reducible refine Kept.drewN ?_ _) | ((with_reducible refine Kept.setCell ?_ ?_ _); rotate_left; focus (first | (simp; done) | (simp; omega))) | refine Kept.trans ?_ (by assumption)))⟩
set_option maxHeartbeats 1000000 in
theorem pfits_K2 (S : Stk) (n : Int) (w : World) (c0 : 1 ≤ n) (c1 : n ≤ 4096) (c2 : 1 ≤ S.N) (c3 : S.N ≤ 4096) (c4 : 0 ≤ S.T) (c5 : S.T < n) (c6 : 0 ≤ S.K) (c7 : n - S.N < S.K) : Calls Try.prog 26 #[.agg #[.int .i64 S.T, .int .i64 S.K, .int .i64 S.N], .int .i64 n] w fun e w' => e = .returned (.int .i64 2) ∧ Kept w w' := by
  go_enter Try.func26, Try.ntmps26
  go_wp2_with fail
  refine (sized_yes S _ c2 c3).mono ?_
  rintro e w1 ⟨rfl, k1⟩
  have a0 : w1.cell? ⟨w.heap.size, 0, none⟩ = some (.int .i64 S.T) := k1.some (by simp)
  have a1 : w1.cell? ⟨w.heap.size, 1, none⟩ = some (.int .i64 S.K) := k1.some (by simp)
  have a2 : w1.cell? ⟨w.heap.size, 2, none⟩ = some (.int .i64 S.N) := k1.some (by simp)
  go_wp2
  go_ret
  exact ⟨rfl, by (go_light; repeat (first | (with_reducible exact Kept.refl _) | (with_reducible assumption) | (with_reducible refine Kept.alloc ?_ _ _) | (with_reducible refine Kept.drew ?_) | (with_reducible refine Kept.drewN ?_ _) | ((with_reducible refine Kept.setCell ?_ ?_ _); rotate_left; focus (first | (simp; done) | (simp; omega))) | refine Kept.trans ?_ (by assumption)))⟩
set_option maxHeartbeats 1000000 in
theorem pfits_ap (S : Stk) (n : Int) (w : World) (c0 : 1 ≤ n) (c1 : n ≤ 4096) (c2 : 1 ≤ S.N) (c3 : S.N ≤ 4096) (c4 : 0 ≤ S.T) (c5 : S.T < n) (c6 : 0 ≤ S.K) (c7 : S.K ≤ n - S.N) (c8 : S.K ≤ S.T) (c9 : S.T < S.K + S.N) : Calls Try.prog 26 #[.agg #[.int .i64 S.T, .int .i64 S.K, .int .i64 S.N], .int .i64 n] w fun e w' => e = .returned (.int .i64 2) ∧ Kept w w' := by
  go_enter Try.func26, Try.ntmps26
  go_wp2_with fail
  refine (sized_yes S _ c2 c3).mono ?_
  rintro e w1 ⟨rfl, k1⟩
  have a0 : w1.cell? ⟨w.heap.size, 0, none⟩ = some (.int .i64 S.T) := k1.some (by simp)
  have a1 : w1.cell? ⟨w.heap.size, 1, none⟩ = some (.int .i64 S.K) := k1.some (by simp)
  have a2 : w1.cell? ⟨w.heap.size, 2, none⟩ = some (.int .i64 S.N) := k1.some (by simp)
  go_wp2
  go_ret
  exact ⟨rfl, by (go_light; repeat (first | (with_reducible exact Kept.refl _) | (with_reducible assumption) | (with_reducible refine Kept.alloc ?_ _ _) | (with_reducible refine Kept.drew ?_) | (with_reducible refine Kept.drewN ?_ _) | ((with_reducible refine Kept.setCell ?_ ?_ _); rotate_left; focus (first | (simp; done) | (simp; omega))) | refine Kept.trans ?_ (by assumption)))⟩
set_option maxHeartbeats 1000000 in
theorem pfits_lo (S : Stk) (n : Int) (w : World) (c0 : 1 ≤ n) (c1 : n ≤ 4096) (c2 : 1 ≤ S.N) (c3 : S.N ≤ 4096) (c4 : 0 ≤ S.T) (c5 : S.T < n) (c6 : 0 ≤ S.K) (c7 : S.K ≤ n - S.N) (c8 : S.T < S.K) : Calls Try.prog 26 #[.agg #[.int .i64 S.T, .int .i64 S.K, .int .i64 S.N], .int .i64 n] w fun e w' => e = .returned (.int .i64 0) ∧ Kept w w' := by
  go_enter Try.func26, Try.ntmps26
  go_wp2_with fail
  refine (sized_yes S _ c2 c3).mono ?_
  rintro e w1 ⟨rfl, k1⟩
  have a0 : w1.cell? ⟨w.heap.size, 0, none⟩ = some (.int .i64 S.T) := k1.some (by simp)
  have a1 : w1.cell? ⟨w.heap.size, 1, none⟩ = some (.int .i64 S.K) := k1.some (by simp)
  have a2 : w1.cell? ⟨w.heap.size, 2, none⟩ = some (.int .i64 S.N) := k1.some (by simp)
  go_wp2
  go_ret
  exact ⟨rfl, by (go_light; repeat (first | (with_reducible exact Kept.refl _) | (with_reducible assumption) | (with_reducible refine Kept.alloc ?_ _ _) | (with_reducible refine Kept.drew ?_) | (with_reducible refine Kept.drewN ?_ _) | ((with_reducible refine Kept.setCell ?_ ?_ _); rotate_left; focus (first | (simp; done) | (simp; omega))) | refine Kept.trans ?_ (by assumption)))⟩
set_option maxHeartbeats 1000000 in
theorem pfits_hi (S : Stk) (n : Int) (w : World) (c0 : 1 ≤ n) (c1 : n ≤ 4096) (c2 : 1 ≤ S.N) (c3 : S.N ≤ 4096) (c4 : 0 ≤ S.T) (c5 : S.T < n) (c6 : 0 ≤ S.K) (c7 : S.K ≤ n - S.N) (c8 : S.K ≤ S.T) (c9 : S.K + S.N ≤ S.T) : Calls Try.prog 26 #[.agg #[.int .i64 S.T, .int .i64 S.K, .int .i64 S.N], .int .i64 n] w fun e w' => e = .returned (.int .i64 0) ∧ Kept w w' := by
  go_enter Try.func26, Try.ntmps26
  go_wp2_with fail
  refine (sized_yes S _ c2 c3).mono ?_
  rintro e w1 ⟨rfl, k1⟩
  have a0 : w1.cell? ⟨w.heap.size, 0, none⟩ = some (.int .i64 S.T) := k1.some (by simp)
  have a1 : w1.cell? ⟨w.heap.size, 1, none⟩ = some (.int .i64 S.K) := k1.some (by simp)
  have a2 : w1.cell? ⟨w.heap.size, 2, none⟩ = some (.int .i64 S.N) := k1.some (by simp)
  go_wp2
  go_ret
  exact ⟨rfl, by (go_light; repeat (first | (with_reducible exact Kept.refl _) | (with_reducible assumption) | (with_reducible refine Kept.alloc ?_ _ _) | (with_reducible refine Kept.drew ?_) | (with_reducible refine Kept.drewN ?_ _) | ((with_reducible refine Kept.setCell ?_ ?_ _); rotate_left; focus (first | (simp; done) | (simp; omega))) | refine Kept.trans ?_ (by assumption)))⟩
theorem pfits_any (S : Stk) (n : Int) (w : World) : Calls Try.prog 26 #[.agg #[.int .i64 S.T, .int .i64 S.K, .int .i64 S.N], .int .i64 n] w fun e w' => e = .returned (.int .i64 (fitsE S n)) ∧ Kept w w' := by
  have E : ∀ {v : Int}, fitsE S n = v → (Calls Try.prog 26 #[.agg #[.int .i64 S.T, .int .i64 S.K, .int .i64 S.N], .int .i64 n] w fun e w' => e = .returned (.int .i64 v) ∧ Kept w w') → (Calls Try.prog 26 #[.agg #[.int .i64 S.T, .int .i64 S.K, .int .i64 S.N], .int .i64 n] w fun e w' => e = .returned (.int .i64 (fitsE S n)) ∧ Kept w w') := fun h k => h ▸ k
  by_cases x0 : n < 1
  · exact E (by unfold fitsE; rw [if_pos (by omega)]) (pfits_n1 S n w (by omega))
  by_cases x1 : 4096 < n
  · exact E (by unfold fitsE; rw [if_pos (by omega)]) (pfits_n2 S n w (by omega) (by omega))
  by_cases x2 : S.N < 1
  · exact E (by unfold fitsE; rw [if_neg (by omega), if_pos (by omega)]) (pfits_N1 S n w (by omega) (by omega) (by omega))
  by_cases x3 : 4096 < S.N
  · exact E (by unfold fitsE; rw [if_neg (by omega), if_pos (by omega)]) (pfits_N2 S n w (by omega) (by omega) (by omega) (by omega))
  by_cases x4 : S.T < 0
  · exact E (by unfold fitsE; rw [if_neg (by omega), if_pos (by omega)]) (pfits_T1 S n w (by omega) (by omega) (by omega) (by omega) (by omega))
  by_cases x5 : n ≤ S.T
  · exact E (by unfold fitsE; rw [if_neg (by omega), if_pos (by omega)]) (pfits_T2 S n w (by omega) (by omega) (by omega) (by omega) (by omega) (by omega))
  by_cases x6 : S.K < 0
  · exact E (by unfold fitsE; rw [if_neg (by omega), if_pos (by omega)]) (pfits_K1 S n w (by omega) (by omega) (by omega) (by omega) (by omega) (by omega) (by omega))
  by_cases x7 : n - S.N < S.K
  · exact E (by unfold fitsE; rw [if_neg (by omega), if_pos (by omega)]) (pfits_K2 S n w (by omega) (by omega) (by omega) (by omega) (by omega) (by omega) (by omega) (by omega))
  by_cases x8 : S.K ≤ S.T
  · by_cases x9 : S.T < S.K + S.N
    · exact E (by unfold fitsE; rw [if_neg (by omega), if_pos (by omega)]) (pfits_ap S n w (by omega) (by omega) (by omega) (by omega) (by omega) (by omega) (by omega) (by omega) (by omega) (by omega))
    · exact E (by unfold fitsE; rw [if_neg (by omega), if_neg (by omega)]) (pfits_hi S n w (by omega) (by omega) (by omega) (by omega) (by omega) (by omega) (by omega) (by omega) (by omega) (by omega))
  · exact E (by unfold fitsE; rw [if_neg (by omega), if_neg (by omega)]) (pfits_lo S n w (by omega) (by omega) (by omega) (by omega) (by omega) (by omega) (by omega) (by omega) (by omega))
end Go.Proofs.Ytmbdgaflmiacnaa.Sk
