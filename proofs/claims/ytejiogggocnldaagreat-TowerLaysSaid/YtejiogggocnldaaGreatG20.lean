/- A Lay, the program's: how it is made, its steps, what it tells. Written by gen15e.py. -/
import Derived.Test.YtejiogggocnldaaGreatG09
import Derived.Test.YtejiogggocnldaaGreatG06
import Derived.Laws.EntriesVeiled
import Derived.Deep.RegionLaw
set_option linter.unusedVariables false
set_option linter.unusedSimpArgs false

namespace Go.Proofs.YtejiogggocnldaaGreat.Tw
set_option maxRecDepth 20000
open Go.RowKit
open Wo (St acc wordAt PMem RefIs)
open Sk (Stk Arn idx Wd p_store pmem_lt pmem_kept pmem_frame kept_of)

theorem nx_nil (w : World) : (binOp .eql 143 .nilFunc .nilFunc).run Tryz.prog w = .ok (.bool true) w := by
  kernel_rfl
theorem nx_func (f : Fn) (x y : Array Value) (w : World) : (binOp .eql 143 (.func f x y) .nilFunc).run Tryz.prog w = .ok (.bool false) w := by
  kernel_rfl
def gri (n : Int) : Int := bif Wo.goodRef n then Wo.rIdx n else 0
def grg (n : Int) : Int := bif Wo.goodRef n then Wo.rGen n else 0
def grm (n : Int) : Bool := bif Wo.goodRef n then Wo.markOf n else false
def gre (n : Int) : Int := bif Wo.goodRef n then 0 else 5
theorem get_ref (n : Int) (w : World) (h0 : 0 ≤ n) (h1 : n < 18446744073709551616) : Calls Tryz.prog 143 #[.int .u64 n] w fun e w' => e = .returned (.tuple #[.agg #[.int .i64 (gri n), .int .i64 (grg n), .bool (grm n)], .int .i64 (gre n)]) ∧ Kept w w' := by
  cases hg : Wo.goodRef n with
  | true =>
    have h := Wo.get_ref_yes n w h0 h1 hg
    simp only [gri, grg, grm, gre, hg, cond_true]
    exact h.mono fun _ _ ⟨x, k⟩ => ⟨x, kept_of k⟩
  | false =>
    simp only [gri, grg, grm, gre, hg, cond_false]
    by_cases hb : (Wo.putRef (Wo.rIdx n) (Wo.rGen n) (Wo.markOf n)).2 = 0
    · by_cases ha : (Wo.putRef (Wo.rIdx n) (Wo.rGen n) (Wo.markOf n)).1 = n
      · exfalso
        have : Wo.putRef (Wo.rIdx n) (Wo.rGen n) (Wo.markOf n) = (n, 0) := Prod.ext ha hb
        unfold Wo.goodRef at hg
        rw [this] at hg
        simp at hg
      · exact (Wo.get_ref_word n w h0 h1 hb ha).mono fun _ _ ⟨x, k⟩ => ⟨x, kept_of k⟩
    · exact (Wo.get_ref_err n w h0 h1 hb).mono fun _ _ ⟨x, k⟩ => ⟨x, kept_of k⟩
def laidE (t : Twr) (r j h : Int) : Int :=
  if ¬ t.Sound then 2 else if gre r ≠ 0 then gre r else if grm r = true ∨ gri r < 0 ∨ t.A.F.N ≤ gri r then 3 else if j < 0 ∨ 65534 < j then 3 else if h < 1 ∨ t.G < h then 3 else 0
def laidI (t : Twr) (r j h : Int) : Int := if laidE t r j h = 0 then gri r else -1
set_option maxHeartbeats 1000000 in
theorem laid_s (t : Twr) (r j h : Int) (hs : ¬ t.Sound) (w : World) : Calls Tryz.prog 86 #[towV t, .int .u64 r, .int .i64 j, .int .i64 h] w fun e w' => e = .returned (.tuple #[.int .i64 (-1), .int .i64 2]) ∧ Kept w w' := by
  have HS := fun W => Lib.hid (sound_no t hs W)
  clear hs
  go_enter Tryz.func86, Tryz.ntmps86
  go_wp2_with fail
  refine (HS _).out.mono ?_
  rintro e w1 ⟨rfl, k1⟩
  obtain ⟨a0, a1, a2, a3, a4, a5, a6, a7, a8, a9, a10, a11, a12⟩ := TB.kept (TB.new w _ _ rfl t) k1
  go_wp2
  go_ret2
  exact ⟨rfl, by (go_light; repeat (first | (with_reducible exact Kept.refl _) | (with_reducible assumption) | (with_reducible refine Kept.alloc ?_ _ _) | (with_reducible refine Kept.drew ?_) | (with_reducible refine Kept.drewN ?_ _) | ((with_reducible refine Kept.setCell ?_ ?_ _); rotate_left; focus (first | (simp; done) | (simp; omega))) | refine Kept.trans ?_ (by assumption)))⟩
set_option maxHeartbeats 1000000 in
theorem laid_f (t : Twr) (r j h : Int) (hs : t.Sound) (er : Int) (he : er ≠ 0) (m : Bool) (i g : Int) (hr : ∀ W, Calls Tryz.prog 143 #[.int .u64 r] W fun e w' => e = .returned (.tuple #[.agg #[.int .i64 i, .int .i64 g, .bool m], .int .i64 er]) ∧ Kept W w') (w : World) : Calls Tryz.prog 86 #[towV t, .int .u64 r, .int .i64 j, .int .i64 h] w fun e w' => e = .returned (.tuple #[.int .i64 (-1), .int .i64 er]) ∧ Kept w w' := by
  have HS := fun W => Lib.hid (sound_in t hs W)
  have HR := fun W => Lib.hid (show Calls Tryz.prog 143 #[.int .u64 r] W fun e w' => e = .returned (.tuple #[.agg #[.int .i64 i, .int .i64 g, .bool m], .int .i64 er]) ∧ Kept W w' from hr W)
  have hb : (er != 0) = true := by simpa using he
  clear hs hr
  go_enter Tryz.func86, Tryz.ntmps86
  go_wp2_with fail
  refine (HS _).out.mono ?_
  rintro e w1 ⟨rfl, k1⟩
  obtain ⟨a0, a1, a2, a3, a4, a5, a6, a7, a8, a9, a10, a11, a12⟩ := TB.kept (TB.new w _ _ rfl t) k1
  go_wp2_with fail
  refine (HR _).out.mono ?_
  rintro e w2 ⟨rfl, k2⟩
  obtain ⟨a0, a1, a2, a3, a4, a5, a6, a7, a8, a9, a10, a11, a12⟩ := TB.kept ⟨a0, a1, a2, a3, a4, a5, a6, a7, a8, a9, a10, a11, a12⟩ k2
  have lz := lt_of_cell a0
  go_wp2
  go_ret2
  exact ⟨rfl, by (go_light; repeat (first | (with_reducible exact Kept.refl _) | (with_reducible assumption) | (with_reducible refine Kept.alloc ?_ _ _) | (with_reducible refine Kept.drew ?_) | (with_reducible refine Kept.drewN ?_ _) | ((with_reducible refine Kept.setCell ?_ ?_ _); rotate_left; focus (first | (simp; done) | (simp; omega))) | refine Kept.trans ?_ (by assumption)))⟩
set_option maxHeartbeats 1000000 in
theorem laid_m (t : Twr) (r j h : Int) (hs : t.Sound) (i g : Int) (hr : ∀ W, Calls Tryz.prog 143 #[.int .u64 r] W fun e w' => e = .returned (.tuple #[.agg #[.int .i64 i, .int .i64 g, .bool true], .int .i64 0]) ∧ Kept W w') (w : World) : Calls Tryz.prog 86 #[towV t, .int .u64 r, .int .i64 j, .int .i64 h] w fun e w' => e = .returned (.tuple #[.int .i64 (-1), .int .i64 3]) ∧ Kept w w' := by
  have HS := fun W => Lib.hid (sound_in t hs W)
  have HR := fun W => Lib.hid (show Calls Tryz.prog 143 #[.int .u64 r] W fun e w' => e = .returned (.tuple #[.agg #[.int .i64 i, .int .i64 g, .bool true], .int .i64 0]) ∧ Kept W w' from hr W)
  clear hs hr
  go_enter Tryz.func86, Tryz.ntmps86
  go_wp2_with fail
  refine (HS _).out.mono ?_
  rintro e w1 ⟨rfl, k1⟩
  obtain ⟨a0, a1, a2, a3, a4, a5, a6, a7, a8, a9, a10, a11, a12⟩ := TB.kept (TB.new w _ _ rfl t) k1
  go_wp2_with fail
  refine (HR _).out.mono ?_
  rintro e w2 ⟨rfl, k2⟩
  obtain ⟨a0, a1, a2, a3, a4, a5, a6, a7, a8, a9, a10, a11, a12⟩ := TB.kept ⟨a0, a1, a2, a3, a4, a5, a6, a7, a8, a9, a10, a11, a12⟩ k2
  have lz := lt_of_cell a0
  go_wp2
  go_ret2
  exact ⟨rfl, by (go_light; repeat (first | (with_reducible exact Kept.refl _) | (with_reducible assumption) | (with_reducible refine Kept.alloc ?_ _ _) | (with_reducible refine Kept.drew ?_) | (with_reducible refine Kept.drewN ?_ _) | ((with_reducible refine Kept.setCell ?_ ?_ _); rotate_left; focus (first | (simp; done) | (simp; omega))) | refine Kept.trans ?_ (by assumption)))⟩
set_option maxHeartbeats 1000000 in
theorem laid_n (t : Twr) (r j h : Int) (hs : t.Sound) (i g : Int) (hr : ∀ W, Calls Tryz.prog 143 #[.int .u64 r] W fun e w' => e = .returned (.tuple #[.agg #[.int .i64 i, .int .i64 g, .bool false], .int .i64 0]) ∧ Kept W w') (hi : i < 0 ∨ t.A.F.N ≤ i) (w : World) : Calls Tryz.prog 86 #[towV t, .int .u64 r, .int .i64 j, .int .i64 h] w fun e w' => e = .returned (.tuple #[.int .i64 (-1), .int .i64 3]) ∧ Kept w w' := by
  have HS := fun W => Lib.hid (sound_in t hs W)
  have HR := fun W => Lib.hid (show Calls Tryz.prog 143 #[.int .u64 r] W fun e w' => e = .returned (.tuple #[.agg #[.int .i64 i, .int .i64 g, .bool false], .int .i64 0]) ∧ Kept W w' from hr W)
  have HN := fun W => Lib.hid (isNode_no t i hi W)
  clear hs hr hi
  go_enter Tryz.func86, Tryz.ntmps86
  go_wp2_with fail
  refine (HS _).out.mono ?_
  rintro e w1 ⟨rfl, k1⟩
  obtain ⟨a0, a1, a2, a3, a4, a5, a6, a7, a8, a9, a10, a11, a12⟩ := TB.kept (TB.new w _ _ rfl t) k1
  go_wp2_with fail
  refine (HR _).out.mono ?_
  rintro e w2 ⟨rfl, k2⟩
  obtain ⟨a0, a1, a2, a3, a4, a5, a6, a7, a8, a9, a10, a11, a12⟩ := TB.kept ⟨a0, a1, a2, a3, a4, a5, a6, a7, a8, a9, a10, a11, a12⟩ k2
  have lz := lt_of_cell a0
  go_wp2_with fail
  refine (HN _).out.mono ?_
  rintro e w3 ⟨rfl, k3⟩
  obtain ⟨a0, a1, a2, a3, a4, a5, a6, a7, a8, a9, a10, a11, a12⟩ := TB.kept ⟨a0, a1, a2, a3, a4, a5, a6, a7, a8, a9, a10, a11, a12⟩ (Kept.trans (b := _) (by (go_light; repeat (first | (with_reducible exact Kept.refl _) | (with_reducible assumption) | (with_reducible refine Kept.alloc ?_ _ _) | (with_reducible refine Kept.drew ?_) | (with_reducible refine Kept.drewN ?_ _) | ((with_reducible refine Kept.setCell ?_ ?_ _); rotate_left; focus (first | (simp; done) | (simp; omega))) | refine Kept.trans ?_ (by assumption)))) k3)
  have r0 : w3.cell? ⟨w2.heap.size, 0, none⟩ = some (.int .i64 i) := k3.some (by simp)
  go_wp2
  go_ret2
  exact ⟨rfl, by (go_light; repeat (first | (with_reducible exact Kept.refl _) | (with_reducible assumption) | (with_reducible refine Kept.alloc ?_ _ _) | (with_reducible refine Kept.drew ?_) | (with_reducible refine Kept.drewN ?_ _) | ((with_reducible refine Kept.setCell ?_ ?_ _); rotate_left; focus (first | (simp; done) | (simp; omega))) | refine Kept.trans ?_ (by assumption)))⟩
set_option maxHeartbeats 1000000 in
theorem laid_j1 (t : Twr) (r j h : Int) (hs : t.Sound) (i g : Int) (hr : ∀ W, Calls Tryz.prog 143 #[.int .u64 r] W fun e w' => e = .returned (.tuple #[.agg #[.int .i64 i, .int .i64 g, .bool false], .int .i64 0]) ∧ Kept W w') (hi : 0 ≤ i ∧ i < t.A.F.N) (hj : j < 0) (w : World) : Calls Tryz.prog 86 #[towV t, .int .u64 r, .int .i64 j, .int .i64 h] w fun e w' => e = .returned (.tuple #[.int .i64 (-1), .int .i64 3]) ∧ Kept w w' := by
  have HS := fun W => Lib.hid (sound_in t hs W)
  have HR := fun W => Lib.hid (show Calls Tryz.prog 143 #[.int .u64 r] W fun e w' => e = .returned (.tuple #[.agg #[.int .i64 i, .int .i64 g, .bool false], .int .i64 0]) ∧ Kept W w' from hr W)
  have HN := fun W => Lib.hid (isNode_yes t i hi.1 hi.2 W)
  clear hs hr hi
  go_enter Tryz.func86, Tryz.ntmps86
  go_wp2_with fail
  refine (HS _).out.mono ?_
  rintro e w1 ⟨rfl, k1⟩
  obtain ⟨a0, a1, a2, a3, a4, a5, a6, a7, a8, a9, a10, a11, a12⟩ := TB.kept (TB.new w _ _ rfl t) k1
  go_wp2_with fail
  refine (HR _).out.mono ?_
  rintro e w2 ⟨rfl, k2⟩
  obtain ⟨a0, a1, a2, a3, a4, a5, a6, a7, a8, a9, a10, a11, a12⟩ := TB.kept ⟨a0, a1, a2, a3, a4, a5, a6, a7, a8, a9, a10, a11, a12⟩ k2
  have lz := lt_of_cell a0
  go_wp2_with fail
  refine (HN _).out.mono ?_
  rintro e w3 ⟨rfl, k3⟩
  obtain ⟨a0, a1, a2, a3, a4, a5, a6, a7, a8, a9, a10, a11, a12⟩ := TB.kept ⟨a0, a1, a2, a3, a4, a5, a6, a7, a8, a9, a10, a11, a12⟩ (Kept.trans (b := _) (by (go_light; repeat (first | (with_reducible exact Kept.refl _) | (with_reducible assumption) | (with_reducible refine Kept.alloc ?_ _ _) | (with_reducible refine Kept.drew ?_) | (with_reducible refine Kept.drewN ?_ _) | ((with_reducible refine Kept.setCell ?_ ?_ _); rotate_left; focus (first | (simp; done) | (simp; omega))) | refine Kept.trans ?_ (by assumption)))) k3)
  have r0 : w3.cell? ⟨w2.heap.size, 0, none⟩ = some (.int .i64 i) := k3.some (by simp)
  go_wp2
  go_ret2
  exact ⟨rfl, by (go_light; repeat (first | (with_reducible exact Kept.refl _) | (with_reducible assumption) | (with_reducible refine Kept.alloc ?_ _ _) | (with_reducible refine Kept.drew ?_) | (with_reducible refine Kept.drewN ?_ _) | ((with_reducible refine Kept.setCell ?_ ?_ _); rotate_left; focus (first | (simp; done) | (simp; omega))) | refine Kept.trans ?_ (by assumption)))⟩
set_option maxHeartbeats 1000000 in
theorem laid_j2 (t : Twr) (r j h : Int) (hs : t.Sound) (i g : Int) (hr : ∀ W, Calls Tryz.prog 143 #[.int .u64 r] W fun e w' => e = .returned (.tuple #[.agg #[.int .i64 i, .int .i64 g, .bool false], .int .i64 0]) ∧ Kept W w') (hi : 0 ≤ i ∧ i < t.A.F.N) (hj0 : 0 ≤ j) (hj : 65534 < j) (w : World) : Calls Tryz.prog 86 #[towV t, .int .u64 r, .int .i64 j, .int .i64 h] w fun e w' => e = .returned (.tuple #[.int .i64 (-1), .int .i64 3]) ∧ Kept w w' := by
  have HS := fun W => Lib.hid (sound_in t hs W)
  have HR := fun W => Lib.hid (show Calls Tryz.prog 143 #[.int .u64 r] W fun e w' => e = .returned (.tuple #[.agg #[.int .i64 i, .int .i64 g, .bool false], .int .i64 0]) ∧ Kept W w' from hr W)
  have HN := fun W => Lib.hid (isNode_yes t i hi.1 hi.2 W)
  clear hs hr hi
  go_enter Tryz.func86, Tryz.ntmps86
  go_wp2_with fail
  refine (HS _).out.mono ?_
  rintro e w1 ⟨rfl, k1⟩
  obtain ⟨a0, a1, a2, a3, a4, a5, a6, a7, a8, a9, a10, a11, a12⟩ := TB.kept (TB.new w _ _ rfl t) k1
  go_wp2_with fail
  refine (HR _).out.mono ?_
  rintro e w2 ⟨rfl, k2⟩
  obtain ⟨a0, a1, a2, a3, a4, a5, a6, a7, a8, a9, a10, a11, a12⟩ := TB.kept ⟨a0, a1, a2, a3, a4, a5, a6, a7, a8, a9, a10, a11, a12⟩ k2
  have lz := lt_of_cell a0
  go_wp2_with fail
  refine (HN _).out.mono ?_
  rintro e w3 ⟨rfl, k3⟩
  obtain ⟨a0, a1, a2, a3, a4, a5, a6, a7, a8, a9, a10, a11, a12⟩ := TB.kept ⟨a0, a1, a2, a3, a4, a5, a6, a7, a8, a9, a10, a11, a12⟩ (Kept.trans (b := _) (by (go_light; repeat (first | (with_reducible exact Kept.refl _) | (with_reducible assumption) | (with_reducible refine Kept.alloc ?_ _ _) | (with_reducible refine Kept.drew ?_) | (with_reducible refine Kept.drewN ?_ _) | ((with_reducible refine Kept.setCell ?_ ?_ _); rotate_left; focus (first | (simp; done) | (simp; omega))) | refine Kept.trans ?_ (by assumption)))) k3)
  have r0 : w3.cell? ⟨w2.heap.size, 0, none⟩ = some (.int .i64 i) := k3.some (by simp)
  go_wp2
  go_ret2
  exact ⟨rfl, by (go_light; repeat (first | (with_reducible exact Kept.refl _) | (with_reducible assumption) | (with_reducible refine Kept.alloc ?_ _ _) | (with_reducible refine Kept.drew ?_) | (with_reducible refine Kept.drewN ?_ _) | ((with_reducible refine Kept.setCell ?_ ?_ _); rotate_left; focus (first | (simp; done) | (simp; omega))) | refine Kept.trans ?_ (by assumption)))⟩
set_option maxHeartbeats 1000000 in
theorem laid_h1 (t : Twr) (r j h : Int) (hs : t.Sound) (i g : Int) (hr : ∀ W, Calls Tryz.prog 143 #[.int .u64 r] W fun e w' => e = .returned (.tuple #[.agg #[.int .i64 i, .int .i64 g, .bool false], .int .i64 0]) ∧ Kept W w') (hi : 0 ≤ i ∧ i < t.A.F.N) (hj0 : 0 ≤ j) (hj : j ≤ 65534) (hh : h < 1) (w : World) : Calls Tryz.prog 86 #[towV t, .int .u64 r, .int .i64 j, .int .i64 h] w fun e w' => e = .returned (.tuple #[.int .i64 (-1), .int .i64 3]) ∧ Kept w w' := by
  have HS := fun W => Lib.hid (sound_in t hs W)
  have HR := fun W => Lib.hid (show Calls Tryz.prog 143 #[.int .u64 r] W fun e w' => e = .returned (.tuple #[.agg #[.int .i64 i, .int .i64 g, .bool false], .int .i64 0]) ∧ Kept W w' from hr W)
  have HN := fun W => Lib.hid (isNode_yes t i hi.1 hi.2 W)
  have d1 : decide (65534 < j) = false := by simp; omega
  clear hs hr hi
  go_enter Tryz.func86, Tryz.ntmps86
  go_wp2_with fail
  refine (HS _).out.mono ?_
  rintro e w1 ⟨rfl, k1⟩
  obtain ⟨a0, a1, a2, a3, a4, a5, a6, a7, a8, a9, a10, a11, a12⟩ := TB.kept (TB.new w _ _ rfl t) k1
  go_wp2_with fail
  refine (HR _).out.mono ?_
  rintro e w2 ⟨rfl, k2⟩
  obtain ⟨a0, a1, a2, a3, a4, a5, a6, a7, a8, a9, a10, a11, a12⟩ := TB.kept ⟨a0, a1, a2, a3, a4, a5, a6, a7, a8, a9, a10, a11, a12⟩ k2
  have lz := lt_of_cell a0
  go_wp2_with fail
  refine (HN _).out.mono ?_
  rintro e w3 ⟨rfl, k3⟩
  obtain ⟨a0, a1, a2, a3, a4, a5, a6, a7, a8, a9, a10, a11, a12⟩ := TB.kept ⟨a0, a1, a2, a3, a4, a5, a6, a7, a8, a9, a10, a11, a12⟩ (Kept.trans (b := _) (by (go_light; repeat (first | (with_reducible exact Kept.refl _) | (with_reducible assumption) | (with_reducible refine Kept.alloc ?_ _ _) | (with_reducible refine Kept.drew ?_) | (with_reducible refine Kept.drewN ?_ _) | ((with_reducible refine Kept.setCell ?_ ?_ _); rotate_left; focus (first | (simp; done) | (simp; omega))) | refine Kept.trans ?_ (by assumption)))) k3)
  have r0 : w3.cell? ⟨w2.heap.size, 0, none⟩ = some (.int .i64 i) := k3.some (by simp)
  go_wp2
  go_ret2
  exact ⟨rfl, by (go_light; repeat (first | (with_reducible exact Kept.refl _) | (with_reducible assumption) | (with_reducible refine Kept.alloc ?_ _ _) | (with_reducible refine Kept.drew ?_) | (with_reducible refine Kept.drewN ?_ _) | ((with_reducible refine Kept.setCell ?_ ?_ _); rotate_left; focus (first | (simp; done) | (simp; omega))) | refine Kept.trans ?_ (by assumption)))⟩
set_option maxHeartbeats 1000000 in
theorem laid_h2 (t : Twr) (r j h : Int) (hs : t.Sound) (i g : Int) (hr : ∀ W, Calls Tryz.prog 143 #[.int .u64 r] W fun e w' => e = .returned (.tuple #[.agg #[.int .i64 i, .int .i64 g, .bool false], .int .i64 0]) ∧ Kept W w') (hi : 0 ≤ i ∧ i < t.A.F.N) (hj0 : 0 ≤ j) (hj : j ≤ 65534) (hh0 : 1 ≤ h) (hh : t.G < h) (w : World) : Calls Tryz.prog 86 #[towV t, .int .u64 r, .int .i64 j, .int .i64 h] w fun e w' => e = .returned (.tuple #[.int .i64 (-1), .int .i64 3]) ∧ Kept w w' := by
  have HS := fun W => Lib.hid (sound_in t hs W)
  have HR := fun W => Lib.hid (show Calls Tryz.prog 143 #[.int .u64 r] W fun e w' => e = .returned (.tuple #[.agg #[.int .i64 i, .int .i64 g, .bool false], .int .i64 0]) ∧ Kept W w' from hr W)
  have HN := fun W => Lib.hid (isNode_yes t i hi.1 hi.2 W)
  have d1 : decide (65534 < j) = false := by simp; omega
  clear hs hr hi
  go_enter Tryz.func86, Tryz.ntmps86
  go_wp2_with fail
  refine (HS _).out.mono ?_
  rintro e w1 ⟨rfl, k1⟩
  obtain ⟨a0, a1, a2, a3, a4, a5, a6, a7, a8, a9, a10, a11, a12⟩ := TB.kept (TB.new w _ _ rfl t) k1
  go_wp2_with fail
  refine (HR _).out.mono ?_
  rintro e w2 ⟨rfl, k2⟩
  obtain ⟨a0, a1, a2, a3, a4, a5, a6, a7, a8, a9, a10, a11, a12⟩ := TB.kept ⟨a0, a1, a2, a3, a4, a5, a6, a7, a8, a9, a10, a11, a12⟩ k2
  have lz := lt_of_cell a0
  go_wp2_with fail
  refine (HN _).out.mono ?_
  rintro e w3 ⟨rfl, k3⟩
  obtain ⟨a0, a1, a2, a3, a4, a5, a6, a7, a8, a9, a10, a11, a12⟩ := TB.kept ⟨a0, a1, a2, a3, a4, a5, a6, a7, a8, a9, a10, a11, a12⟩ (Kept.trans (b := _) (by (go_light; repeat (first | (with_reducible exact Kept.refl _) | (with_reducible assumption) | (with_reducible refine Kept.alloc ?_ _ _) | (with_reducible refine Kept.drew ?_) | (with_reducible refine Kept.drewN ?_ _) | ((with_reducible refine Kept.setCell ?_ ?_ _); rotate_left; focus (first | (simp; done) | (simp; omega))) | refine Kept.trans ?_ (by assumption)))) k3)
  have r0 : w3.cell? ⟨w2.heap.size, 0, none⟩ = some (.int .i64 i) := k3.some (by simp)
  go_wp2
  go_ret2
  exact ⟨rfl, by (go_light; repeat (first | (with_reducible exact Kept.refl _) | (with_reducible assumption) | (with_reducible refine Kept.alloc ?_ _ _) | (with_reducible refine Kept.drew ?_) | (with_reducible refine Kept.drewN ?_ _) | ((with_reducible refine Kept.setCell ?_ ?_ _); rotate_left; focus (first | (simp; done) | (simp; omega))) | refine Kept.trans ?_ (by assumption)))⟩
set_option maxHeartbeats 1000000 in
theorem laid_yes (t : Twr) (r j h : Int) (hs : t.Sound) (i g : Int) (hr : ∀ W, Calls Tryz.prog 143 #[.int .u64 r] W fun e w' => e = .returned (.tuple #[.agg #[.int .i64 i, .int .i64 g, .bool false], .int .i64 0]) ∧ Kept W w') (hi : 0 ≤ i ∧ i < t.A.F.N) (hj0 : 0 ≤ j) (hj : j ≤ 65534) (hh0 : 1 ≤ h) (hh : h ≤ t.G) (w : World) : Calls Tryz.prog 86 #[towV t, .int .u64 r, .int .i64 j, .int .i64 h] w fun e w' => e = .returned (.tuple #[.int .i64 (i), .int .i64 0]) ∧ Kept w w' := by
  have HS := fun W => Lib.hid (sound_in t hs W)
  have HR := fun W => Lib.hid (show Calls Tryz.prog 143 #[.int .u64 r] W fun e w' => e = .returned (.tuple #[.agg #[.int .i64 i, .int .i64 g, .bool false], .int .i64 0]) ∧ Kept W w' from hr W)
  have HN := fun W => Lib.hid (isNode_yes t i hi.1 hi.2 W)
  have d1 : decide (65534 < j) = false := by simp; omega
  have d2 : decide (t.G < h) = false := by simp; omega
  clear hs hr hi
  go_enter Tryz.func86, Tryz.ntmps86
  go_wp2_with fail
  refine (HS _).out.mono ?_
  rintro e w1 ⟨rfl, k1⟩
  obtain ⟨a0, a1, a2, a3, a4, a5, a6, a7, a8, a9, a10, a11, a12⟩ := TB.kept (TB.new w _ _ rfl t) k1
  go_wp2_with fail
  refine (HR _).out.mono ?_
  rintro e w2 ⟨rfl, k2⟩
  obtain ⟨a0, a1, a2, a3, a4, a5, a6, a7, a8, a9, a10, a11, a12⟩ := TB.kept ⟨a0, a1, a2, a3, a4, a5, a6, a7, a8, a9, a10, a11, a12⟩ k2
  have lz := lt_of_cell a0
  go_wp2_with fail
  refine (HN _).out.mono ?_
  rintro e w3 ⟨rfl, k3⟩
  obtain ⟨a0, a1, a2, a3, a4, a5, a6, a7, a8, a9, a10, a11, a12⟩ := TB.kept ⟨a0, a1, a2, a3, a4, a5, a6, a7, a8, a9, a10, a11, a12⟩ (Kept.trans (b := _) (by (go_light; repeat (first | (with_reducible exact Kept.refl _) | (with_reducible assumption) | (with_reducible refine Kept.alloc ?_ _ _) | (with_reducible refine Kept.drew ?_) | (with_reducible refine Kept.drewN ?_ _) | ((with_reducible refine Kept.setCell ?_ ?_ _); rotate_left; focus (first | (simp; done) | (simp; omega))) | refine Kept.trans ?_ (by assumption)))) k3)
  have r0 : w3.cell? ⟨w2.heap.size, 0, none⟩ = some (.int .i64 i) := k3.some (by simp)
  go_wp2
  go_ret2
  exact ⟨rfl, by (go_light; repeat (first | (with_reducible exact Kept.refl _) | (with_reducible assumption) | (with_reducible refine Kept.alloc ?_ _ _) | (with_reducible refine Kept.drew ?_) | (with_reducible refine Kept.drewN ?_ _) | ((with_reducible refine Kept.setCell ?_ ?_ _); rotate_left; focus (first | (simp; done) | (simp; omega))) | refine Kept.trans ?_ (by assumption)))⟩
theorem laid_any (t : Twr) (r j h : Int) (r0 : 0 ≤ r) (r1 : r < 18446744073709551616) (w : World) : Calls Tryz.prog 86 #[towV t, .int .u64 r, .int .i64 j, .int .i64 h] w fun e w' => e = .returned (.tuple #[.int .i64 (laidI t r j h), .int .i64 (laidE t r j h)]) ∧ Kept w w' := by
  have G := fun W => get_ref r W r0 r1
  have fin : ∀ (c : Int), laidE t r j h = c → c ≠ 0 → (Calls Tryz.prog 86 #[towV t, .int .u64 r, .int .i64 j, .int .i64 h] w fun e w' => e = .returned (.tuple #[.int .i64 (-1), .int .i64 c]) ∧ Kept w w') → Calls Tryz.prog 86 #[towV t, .int .u64 r, .int .i64 j, .int .i64 h] w fun e w' => e = .returned (.tuple #[.int .i64 (laidI t r j h), .int .i64 (laidE t r j h)]) ∧ Kept w w' := by
    intro c he h0 k
    rw [he, show laidI t r j h = -1 from by unfold laidI; rw [he, if_neg h0]]
    exact k
  by_cases hs : t.Sound
  · have s1 : ¬ ¬ t.Sound := by simpa using hs
    by_cases he : gre r ≠ 0
    · exact fin (gre r) (by unfold laidE; rw [if_neg s1, if_pos he]) he (laid_f t r j h hs _ he _ _ _ G w)
    · have e0 : gre r = 0 := by omega
      rw [e0] at G
      by_cases hm : grm r = true
      · rw [hm] at G
        exact fin 3 (by unfold laidE; rw [if_neg s1, if_neg he, if_pos (Or.inl hm)]) (by decide) (laid_m t r j h hs _ _ G w)
      · have m0 : grm r = false := by simpa using hm
        rw [m0] at G
        by_cases hi : gri r < 0 ∨ t.A.F.N ≤ gri r
        · exact fin 3 (by unfold laidE; rw [if_neg s1, if_neg he, if_pos (Or.inr hi)]) (by decide) (laid_n t r j h hs _ _ G hi w)
        · have s3 : ¬ (grm r = true ∨ gri r < 0 ∨ t.A.F.N ≤ gri r) := by rw [m0]; simp; omega
          by_cases j1 : j < 0
          · exact fin 3 (by unfold laidE; rw [if_neg s1, if_neg he, if_neg s3, if_pos (Or.inl j1)]) (by decide) (laid_j1 t r j h hs _ _ G (by omega) j1 w)
          by_cases j2 : 65534 < j
          · exact fin 3 (by unfold laidE; rw [if_neg s1, if_neg he, if_neg s3, if_pos (Or.inr j2)]) (by decide) (laid_j2 t r j h hs _ _ G (by omega) (by omega) j2 w)
          have s4 : ¬ (j < 0 ∨ 65534 < j) := by omega
          by_cases h1 : h < 1
          · exact fin 3 (by unfold laidE; rw [if_neg s1, if_neg he, if_neg s3, if_neg s4, if_pos (Or.inl h1)]) (by decide) (laid_h1 t r j h hs _ _ G (by omega) (by omega) (by omega) h1 w)
          by_cases h2 : t.G < h
          · exact fin 3 (by unfold laidE; rw [if_neg s1, if_neg he, if_neg s3, if_neg s4, if_pos (Or.inr h2)]) (by decide) (laid_h2 t r j h hs _ _ G (by omega) (by omega) (by omega) (by omega) h2 w)
          have s5 : ¬ (h < 1 ∨ t.G < h) := by omega
          have E0 : laidE t r j h = 0 := by unfold laidE; rw [if_neg s1, if_neg he, if_neg s3, if_neg s4, if_neg s5]
          rw [E0, show laidI t r j h = gri r from by unfold laidI; rw [if_pos E0]]
          exact laid_yes t r j h hs _ _ G (by omega) (by omega) (by omega) (by omega) (by omega) w
  · exact fin 2 (by unfold laidE; rw [if_pos hs]) (by decide) (laid_s t r j h hs w)
end Go.Proofs.YtejiogggocnldaaGreat.Tw
