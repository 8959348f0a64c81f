/- The program's words of slots: read, full, value, with, emptied, dropped, free, taken, kept; a number's cell, and what its slot is when it is vacant. -/
import Derived.Test.YtlfdiffbepfgbaaGreatG05
import Derived.Test.YtlfdiffbepfgbaaGreatG07
import Derived.Test.YtlfdiffbepfgbaaGreatG06
import Derived.Lib.Hide
import Derived.Deep.Light
import Derived.Deep.RegionHeld3
import Derived.Deep.QuietTactic
import Derived.BigQuiet
set_option linter.unusedVariables false
set_option linter.unusedSimpArgs false

namespace Go.Proofs.YtlfdiffbepfgbaaGreat.Ri
set_option maxRecDepth 20000
open Go.RowKit
open Wo (St acc wordAt)
open Sk (Wd kept_of)

theorem u_slot (l : Int) (f : Bool) (v : Int) (w : World) (h : 0 ≤ l ∧ l ≤ 4294967295 ∧ 0 ≤ v ∧ v ≤ 65535) (hf : ¬ (f = false ∧ v ≠ 0)) : Calls Tryz.prog 325 #[.agg #[.int .i64 l, .bool f, .int .i64 v]] w fun e w' => e = .returned (.tuple #[.int .u64 (v + Wo.bitOf f * 65536 + l * 4294967296), .int .i64 0]) ∧ Kept w w' :=
  (Wo.put_slot_good l f v w h hf).mono fun _ _ ⟨x, k⟩ => ⟨x, kept_of k⟩
theorem g_slot (l v : Int) (w : World) (h : 0 ≤ l ∧ l ≤ 4294967295 ∧ 0 ≤ v ∧ v ≤ 65535) : Calls Tryz.prog 297 #[.int .u64 (fullW l v)] w fun e w' => e = .returned (.tuple #[.agg #[.int .i64 l, .bool true, .int .i64 v], .int .i64 0]) ∧ Kept w w' := by
  obtain ⟨a, b, c, d⟩ := goodSlot_full h.1 h.2.1 h.2.2.1 h.2.2.2
  have := Wo.get_slot_yes (fullW l v) w (fullW_lo h.1 h.2.2.1) (fullW_hi h.2.1 h.2.2.2) a
  rw [b, c, d] at this
  exact this.mono fun _ _ ⟨x, k⟩ => ⟨x, kept_of k⟩

theorem fld_lap (l : Int) (f : Bool) (v : Int) (W : World) : (Instr.field 341 (.agg #[.int .i64 l, .bool f, .int .i64 v]) 0).run Tryz.prog W = .ok (.int .i64 l) W := by kernel_rfl
theorem fld_val (l : Int) (f : Bool) (v : Int) (W : World) : (Instr.field 341 (.agg #[.int .i64 l, .bool f, .int .i64 v]) 2).run Tryz.prog W = .ok (.int .i64 v) W := by kernel_rfl
set_option maxHeartbeats 400000 in
theorem put_any (l : Int) (f : Bool) (v : Int) (w : World) (h : 0 ≤ l ∧ l ≤ 4294967295 ∧ 0 ≤ v ∧ v ≤ 65535) (hf : ¬ (f = false ∧ v ≠ 0)) : Calls Tryz.prog 296 #[.agg #[.int .i64 l, .bool f, .int .i64 v]] w fun e w' => e = .returned (.int .u64 (v + Wo.bitOf f * 65536 + l * 4294967296)) ∧ Kept w w' := by
  have HU : ∀ w, Hid (Calls Tryz.prog 325 #[.agg #[.int .i64 l, .bool f, .int .i64 v]] w fun e w' => e = .returned (.tuple #[.int .u64 (v + Wo.bitOf f * 65536 + l * 4294967296), .int .i64 0]) ∧ Kept w w') := fun w => Lib.hid (u_slot l f v w h hf)
  clear h hf
  generalize v + Wo.bitOf f * 65536 + l * 4294967296 = q at *
  go_enter Tryz.func296, Tryz.ntmps296
  go_wp2_with fail
  refine (HU _).out.mono ?_
  rintro e w1 ⟨rfl, k1⟩
  go_wp2
  go_ret
  exact ⟨rfl, by (go_light; repeat (first | (with_reducible exact Kept.refl _) | (with_reducible assumption) | (with_reducible refine Kept.alloc ?_ _ _) | (with_reducible refine Kept.drew ?_) | (with_reducible refine Kept.drewN ?_ _) | ((with_reducible refine Kept.setCell ?_ ?_ _); rotate_left; focus (first | (simp; done) | (simp; omega))) | refine Kept.trans ?_ (by assumption)))⟩
theorem put_empty (l : Int) (w : World) (h : 0 ≤ l ∧ l ≤ 4294967295) : Calls Tryz.prog 296 #[.agg #[.int .i64 l, .bool false, .int .i64 0]] w fun e w' => e = .returned (.int .u64 (l * 4294967296)) ∧ Kept w w' :=
  (put_any l false 0 w ⟨h.1, h.2, by decide, by decide⟩ (by simp)).mono fun _ _ ⟨x, k⟩ => ⟨by rw [x]; simp [Wo.bitOf], k⟩
theorem put_full (l v : Int) (w : World) (h : 0 ≤ l ∧ l ≤ 4294967295) (hv : 0 ≤ v ∧ v ≤ 65535) : Calls Tryz.prog 296 #[.agg #[.int .i64 l, .bool true, .int .i64 v]] w fun e w' => e = .returned (.int .u64 (fullW l v)) ∧ Kept w w' :=
  (put_any l true v w ⟨h.1, h.2, hv.1, hv.2⟩ (by simp)).mono fun _ _ ⟨x, k⟩ => ⟨by rw [x, show v + Wo.bitOf true * 65536 + l * 4294967296 = fullW l v by unfold fullW Wo.bitOf; simp; omega], k⟩
set_option maxHeartbeats 400000 in
theorem read_any (s : Int) (w : World) (h0 : 0 ≤ s) (h1 : s < 18446744073709551616) : Calls Tryz.prog 226 #[.int .u64 s] w fun e w' => e = .returned (.agg #[.int .i64 (wlap s), .bool true, .int .i64 (s % 65536)]) ∧ Kept w w' := by
  have hb := read_bits s h0 h1
  have HG : ∀ w, Hid (Calls Tryz.prog 297 #[.int .u64 (bits .or .u64 (bits .andNot .u64 s 4294836224) 65536)] w fun e w' => e = .returned (.tuple #[.agg #[.int .i64 (wlap s), .bool true, .int .i64 (s % 65536)], .int .i64 0]) ∧ Kept w w') := fun w => Lib.hid (by
    rw [hb]
    exact g_slot _ _ w ⟨wlap_lo h0, wlap_hi h1, by omega, by omega⟩)
  clear hb
  go_enter Tryz.func226, Tryz.ntmps226
  go_wp2_with fail
  refine (HG _).out.mono ?_
  rintro e w1 ⟨rfl, k1⟩
  have hz := k1.size
  simp at hz
  have r0 : w1.cell? ⟨w.heap.size, 0, none⟩ = some (.int .i64 0) := k1.some (by simp [*])
  have r1 : w1.cell? ⟨w.heap.size, 1, none⟩ = some (.bool false) := k1.some (by simp [*])
  have r2 : w1.cell? ⟨w.heap.size, 2, none⟩ = some (.int .i64 0) := k1.some (by simp [*])
  have f1 : ∀ o, w1.frozen? ⟨w.heap.size, o, none⟩ = false := fun o => k1.soft (by simp) (by simp)
  have K1 : Kept w w1 := ((Kept.refl w).alloc _ _).trans k1
  have hlt : w.heap.size < w1.heap.size := by omega
  clear k1 hz
  go_wp2
  refine bodyPost_ret (v := .agg #[.int .i64 (wlap s), .bool true, .int .i64 (s % 65536)]) ?_ rfl ⟨rfl, ?_⟩
  · have z0 : w.heap.size ≠ w1.heap.size := by omega
    simp [results, Tryz.results226, go_sem, cell_set, *]
  · refine Kept.alloc (Kept.setCell (Kept.setCell (Kept.setCell K1 ?_ _) ?_ _) ?_ _) _ _ <;> simp
set_option maxHeartbeats 400000 in
theorem full_any (s : Int) (w : World) (h0 : 0 ≤ s) (h1 : s < 18446744073709551616) : Calls Tryz.prog 294 #[.int .u64 s] w fun e w' => e = .returned (.bool (full s)) ∧ w = w' := by
  have E : Hid ((bits .and .u64 s 65536 != 0) = full s) := Lib.hid (by
    rw [full_bits s h0 h1]
    unfold full
    have : s / 65536 % 2 = 0 ∨ s / 65536 % 2 = 1 := by omega
    rcases this with h | h <;> rw [h] <;> rfl)
  go_enter Tryz.func294, Tryz.ntmps294
  go_wp2
  go_ret
  exact ⟨by rw [← E.out]; rfl, rfl⟩
set_option maxHeartbeats 400000 in
theorem value_any (s : Int) (w : World) (h0 : 0 ≤ s) (h1 : s < 18446744073709551616) : Calls Tryz.prog 134 #[.int .u64 s] w fun e w' => e = .returned (.int .i64 (s % 65536)) ∧ Kept w w' := by
  have HR : ∀ w, Hid (Calls Tryz.prog 226 #[.int .u64 s] w fun e w' => e = .returned (.agg #[.int .i64 (wlap s), .bool true, .int .i64 (s % 65536)]) ∧ Kept w w') := fun w => Lib.hid (read_any s w h0 h1)
  have F0 := fld_lap
  have F2 := fld_val
  go_enter Tryz.func134, Tryz.ntmps134
  go_wp2_with fail
  refine (HR _).out.mono ?_
  rintro e w1 ⟨rfl, k1⟩
  go_wp2
  go_ret
  exact ⟨rfl, by (go_light; repeat (first | (with_reducible exact Kept.refl _) | (with_reducible assumption) | (with_reducible refine Kept.alloc ?_ _ _) | (with_reducible refine Kept.drew ?_) | (with_reducible refine Kept.drewN ?_ _) | ((with_reducible refine Kept.setCell ?_ ?_ _); rotate_left; focus (first | (simp; done) | (simp; omega))) | refine Kept.trans ?_ (by assumption)))⟩
set_option maxHeartbeats 400000 in
theorem with_any (s v : Int) (w : World) (h0 : 0 ≤ s) (h1 : s < 18446744073709551616) (hv : 0 ≤ v ∧ v ≤ 65535) : Calls Tryz.prog 340 #[.int .u64 s, .int .i64 v] w fun e w' => e = .returned (.int .u64 (fullW (wlap s) v)) ∧ Kept w w' := by
  have HR : ∀ w, Hid (Calls Tryz.prog 226 #[.int .u64 s] w fun e w' => e = .returned (.agg #[.int .i64 (wlap s), .bool true, .int .i64 (s % 65536)]) ∧ Kept w w') := fun w => Lib.hid (read_any s w h0 h1)
  have HU : ∀ w, Hid (Calls Tryz.prog 296 #[.agg #[.int .i64 (wlap s), .bool true, .int .i64 v]] w fun e w' => e = .returned (.int .u64 (fullW (wlap s) v)) ∧ Kept w w') := fun w => Lib.hid (put_full _ v w ⟨wlap_lo h0, wlap_hi h1⟩ hv)
  clear hv
  generalize wlap s = l at *
  have F0 := fld_lap
  have F2 := fld_val
  go_enter Tryz.func340, Tryz.ntmps340
  go_wp2_with fail
  refine (HR _).out.mono ?_
  rintro e w1 ⟨rfl, k1⟩
  go_wp2_with fail
  refine (HU _).out.mono ?_
  rintro e w2 ⟨rfl, k2⟩
  go_wp2
  go_ret
  exact ⟨rfl, by (go_light; repeat (first | (with_reducible exact Kept.refl _) | (with_reducible assumption) | (with_reducible refine Kept.alloc ?_ _ _) | (with_reducible refine Kept.drew ?_) | (with_reducible refine Kept.drewN ?_ _) | ((with_reducible refine Kept.setCell ?_ ?_ _); rotate_left; focus (first | (simp; done) | (simp; omega))) | refine Kept.trans ?_ (by assumption)))⟩
set_option maxHeartbeats 400000 in
theorem emptied_any (s : Int) (w : World) (h0 : 0 ≤ s) (h1 : s < 18446744073709551616) : Calls Tryz.prog 295 #[.int .u64 s] w fun e w' => e = .returned (.int .u64 (wlap s * 4294967296)) ∧ Kept w w' := by
  have HR : ∀ w, Hid (Calls Tryz.prog 226 #[.int .u64 s] w fun e w' => e = .returned (.agg #[.int .i64 (wlap s), .bool true, .int .i64 (s % 65536)]) ∧ Kept w w') := fun w => Lib.hid (read_any s w h0 h1)
  have HU : ∀ w, Hid (Calls Tryz.prog 296 #[.agg #[.int .i64 (wlap s), .bool false, .int .i64 0]] w fun e w' => e = .returned (.int .u64 (wlap s * 4294967296)) ∧ Kept w w') := fun w => Lib.hid (put_empty _ w ⟨wlap_lo h0, wlap_hi h1⟩)
  generalize wlap s * 4294967296 = q at *
  generalize wlap s = l at *
  have F0 := fld_lap
  have F2 := fld_val
  go_enter Tryz.func295, Tryz.ntmps295
  go_wp2_with fail
  refine (HR _).out.mono ?_
  rintro e w1 ⟨rfl, k1⟩
  go_wp2_with fail
  refine (HU _).out.mono ?_
  rintro e w2 ⟨rfl, k2⟩
  go_wp2
  go_ret
  exact ⟨rfl, by (go_light; repeat (first | (with_reducible exact Kept.refl _) | (with_reducible assumption) | (with_reducible refine Kept.alloc ?_ _ _) | (with_reducible refine Kept.drew ?_) | (with_reducible refine Kept.drewN ?_ _) | ((with_reducible refine Kept.setCell ?_ ?_ _); rotate_left; focus (first | (simp; done) | (simp; omega))) | refine Kept.trans ?_ (by assumption)))⟩
set_option maxHeartbeats 400000 in
theorem dropped_any (s : Int) (w : World) (h0 : 0 ≤ s) (h1 : s < 18446744073709551616) : Calls Tryz.prog 291 #[.int .u64 s] w fun e w' => e = .returned (.int .u64 ((wlap s + 1) % 4294967296 * 4294967296)) ∧ Kept w w' := by
  have l0 := wlap_lo h0
  have l1 := wlap_hi h1
  have HR : ∀ w, Hid (Calls Tryz.prog 226 #[.int .u64 s] w fun e w' => e = .returned (.agg #[.int .i64 (wlap s), .bool true, .int .i64 (s % 65536)]) ∧ Kept w w') := fun w => Lib.hid (read_any s w h0 h1)
  have HU : ∀ w, Hid (Calls Tryz.prog 296 #[.agg #[.int .i64 ((wlap s + 1) % 4294967296), .bool false, .int .i64 0]] w fun e w' => e = .returned (.int .u64 ((wlap s + 1) % 4294967296 * 4294967296)) ∧ Kept w w') := fun w => Lib.hid (put_empty _ w ⟨by omega, by omega⟩)
  generalize wlap s = l at *
  have ha := and_lap (l + 1) (by omega) (by omega)
  obtain ⟨q, hq⟩ : ∃ q, q = (l + 1) % 4294967296 * 4294967296 := ⟨_, rfl⟩
  rw [← hq] at HU ⊢
  clear hq
  have F0 := fld_lap
  have F2 := fld_val
  go_enter Tryz.func291, Tryz.ntmps291
  go_wp2_with fail
  refine (HR _).out.mono ?_
  rintro e w1 ⟨rfl, k1⟩
  go_wp2_with fail
  refine (HU _).out.mono ?_
  rintro e w2 ⟨rfl, k2⟩
  go_wp2
  go_ret
  exact ⟨rfl, by (go_light; repeat (first | (with_reducible exact Kept.refl _) | (with_reducible assumption) | (with_reducible refine Kept.alloc ?_ _ _) | (with_reducible refine Kept.drew ?_) | (with_reducible refine Kept.drewN ?_ _) | ((with_reducible refine Kept.setCell ?_ ?_ _); rotate_left; focus (first | (simp; done) | (simp; omega))) | refine Kept.trans ?_ (by assumption)))⟩
set_option maxHeartbeats 400000 in
theorem free_any (s V : Int) (w : World) (h0 : 0 ≤ s) (h1 : s < 18446744073709551616) : Calls Tryz.prog 321 #[.int .u64 s, .int .u64 V] w fun e w' => e = .returned (.bool (!full s && wlap s * 4294967296 == V)) ∧ Kept w w' := by
  have HF : ∀ w, Hid (Calls Tryz.prog 294 #[.int .u64 s] w fun e w' => e = .returned (.bool (full s)) ∧ w = w') := fun w => Lib.hid (full_any s w h0 h1)
  have HE : ∀ w, Hid (Calls Tryz.prog 295 #[.int .u64 s] w fun e w' => e = .returned (.int .u64 (wlap s * 4294967296)) ∧ Kept w w') := fun w => Lib.hid (emptied_any s w h0 h1)
  generalize wlap s * 4294967296 = q at *
  obtain ⟨b, hb⟩ : ∃ b, b = full s := ⟨_, rfl⟩
  rw [← hb]
  simp only [← hb] at HF
  clear hb
  cases b
  · go_enter Tryz.func321, Tryz.ntmps321
    go_wp2_with fail
    refine (HF _).out.mono ?_
    rintro e w1 ⟨rfl, rfl⟩
    go_wp2_with fail
    refine (HE _).out.mono ?_
    rintro e w2 ⟨rfl, k2⟩
    go_wp2
    go_ret
    exact ⟨rfl, by (go_light; repeat (first | (with_reducible exact Kept.refl _) | (with_reducible assumption) | (with_reducible refine Kept.alloc ?_ _ _) | (with_reducible refine Kept.drew ?_) | (with_reducible refine Kept.drewN ?_ _) | ((with_reducible refine Kept.setCell ?_ ?_ _); rotate_left; focus (first | (simp; done) | (simp; omega))) | refine Kept.trans ?_ (by assumption)))⟩
  · go_enter Tryz.func321, Tryz.ntmps321
    go_wp2_with fail
    refine (HF _).out.mono ?_
    rintro e w1 ⟨rfl, rfl⟩
    go_wp2
    go_ret
    exact ⟨rfl, by (go_light; repeat (first | (with_reducible exact Kept.refl _) | (with_reducible assumption) | (with_reducible refine Kept.alloc ?_ _ _) | (with_reducible refine Kept.drew ?_) | (with_reducible refine Kept.drewN ?_ _) | ((with_reducible refine Kept.setCell ?_ ?_ _); rotate_left; focus (first | (simp; done) | (simp; omega))) | refine Kept.trans ?_ (by assumption)))⟩
set_option maxHeartbeats 400000 in
theorem taken_any (s V : Int) (w : World) (h0 : 0 ≤ s) (h1 : s < 18446744073709551616) : Calls Tryz.prog 224 #[.int .u64 s, .int .u64 V] w fun e w' => e = .returned (.bool (full s && wlap s * 4294967296 == V)) ∧ Kept w w' := by
  have HF : ∀ w, Hid (Calls Tryz.prog 294 #[.int .u64 s] w fun e w' => e = .returned (.bool (full s)) ∧ w = w') := fun w => Lib.hid (full_any s w h0 h1)
  have HE : ∀ w, Hid (Calls Tryz.prog 295 #[.int .u64 s] w fun e w' => e = .returned (.int .u64 (wlap s * 4294967296)) ∧ Kept w w') := fun w => Lib.hid (emptied_any s w h0 h1)
  generalize wlap s * 4294967296 = q at *
  obtain ⟨b, hb⟩ : ∃ b, b = full s := ⟨_, rfl⟩
  rw [← hb]
  simp only [← hb] at HF
  clear hb
  cases b
  · go_enter Tryz.func224, Tryz.ntmps224
    go_wp2_with fail
    refine (HF _).out.mono ?_
    rintro e w1 ⟨rfl, rfl⟩
    go_wp2
    go_ret
    exact ⟨rfl, by (go_light; repeat (first | (with_reducible exact Kept.refl _) | (with_reducible assumption) | (with_reducible refine Kept.alloc ?_ _ _) | (with_reducible refine Kept.drew ?_) | (with_reducible refine Kept.drewN ?_ _) | ((with_reducible refine Kept.setCell ?_ ?_ _); rotate_left; focus (first | (simp; done) | (simp; omega))) | refine Kept.trans ?_ (by assumption)))⟩
  · go_enter Tryz.func224, Tryz.ntmps224
    go_wp2_with fail
    refine (HF _).out.mono ?_
    rintro e w1 ⟨rfl, rfl⟩
    go_wp2_with fail
    refine (HE _).out.mono ?_
    rintro e w2 ⟨rfl, k2⟩
    go_wp2
    go_ret
    exact ⟨rfl, by (go_light; repeat (first | (with_reducible exact Kept.refl _) | (with_reducible assumption) | (with_reducible refine Kept.alloc ?_ _ _) | (with_reducible refine Kept.drew ?_) | (with_reducible refine Kept.drewN ?_ _) | ((with_reducible refine Kept.setCell ?_ ?_ _); rotate_left; focus (first | (simp; done) | (simp; omega))) | refine Kept.trans ?_ (by assumption)))⟩
set_option maxHeartbeats 400000 in
theorem keptB_any (s V : Int) (w : World) (h0 : 0 ≤ s) (h1 : s < 18446744073709551616) : Calls Tryz.prog 323 #[.int .u64 s, .int .u64 V] w fun e w' => e = .returned (.bool (full s && (wlap s + 1) % 4294967296 * 4294967296 == V)) ∧ Kept w w' := by
  have HF : ∀ w, Hid (Calls Tryz.prog 294 #[.int .u64 s] w fun e w' => e = .returned (.bool (full s)) ∧ w = w') := fun w => Lib.hid (full_any s w h0 h1)
  have HE : ∀ w, Hid (Calls Tryz.prog 291 #[.int .u64 s] w fun e w' => e = .returned (.int .u64 ((wlap s + 1) % 4294967296 * 4294967296)) ∧ Kept w w') := fun w => Lib.hid (dropped_any s w h0 h1)
  generalize (wlap s + 1) % 4294967296 * 4294967296 = q at *
  obtain ⟨b, hb⟩ : ∃ b, b = full s := ⟨_, rfl⟩
  rw [← hb]
  simp only [← hb] at HF
  clear hb
  cases b
  · go_enter Tryz.func323, Tryz.ntmps323
    go_wp2_with fail
    refine (HF _).out.mono ?_
    rintro e w1 ⟨rfl, rfl⟩
    go_wp2
    go_ret
    exact ⟨rfl, by (go_light; repeat (first | (with_reducible exact Kept.refl _) | (with_reducible assumption) | (with_reducible refine Kept.alloc ?_ _ _) | (with_reducible refine Kept.drew ?_) | (with_reducible refine Kept.drewN ?_ _) | ((with_reducible refine Kept.setCell ?_ ?_ _); rotate_left; focus (first | (simp; done) | (simp; omega))) | refine Kept.trans ?_ (by assumption)))⟩
  · go_enter Tryz.func323, Tryz.ntmps323
    go_wp2_with fail
    refine (HF _).out.mono ?_
    rintro e w1 ⟨rfl, rfl⟩
    go_wp2_with fail
    refine (HE _).out.mono ?_
    rintro e w2 ⟨rfl, k2⟩
    go_wp2
    go_ret
    exact ⟨rfl, by (go_light; repeat (first | (with_reducible exact Kept.refl _) | (with_reducible assumption) | (with_reducible refine Kept.alloc ?_ _ _) | (with_reducible refine Kept.drew ?_) | (with_reducible refine Kept.drewN ?_ _) | ((with_reducible refine Kept.setCell ?_ ?_ _); rotate_left; focus (first | (simp; done) | (simp; omega))) | refine Kept.trans ?_ (by assumption)))⟩

abbrev ringV (R : Rng) : Value := .agg #[.int .i64 R.H, .int .i64 R.T, .int .i64 R.K, .int .i64 R.N]
set_option maxHeartbeats 400000 in
theorem sized_any (R : Rng) (w : World) : Calls Tryz.prog 104 #[ringV R] w fun e w' => e = .returned (.bool (decide (1 ≤ R.N ∧ R.N ≤ 4096))) ∧ Kept w w' := by
  by_cases h1 : 1 ≤ R.N
  · by_cases h2 : R.N ≤ 4096
    · have E : decide (1 ≤ R.N ∧ R.N ≤ 4096) = true := by simp [h1, h2]
      rw [E]
      go_enter Tryz.func104, Tryz.ntmps104
      go_wp2
      go_ret
      exact ⟨rfl, by (go_light; repeat (first | (with_reducible exact Kept.refl _) | (with_reducible assumption) | (with_reducible refine Kept.alloc ?_ _ _) | (with_reducible refine Kept.drew ?_) | (with_reducible refine Kept.drewN ?_ _) | ((with_reducible refine Kept.setCell ?_ ?_ _); rotate_left; focus (first | (simp; done) | (simp; omega))) | refine Kept.trans ?_ (by assumption)))⟩
    · have E : decide (1 ≤ R.N ∧ R.N ≤ 4096) = false := by simp [h2]
      have g2 : (4096 : Int) < R.N := by omega
      rw [E]
      go_enter Tryz.func104, Tryz.ntmps104
      go_wp2
      go_ret
      exact ⟨rfl, by (go_light; repeat (first | (with_reducible exact Kept.refl _) | (with_reducible assumption) | (with_reducible refine Kept.alloc ?_ _ _) | (with_reducible refine Kept.drew ?_) | (with_reducible refine Kept.drewN ?_ _) | ((with_reducible refine Kept.setCell ?_ ?_ _); rotate_left; focus (first | (simp; done) | (simp; omega))) | refine Kept.trans ?_ (by assumption)))⟩
  · have E : decide (1 ≤ R.N ∧ R.N ≤ 4096) = false := by simp [h1]
    have g1 : R.N < 1 := by omega
    rw [E]
    go_enter Tryz.func104, Tryz.ntmps104
    go_wp2
    go_ret
    exact ⟨rfl, by (go_light; repeat (first | (with_reducible exact Kept.refl _) | (with_reducible assumption) | (with_reducible refine Kept.alloc ?_ _ _) | (with_reducible refine Kept.drew ?_) | (with_reducible refine Kept.drewN ?_ _) | ((with_reducible refine Kept.setCell ?_ ?_ _); rotate_left; focus (first | (simp; done) | (simp; omega))) | refine Kept.trans ?_ (by assumption)))⟩
set_option maxHeartbeats 400000 in
theorem cell_wrap (R : Rng) (t : Int) (w : World) (n1 : 1 ≤ R.N) (n2 : R.N ≤ 4096) (t0 : 0 ≤ t) (t1 : t < 18446744073709551616) : Calls Tryz.prog 133 #[ringV R, .int .u64 t] w fun e w' => e = .returned (.int .i64 (wrap64 (cell R t))) ∧ Kept w w' := by
  have E : Hid (cell R t = R.K + t % R.N) := Lib.hid rfl
  have m0 := Int.emod_nonneg t (show R.N ≠ 0 by omega)
  have m1 := Int.emod_lt_of_pos t (show 0 < R.N by omega)
  go_enter Tryz.func133, Tryz.ntmps133
  go_wp2_with fail
  go_quiet (fail)
  go_wp2
  go_ret
  exact ⟨by rw [E.out]; rfl, by (go_light; repeat (first | (with_reducible exact Kept.refl _) | (with_reducible assumption) | (with_reducible refine Kept.alloc ?_ _ _) | (with_reducible refine Kept.drew ?_) | (with_reducible refine Kept.drewN ?_ _) | ((with_reducible refine Kept.setCell ?_ ?_ _); rotate_left; focus (first | (simp; done) | (simp; omega))) | refine Kept.trans ?_ (by assumption)))⟩
theorem cell_any (R : Rng) (n : Nat) (h : R.Ok n) (t : Int) (w : World) (t0 : 0 ≤ t) (t1 : t < 18446744073709551616) : Calls Tryz.prog 133 #[ringV R, .int .u64 t] w fun e w' => e = .returned (.int .i64 (cell R t)) ∧ Kept w w' :=
  (cell_wrap R t w h.N1 h.N2 t0 t1).mono fun _ _ ⟨x, k⟩ => ⟨by rw [x, show wrap64 (cell R t) = cell R t by have := cell_in h t; have := h.n2; unfold wrap64; omega], k⟩
set_option maxHeartbeats 400000 in
theorem vacant_any (R : Rng) (t : Int) (w : World) (n1 : 1 ≤ R.N) (n2 : R.N ≤ 4096) (t0 : 0 ≤ t) (t1 : t < 18446744073709551616) : Calls Tryz.prog 225 #[ringV R, .int .u64 t] w fun e w' => e = .returned (.int .u64 (vac R t)) ∧ Kept w w' := by
  have HU : ∀ w, Hid (Calls Tryz.prog 296 #[.agg #[.int .i64 (t / R.N % 4294967296), .bool false, .int .i64 0]] w fun e w' => e = .returned (.int .u64 (vac R t)) ∧ Kept w w') := fun w => Lib.hid (put_empty _ w ⟨lap_lo R t, lap_hi R t⟩)
  have d0 : 0 ≤ t / R.N := Int.ediv_nonneg t0 (by omega)
  have d1 : t / R.N < 18446744073709551616 := Int.lt_of_le_of_lt (Int.ediv_le_self _ t0) t1
  have hm := Wo.mask32 (t / R.N) d0 d1
  generalize vac R t = q at *
  go_enter Tryz.func225, Tryz.ntmps225
  go_wp2_with fail
  refine (HU _).out.mono ?_
  rintro e w2 ⟨rfl, k2⟩
  go_wp2
  go_ret
  exact ⟨rfl, by (go_light; repeat (first | (with_reducible exact Kept.refl _) | (with_reducible assumption) | (with_reducible refine Kept.alloc ?_ _ _) | (with_reducible refine Kept.drew ?_) | (with_reducible refine Kept.drewN ?_ _) | ((with_reducible refine Kept.setCell ?_ ?_ _); rotate_left; focus (first | (simp; done) | (simp; omega))) | refine Kept.trans ?_ (by assumption)))⟩
end Go.Proofs.YtlfdiffbepfgbaaGreat.Ri
