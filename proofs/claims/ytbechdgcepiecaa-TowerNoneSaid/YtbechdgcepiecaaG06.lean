/- Get of each kind: the program's and the document's. -/
import Derived.Test.YtbechdgcepiecaaG05
import Derived.Test.YtbechdgcepiecaaG03
import Derived.Lib.Hide
import Derived.Deep.Light
import Derived.Deep.RegionHeld3
import Derived.Laws.EntriesVeiled
set_option linter.unusedVariables false
set_option linter.unusedSimpArgs false

namespace Go.Proofs.Ytbechdgcepiecaa.Wo
set_option maxRecDepth 20000
open Go.RowKit

set_option maxHeartbeats 800000 in
theorem get_ref_yes (n : Int) (w : World) (h0 : 0 ≤ n) (h1 : n < 18446744073709551616) (hg : goodRef n = true) : Calls Try.prog 85 #[.int .u64 n] w fun e w' => e = .returned (.tuple #[.agg #[.int .i64 (rIdx n), .int .i64 (rGen n), .bool (markOf n)], .int .i64 0]) ∧ Kept w w' := by
  have HP : ∀ w, Hid (Calls Try.prog 116 #[.agg #[.int .i64 (rIdx n), .int .i64 (rGen n), .bool (markOf n)]] w fun e w' => e = .returned (.tuple #[.int .u64 (n), .int .i64 (0)]) ∧ Kept w w') := fun w => Lib.hid (by
    have h := put_ref (rIdx n) (rGen n) (markOf n) w (by have := rIdx_lo n; omega) (by have := rIdx_hi n; omega)
    rw [pair_yes hg] at h
    exact h)
  have H0 := Lib.hid h0; have H1 := Lib.hid h1
  clear h0 h1 hg
  go_enter Try.func85, Try.ntmps85
  go_wp2_with fail
  refine (value_ref _ _ H0.out H1.out).mono ?_
  rintro e w1 ⟨rfl, hk1⟩
  go_wp2_with fail
  refine (meaning_ref_yes _ _ _ _ _ HP).mono ?_
  rintro e w2 ⟨rfl, hk2⟩
  have hz := (hk1.trans hk2).size
  simp at hz
  have r0 : w2.cell? ⟨w.heap.size, 0, none⟩ = some (.int .i64 0) := (hk1.trans hk2).some (by simp [*])
  have r1 : w2.cell? ⟨w.heap.size, 1, none⟩ = some (.int .i64 0) := (hk1.trans hk2).some (by simp [*])
  have r2 : w2.cell? ⟨w.heap.size, 2, none⟩ = some (.bool false) := (hk1.trans hk2).some (by simp [*])
  have f1 : ∀ o, w2.frozen? ⟨w.heap.size, o, none⟩ = false := fun o => by rw [(hk1.trans hk2).froze]; simp
  have K1 : Kept w w2 := (((Kept.refl w).alloc _ _).trans (hk1.trans hk2))
  have hlt : w.heap.size < w2.heap.size := by omega
  clear hk1 hk2 hz
  go_wp2
  refine bodyPost_ret (v := .tuple #[.agg #[.int .i64 (rIdx n), .int .i64 (rGen n), .bool (markOf n)], .int .i64 0]) ?_ rfl ⟨rfl, ?_⟩
  · simp [results, Try.results85, go_sem, r0, r1, r2]
  · refine (Kept.setCell (Kept.setCell (Kept.setCell K1 ?_ _) ?_ _) ?_ _) <;> simp

set_option maxHeartbeats 800000 in
theorem get_ref_err (n : Int) (w : World) (h0 : 0 ≤ n) (h1 : n < 18446744073709551616) (hb : (putRef (rIdx n) (rGen n) (markOf n)).2 ≠ 0) : Calls Try.prog 85 #[.int .u64 n] w fun e w' => e = .returned (.tuple #[.agg #[.int .i64 0, .int .i64 0, .bool false], .int .i64 5]) ∧ Kept w w' := by
  have HP : ∀ w, Hid (Calls Try.prog 116 #[.agg #[.int .i64 (rIdx n), .int .i64 (rGen n), .bool (markOf n)]] w fun e w' => e = .returned (.tuple #[.int .u64 ((putRef (rIdx n) (rGen n) (markOf n)).1), .int .i64 ((putRef (rIdx n) (rGen n) (markOf n)).2)]) ∧ Kept w w') := fun w => Lib.hid (by
    have h := put_ref (rIdx n) (rGen n) (markOf n) w (by have := rIdx_lo n; omega) (by have := rIdx_hi n; omega)
    exact h)
  have H0 := Lib.hid h0; have H1 := Lib.hid h1
  have HB := Lib.hid hb
  clear h0 h1 hb
  go_enter Try.func85, Try.ntmps85
  go_wp2_with fail
  refine (value_ref _ _ H0.out H1.out).mono ?_
  rintro e w1 ⟨rfl, hk1⟩
  go_wp2_with fail
  refine (meaning_ref_err _ _ _ _ _ _ _ HP HB.out).mono ?_
  rintro e w2 ⟨rfl, hk2⟩
  have hz := (hk1.trans hk2).size
  simp at hz
  have r0 : w2.cell? ⟨w.heap.size, 0, none⟩ = some (.int .i64 0) := (hk1.trans hk2).some (by simp [*])
  have r1 : w2.cell? ⟨w.heap.size, 1, none⟩ = some (.int .i64 0) := (hk1.trans hk2).some (by simp [*])
  have r2 : w2.cell? ⟨w.heap.size, 2, none⟩ = some (.bool false) := (hk1.trans hk2).some (by simp [*])
  have f1 : ∀ o, w2.frozen? ⟨w.heap.size, o, none⟩ = false := fun o => by rw [(hk1.trans hk2).froze]; simp
  have K1 : Kept w w2 := (((Kept.refl w).alloc _ _).trans (hk1.trans hk2))
  have hlt : w.heap.size < w2.heap.size := by omega
  clear hk1 hk2 hz
  go_wp2
  refine bodyPost_ret (v := .tuple #[.agg #[.int .i64 0, .int .i64 0, .bool false], .int .i64 5]) ?_ rfl ⟨rfl, ?_⟩
  · simp [results, Try.results85, go_sem, r0, r1, r2]
  · refine (Kept.setCell (Kept.setCell (Kept.setCell K1 ?_ _) ?_ _) ?_ _) <;> simp

set_option maxHeartbeats 800000 in
theorem get_ref_word (n : Int) (w : World) (h0 : 0 ≤ n) (h1 : n < 18446744073709551616) (hb : (putRef (rIdx n) (rGen n) (markOf n)).2 = 0) (ha : (putRef (rIdx n) (rGen n) (markOf n)).1 ≠ n) : Calls Try.prog 85 #[.int .u64 n] w fun e w' => e = .returned (.tuple #[.agg #[.int .i64 0, .int .i64 0, .bool false], .int .i64 5]) ∧ Kept w w' := by
  have HP : ∀ w, Hid (Calls Try.prog 116 #[.agg #[.int .i64 (rIdx n), .int .i64 (rGen n), .bool (markOf n)]] w fun e w' => e = .returned (.tuple #[.int .u64 ((putRef (rIdx n) (rGen n) (markOf n)).1), .int .i64 (0)]) ∧ Kept w w') := fun w => Lib.hid (by
    have h := put_ref (rIdx n) (rGen n) (markOf n) w (by have := rIdx_lo n; omega) (by have := rIdx_hi n; omega)
    rw [hb] at h
    exact h)
  have H0 := Lib.hid h0; have H1 := Lib.hid h1
  have HA := Lib.hid ha
  clear h0 h1 hb ha
  go_enter Try.func85, Try.ntmps85
  go_wp2_with fail
  refine (value_ref _ _ H0.out H1.out).mono ?_
  rintro e w1 ⟨rfl, hk1⟩
  go_wp2_with fail
  refine (meaning_ref_word _ _ _ _ _ _ HP HA.out).mono ?_
  rintro e w2 ⟨rfl, hk2⟩
  have hz := (hk1.trans hk2).size
  simp at hz
  have r0 : w2.cell? ⟨w.heap.size, 0, none⟩ = some (.int .i64 0) := (hk1.trans hk2).some (by simp [*])
  have r1 : w2.cell? ⟨w.heap.size, 1, none⟩ = some (.int .i64 0) := (hk1.trans hk2).some (by simp [*])
  have r2 : w2.cell? ⟨w.heap.size, 2, none⟩ = some (.bool false) := (hk1.trans hk2).some (by simp [*])
  have f1 : ∀ o, w2.frozen? ⟨w.heap.size, o, none⟩ = false := fun o => by rw [(hk1.trans hk2).froze]; simp
  have K1 : Kept w w2 := (((Kept.refl w).alloc _ _).trans (hk1.trans hk2))
  have hlt : w.heap.size < w2.heap.size := by omega
  clear hk1 hk2 hz
  go_wp2
  refine bodyPost_ret (v := .tuple #[.agg #[.int .i64 0, .int .i64 0, .bool false], .int .i64 5]) ?_ rfl ⟨rfl, ?_⟩
  · simp [results, Try.results85, go_sem, r0, r1, r2]
  · refine (Kept.setCell (Kept.setCell (Kept.setCell K1 ?_ _) ?_ _) ?_ _) <;> simp

set_option maxHeartbeats 800000 in
theorem get_top_yes (n : Int) (w : World) (h0 : 0 ≤ n) (h1 : n < 18446744073709551616) : Calls Try.prog 119 #[.int .u64 n] w fun e w' => e = .returned (.tuple #[.agg #[.int .i64 (rIdx n), .int .i64 (tTag n)], .int .i64 0]) ∧ Kept w w' := by
  have HP : ∀ w, Hid (Calls Try.prog 148 #[.agg #[.int .i64 (rIdx n), .int .i64 (tTag n)]] w fun e w' => e = .returned (.tuple #[.int .u64 (n), .int .i64 (0)]) ∧ Kept w w') := fun w => Lib.hid (by
    have h := put_top (rIdx n) (tTag n) w (by have := rIdx_lo n; omega) (by have := rIdx_hi n; omega)
    rw [top_good n h0 h1] at h
    exact h)
  have H0 := Lib.hid h0; have H1 := Lib.hid h1
  clear h0 h1
  go_enter Try.func119, Try.ntmps119
  go_wp2_with fail
  refine (value_top _ _ H0.out H1.out).mono ?_
  rintro e w1 ⟨rfl, hk1⟩
  go_wp2_with fail
  refine (meaning_top_yes _ _ _ _ HP).mono ?_
  rintro e w2 ⟨rfl, hk2⟩
  have hz := (hk1.trans hk2).size
  simp at hz
  have r0 : w2.cell? ⟨w.heap.size, 0, none⟩ = some (.int .i64 0) := (hk1.trans hk2).some (by simp [*])
  have r1 : w2.cell? ⟨w.heap.size, 1, none⟩ = some (.int .i64 0) := (hk1.trans hk2).some (by simp [*])
  have f1 : ∀ o, w2.frozen? ⟨w.heap.size, o, none⟩ = false := fun o => by rw [(hk1.trans hk2).froze]; simp
  have K1 : Kept w w2 := (((Kept.refl w).alloc _ _).trans (hk1.trans hk2))
  have hlt : w.heap.size < w2.heap.size := by omega
  clear hk1 hk2 hz
  go_wp2
  refine bodyPost_ret (v := .tuple #[.agg #[.int .i64 (rIdx n), .int .i64 (tTag n)], .int .i64 0]) ?_ rfl ⟨rfl, ?_⟩
  · simp [results, Try.results119, go_sem, r0, r1]
  · refine (Kept.setCell (Kept.setCell K1 ?_ _) ?_ _) <;> simp

set_option maxHeartbeats 800000 in
theorem get_slot_yes (n : Int) (w : World) (h0 : 0 ≤ n) (h1 : n < 18446744073709551616) (hg : goodSlot n = true) : Calls Try.prog 138 #[.int .u64 n] w fun e w' => e = .returned (.tuple #[.agg #[.int .i64 (sLap n), .bool (sFull n), .int .i64 (sVal n)], .int .i64 0]) ∧ Kept w w' := by
  have HP : ∀ w, Hid (Calls Try.prog 163 #[.agg #[.int .i64 (sLap n), .bool (sFull n), .int .i64 (sVal n)]] w fun e w' => e = .returned (.tuple #[.int .u64 (n), .int .i64 (0)]) ∧ Kept w w') := fun w => Lib.hid (by
    have h := put_slot (sLap n) (sFull n) (sVal n) w
    rw [pair_yes hg] at h
    exact h)
  have H0 := Lib.hid h0; have H1 := Lib.hid h1
  clear h0 h1 hg
  go_enter Try.func138, Try.ntmps138
  go_wp2_with fail
  refine (value_slot _ _ H0.out H1.out).mono ?_
  rintro e w1 ⟨rfl, hk1⟩
  go_wp2_with fail
  refine (meaning_slot_yes _ _ _ _ _ HP).mono ?_
  rintro e w2 ⟨rfl, hk2⟩
  have hz := (hk1.trans hk2).size
  simp at hz
  have r0 : w2.cell? ⟨w.heap.size, 0, none⟩ = some (.int .i64 0) := (hk1.trans hk2).some (by simp [*])
  have r1 : w2.cell? ⟨w.heap.size, 1, none⟩ = some (.bool false) := (hk1.trans hk2).some (by simp [*])
  have r2 : w2.cell? ⟨w.heap.size, 2, none⟩ = some (.int .i64 0) := (hk1.trans hk2).some (by simp [*])
  have f1 : ∀ o, w2.frozen? ⟨w.heap.size, o, none⟩ = false := fun o => by rw [(hk1.trans hk2).froze]; simp
  have K1 : Kept w w2 := (((Kept.refl w).alloc _ _).trans (hk1.trans hk2))
  have hlt : w.heap.size < w2.heap.size := by omega
  clear hk1 hk2 hz
  go_wp2
  refine bodyPost_ret (v := .tuple #[.agg #[.int .i64 (sLap n), .bool (sFull n), .int .i64 (sVal n)], .int .i64 0]) ?_ rfl ⟨rfl, ?_⟩
  · simp [results, Try.results138, go_sem, r0, r1, r2]
  · refine (Kept.setCell (Kept.setCell (Kept.setCell K1 ?_ _) ?_ _) ?_ _) <;> simp

set_option maxHeartbeats 800000 in
theorem get_slot_err (n : Int) (w : World) (h0 : 0 ≤ n) (h1 : n < 18446744073709551616) (hb : (putSlot (sLap n) (sFull n) (sVal n)).2 ≠ 0) : Calls Try.prog 138 #[.int .u64 n] w fun e w' => e = .returned (.tuple #[.agg #[.int .i64 0, .bool false, .int .i64 0], .int .i64 5]) ∧ Kept w w' := by
  have HP : ∀ w, Hid (Calls Try.prog 163 #[.agg #[.int .i64 (sLap n), .bool (sFull n), .int .i64 (sVal n)]] w fun e w' => e = .returned (.tuple #[.int .u64 ((putSlot (sLap n) (sFull n) (sVal n)).1), .int .i64 ((putSlot (sLap n) (sFull n) (sVal n)).2)]) ∧ Kept w w') := fun w => Lib.hid (by
    have h := put_slot (sLap n) (sFull n) (sVal n) w
    exact h)
  have H0 := Lib.hid h0; have H1 := Lib.hid h1
  have HB := Lib.hid hb
  clear h0 h1 hb
  go_enter Try.func138, Try.ntmps138
  go_wp2_with fail
  refine (value_slot _ _ H0.out H1.out).mono ?_
  rintro e w1 ⟨rfl, hk1⟩
  go_wp2_with fail
  refine (meaning_slot_err _ _ _ _ _ _ _ HP HB.out).mono ?_
  rintro e w2 ⟨rfl, hk2⟩
  have hz := (hk1.trans hk2).size
  simp at hz
  have r0 : w2.cell? ⟨w.heap.size, 0, none⟩ = some (.int .i64 0) := (hk1.trans hk2).some (by simp [*])
  have r1 : w2.cell? ⟨w.heap.size, 1, none⟩ = some (.bool false) := (hk1.trans hk2).some (by simp [*])
  have r2 : w2.cell? ⟨w.heap.size, 2, none⟩ = some (.int .i64 0) := (hk1.trans hk2).some (by simp [*])
  have f1 : ∀ o, w2.frozen? ⟨w.heap.size, o, none⟩ = false := fun o => by rw [(hk1.trans hk2).froze]; simp
  have K1 : Kept w w2 := (((Kept.refl w).alloc _ _).trans (hk1.trans hk2))
  have hlt : w.heap.size < w2.heap.size := by omega
  clear hk1 hk2 hz
  go_wp2
  refine bodyPost_ret (v := .tuple #[.agg #[.int .i64 0, .bool false, .int .i64 0], .int .i64 5]) ?_ rfl ⟨rfl, ?_⟩
  · simp [results, Try.results138, go_sem, r0, r1, r2]
  · refine (Kept.setCell (Kept.setCell (Kept.setCell K1 ?_ _) ?_ _) ?_ _) <;> simp

set_option maxHeartbeats 800000 in
theorem get_slot_word (n : Int) (w : World) (h0 : 0 ≤ n) (h1 : n < 18446744073709551616) (hb : (putSlot (sLap n) (sFull n) (sVal n)).2 = 0) (ha : (putSlot (sLap n) (sFull n) (sVal n)).1 ≠ n) : Calls Try.prog 138 #[.int .u64 n] w fun e w' => e = .returned (.tuple #[.agg #[.int .i64 0, .bool false, .int .i64 0], .int .i64 5]) ∧ Kept w w' := by
  have HP : ∀ w, Hid (Calls Try.prog 163 #[.agg #[.int .i64 (sLap n), .bool (sFull n), .int .i64 (sVal n)]] w fun e w' => e = .returned (.tuple #[.int .u64 ((putSlot (sLap n) (sFull n) (sVal n)).1), .int .i64 (0)]) ∧ Kept w w') := fun w => Lib.hid (by
    have h := put_slot (sLap n) (sFull n) (sVal n) w
    rw [hb] at h
    exact h)
  have H0 := Lib.hid h0; have H1 := Lib.hid h1
  have HA := Lib.hid ha
  clear h0 h1 hb ha
  go_enter Try.func138, Try.ntmps138
  go_wp2_with fail
  refine (value_slot _ _ H0.out H1.out).mono ?_
  rintro e w1 ⟨rfl, hk1⟩
  go_wp2_with fail
  refine (meaning_slot_word _ _ _ _ _ _ HP HA.out).mono ?_
  rintro e w2 ⟨rfl, hk2⟩
  have hz := (hk1.trans hk2).size
  simp at hz
  have r0 : w2.cell? ⟨w.heap.size, 0, none⟩ = some (.int .i64 0) := (hk1.trans hk2).some (by simp [*])
  have r1 : w2.cell? ⟨w.heap.size, 1, none⟩ = some (.bool false) := (hk1.trans hk2).some (by simp [*])
  have r2 : w2.cell? ⟨w.heap.size, 2, none⟩ = some (.int .i64 0) := (hk1.trans hk2).some (by simp [*])
  have f1 : ∀ o, w2.frozen? ⟨w.heap.size, o, none⟩ = false := fun o => by rw [(hk1.trans hk2).froze]; simp
  have K1 : Kept w w2 := (((Kept.refl w).alloc _ _).trans (hk1.trans hk2))
  have hlt : w.heap.size < w2.heap.size := by omega
  clear hk1 hk2 hz
  go_wp2
  refine bodyPost_ret (v := .tuple #[.agg #[.int .i64 0, .bool false, .int .i64 0], .int .i64 5]) ?_ rfl ⟨rfl, ?_⟩
  · simp [results, Try.results138, go_sem, r0, r1, r2]
  · refine (Kept.setCell (Kept.setCell (Kept.setCell K1 ?_ _) ?_ _) ?_ _) <;> simp

end Go.Proofs.Ytbechdgcepiecaa.Wo

namespace Go.Proofs.Ytbechdgcepiecaa.Sk
set_option maxRecDepth 20000
open Go.RowKit
open Wo (St acc wordAt)

theorem g_top (n : Int) (w : World) (h0 : 0 ≤ n) (h1 : n < 18446744073709551616) : Calls Try.prog 119 #[.int .u64 n] w fun e w' => e = .returned (.tuple #[.agg #[.int .i64 (n % 65536 - 1), .int .i64 (n / 65536 % 281474976710656)], .int .i64 0]) ∧ Kept w w' :=
  (Wo.get_top_yes n w h0 h1).mono fun _ _ ⟨x, k⟩ => ⟨x, kept_of k⟩
theorem u_top (i t : Int) (w : World) (h : -1 ≤ i ∧ i ≤ 65534 ∧ 0 ≤ t ∧ t ≤ 281474976710655) : Calls Try.prog 148 #[.agg #[.int .i64 i, .int .i64 t]] w fun e w' => e = .returned (.tuple #[.int .u64 (i + 1 + t * 65536), .int .i64 0]) ∧ Kept w w' :=
  (Wo.put_top_good i t w h).mono fun _ _ ⟨x, k⟩ => ⟨x, kept_of k⟩

set_option maxHeartbeats 400000 in
theorem link_any (T K N i : Int) (w : World) : Calls Try.prog 151 #[.agg #[.int .i64 T, .int .i64 K, .int .i64 N], .int .i64 i] w fun e w' => e = .returned (.int .i64 (wrap64 (K + i))) ∧ Kept w w' := by
  go_enter Try.func151, Try.ntmps151
  go_wp2
  go_ret
  exact ⟨rfl, by (go_light; repeat (first | (with_reducible exact Kept.refl _) | (with_reducible assumption) | (with_reducible refine Kept.alloc ?_ _ _) | (with_reducible refine Kept.drew ?_) | (with_reducible refine Kept.drewN ?_ _) | ((with_reducible refine Kept.setCell ?_ ?_ _); rotate_left; focus (first | (simp; done) | (simp; omega))) | refine Kept.trans ?_ (by assumption)))⟩
theorem link_in (T K N i : Int) (w : World) (h0 : 0 ≤ K) (h1 : K ≤ 100000) (h2 : -1 ≤ i) (h3 : i ≤ 100000) : Calls Try.prog 151 #[.agg #[.int .i64 T, .int .i64 K, .int .i64 N], .int .i64 i] w fun e w' => e = .returned (.int .i64 (K + i)) ∧ Kept w w' :=
  (link_any T K N i w).mono fun _ _ ⟨x, k⟩ => ⟨by rw [x, show wrap64 (K + i) = K + i by unfold wrap64; omega], k⟩

set_option maxHeartbeats 400000 in
theorem untagged_any (i : Int) (w : World) (h0 : -1 ≤ i) (h1 : i ≤ 65534) : Calls Try.prog 150 #[.int .i64 i] w fun e w' => e = .returned (.int .u64 (i + 1)) ∧ Kept w w' := by
  have hp : ∀ w, Hid (Calls Try.prog 148 #[.agg #[.int .i64 i, .int .i64 0]] w fun e w' => e = .returned (.tuple #[.int .u64 (i + 1), .int .i64 0]) ∧ Kept w w') := fun w => Lib.hid (by
    have h := u_top i 0 w ⟨h0, h1, by omega, by omega⟩
    rw [Int.zero_mul, Int.add_zero] at h
    exact h)
  clear h0 h1
  go_enter Try.func150, Try.ntmps150
  go_wp2_with fail
  refine (hp _).out.mono ?_
  rintro e w1 ⟨rfl, k1⟩
  go_wp2
  go_ret
  exact ⟨rfl, by (go_light; repeat (first | (with_reducible exact Kept.refl _) | (with_reducible assumption) | (with_reducible refine Kept.alloc ?_ _ _) | (with_reducible refine Kept.drew ?_) | (with_reducible refine Kept.drewN ?_ _) | ((with_reducible refine Kept.setCell ?_ ?_ _); rotate_left; focus (first | (simp; done) | (simp; omega))) | refine Kept.trans ?_ (by assumption)))⟩

theorem and_tag (x : Int) (h0 : 0 ≤ x) (h1 : x ≤ 281474976710656) : bits .and .i64 x 281474976710655 = x % 281474976710656 :=
  bits_mask .i64 62 (by decide) (fun n a b => by have := Wo.wi n a (by omega); unfold wrap64 at this; rw [IntKind.wrap_i64]; exact this) 48 (by decide) x h0 (by omega)

end Go.Proofs.Ytbechdgcepiecaa.Sk

namespace Go.Proofs.Ytbechdgcepiecaa.Sk
set_option maxRecDepth 20000
open Go.RowKit
open Wo (St acc wordAt PMem RefIs)

structure OpAt (w : World) (P o : Nat) (S : Stk) (W L : Int) (nx : Value) (er : Int) : Prop where
  c0 : w.cell? ⟨P, o, none⟩ = some (.bool true)
  c1 : w.cell? ⟨P, o + 1, none⟩ = some (.int .i64 S.T)
  c2 : w.cell? ⟨P, o + 2, none⟩ = some (.int .i64 S.K)
  c3 : w.cell? ⟨P, o + 3, none⟩ = some (.int .i64 S.N)
  c4 : w.cell? ⟨P, o + 4, none⟩ = some (.int .u64 W)
  c5 : w.cell? ⟨P, o + 5, none⟩ = some (.int .u64 L)
  c6 : w.cell? ⟨P, o + 6, none⟩ = some nx
  c7 : w.cell? ⟨P, o + 7, none⟩ = some (.int .i64 er)
  f : ∀ i, w.frozen? ⟨P, i, none⟩ = false

theorem OpAt.lt {w : World} {P o : Nat} {S : Stk} {W L : Int} {nx : Value} {er : Int} (h : OpAt w P o S W L nx er) : P < w.heap.size := lt_of_cell h.c0
theorem OpAt.frame {w w' : World} {P o : Nat} {S : Stk} {W L : Int} {nx : Value} {er : Int} (h : OpAt w P o S W L nx er) {T : Nat → Prop} (hb : But T w w') (hP : ¬ T P) : OpAt w' P o S W L nx er :=
  ⟨hb.some h.c0 hP, hb.some h.c1 hP, hb.some h.c2 hP, hb.some h.c3 hP, hb.some h.c4 hP, hb.some h.c5 hP, hb.some h.c6 hP, hb.some h.c7 hP, fun i => hb.soft h.lt (h.f i)⟩
theorem OpAt.kept {w w' : World} {P o : Nat} {S : Stk} {W L : Int} {nx : Value} {er : Int} (h : OpAt w P o S W L nx er) (k : Kept w w') : OpAt w' P o S W L nx er := h.frame (k.but (fun _ => False)) id

structure Chg (P o m B : Nat) (w w' : World) : Prop where
  but : But (fun k => k = P ∨ k = B) w w'
  out : ∀ j, (j < o ∨ o + m ≤ j) → w'.cell? ⟨P, j, none⟩ = w.cell? ⟨P, j, none⟩

theorem Chg.refl (P o m B : Nat) (w : World) : Chg P o m B w w := ⟨But.refl _ _, fun _ _ => rfl⟩
theorem Chg.trans {P o m B : Nat} {a b c : World} (h : Chg P o m B a b) (k : Chg P o m B b c) : Chg P o m B a c :=
  ⟨h.but.trans k.but (fun _ _ h => h), fun j hj => (k.out j hj).trans (h.out j hj)⟩
theorem Chg.keep {P o m B : Nat} {a b c : World} (h : Chg P o m B a b) (k : Kept b c) (hP : P < a.heap.size) : Chg P o m B a c :=
  ⟨h.but.then k, fun j hj => (k.cell P j (Nat.lt_of_lt_of_le hP h.but.size)).trans (h.out j hj)⟩
theorem Chg.mem {P o m B : Nat} {a b c : World} (h : Chg P o m B a b) (k : But (fun k => k = B) b c) (hP : P < a.heap.size) (hPB : P ≠ B) : Chg P o m B a c :=
  ⟨h.but.trans k (fun _ _ h => Or.inr h), fun j hj => (k.cell P j (Nat.lt_of_lt_of_le hP h.but.size) hPB).trans (h.out j hj)⟩
theorem Chg.set {P o m B : Nat} {a b : World} (h : Chg P o m B a b) (j : Nat) (hj : o ≤ j ∧ j < o + m) (v : Value) : Chg P o m B a (b.setCell ⟨P, j, none⟩ v) :=
  ⟨h.but.setCell (p := ⟨P, j, none⟩) (Or.inl (Or.inl rfl)) v, fun i hi => by rw [cell_set, if_neg (by omega)]; exact h.out i hi⟩
theorem Chg.alloc {P o m B : Nat} {a b : World} (h : Chg P o m B a b) (hP : P < a.heap.size) (c : Array Value) (t : TypeId) : Chg P o m B a (b.alloc (.cells c t)) := h.keep ((Kept.refl b).alloc c t) hP
theorem Chg.drew {P o m B : Nat} {a b : World} (h : Chg P o m B a b) (hP : P < a.heap.size) : Chg P o m B a b.drew := h.keep (Kept.refl b).drew hP
theorem Chg.drewN {P o m B : Nat} {a b : World} (h : Chg P o m B a b) (hP : P < a.heap.size) (n : Nat) : Chg P o m B a (b.drewN n) := h.keep ((Kept.refl b).drewN n) hP
theorem Chg.some {P o m B : Nat} {w w' : World} (h : Chg P o m B w w') {j : Nat} {v : Value} (hc : w.cell? ⟨P, j, none⟩ = some v) (hj : j < o ∨ o + m ≤ j) : w'.cell? ⟨P, j, none⟩ = some v := (h.out j hj).trans hc
theorem Chg.wide {P o m o' m' B : Nat} {w w' : World} (h : Chg P o m B w w') (h0 : o' ≤ o) (h1 : o + m ≤ o' + m') : Chg P o' m' B w w' := ⟨h.but, fun j hj => h.out j (by omega)⟩
theorem Chg.any {P o m : Nat} {w w' : World} (h : Chg P o m P w w') (B : Nat) : Chg P o m B w w' := ⟨h.but.mono (fun _ _ h => h.elim Or.inl Or.inl), h.out⟩
theorem Chg.own {P o m : Nat} {w w' : World} (h : Chg P o m P w w') : But (fun k => k = P) w w' := h.but.mono (fun _ _ h => h.elim id id)
end Go.Proofs.Ytbechdgcepiecaa.Sk

namespace Go.Proofs.Ytbechdgcepiecaa.Sk
set_option maxRecDepth 20000
open Go.RowKit
open Wo (St acc wordAt PMem RefIs)

end Go.Proofs.Ytbechdgcepiecaa.Sk

namespace Go.Proofs.Ytbechdgcepiecaa.Sk
set_option maxRecDepth 20000
open Go.RowKit
open Wo (St acc wordAt PMem RefIs)
end Go.Proofs.Ytbechdgcepiecaa.Sk

namespace Go.Proofs.Ytbechdgcepiecaa.Sk
set_option maxRecDepth 20000
open Go.RowKit
open Wo (St acc wordAt PMem RefIs)

end Go.Proofs.Ytbechdgcepiecaa.Sk

namespace Go.Proofs.Ytbechdgcepiecaa.Sk
set_option maxRecDepth 20000
open Go.RowKit
open Wo (St acc wordAt PMem RefIs)
end Go.Proofs.Ytbechdgcepiecaa.Sk

namespace Go.Proofs.Ytbechdgcepiecaa.Sk
set_option maxRecDepth 20000
open Go.RowKit
open Wo (St acc wordAt PMem RefIs)

end Go.Proofs.Ytbechdgcepiecaa.Sk

namespace Go.Proofs.Ytbechdgcepiecaa.Sk
set_option maxRecDepth 20000
open Go.RowKit
open Wo (St acc wordAt PMem RefIs)
end Go.Proofs.Ytbechdgcepiecaa.Sk

namespace Go.Proofs.Ytbechdgcepiecaa.Sk
set_option maxRecDepth 20000
open Go.RowKit
open Wo (St acc wordAt PMem RefIs)
end Go.Proofs.Ytbechdgcepiecaa.Sk

namespace Go.Proofs.Ytbechdgcepiecaa.Sk
set_option maxRecDepth 20000
open Go.RowKit
open Wo (St acc wordAt PMem RefIs)
end Go.Proofs.Ytbechdgcepiecaa.Sk

namespace Go.Proofs.Ytbechdgcepiecaa.Sk
set_option maxRecDepth 20000
open Go.RowKit
open Wo (St acc wordAt PMem RefIs)
end Go.Proofs.Ytbechdgcepiecaa.Sk

namespace Go.Proofs.Ytbechdgcepiecaa.Sk
set_option maxRecDepth 20000
open Go.RowKit
open Wo (St acc wordAt PMem RefIs)

structure Op.Good (x : Op) : Prop where
  w0 : 0 ≤ x.W
  w1 : x.W < 18446744073709551616
  l0 : 0 ≤ x.L
  l1 : x.L < 18446744073709551616

def Stepped (At : World → Prop) (M B n : Nat) (s' : St) (P o : Nat) (b : Bool) (w : World) (e : Ending) (w' : World) : Prop :=
  e = .returned (.bool b) ∧ At w' ∧ PMem w' M B n s' ∧ Chg P o 8 B w w'

def lines (x : Op) : Prop := x.line = 1 ∨ x.line = 2 ∨ x.line = 3 ∨ x.line = 9

def took (S : Stk) (x : Op) : Prop := (x.line = 2 ∨ x.line = 3) → 0 ≤ idx S.N x.W
theorem no31 : ¬ (3 : Nat) = 1 := by decide
theorem no32 : ¬ (3 : Nat) = 2 := by decide
theorem no91 : ¬ (9 : Nat) = 1 := by decide
theorem no92 : ¬ (9 : Nat) = 2 := by decide
theorem no93 : ¬ (9 : Nat) = 3 := by decide
theorem no21 : ¬ (2 : Nat) = 1 := by decide

theorem popOp_good {n : Nat} {S : Stk} {s : St} {x : Op} (hx : x.Good) (hl : lines x) (ht : took S x) (hs : Wd n s) : (popOp n S s x).Good ∧ lines (popOp n S s x) ∧ took S (popOp n S s x) := by
  obtain ⟨l, W, L⟩ := x
  have w1 := hs.word S.T
  have w2 := hs.word (S.K + idx S.N W)
  unfold popOp
  rcases hl with h | h | h | h
  · obtain rfl : l = 1 := h
    rw [if_pos rfl]
    refine ⟨⟨w1.1, w1.2, hx.l0, hx.l1⟩, ?_, fun h => ?_⟩
    · unfold lines; dsimp only; split <;> simp
    · dsimp only at h ⊢
      split at h
      · omega
      · omega
  · obtain rfl : l = 2 := h
    rw [if_neg no21, if_pos rfl]
    exact ⟨⟨hx.w0, hx.w1, w2.1, w2.2⟩, Or.inr (Or.inr (Or.inl rfl)), fun _ => ht (Or.inl rfl)⟩
  · obtain rfl : l = 3 := h
    rw [if_neg no31, if_neg no32, if_pos rfl]
    refine ⟨⟨hx.w0, hx.w1, hx.l0, hx.l1⟩, ?_, fun _ => ht (Or.inr rfl)⟩
    unfold lines; dsimp only; split <;> simp
  · obtain rfl : l = 9 := h
    rw [if_neg no91, if_neg no92, if_neg no93]
    exact ⟨hx, Or.inr (Or.inr (Or.inr rfl)), ht⟩
theorem allOp_good {n : Nat} {S : Stk} {s : St} {x : Op} (hx : x.Good) (hl : lines x) (h3 : x.line ≠ 3) (ht : took S x) (hs : Wd n s) : (allOp n S s x).Good ∧ lines (allOp n S s x) ∧ (allOp n S s x).line ≠ 3 ∧ took S (allOp n S s x) := by
  obtain ⟨l, W, L⟩ := x
  have w1 := hs.word S.T
  unfold allOp
  rcases hl with h | h | h | h
  · obtain rfl : l = 1 := h
    rw [if_pos rfl]
    refine ⟨⟨w1.1, w1.2, hx.l0, hx.l1⟩, ?_, ?_, fun h => ?_⟩
    · unfold lines; dsimp only; split <;> simp
    · dsimp only; split <;> decide
    · dsimp only at h ⊢
      split at h
      · omega
      · omega
  · obtain rfl : l = 2 := h
    rw [if_neg no21, if_pos rfl]
    refine ⟨⟨hx.w0, hx.w1, hx.l0, hx.l1⟩, ?_, ?_, fun _ => ht (Or.inl rfl)⟩
    · unfold lines; dsimp only; split <;> simp
    · dsimp only; split <;> decide
  · exact absurd h h3
  · obtain rfl : l = 9 := h
    rw [if_neg no91, if_neg no92]
    exact ⟨hx, Or.inr (Or.inr (Or.inr rfl)), h3, ht⟩
theorem pushOp_good {n : Nat} {S : Stk} {s : St} {x : Op} (hx : x.Good) (hl : lines x) (hs : Wd n s) : (pushOp n S s x).Good ∧ lines (pushOp n S s x) := by
  obtain ⟨l, W, L⟩ := x
  have w1 := hs.word S.T
  unfold pushOp
  rcases hl with h | h | h | h
  · obtain rfl : l = 1 := h
    rw [if_pos rfl]
    exact ⟨⟨w1.1, w1.2, hx.l0, hx.l1⟩, Or.inr (Or.inl rfl)⟩
  · obtain rfl : l = 2 := h
    rw [if_neg no21, if_pos rfl]
    exact ⟨⟨hx.w0, hx.w1, hx.l0, hx.l1⟩, Or.inr (Or.inr (Or.inl rfl))⟩
  · obtain rfl : l = 3 := h
    rw [if_neg no31, if_neg no32, if_pos rfl]
    refine ⟨⟨hx.w0, hx.w1, hx.l0, hx.l1⟩, ?_⟩
    unfold lines; dsimp only; split <;> simp
  · obtain rfl : l = 9 := h
    rw [if_neg no91, if_neg no92, if_neg no93]
    exact ⟨hx, Or.inr (Or.inr (Or.inr rfl))⟩

def Made (At : World → Nat → Prop) (w : World) (e : Ending) (w' : World) : Prop :=
  ∃ P, e = .returned (.pointer (some ⟨P, 0, none⟩)) ∧ w.heap.size ≤ P ∧ P < w'.heap.size ∧ At w' P ∧ Kept w w'
end Go.Proofs.Ytbechdgcepiecaa.Sk

namespace Go.Proofs.Ytbechdgcepiecaa.Sk
open Go.RowKit
open Wo (St acc wordAt)

structure Arn where
  F : Stk
  G : Int
  V : Int
  L : Int

def gen (w : Int) : Int := w % 4294967296
def refW (i g : Int) : Int := i + 1 + g * 65536

structure AOp where
  line : Nat
  q : Op
  r : Int
  er : Int
def AOp.new : AOp := ⟨0, Op.new, 0, 14⟩

def alSt (n : Nat) (A : Arn) (s : St) (x : AOp) : St :=
  if x.line = 0 then popSt n A.F s x.q
  else if x.line = 1 then acc n s 1 (A.G + idx A.F.N x.q.W) false 0
  else if x.line = 2 then acc n s 1 A.V false 0
  else s
def alPop (A : Arn) (q : Op) : AOp := ⟨if q.line = 9 then (if idx A.F.N q.W < 0 then 2 else 1) else 0, q, 0, 14⟩
def alOp (n : Nat) (A : Arn) (s : St) (x : AOp) : AOp :=
  if x.line = 0 then alPop A (popOp n A.F s x.q)
  else if x.line = 1 then ⟨9, x.q, refW (idx A.F.N x.q.W) (gen (wordAt n s (A.G + idx A.F.N x.q.W))), 0⟩
  else if x.line = 2 then ⟨9, x.q, 0, if A.F.N ≤ wordAt n s A.V then 12 else 7⟩
  else x

structure FOp where
  line : Nat
  q : Op
  g : Int
  er : Int
def FOp.new : FOp := ⟨0, Op.new, 0, 14⟩
def FOp.bad : FOp := ⟨9, Op.over, 0, 3⟩

def frSt (n : Nat) (A : Arn) (i : Int) (s : St) (x : FOp) : St :=
  if x.line = 0 then acc n s 1 (A.G + i) false 0
  else if x.line = 1 then acc n s 2 (A.G + i) true ((x.g + 1) % 18446744073709551616)
  else if x.line = 2 then pushSt n A.F i s x.q
  else if x.line = 3 then acc n s 4 A.V true (IntKind.u64.wrap (wordAt n s A.V + 1))
  else s
def frPush (q : Op) (g : Int) : FOp := ⟨if q.line = 9 then 9 else 2, q, g, if q.line = 9 then 0 else 14⟩
def frOp (n : Nat) (A : Arn) (i : Int) (s : St) (x : FOp) : FOp :=
  if x.line = 0 then ⟨if A.L ≤ gen (wordAt n s (A.G + i)) then 3 else 1, x.q, wordAt n s (A.G + i), 14⟩
  else if x.line = 1 then ⟨2, x.q, x.g, 14⟩
  else if x.line = 2 then frPush (pushOp n A.F s x.q) x.g
  else if x.line = 3 then ⟨9, x.q, x.g, 0⟩
  else x

structure Arn.Ok (A : Arn) (n : Nat) : Prop where
  F : A.F.Ok n
  L1 : 1 ≤ A.L
  L2 : A.L ≤ 4294967295
  G1 : 0 ≤ A.G
  G2 : A.G + A.F.N ≤ n
  V1 : 0 ≤ A.V
  V2 : A.V < n

structure AGood (A : Arn) (x : AOp) : Prop where
  q : x.q.Good
  l : lines x.q
  t : took A.F x.q
  c : (x.line = 0 ∧ x.q.line ≠ 9 ∧ x.r = 0 ∧ x.er = 14) ∨ (x.line = 1 ∧ x.q.line = 9 ∧ 0 ≤ idx A.F.N x.q.W ∧ x.r = 0 ∧ x.er = 14) ∨ (x.line = 2 ∧ x.q.line = 9 ∧ idx A.F.N x.q.W < 0 ∧ x.r = 0 ∧ x.er = 14) ∨ (x.line = 9 ∧ x.er ≠ 14)
structure FGood (A : Arn) (i : Int) (x : FOp) : Prop where
  q : x.q.Good
  l : lines x.q
  g0 : 0 ≤ x.g
  g1 : x.g < 18446744073709551616
  c : ((x.line = 0 ∨ x.line = 1 ∨ x.line = 2 ∨ x.line = 3) ∧ x.q.line ≠ 9 ∧ x.er = 14 ∧ 0 ≤ i ∧ i < A.F.N) ∨ (x.line = 9 ∧ x.er ≠ 14)

theorem gen_lo (w : Int) : 0 ≤ gen w := by unfold gen; omega
theorem gen_hi (w : Int) : gen w < 4294967296 := by unfold gen; omega
theorem refW_lo (i g : Int) (hi : 0 ≤ i) (hg : 0 ≤ g) : 0 ≤ refW i g := by unfold refW; omega
theorem refW_hi (i g : Int) (hi : i ≤ 65534) (hg : g < 4294967296) : refW i g < 18446744073709551616 := by unfold refW; omega

theorem new_good (A : Arn) : AGood A AOp.new := ⟨⟨by decide, by decide, by decide, by decide⟩, Or.inl rfl, fun h => by rcases h with h | h <;> exact absurd h (by decide), Or.inl ⟨rfl, by decide, rfl, rfl⟩⟩
theorem fnew_good (A : Arn) (i : Int) (h0 : 0 ≤ i) (h1 : i < A.F.N) : FGood A i FOp.new := ⟨⟨by decide, by decide, by decide, by decide⟩, Or.inl rfl, by decide, by decide, Or.inl ⟨Or.inl rfl, by decide, rfl, h0, h1⟩⟩
theorem fbad_good (A : Arn) (i : Int) : FGood A i FOp.bad := ⟨⟨by decide, by decide, by decide, by decide⟩, Or.inr (Or.inr (Or.inr rfl)), by decide, by decide, Or.inr ⟨rfl, by decide⟩⟩

theorem alOp_good {n : Nat} {A : Arn} {s : St} {x : AOp} (hx : AGood A x) (hs : Wd n s) : AGood A (alOp n A s x) := by
  have hq := popOp_good hx.q hx.l hx.t hs
  unfold alOp
  rcases hx.c with ⟨h, h9, hr, he⟩ | ⟨h, h9, hi, hr, he⟩ | ⟨h, h9, hi, hr, he⟩ | ⟨h, he⟩
  · rw [if_pos h]
    refine ⟨hq.1, hq.2.1, hq.2.2, ?_⟩
    unfold alPop
    dsimp only
    by_cases k : (popOp n A.F s x.q).line = 9
    · by_cases j : idx A.F.N (popOp n A.F s x.q).W < 0
      · rw [if_pos k, if_pos j]; exact Or.inr (Or.inr (Or.inl ⟨rfl, k, j, rfl, rfl⟩))
      · rw [if_pos k, if_neg j]; exact Or.inr (Or.inl ⟨rfl, k, by omega, rfl, rfl⟩)
    · rw [if_neg k]; exact Or.inl ⟨rfl, k, rfl, rfl⟩
  · rw [if_neg (by omega), if_pos h]
    exact ⟨hx.q, hx.l, hx.t, Or.inr (Or.inr (Or.inr ⟨rfl, by dsimp only; decide⟩))⟩
  · rw [if_neg (by omega), if_neg (by omega), if_pos h]
    refine ⟨hx.q, hx.l, hx.t, Or.inr (Or.inr (Or.inr ⟨rfl, ?_⟩))⟩
    dsimp only
    split <;> decide
  · rw [if_neg (by omega), if_neg (by omega), if_neg (by omega)]
    exact hx
theorem frOp_good {n : Nat} {A : Arn} {i : Int} {s : St} {x : FOp} (hx : FGood A i x) (hs : Wd n s) : FGood A i (frOp n A i s x) := by
  have hq := pushOp_good (S := A.F) hx.q hx.l hs
  have hw := hs.word (A.G + i)
  unfold frOp
  rcases hx.c with ⟨h, h9, he, i0, i1⟩ | ⟨h, he⟩
  · rcases h with h | h | h | h
    · rw [if_pos h]
      refine ⟨hx.q, hx.l, hw.1, hw.2, Or.inl ⟨?_, h9, rfl, i0, i1⟩⟩
      dsimp only
      split
      · exact Or.inr (Or.inr (Or.inr rfl))
      · exact Or.inr (Or.inl rfl)
    · rw [if_neg (by omega), if_pos h]
      exact ⟨hx.q, hx.l, hx.g0, hx.g1, Or.inl ⟨Or.inr (Or.inr (Or.inl rfl)), h9, rfl, i0, i1⟩⟩
    · rw [if_neg (by omega), if_neg (by omega), if_pos h]
      unfold frPush
      by_cases k : (pushOp n A.F s x.q).line = 9
      · exact ⟨hq.1, hq.2, hx.g0, hx.g1, Or.inr ⟨if_pos k, by dsimp only; rw [if_pos k]; decide⟩⟩
      · exact ⟨hq.1, hq.2, hx.g0, hx.g1, Or.inl ⟨Or.inr (Or.inr (Or.inl (if_neg k))), k, if_neg k, i0, i1⟩⟩
    · rw [if_neg (by omega), if_neg (by omega), if_neg (by omega), if_pos h]
      exact ⟨hx.q, hx.l, hx.g0, hx.g1, Or.inr ⟨rfl, by dsimp only; decide⟩⟩
  · rw [if_neg (by omega), if_neg (by omega), if_neg (by omega), if_neg (by omega)]
    exact hx

theorem apopSt_wd {n : Nat} {S : Stk} {s : St} {x : Op} (h : Wd n s) : Wd n (popSt n S s x) := by
  unfold popSt casSt
  split
  · exact h.acc _ _ _ _ (by omega) (by omega)
  · split
    · exact h.acc _ _ _ _ (by omega) (by omega)
    · split
      · exact h.acc _ _ _ _ (topW_lo _ _ (idx_lo _ _)) (topW_hi _ _ (idx_le _ _))
      · exact h
theorem apushSt_wd {n : Nat} {S : Stk} {s : St} {x : Op} {i : Int} (h : Wd n s) (h0 : -1 ≤ i) (h1 : i ≤ 65534) : Wd n (pushSt n S i s x) := by
  have l := idx_lo S.N x.W
  have l' := idx_le S.N x.W
  unfold pushSt casSt
  split
  · exact h.acc _ _ _ _ (by omega) (by omega)
  · split
    · exact h.acc _ _ _ _ (by omega) (by omega)
    · split
      · exact h.acc _ _ _ _ (topW_lo _ _ h0) (topW_hi _ _ h1)
      · exact h
theorem alSt_wd {n : Nat} {A : Arn} {s : St} {x : AOp} (h : Wd n s) : Wd n (alSt n A s x) := by
  unfold alSt
  split
  · exact apopSt_wd h
  · split
    · exact h.acc _ _ _ _ (by omega) (by omega)
    · split
      · exact h.acc _ _ _ _ (by omega) (by omega)
      · exact h
theorem frSt_wd {n : Nat} {A : Arn} {s : St} {x : FOp} {i : Int} (h : Wd n s) (hx : FGood A i x) (hN : A.F.N ≤ 4096) : Wd n (frSt n A i s x) := by
  unfold frSt
  split
  · exact h.acc _ _ _ _ (by omega) (by omega)
  · split
    · exact h.acc _ _ _ _ (by omega) (by omega)
    · split
      · rename_i h2
        rcases hx.c with ⟨_, _, _, i0, i1⟩ | ⟨h9, _⟩
        · exact apushSt_wd h (by omega) (by omega)
        · omega
      · split
        · exact h.acc _ _ _ _ (by rw [IntKind.wrap_u64]; omega) (by rw [IntKind.wrap_u64]; omega)
        · exact h
theorem apopSt_cnt (n : Nat) (S : Stk) (s : St) (x : Op) : s.cnt ≤ (popSt n S s x).cnt ∧ (popSt n S s x).cnt ≤ s.cnt + 1 := by
  unfold popSt casSt
  repeat' split
  all_goals first | (rw [acc_cnt]; omega) | omega
theorem apushSt_cnt (n : Nat) (S : Stk) (i : Int) (s : St) (x : Op) : s.cnt ≤ (pushSt n S i s x).cnt ∧ (pushSt n S i s x).cnt ≤ s.cnt + 1 := by
  unfold pushSt casSt
  repeat' split
  all_goals first | (rw [acc_cnt]; omega) | omega
theorem alSt_cnt (n : Nat) (A : Arn) (s : St) (x : AOp) : s.cnt ≤ (alSt n A s x).cnt ∧ (alSt n A s x).cnt ≤ s.cnt + 1 := by
  have := apopSt_cnt n A.F s x.q
  unfold alSt
  repeat' split
  all_goals first | (rw [acc_cnt]; omega) | omega
theorem frSt_cnt (n : Nat) (A : Arn) (i : Int) (s : St) (x : FOp) : s.cnt ≤ (frSt n A i s x).cnt ∧ (frSt n A i s x).cnt ≤ s.cnt + 1 := by
  have := apushSt_cnt n A.F i s x.q
  unfold frSt
  repeat' split
  all_goals first | (rw [acc_cnt]; omega) | omega
end Go.Proofs.Ytbechdgcepiecaa.Sk
