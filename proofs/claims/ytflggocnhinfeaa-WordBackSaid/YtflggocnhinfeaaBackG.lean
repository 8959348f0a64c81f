/- Walks of WordBack. -/
import Derived.Test.YtflggocnhinfeaaBackOne
namespace Go.Proofs.Ytflggocnhinfeaa
open Go.RowKit
set_option linter.unusedVariables false

set_option maxHeartbeats 4000000 in
set_option maxRecDepth 100000 in
theorem back_GEE (i : Int) (g : Int) (m : Bool) (i' : Int) (g' : Int) (m' : Bool) (a a' : Int) (l : Int) (f : Bool) (v : Int) (l' : Int) (f' : Bool) (v' : Int) (c c' : Int) (d d' : Int) (sx : Int) (sy : Bool) (sz : Int) (sf : Int) (j : Int) (t : Int) (j' : Int) (t' : Int) (x x' : Int) (y y' : Int) (tx : Int) (ty : Int) (tf : Int) (HR1 : ∀ w, Hid (Calls Try.prog 9 #[.agg #[.int .i64 i, .int .i64 g, .bool m]] w fun e W => e = .returned (.tuple #[.int .u64 a, .int .i64 0]) ∧ Kept w W)) (HR2 : ∀ w, Hid (Calls Try.prog 9 #[.agg #[.int .i64 i', .int .i64 g', .bool m']] w fun e W => e = .returned (.tuple #[.int .u64 a', .int .i64 0]) ∧ Kept w W)) (HRG : ∀ w, Hid (Calls Try.prog 18 #[.int .u64 a] w fun e W => e = .returned (.tuple #[.agg #[.int .i64 i, .int .i64 g, .bool m], .int .i64 0]) ∧ Kept w W)) (FR : (a == a') = (i == i' && (g == g' && m == m'))) (HS1 : ∀ w, Hid (Calls Try.prog 13 #[.agg #[.int .i64 l, .bool f, .int .i64 v]] w fun e W => e = .returned (.tuple #[.int .u64 c, .int .i64 d]) ∧ Kept w W)) (HS2 : ∀ w, Hid (Calls Try.prog 13 #[.agg #[.int .i64 l', .bool f', .int .i64 v']] w fun e W => e = .returned (.tuple #[.int .u64 c', .int .i64 d']) ∧ Kept w W)) (HSG : ∀ w, Hid (Calls Try.prog 22 #[.int .u64 c] w fun e W => e = .returned (.tuple #[.agg #[.int .i64 sx, .bool sy, .int .i64 sz], .int .i64 sf]) ∧ Kept w W)) (FS : (d == 0) = false) (HT1 : ∀ w, Hid (Calls Try.prog 11 #[.agg #[.int .i64 j, .int .i64 t]] w fun e W => e = .returned (.tuple #[.int .u64 x, .int .i64 y]) ∧ Kept w W)) (HT2 : ∀ w, Hid (Calls Try.prog 11 #[.agg #[.int .i64 j', .int .i64 t']] w fun e W => e = .returned (.tuple #[.int .u64 x', .int .i64 y']) ∧ Kept w W)) (HTG : ∀ w, Hid (Calls Try.prog 20 #[.int .u64 x] w fun e W => e = .returned (.tuple #[.agg #[.int .i64 tx, .int .i64 ty], .int .i64 tf]) ∧ Kept w W)) (FT : (y != 0) = true) (w : World) : Calls Try.prog 6 #[.agg #[.int .i64 i, .int .i64 g, .bool m], .agg #[.int .i64 i', .int .i64 g', .bool m'], .agg #[.int .i64 l, .bool f, .int .i64 v], .agg #[.int .i64 l', .bool f', .int .i64 v'], .agg #[.int .i64 j, .int .i64 t], .agg #[.int .i64 j', .int .i64 t']] w fun e W => e = .returned (.bool true) ∧ Kept w W := by
  have QR : ∀ W, (binOp .eql 23 (.agg #[.int .i64 i, .int .i64 g, .bool m]) (.agg #[.int .i64 i', .int .i64 g', .bool m'])).run Try.prog W = .ok (.bool (a == a')) W := fun W => by rw [eq_ref, FR]
  clear FR
  go_enter Try.func6, Try.ntmps6
  go_wp2_with fail
  refine (known_any _).mono ?_
  rintro e w1 ⟨rfl, k0⟩
  have hc := k0.cell
  go_wp2_with fail
  refine (HR1 _).out.mono ?_
  rintro e w2 ⟨rfl, kk⟩
  clear hc
  have k1 := k0.trans kk
  clear k0 kk
  have hc := k1.cell
  go_wp2_with fail
  refine (HR2 _).out.mono ?_
  rintro e w3 ⟨rfl, kk⟩
  clear hc
  have k0 := k1.trans kk
  clear k1 kk
  have hc := k0.cell
  go_wp2_with fail
  refine (HRG _).out.mono ?_
  rintro e w4 ⟨rfl, kk⟩
  clear hc
  have k1 := k0.trans kk
  clear k0 kk
  have hc := k1.cell
  have hz := k1.size
  simp at hz
  have l0 : w.heap.size < w4.heap.size := by omega
  have l1 : w.heap.size + 1 < w4.heap.size := by omega
  have l2 : w.heap.size + 1 + 1 < w4.heap.size := by omega
  have l3 : w.heap.size + 1 + 1 + 1 < w4.heap.size := by omega
  have l4 : w.heap.size + 1 + 1 + 1 + 1 < w4.heap.size := by omega
  have l5 : w.heap.size + 1 + 1 + 1 + 1 + 1 < w4.heap.size := by omega
  clear hz
  go_wp2_with fail
  clear l0 l1 l2 l3 l4 l5
  refine (HS1 _).out.mono ?_
  rintro e w5 ⟨rfl, kk⟩
  clear hc
  have k0 := (k1.alloc _ _).trans kk
  clear k1 kk
  have hc := k0.cell
  go_wp2_with fail
  refine (HS2 _).out.mono ?_
  rintro e w6 ⟨rfl, kk⟩
  clear hc
  have k1 := k0.trans kk
  clear k0 kk
  have hc := k1.cell
  go_wp2_with fail
  refine (HSG _).out.mono ?_
  rintro e w7 ⟨rfl, kk⟩
  clear hc
  have k0 := k1.trans kk
  clear k1 kk
  have hc := k0.cell
  have hz := k0.size
  simp at hz
  have l0 : w.heap.size < w7.heap.size := by omega
  have l1 : w.heap.size + 1 < w7.heap.size := by omega
  have l2 : w.heap.size + 1 + 1 < w7.heap.size := by omega
  have l3 : w.heap.size + 1 + 1 + 1 < w7.heap.size := by omega
  have l4 : w.heap.size + 1 + 1 + 1 + 1 < w7.heap.size := by omega
  have l5 : w.heap.size + 1 + 1 + 1 + 1 + 1 < w7.heap.size := by omega
  clear hz
  go_wp2_with fail
  clear l0 l1 l2 l3 l4 l5
  refine (HT1 _).out.mono ?_
  rintro e w8 ⟨rfl, kk⟩
  clear hc
  have k1 := (k0.alloc _ _).trans kk
  clear k0 kk
  have hc := k1.cell
  go_wp2_with fail
  refine (HT2 _).out.mono ?_
  rintro e w9 ⟨rfl, kk⟩
  clear hc
  have k0 := k1.trans kk
  clear k1 kk
  have hc := k0.cell
  go_wp2_with fail
  refine (HTG _).out.mono ?_
  rintro e w10 ⟨rfl, kk⟩
  clear hc
  have k1 := k0.trans kk
  clear k0 kk
  have hc := k1.cell
  have hz := k1.size
  simp at hz
  have l0 : w.heap.size < w10.heap.size := by omega
  have l1 : w.heap.size + 1 < w10.heap.size := by omega
  have l2 : w.heap.size + 1 + 1 < w10.heap.size := by omega
  have l3 : w.heap.size + 1 + 1 + 1 < w10.heap.size := by omega
  have l4 : w.heap.size + 1 + 1 + 1 + 1 < w10.heap.size := by omega
  have l5 : w.heap.size + 1 + 1 + 1 + 1 + 1 < w10.heap.size := by omega
  clear hz
  go_wp2
  go_ret
  exact ⟨rfl, (((((((Kept.refl w).alloc _ _).alloc _ _).alloc _ _).alloc _ _).alloc _ _).alloc _ _).trans (k1.alloc _ _)⟩

set_option maxHeartbeats 4000000 in
set_option maxRecDepth 100000 in
theorem back_GEF (i : Int) (g : Int) (m : Bool) (i' : Int) (g' : Int) (m' : Bool) (a a' : Int) (l : Int) (f : Bool) (v : Int) (l' : Int) (f' : Bool) (v' : Int) (c c' : Int) (d d' : Int) (sx : Int) (sy : Bool) (sz : Int) (sf : Int) (j : Int) (t : Int) (j' : Int) (t' : Int) (x x' : Int) (y' : Int) (HR1 : ∀ w, Hid (Calls Try.prog 9 #[.agg #[.int .i64 i, .int .i64 g, .bool m]] w fun e W => e = .returned (.tuple #[.int .u64 a, .int .i64 0]) ∧ Kept w W)) (HR2 : ∀ w, Hid (Calls Try.prog 9 #[.agg #[.int .i64 i', .int .i64 g', .bool m']] w fun e W => e = .returned (.tuple #[.int .u64 a', .int .i64 0]) ∧ Kept w W)) (HRG : ∀ w, Hid (Calls Try.prog 18 #[.int .u64 a] w fun e W => e = .returned (.tuple #[.agg #[.int .i64 i, .int .i64 g, .bool m], .int .i64 0]) ∧ Kept w W)) (FR : (a == a') = (i == i' && (g == g' && m == m'))) (HS1 : ∀ w, Hid (Calls Try.prog 13 #[.agg #[.int .i64 l, .bool f, .int .i64 v]] w fun e W => e = .returned (.tuple #[.int .u64 c, .int .i64 d]) ∧ Kept w W)) (HS2 : ∀ w, Hid (Calls Try.prog 13 #[.agg #[.int .i64 l', .bool f', .int .i64 v']] w fun e W => e = .returned (.tuple #[.int .u64 c', .int .i64 d']) ∧ Kept w W)) (HSG : ∀ w, Hid (Calls Try.prog 22 #[.int .u64 c] w fun e W => e = .returned (.tuple #[.agg #[.int .i64 sx, .bool sy, .int .i64 sz], .int .i64 sf]) ∧ Kept w W)) (FS : (d == 0) = false) (HT1 : ∀ w, Hid (Calls Try.prog 11 #[.agg #[.int .i64 j, .int .i64 t]] w fun e W => e = .returned (.tuple #[.int .u64 x, .int .i64 0]) ∧ Kept w W)) (HT2 : ∀ w, Hid (Calls Try.prog 11 #[.agg #[.int .i64 j', .int .i64 t']] w fun e W => e = .returned (.tuple #[.int .u64 x', .int .i64 y']) ∧ Kept w W)) (HTG : ∀ w, Hid (Calls Try.prog 20 #[.int .u64 x] w fun e W => e = .returned (.tuple #[.agg #[.int .i64 j, .int .i64 t], .int .i64 0]) ∧ Kept w W)) (FT : (y' != 0) = true) (w : World) : Calls Try.prog 6 #[.agg #[.int .i64 i, .int .i64 g, .bool m], .agg #[.int .i64 i', .int .i64 g', .bool m'], .agg #[.int .i64 l, .bool f, .int .i64 v], .agg #[.int .i64 l', .bool f', .int .i64 v'], .agg #[.int .i64 j, .int .i64 t], .agg #[.int .i64 j', .int .i64 t']] w fun e W => e = .returned (.bool true) ∧ Kept w W := by
  have QR : ∀ W, (binOp .eql 23 (.agg #[.int .i64 i, .int .i64 g, .bool m]) (.agg #[.int .i64 i', .int .i64 g', .bool m'])).run Try.prog W = .ok (.bool (a == a')) W := fun W => by rw [eq_ref, FR]
  clear FR
  go_enter Try.func6, Try.ntmps6
  go_wp2_with fail
  refine (known_any _).mono ?_
  rintro e w1 ⟨rfl, k0⟩
  have hc := k0.cell
  go_wp2_with fail
  refine (HR1 _).out.mono ?_
  rintro e w2 ⟨rfl, kk⟩
  clear hc
  have k1 := k0.trans kk
  clear k0 kk
  have hc := k1.cell
  go_wp2_with fail
  refine (HR2 _).out.mono ?_
  rintro e w3 ⟨rfl, kk⟩
  clear hc
  have k0 := k1.trans kk
  clear k1 kk
  have hc := k0.cell
  go_wp2_with fail
  refine (HRG _).out.mono ?_
  rintro e w4 ⟨rfl, kk⟩
  clear hc
  have k1 := k0.trans kk
  clear k0 kk
  have hc := k1.cell
  have hz := k1.size
  simp at hz
  have l0 : w.heap.size < w4.heap.size := by omega
  have l1 : w.heap.size + 1 < w4.heap.size := by omega
  have l2 : w.heap.size + 1 + 1 < w4.heap.size := by omega
  have l3 : w.heap.size + 1 + 1 + 1 < w4.heap.size := by omega
  have l4 : w.heap.size + 1 + 1 + 1 + 1 < w4.heap.size := by omega
  have l5 : w.heap.size + 1 + 1 + 1 + 1 + 1 < w4.heap.size := by omega
  clear hz
  go_wp2_with fail
  clear l0 l1 l2 l3 l4 l5
  refine (HS1 _).out.mono ?_
  rintro e w5 ⟨rfl, kk⟩
  clear hc
  have k0 := (k1.alloc _ _).trans kk
  clear k1 kk
  have hc := k0.cell
  go_wp2_with fail
  refine (HS2 _).out.mono ?_
  rintro e w6 ⟨rfl, kk⟩
  clear hc
  have k1 := k0.trans kk
  clear k0 kk
  have hc := k1.cell
  go_wp2_with fail
  refine (HSG _).out.mono ?_
  rintro e w7 ⟨rfl, kk⟩
  clear hc
  have k0 := k1.trans kk
  clear k1 kk
  have hc := k0.cell
  have hz := k0.size
  simp at hz
  have l0 : w.heap.size < w7.heap.size := by omega
  have l1 : w.heap.size + 1 < w7.heap.size := by omega
  have l2 : w.heap.size + 1 + 1 < w7.heap.size := by omega
  have l3 : w.heap.size + 1 + 1 + 1 < w7.heap.size := by omega
  have l4 : w.heap.size + 1 + 1 + 1 + 1 < w7.heap.size := by omega
  have l5 : w.heap.size + 1 + 1 + 1 + 1 + 1 < w7.heap.size := by omega
  clear hz
  go_wp2_with fail
  clear l0 l1 l2 l3 l4 l5
  refine (HT1 _).out.mono ?_
  rintro e w8 ⟨rfl, kk⟩
  clear hc
  have k1 := (k0.alloc _ _).trans kk
  clear k0 kk
  have hc := k1.cell
  go_wp2_with fail
  refine (HT2 _).out.mono ?_
  rintro e w9 ⟨rfl, kk⟩
  clear hc
  have k0 := k1.trans kk
  clear k1 kk
  have hc := k0.cell
  go_wp2_with fail
  refine (HTG _).out.mono ?_
  rintro e w10 ⟨rfl, kk⟩
  clear hc
  have k1 := k0.trans kk
  clear k0 kk
  have hc := k1.cell
  have hz := k1.size
  simp at hz
  have l0 : w.heap.size < w10.heap.size := by omega
  have l1 : w.heap.size + 1 < w10.heap.size := by omega
  have l2 : w.heap.size + 1 + 1 < w10.heap.size := by omega
  have l3 : w.heap.size + 1 + 1 + 1 < w10.heap.size := by omega
  have l4 : w.heap.size + 1 + 1 + 1 + 1 < w10.heap.size := by omega
  have l5 : w.heap.size + 1 + 1 + 1 + 1 + 1 < w10.heap.size := by omega
  clear hz
  go_wp2
  go_ret
  exact ⟨rfl, (((((((Kept.refl w).alloc _ _).alloc _ _).alloc _ _).alloc _ _).alloc _ _).alloc _ _).trans (k1.alloc _ _)⟩

set_option maxHeartbeats 4000000 in
set_option maxRecDepth 100000 in
theorem back_GEG (i : Int) (g : Int) (m : Bool) (i' : Int) (g' : Int) (m' : Bool) (a a' : Int) (l : Int) (f : Bool) (v : Int) (l' : Int) (f' : Bool) (v' : Int) (c c' : Int) (d d' : Int) (sx : Int) (sy : Bool) (sz : Int) (sf : Int) (j : Int) (t : Int) (j' : Int) (t' : Int) (x x' : Int) (HR1 : ∀ w, Hid (Calls Try.prog 9 #[.agg #[.int .i64 i, .int .i64 g, .bool m]] w fun e W => e = .returned (.tuple #[.int .u64 a, .int .i64 0]) ∧ Kept w W)) (HR2 : ∀ w, Hid (Calls Try.prog 9 #[.agg #[.int .i64 i', .int .i64 g', .bool m']] w fun e W => e = .returned (.tuple #[.int .u64 a', .int .i64 0]) ∧ Kept w W)) (HRG : ∀ w, Hid (Calls Try.prog 18 #[.int .u64 a] w fun e W => e = .returned (.tuple #[.agg #[.int .i64 i, .int .i64 g, .bool m], .int .i64 0]) ∧ Kept w W)) (FR : (a == a') = (i == i' && (g == g' && m == m'))) (HS1 : ∀ w, Hid (Calls Try.prog 13 #[.agg #[.int .i64 l, .bool f, .int .i64 v]] w fun e W => e = .returned (.tuple #[.int .u64 c, .int .i64 d]) ∧ Kept w W)) (HS2 : ∀ w, Hid (Calls Try.prog 13 #[.agg #[.int .i64 l', .bool f', .int .i64 v']] w fun e W => e = .returned (.tuple #[.int .u64 c', .int .i64 d']) ∧ Kept w W)) (HSG : ∀ w, Hid (Calls Try.prog 22 #[.int .u64 c] w fun e W => e = .returned (.tuple #[.agg #[.int .i64 sx, .bool sy, .int .i64 sz], .int .i64 sf]) ∧ Kept w W)) (FS : (d == 0) = false) (HT1 : ∀ w, Hid (Calls Try.prog 11 #[.agg #[.int .i64 j, .int .i64 t]] w fun e W => e = .returned (.tuple #[.int .u64 x, .int .i64 0]) ∧ Kept w W)) (HT2 : ∀ w, Hid (Calls Try.prog 11 #[.agg #[.int .i64 j', .int .i64 t']] w fun e W => e = .returned (.tuple #[.int .u64 x', .int .i64 0]) ∧ Kept w W)) (HTG : ∀ w, Hid (Calls Try.prog 20 #[.int .u64 x] w fun e W => e = .returned (.tuple #[.agg #[.int .i64 j, .int .i64 t], .int .i64 0]) ∧ Kept w W)) (FT : (x == x') = (j == j' && t == t')) (w : World) : Calls Try.prog 6 #[.agg #[.int .i64 i, .int .i64 g, .bool m], .agg #[.int .i64 i', .int .i64 g', .bool m'], .agg #[.int .i64 l, .bool f, .int .i64 v], .agg #[.int .i64 l', .bool f', .int .i64 v'], .agg #[.int .i64 j, .int .i64 t], .agg #[.int .i64 j', .int .i64 t']] w fun e W => e = .returned (.bool true) ∧ Kept w W := by
  have QR : ∀ W, (binOp .eql 23 (.agg #[.int .i64 i, .int .i64 g, .bool m]) (.agg #[.int .i64 i', .int .i64 g', .bool m'])).run Try.prog W = .ok (.bool (a == a')) W := fun W => by rw [eq_ref, FR]
  clear FR
  have QT : ∀ W, (binOp .eql 25 (.agg #[.int .i64 j, .int .i64 t]) (.agg #[.int .i64 j', .int .i64 t'])).run Try.prog W = .ok (.bool (x == x')) W := fun W => by rw [eq_top, FT]
  clear FT
  go_enter Try.func6, Try.ntmps6
  go_wp2_with fail
  refine (known_any _).mono ?_
  rintro e w1 ⟨rfl, k0⟩
  have hc := k0.cell
  go_wp2_with fail
  refine (HR1 _).out.mono ?_
  rintro e w2 ⟨rfl, kk⟩
  clear hc
  have k1 := k0.trans kk
  clear k0 kk
  have hc := k1.cell
  go_wp2_with fail
  refine (HR2 _).out.mono ?_
  rintro e w3 ⟨rfl, kk⟩
  clear hc
  have k0 := k1.trans kk
  clear k1 kk
  have hc := k0.cell
  go_wp2_with fail
  refine (HRG _).out.mono ?_
  rintro e w4 ⟨rfl, kk⟩
  clear hc
  have k1 := k0.trans kk
  clear k0 kk
  have hc := k1.cell
  have hz := k1.size
  simp at hz
  have l0 : w.heap.size < w4.heap.size := by omega
  have l1 : w.heap.size + 1 < w4.heap.size := by omega
  have l2 : w.heap.size + 1 + 1 < w4.heap.size := by omega
  have l3 : w.heap.size + 1 + 1 + 1 < w4.heap.size := by omega
  have l4 : w.heap.size + 1 + 1 + 1 + 1 < w4.heap.size := by omega
  have l5 : w.heap.size + 1 + 1 + 1 + 1 + 1 < w4.heap.size := by omega
  clear hz
  go_wp2_with fail
  clear l0 l1 l2 l3 l4 l5
  refine (HS1 _).out.mono ?_
  rintro e w5 ⟨rfl, kk⟩
  clear hc
  have k0 := (k1.alloc _ _).trans kk
  clear k1 kk
  have hc := k0.cell
  go_wp2_with fail
  refine (HS2 _).out.mono ?_
  rintro e w6 ⟨rfl, kk⟩
  clear hc
  have k1 := k0.trans kk
  clear k0 kk
  have hc := k1.cell
  go_wp2_with fail
  refine (HSG _).out.mono ?_
  rintro e w7 ⟨rfl, kk⟩
  clear hc
  have k0 := k1.trans kk
  clear k1 kk
  have hc := k0.cell
  have hz := k0.size
  simp at hz
  have l0 : w.heap.size < w7.heap.size := by omega
  have l1 : w.heap.size + 1 < w7.heap.size := by omega
  have l2 : w.heap.size + 1 + 1 < w7.heap.size := by omega
  have l3 : w.heap.size + 1 + 1 + 1 < w7.heap.size := by omega
  have l4 : w.heap.size + 1 + 1 + 1 + 1 < w7.heap.size := by omega
  have l5 : w.heap.size + 1 + 1 + 1 + 1 + 1 < w7.heap.size := by omega
  clear hz
  go_wp2_with fail
  clear l0 l1 l2 l3 l4 l5
  refine (HT1 _).out.mono ?_
  rintro e w8 ⟨rfl, kk⟩
  clear hc
  have k1 := (k0.alloc _ _).trans kk
  clear k0 kk
  have hc := k1.cell
  go_wp2_with fail
  refine (HT2 _).out.mono ?_
  rintro e w9 ⟨rfl, kk⟩
  clear hc
  have k0 := k1.trans kk
  clear k1 kk
  have hc := k0.cell
  go_wp2_with fail
  refine (HTG _).out.mono ?_
  rintro e w10 ⟨rfl, kk⟩
  clear hc
  have k1 := k0.trans kk
  clear k0 kk
  have hc := k1.cell
  have hz := k1.size
  simp at hz
  have l0 : w.heap.size < w10.heap.size := by omega
  have l1 : w.heap.size + 1 < w10.heap.size := by omega
  have l2 : w.heap.size + 1 + 1 < w10.heap.size := by omega
  have l3 : w.heap.size + 1 + 1 + 1 < w10.heap.size := by omega
  have l4 : w.heap.size + 1 + 1 + 1 + 1 < w10.heap.size := by omega
  have l5 : w.heap.size + 1 + 1 + 1 + 1 + 1 < w10.heap.size := by omega
  clear hz
  go_wp2
  go_ret
  exact ⟨rfl, (((((((Kept.refl w).alloc _ _).alloc _ _).alloc _ _).alloc _ _).alloc _ _).alloc _ _).trans (k1.alloc _ _)⟩

set_option maxHeartbeats 4000000 in
set_option maxRecDepth 100000 in
theorem back_GFE (i : Int) (g : Int) (m : Bool) (i' : Int) (g' : Int) (m' : Bool) (a a' : Int) (l : Int) (f : Bool) (v : Int) (l' : Int) (f' : Bool) (v' : Int) (c c' : Int) (d' : Int) (j : Int) (t : Int) (j' : Int) (t' : Int) (x x' : Int) (y y' : Int) (tx : Int) (ty : Int) (tf : Int) (HR1 : ∀ w, Hid (Calls Try.prog 9 #[.agg #[.int .i64 i, .int .i64 g, .bool m]] w fun e W => e = .returned (.tuple #[.int .u64 a, .int .i64 0]) ∧ Kept w W)) (HR2 : ∀ w, Hid (Calls Try.prog 9 #[.agg #[.int .i64 i', .int .i64 g', .bool m']] w fun e W => e = .returned (.tuple #[.int .u64 a', .int .i64 0]) ∧ Kept w W)) (HRG : ∀ w, Hid (Calls Try.prog 18 #[.int .u64 a] w fun e W => e = .returned (.tuple #[.agg #[.int .i64 i, .int .i64 g, .bool m], .int .i64 0]) ∧ Kept w W)) (FR : (a == a') = (i == i' && (g == g' && m == m'))) (HS1 : ∀ w, Hid (Calls Try.prog 13 #[.agg #[.int .i64 l, .bool f, .int .i64 v]] w fun e W => e = .returned (.tuple #[.int .u64 c, .int .i64 0]) ∧ Kept w W)) (HS2 : ∀ w, Hid (Calls Try.prog 13 #[.agg #[.int .i64 l', .bool f', .int .i64 v']] w fun e W => e = .returned (.tuple #[.int .u64 c', .int .i64 d']) ∧ Kept w W)) (HSG : ∀ w, Hid (Calls Try.prog 22 #[.int .u64 c] w fun e W => e = .returned (.tuple #[.agg #[.int .i64 l, .bool f, .int .i64 v], .int .i64 0]) ∧ Kept w W)) (FS : (d' == 0) = false) (HT1 : ∀ w, Hid (Calls Try.prog 11 #[.agg #[.int .i64 j, .int .i64 t]] w fun e W => e = .returned (.tuple #[.int .u64 x, .int .i64 y]) ∧ Kept w W)) (HT2 : ∀ w, Hid (Calls Try.prog 11 #[.agg #[.int .i64 j', .int .i64 t']] w fun e W => e = .returned (.tuple #[.int .u64 x', .int .i64 y']) ∧ Kept w W)) (HTG : ∀ w, Hid (Calls Try.prog 20 #[.int .u64 x] w fun e W => e = .returned (.tuple #[.agg #[.int .i64 tx, .int .i64 ty], .int .i64 tf]) ∧ Kept w W)) (FT : (y != 0) = true) (w : World) : Calls Try.prog 6 #[.agg #[.int .i64 i, .int .i64 g, .bool m], .agg #[.int .i64 i', .int .i64 g', .bool m'], .agg #[.int .i64 l, .bool f, .int .i64 v], .agg #[.int .i64 l', .bool f', .int .i64 v'], .agg #[.int .i64 j, .int .i64 t], .agg #[.int .i64 j', .int .i64 t']] w fun e W => e = .returned (.bool true) ∧ Kept w W := by
  have QR : ∀ W, (binOp .eql 23 (.agg #[.int .i64 i, .int .i64 g, .bool m]) (.agg #[.int .i64 i', .int .i64 g', .bool m'])).run Try.prog W = .ok (.bool (a == a')) W := fun W => by rw [eq_ref, FR]
  clear FR
  go_enter Try.func6, Try.ntmps6
  go_wp2_with fail
  refine (known_any _).mono ?_
  rintro e w1 ⟨rfl, k0⟩
  have hc := k0.cell
  go_wp2_with fail
  refine (HR1 _).out.mono ?_
  rintro e w2 ⟨rfl, kk⟩
  clear hc
  have k1 := k0.trans kk
  clear k0 kk
  have hc := k1.cell
  go_wp2_with fail
  refine (HR2 _).out.mono ?_
  rintro e w3 ⟨rfl, kk⟩
  clear hc
  have k0 := k1.trans kk
  clear k1 kk
  have hc := k0.cell
  go_wp2_with fail
  refine (HRG _).out.mono ?_
  rintro e w4 ⟨rfl, kk⟩
  clear hc
  have k1 := k0.trans kk
  clear k0 kk
  have hc := k1.cell
  have hz := k1.size
  simp at hz
  have l0 : w.heap.size < w4.heap.size := by omega
  have l1 : w.heap.size + 1 < w4.heap.size := by omega
  have l2 : w.heap.size + 1 + 1 < w4.heap.size := by omega
  have l3 : w.heap.size + 1 + 1 + 1 < w4.heap.size := by omega
  have l4 : w.heap.size + 1 + 1 + 1 + 1 < w4.heap.size := by omega
  have l5 : w.heap.size + 1 + 1 + 1 + 1 + 1 < w4.heap.size := by omega
  clear hz
  go_wp2_with fail
  clear l0 l1 l2 l3 l4 l5
  refine (HS1 _).out.mono ?_
  rintro e w5 ⟨rfl, kk⟩
  clear hc
  have k0 := (k1.alloc _ _).trans kk
  clear k1 kk
  have hc := k0.cell
  go_wp2_with fail
  refine (HS2 _).out.mono ?_
  rintro e w6 ⟨rfl, kk⟩
  clear hc
  have k1 := k0.trans kk
  clear k0 kk
  have hc := k1.cell
  go_wp2_with fail
  refine (HSG _).out.mono ?_
  rintro e w7 ⟨rfl, kk⟩
  clear hc
  have k0 := k1.trans kk
  clear k1 kk
  have hc := k0.cell
  have hz := k0.size
  simp at hz
  have l0 : w.heap.size < w7.heap.size := by omega
  have l1 : w.heap.size + 1 < w7.heap.size := by omega
  have l2 : w.heap.size + 1 + 1 < w7.heap.size := by omega
  have l3 : w.heap.size + 1 + 1 + 1 < w7.heap.size := by omega
  have l4 : w.heap.size + 1 + 1 + 1 + 1 < w7.heap.size := by omega
  have l5 : w.heap.size + 1 + 1 + 1 + 1 + 1 < w7.heap.size := by omega
  clear hz
  go_wp2_with fail
  clear l0 l1 l2 l3 l4 l5
  refine (HT1 _).out.mono ?_
  rintro e w8 ⟨rfl, kk⟩
  clear hc
  have k1 := (k0.alloc _ _).trans kk
  clear k0 kk
  have hc := k1.cell
  go_wp2_with fail
  refine (HT2 _).out.mono ?_
  rintro e w9 ⟨rfl, kk⟩
  clear hc
  have k0 := k1.trans kk
  clear k1 kk
  have hc := k0.cell
  go_wp2_with fail
  refine (HTG _).out.mono ?_
  rintro e w10 ⟨rfl, kk⟩
  clear hc
  have k1 := k0.trans kk
  clear k0 kk
  have hc := k1.cell
  have hz := k1.size
  simp at hz
  have l0 : w.heap.size < w10.heap.size := by omega
  have l1 : w.heap.size + 1 < w10.heap.size := by omega
  have l2 : w.heap.size + 1 + 1 < w10.heap.size := by omega
  have l3 : w.heap.size + 1 + 1 + 1 < w10.heap.size := by omega
  have l4 : w.heap.size + 1 + 1 + 1 + 1 < w10.heap.size := by omega
  have l5 : w.heap.size + 1 + 1 + 1 + 1 + 1 < w10.heap.size := by omega
  clear hz
  go_wp2
  go_ret
  exact ⟨rfl, (((((((Kept.refl w).alloc _ _).alloc _ _).alloc _ _).alloc _ _).alloc _ _).alloc _ _).trans (k1.alloc _ _)⟩

set_option maxHeartbeats 4000000 in
set_option maxRecDepth 100000 in
theorem back_GFF (i : Int) (g : Int) (m : Bool) (i' : Int) (g' : Int) (m' : Bool) (a a' : Int) (l : Int) (f : Bool) (v : Int) (l' : Int) (f' : Bool) (v' : Int) (c c' : Int) (d' : Int) (j : Int) (t : Int) (j' : Int) (t' : Int) (x x' : Int) (y' : Int) (HR1 : ∀ w, Hid (Calls Try.prog 9 #[.agg #[.int .i64 i, .int .i64 g, .bool m]] w fun e W => e = .returned (.tuple #[.int .u64 a, .int .i64 0]) ∧ Kept w W)) (HR2 : ∀ w, Hid (Calls Try.prog 9 #[.agg #[.int .i64 i', .int .i64 g', .bool m']] w fun e W => e = .returned (.tuple #[.int .u64 a', .int .i64 0]) ∧ Kept w W)) (HRG : ∀ w, Hid (Calls Try.prog 18 #[.int .u64 a] w fun e W => e = .returned (.tuple #[.agg #[.int .i64 i, .int .i64 g, .bool m], .int .i64 0]) ∧ Kept w W)) (FR : (a == a') = (i == i' && (g == g' && m == m'))) (HS1 : ∀ w, Hid (Calls Try.prog 13 #[.agg #[.int .i64 l, .bool f, .int .i64 v]] w fun e W => e = .returned (.tuple #[.int .u64 c, .int .i64 0]) ∧ Kept w W)) (HS2 : ∀ w, Hid (Calls Try.prog 13 #[.agg #[.int .i64 l', .bool f', .int .i64 v']] w fun e W => e = .returned (.tuple #[.int .u64 c', .int .i64 d']) ∧ Kept w W)) (HSG : ∀ w, Hid (Calls Try.prog 22 #[.int .u64 c] w fun e W => e = .returned (.tuple #[.agg #[.int .i64 l, .bool f, .int .i64 v], .int .i64 0]) ∧ Kept w W)) (FS : (d' == 0) = false) (HT1 : ∀ w, Hid (Calls Try.prog 11 #[.agg #[.int .i64 j, .int .i64 t]] w fun e W => e = .returned (.tuple #[.int .u64 x, .int .i64 0]) ∧ Kept w W)) (HT2 : ∀ w, Hid (Calls Try.prog 11 #[.agg #[.int .i64 j', .int .i64 t']] w fun e W => e = .returned (.tuple #[.int .u64 x', .int .i64 y']) ∧ Kept w W)) (HTG : ∀ w, Hid (Calls Try.prog 20 #[.int .u64 x] w fun e W => e = .returned (.tuple #[.agg #[.int .i64 j, .int .i64 t], .int .i64 0]) ∧ Kept w W)) (FT : (y' != 0) = true) (w : World) : Calls Try.prog 6 #[.agg #[.int .i64 i, .int .i64 g, .bool m], .agg #[.int .i64 i', .int .i64 g', .bool m'], .agg #[.int .i64 l, .bool f, .int .i64 v], .agg #[.int .i64 l', .bool f', .int .i64 v'], .agg #[.int .i64 j, .int .i64 t], .agg #[.int .i64 j', .int .i64 t']] w fun e W => e = .returned (.bool true) ∧ Kept w W := by
  have QR : ∀ W, (binOp .eql 23 (.agg #[.int .i64 i, .int .i64 g, .bool m]) (.agg #[.int .i64 i', .int .i64 g', .bool m'])).run Try.prog W = .ok (.bool (a == a')) W := fun W => by rw [eq_ref, FR]
  clear FR
  go_enter Try.func6, Try.ntmps6
  go_wp2_with fail
  refine (known_any _).mono ?_
  rintro e w1 ⟨rfl, k0⟩
  have hc := k0.cell
  go_wp2_with fail
  refine (HR1 _).out.mono ?_
  rintro e w2 ⟨rfl, kk⟩
  clear hc
  have k1 := k0.trans kk
  clear k0 kk
  have hc := k1.cell
  go_wp2_with fail
  refine (HR2 _).out.mono ?_
  rintro e w3 ⟨rfl, kk⟩
  clear hc
  have k0 := k1.trans kk
  clear k1 kk
  have hc := k0.cell
  go_wp2_with fail
  refine (HRG _).out.mono ?_
  rintro e w4 ⟨rfl, kk⟩
  clear hc
  have k1 := k0.trans kk
  clear k0 kk
  have hc := k1.cell
  have hz := k1.size
  simp at hz
  have l0 : w.heap.size < w4.heap.size := by omega
  have l1 : w.heap.size + 1 < w4.heap.size := by omega
  have l2 : w.heap.size + 1 + 1 < w4.heap.size := by omega
  have l3 : w.heap.size + 1 + 1 + 1 < w4.heap.size := by omega
  have l4 : w.heap.size + 1 + 1 + 1 + 1 < w4.heap.size := by omega
  have l5 : w.heap.size + 1 + 1 + 1 + 1 + 1 < w4.heap.size := by omega
  clear hz
  go_wp2_with fail
  clear l0 l1 l2 l3 l4 l5
  refine (HS1 _).out.mono ?_
  rintro e w5 ⟨rfl, kk⟩
  clear hc
  have k0 := (k1.alloc _ _).trans kk
  clear k1 kk
  have hc := k0.cell
  go_wp2_with fail
  refine (HS2 _).out.mono ?_
  rintro e w6 ⟨rfl, kk⟩
  clear hc
  have k1 := k0.trans kk
  clear k0 kk
  have hc := k1.cell
  go_wp2_with fail
  refine (HSG _).out.mono ?_
  rintro e w7 ⟨rfl, kk⟩
  clear hc
  have k0 := k1.trans kk
  clear k1 kk
  have hc := k0.cell
  have hz := k0.size
  simp at hz
  have l0 : w.heap.size < w7.heap.size := by omega
  have l1 : w.heap.size + 1 < w7.heap.size := by omega
  have l2 : w.heap.size + 1 + 1 < w7.heap.size := by omega
  have l3 : w.heap.size + 1 + 1 + 1 < w7.heap.size := by omega
  have l4 : w.heap.size + 1 + 1 + 1 + 1 < w7.heap.size := by omega
  have l5 : w.heap.size + 1 + 1 + 1 + 1 + 1 < w7.heap.size := by omega
  clear hz
  go_wp2_with fail
  clear l0 l1 l2 l3 l4 l5
  refine (HT1 _).out.mono ?_
  rintro e w8 ⟨rfl, kk⟩
  clear hc
  have k1 := (k0.alloc _ _).trans kk
  clear k0 kk
  have hc := k1.cell
  go_wp2_with fail
  refine (HT2 _).out.mono ?_
  rintro e w9 ⟨rfl, kk⟩
  clear hc
  have k0 := k1.trans kk
  clear k1 kk
  have hc := k0.cell
  go_wp2_with fail
  refine (HTG _).out.mono ?_
  rintro e w10 ⟨rfl, kk⟩
  clear hc
  have k1 := k0.trans kk
  clear k0 kk
  have hc := k1.cell
  have hz := k1.size
  simp at hz
  have l0 : w.heap.size < w10.heap.size := by omega
  have l1 : w.heap.size + 1 < w10.heap.size := by omega
  have l2 : w.heap.size + 1 + 1 < w10.heap.size := by omega
  have l3 : w.heap.size + 1 + 1 + 1 < w10.heap.size := by omega
  have l4 : w.heap.size + 1 + 1 + 1 + 1 < w10.heap.size := by omega
  have l5 : w.heap.size + 1 + 1 + 1 + 1 + 1 < w10.heap.size := by omega
  clear hz
  go_wp2
  go_ret
  exact ⟨rfl, (((((((Kept.refl w).alloc _ _).alloc _ _).alloc _ _).alloc _ _).alloc _ _).alloc _ _).trans (k1.alloc _ _)⟩

set_option maxHeartbeats 4000000 in
set_option maxRecDepth 100000 in
theorem back_GFG (i : Int) (g : Int) (m : Bool) (i' : Int) (g' : Int) (m' : Bool) (a a' : Int) (l : Int) (f : Bool) (v : Int) (l' : Int) (f' : Bool) (v' : Int) (c c' : Int) (d' : Int) (j : Int) (t : Int) (j' : Int) (t' : Int) (x x' : Int) (HR1 : ∀ w, Hid (Calls Try.prog 9 #[.agg #[.int .i64 i, .int .i64 g, .bool m]] w fun e W => e = .returned (.tuple #[.int .u64 a, .int .i64 0]) ∧ Kept w W)) (HR2 : ∀ w, Hid (Calls Try.prog 9 #[.agg #[.int .i64 i', .int .i64 g', .bool m']] w fun e W => e = .returned (.tuple #[.int .u64 a', .int .i64 0]) ∧ Kept w W)) (HRG : ∀ w, Hid (Calls Try.prog 18 #[.int .u64 a] w fun e W => e = .returned (.tuple #[.agg #[.int .i64 i, .int .i64 g, .bool m], .int .i64 0]) ∧ Kept w W)) (FR : (a == a') = (i == i' && (g == g' && m == m'))) (HS1 : ∀ w, Hid (Calls Try.prog 13 #[.agg #[.int .i64 l, .bool f, .int .i64 v]] w fun e W => e = .returned (.tuple #[.int .u64 c, .int .i64 0]) ∧ Kept w W)) (HS2 : ∀ w, Hid (Calls Try.prog 13 #[.agg #[.int .i64 l', .bool f', .int .i64 v']] w fun e W => e = .returned (.tuple #[.int .u64 c', .int .i64 d']) ∧ Kept w W)) (HSG : ∀ w, Hid (Calls Try.prog 22 #[.int .u64 c] w fun e W => e = .returned (.tuple #[.agg #[.int .i64 l, .bool f, .int .i64 v], .int .i64 0]) ∧ Kept w W)) (FS : (d' == 0) = false) (HT1 : ∀ w, Hid (Calls Try.prog 11 #[.agg #[.int .i64 j, .int .i64 t]] w fun e W => e = .returned (.tuple #[.int .u64 x, .int .i64 0]) ∧ Kept w W)) (HT2 : ∀ w, Hid (Calls Try.prog 11 #[.agg #[.int .i64 j', .int .i64 t']] w fun e W => e = .returned (.tuple #[.int .u64 x', .int .i64 0]) ∧ Kept w W)) (HTG : ∀ w, Hid (Calls Try.prog 20 #[.int .u64 x] w fun e W => e = .returned (.tuple #[.agg #[.int .i64 j, .int .i64 t], .int .i64 0]) ∧ Kept w W)) (FT : (x == x') = (j == j' && t == t')) (w : World) : Calls Try.prog 6 #[.agg #[.int .i64 i, .int .i64 g, .bool m], .agg #[.int .i64 i', .int .i64 g', .bool m'], .agg #[.int .i64 l, .bool f, .int .i64 v], .agg #[.int .i64 l', .bool f', .int .i64 v'], .agg #[.int .i64 j, .int .i64 t], .agg #[.int .i64 j', .int .i64 t']] w fun e W => e = .returned (.bool true) ∧ Kept w W := by
  have QR : ∀ W, (binOp .eql 23 (.agg #[.int .i64 i, .int .i64 g, .bool m]) (.agg #[.int .i64 i', .int .i64 g', .bool m'])).run Try.prog W = .ok (.bool (a == a')) W := fun W => by rw [eq_ref, FR]
  clear FR
  have QT : ∀ W, (binOp .eql 25 (.agg #[.int .i64 j, .int .i64 t]) (.agg #[.int .i64 j', .int .i64 t'])).run Try.prog W = .ok (.bool (x == x')) W := fun W => by rw [eq_top, FT]
  clear FT
  go_enter Try.func6, Try.ntmps6
  go_wp2_with fail
  refine (known_any _).mono ?_
  rintro e w1 ⟨rfl, k0⟩
  have hc := k0.cell
  go_wp2_with fail
  refine (HR1 _).out.mono ?_
  rintro e w2 ⟨rfl, kk⟩
  clear hc
  have k1 := k0.trans kk
  clear k0 kk
  have hc := k1.cell
  go_wp2_with fail
  refine (HR2 _).out.mono ?_
  rintro e w3 ⟨rfl, kk⟩
  clear hc
  have k0 := k1.trans kk
  clear k1 kk
  have hc := k0.cell
  go_wp2_with fail
  refine (HRG _).out.mono ?_
  rintro e w4 ⟨rfl, kk⟩
  clear hc
  have k1 := k0.trans kk
  clear k0 kk
  have hc := k1.cell
  have hz := k1.size
  simp at hz
  have l0 : w.heap.size < w4.heap.size := by omega
  have l1 : w.heap.size + 1 < w4.heap.size := by omega
  have l2 : w.heap.size + 1 + 1 < w4.heap.size := by omega
  have l3 : w.heap.size + 1 + 1 + 1 < w4.heap.size := by omega
  have l4 : w.heap.size + 1 + 1 + 1 + 1 < w4.heap.size := by omega
  have l5 : w.heap.size + 1 + 1 + 1 + 1 + 1 < w4.heap.size := by omega
  clear hz
  go_wp2_with fail
  clear l0 l1 l2 l3 l4 l5
  refine (HS1 _).out.mono ?_
  rintro e w5 ⟨rfl, kk⟩
  clear hc
  have k0 := (k1.alloc _ _).trans kk
  clear k1 kk
  have hc := k0.cell
  go_wp2_with fail
  refine (HS2 _).out.mono ?_
  rintro e w6 ⟨rfl, kk⟩
  clear hc
  have k1 := k0.trans kk
  clear k0 kk
  have hc := k1.cell
  go_wp2_with fail
  refine (HSG _).out.mono ?_
  rintro e w7 ⟨rfl, kk⟩
  clear hc
  have k0 := k1.trans kk
  clear k1 kk
  have hc := k0.cell
  have hz := k0.size
  simp at hz
  have l0 : w.heap.size < w7.heap.size := by omega
  have l1 : w.heap.size + 1 < w7.heap.size := by omega
  have l2 : w.heap.size + 1 + 1 < w7.heap.size := by omega
  have l3 : w.heap.size + 1 + 1 + 1 < w7.heap.size := by omega
  have l4 : w.heap.size + 1 + 1 + 1 + 1 < w7.heap.size := by omega
  have l5 : w.heap.size + 1 + 1 + 1 + 1 + 1 < w7.heap.size := by omega
  clear hz
  go_wp2_with fail
  clear l0 l1 l2 l3 l4 l5
  refine (HT1 _).out.mono ?_
  rintro e w8 ⟨rfl, kk⟩
  clear hc
  have k1 := (k0.alloc _ _).trans kk
  clear k0 kk
  have hc := k1.cell
  go_wp2_with fail
  refine (HT2 _).out.mono ?_
  rintro e w9 ⟨rfl, kk⟩
  clear hc
  have k0 := k1.trans kk
  clear k1 kk
  have hc := k0.cell
  go_wp2_with fail
  refine (HTG _).out.mono ?_
  rintro e w10 ⟨rfl, kk⟩
  clear hc
  have k1 := k0.trans kk
  clear k0 kk
  have hc := k1.cell
  have hz := k1.size
  simp at hz
  have l0 : w.heap.size < w10.heap.size := by omega
  have l1 : w.heap.size + 1 < w10.heap.size := by omega
  have l2 : w.heap.size + 1 + 1 < w10.heap.size := by omega
  have l3 : w.heap.size + 1 + 1 + 1 < w10.heap.size := by omega
  have l4 : w.heap.size + 1 + 1 + 1 + 1 < w10.heap.size := by omega
  have l5 : w.heap.size + 1 + 1 + 1 + 1 + 1 < w10.heap.size := by omega
  clear hz
  go_wp2
  go_ret
  exact ⟨rfl, (((((((Kept.refl w).alloc _ _).alloc _ _).alloc _ _).alloc _ _).alloc _ _).alloc _ _).trans (k1.alloc _ _)⟩

set_option maxHeartbeats 4000000 in
set_option maxRecDepth 100000 in
theorem back_GGE (i : Int) (g : Int) (m : Bool) (i' : Int) (g' : Int) (m' : Bool) (a a' : Int) (l : Int) (f : Bool) (v : Int) (l' : Int) (f' : Bool) (v' : Int) (c c' : Int) (j : Int) (t : Int) (j' : Int) (t' : Int) (x x' : Int) (y y' : Int) (tx : Int) (ty : Int) (tf : Int) (HR1 : ∀ w, Hid (Calls Try.prog 9 #[.agg #[.int .i64 i, .int .i64 g, .bool m]] w fun e W => e = .returned (.tuple #[.int .u64 a, .int .i64 0]) ∧ Kept w W)) (HR2 : ∀ w, Hid (Calls Try.prog 9 #[.agg #[.int .i64 i', .int .i64 g', .bool m']] w fun e W => e = .returned (.tuple #[.int .u64 a', .int .i64 0]) ∧ Kept w W)) (HRG : ∀ w, Hid (Calls Try.prog 18 #[.int .u64 a] w fun e W => e = .returned (.tuple #[.agg #[.int .i64 i, .int .i64 g, .bool m], .int .i64 0]) ∧ Kept w W)) (FR : (a == a') = (i == i' && (g == g' && m == m'))) (HS1 : ∀ w, Hid (Calls Try.prog 13 #[.agg #[.int .i64 l, .bool f, .int .i64 v]] w fun e W => e = .returned (.tuple #[.int .u64 c, .int .i64 0]) ∧ Kept w W)) (HS2 : ∀ w, Hid (Calls Try.prog 13 #[.agg #[.int .i64 l', .bool f', .int .i64 v']] w fun e W => e = .returned (.tuple #[.int .u64 c', .int .i64 0]) ∧ Kept w W)) (HSG : ∀ w, Hid (Calls Try.prog 22 #[.int .u64 c] w fun e W => e = .returned (.tuple #[.agg #[.int .i64 l, .bool f, .int .i64 v], .int .i64 0]) ∧ Kept w W)) (FS : (c == c') = (l == l' && (f == f' && v == v'))) (HT1 : ∀ w, Hid (Calls Try.prog 11 #[.agg #[.int .i64 j, .int .i64 t]] w fun e W => e = .returned (.tuple #[.int .u64 x, .int .i64 y]) ∧ Kept w W)) (HT2 : ∀ w, Hid (Calls Try.prog 11 #[.agg #[.int .i64 j', .int .i64 t']] w fun e W => e = .returned (.tuple #[.int .u64 x', .int .i64 y']) ∧ Kept w W)) (HTG : ∀ w, Hid (Calls Try.prog 20 #[.int .u64 x] w fun e W => e = .returned (.tuple #[.agg #[.int .i64 tx, .int .i64 ty], .int .i64 tf]) ∧ Kept w W)) (FT : (y != 0) = true) (w : World) : Calls Try.prog 6 #[.agg #[.int .i64 i, .int .i64 g, .bool m], .agg #[.int .i64 i', .int .i64 g', .bool m'], .agg #[.int .i64 l, .bool f, .int .i64 v], .agg #[.int .i64 l', .bool f', .int .i64 v'], .agg #[.int .i64 j, .int .i64 t], .agg #[.int .i64 j', .int .i64 t']] w fun e W => e = .returned (.bool true) ∧ Kept w W := by
  have QR : ∀ W, (binOp .eql 23 (.agg #[.int .i64 i, .int .i64 g, .bool m]) (.agg #[.int .i64 i', .int .i64 g', .bool m'])).run Try.prog W = .ok (.bool (a == a')) W := fun W => by rw [eq_ref, FR]
  clear FR
  have QS : ∀ W, (binOp .eql 27 (.agg #[.int .i64 l, .bool f, .int .i64 v]) (.agg #[.int .i64 l', .bool f', .int .i64 v'])).run Try.prog W = .ok (.bool (c == c')) W := fun W => by rw [eq_slot, FS]
  clear FS
  go_enter Try.func6, Try.ntmps6
  go_wp2_with fail
  refine (known_any _).mono ?_
  rintro e w1 ⟨rfl, k0⟩
  have hc := k0.cell
  go_wp2_with fail
  refine (HR1 _).out.mono ?_
  rintro e w2 ⟨rfl, kk⟩
  clear hc
  have k1 := k0.trans kk
  clear k0 kk
  have hc := k1.cell
  go_wp2_with fail
  refine (HR2 _).out.mono ?_
  rintro e w3 ⟨rfl, kk⟩
  clear hc
  have k0 := k1.trans kk
  clear k1 kk
  have hc := k0.cell
  go_wp2_with fail
  refine (HRG _).out.mono ?_
  rintro e w4 ⟨rfl, kk⟩
  clear hc
  have k1 := k0.trans kk
  clear k0 kk
  have hc := k1.cell
  have hz := k1.size
  simp at hz
  have l0 : w.heap.size < w4.heap.size := by omega
  have l1 : w.heap.size + 1 < w4.heap.size := by omega
  have l2 : w.heap.size + 1 + 1 < w4.heap.size := by omega
  have l3 : w.heap.size + 1 + 1 + 1 < w4.heap.size := by omega
  have l4 : w.heap.size + 1 + 1 + 1 + 1 < w4.heap.size := by omega
  have l5 : w.heap.size + 1 + 1 + 1 + 1 + 1 < w4.heap.size := by omega
  clear hz
  go_wp2_with fail
  clear l0 l1 l2 l3 l4 l5
  refine (HS1 _).out.mono ?_
  rintro e w5 ⟨rfl, kk⟩
  clear hc
  have k0 := (k1.alloc _ _).trans kk
  clear k1 kk
  have hc := k0.cell
  go_wp2_with fail
  refine (HS2 _).out.mono ?_
  rintro e w6 ⟨rfl, kk⟩
  clear hc
  have k1 := k0.trans kk
  clear k0 kk
  have hc := k1.cell
  go_wp2_with fail
  refine (HSG _).out.mono ?_
  rintro e w7 ⟨rfl, kk⟩
  clear hc
  have k0 := k1.trans kk
  clear k1 kk
  have hc := k0.cell
  have hz := k0.size
  simp at hz
  have l0 : w.heap.size < w7.heap.size := by omega
  have l1 : w.heap.size + 1 < w7.heap.size := by omega
  have l2 : w.heap.size + 1 + 1 < w7.heap.size := by omega
  have l3 : w.heap.size + 1 + 1 + 1 < w7.heap.size := by omega
  have l4 : w.heap.size + 1 + 1 + 1 + 1 < w7.heap.size := by omega
  have l5 : w.heap.size + 1 + 1 + 1 + 1 + 1 < w7.heap.size := by omega
  clear hz
  go_wp2_with fail
  clear l0 l1 l2 l3 l4 l5
  refine (HT1 _).out.mono ?_
  rintro e w8 ⟨rfl, kk⟩
  clear hc
  have k1 := (k0.alloc _ _).trans kk
  clear k0 kk
  have hc := k1.cell
  go_wp2_with fail
  refine (HT2 _).out.mono ?_
  rintro e w9 ⟨rfl, kk⟩
  clear hc
  have k0 := k1.trans kk
  clear k1 kk
  have hc := k0.cell
  go_wp2_with fail
  refine (HTG _).out.mono ?_
  rintro e w10 ⟨rfl, kk⟩
  clear hc
  have k1 := k0.trans kk
  clear k0 kk
  have hc := k1.cell
  have hz := k1.size
  simp at hz
  have l0 : w.heap.size < w10.heap.size := by omega
  have l1 : w.heap.size + 1 < w10.heap.size := by omega
  have l2 : w.heap.size + 1 + 1 < w10.heap.size := by omega
  have l3 : w.heap.size + 1 + 1 + 1 < w10.heap.size := by omega
  have l4 : w.heap.size + 1 + 1 + 1 + 1 < w10.heap.size := by omega
  have l5 : w.heap.size + 1 + 1 + 1 + 1 + 1 < w10.heap.size := by omega
  clear hz
  go_wp2
  go_ret
  exact ⟨rfl, (((((((Kept.refl w).alloc _ _).alloc _ _).alloc _ _).alloc _ _).alloc _ _).alloc _ _).trans (k1.alloc _ _)⟩

set_option maxHeartbeats 4000000 in
set_option maxRecDepth 100000 in
theorem back_GGF (i : Int) (g : Int) (m : Bool) (i' : Int) (g' : Int) (m' : Bool) (a a' : Int) (l : Int) (f : Bool) (v : Int) (l' : Int) (f' : Bool) (v' : Int) (c c' : Int) (j : Int) (t : Int) (j' : Int) (t' : Int) (x x' : Int) (y' : Int) (HR1 : ∀ w, Hid (Calls Try.prog 9 #[.agg #[.int .i64 i, .int .i64 g, .bool m]] w fun e W => e = .returned (.tuple #[.int .u64 a, .int .i64 0]) ∧ Kept w W)) (HR2 : ∀ w, Hid (Calls Try.prog 9 #[.agg #[.int .i64 i', .int .i64 g', .bool m']] w fun e W => e = .returned (.tuple #[.int .u64 a', .int .i64 0]) ∧ Kept w W)) (HRG : ∀ w, Hid (Calls Try.prog 18 #[.int .u64 a] w fun e W => e = .returned (.tuple #[.agg #[.int .i64 i, .int .i64 g, .bool m], .int .i64 0]) ∧ Kept w W)) (FR : (a == a') = (i == i' && (g == g' && m == m'))) (HS1 : ∀ w, Hid (Calls Try.prog 13 #[.agg #[.int .i64 l, .bool f, .int .i64 v]] w fun e W => e = .returned (.tuple #[.int .u64 c, .int .i64 0]) ∧ Kept w W)) (HS2 : ∀ w, Hid (Calls Try.prog 13 #[.agg #[.int .i64 l', .bool f', .int .i64 v']] w fun e W => e = .returned (.tuple #[.int .u64 c', .int .i64 0]) ∧ Kept w W)) (HSG : ∀ w, Hid (Calls Try.prog 22 #[.int .u64 c] w fun e W => e = .returned (.tuple #[.agg #[.int .i64 l, .bool f, .int .i64 v], .int .i64 0]) ∧ Kept w W)) (FS : (c == c') = (l == l' && (f == f' && v == v'))) (HT1 : ∀ w, Hid (Calls Try.prog 11 #[.agg #[.int .i64 j, .int .i64 t]] w fun e W => e = .returned (.tuple #[.int .u64 x, .int .i64 0]) ∧ Kept w W)) (HT2 : ∀ w, Hid (Calls Try.prog 11 #[.agg #[.int .i64 j', .int .i64 t']] w fun e W => e = .returned (.tuple #[.int .u64 x', .int .i64 y']) ∧ Kept w W)) (HTG : ∀ w, Hid (Calls Try.prog 20 #[.int .u64 x] w fun e W => e = .returned (.tuple #[.agg #[.int .i64 j, .int .i64 t], .int .i64 0]) ∧ Kept w W)) (FT : (y' != 0) = true) (w : World) : Calls Try.prog 6 #[.agg #[.int .i64 i, .int .i64 g, .bool m], .agg #[.int .i64 i', .int .i64 g', .bool m'], .agg #[.int .i64 l, .bool f, .int .i64 v], .agg #[.int .i64 l', .bool f', .int .i64 v'], .agg #[.int .i64 j, .int .i64 t], .agg #[.int .i64 j', .int .i64 t']] w fun e W => e = .returned (.bool true) ∧ Kept w W := by
  have QR : ∀ W, (binOp .eql 23 (.agg #[.int .i64 i, .int .i64 g, .bool m]) (.agg #[.int .i64 i', .int .i64 g', .bool m'])).run Try.prog W = .ok (.bool (a == a')) W := fun W => by rw [eq_ref, FR]
  clear FR
  have QS : ∀ W, (binOp .eql 27 (.agg #[.int .i64 l, .bool f, .int .i64 v]) (.agg #[.int .i64 l', .bool f', .int .i64 v'])).run Try.prog W = .ok (.bool (c == c')) W := fun W => by rw [eq_slot, FS]
  clear FS
  go_enter Try.func6, Try.ntmps6
  go_wp2_with fail
  refine (known_any _).mono ?_
  rintro e w1 ⟨rfl, k0⟩
  have hc := k0.cell
  go_wp2_with fail
  refine (HR1 _).out.mono ?_
  rintro e w2 ⟨rfl, kk⟩
  clear hc
  have k1 := k0.trans kk
  clear k0 kk
  have hc := k1.cell
  go_wp2_with fail
  refine (HR2 _).out.mono ?_
  rintro e w3 ⟨rfl, kk⟩
  clear hc
  have k0 := k1.trans kk
  clear k1 kk
  have hc := k0.cell
  go_wp2_with fail
  refine (HRG _).out.mono ?_
  rintro e w4 ⟨rfl, kk⟩
  clear hc
  have k1 := k0.trans kk
  clear k0 kk
  have hc := k1.cell
  have hz := k1.size
  simp at hz
  have l0 : w.heap.size < w4.heap.size := by omega
  have l1 : w.heap.size + 1 < w4.heap.size := by omega
  have l2 : w.heap.size + 1 + 1 < w4.heap.size := by omega
  have l3 : w.heap.size + 1 + 1 + 1 < w4.heap.size := by omega
  have l4 : w.heap.size + 1 + 1 + 1 + 1 < w4.heap.size := by omega
  have l5 : w.heap.size + 1 + 1 + 1 + 1 + 1 < w4.heap.size := by omega
  clear hz
  go_wp2_with fail
  clear l0 l1 l2 l3 l4 l5
  refine (HS1 _).out.mono ?_
  rintro e w5 ⟨rfl, kk⟩
  clear hc
  have k0 := (k1.alloc _ _).trans kk
  clear k1 kk
  have hc := k0.cell
  go_wp2_with fail
  refine (HS2 _).out.mono ?_
  rintro e w6 ⟨rfl, kk⟩
  clear hc
  have k1 := k0.trans kk
  clear k0 kk
  have hc := k1.cell
  go_wp2_with fail
  refine (HSG _).out.mono ?_
  rintro e w7 ⟨rfl, kk⟩
  clear hc
  have k0 := k1.trans kk
  clear k1 kk
  have hc := k0.cell
  have hz := k0.size
  simp at hz
  have l0 : w.heap.size < w7.heap.size := by omega
  have l1 : w.heap.size + 1 < w7.heap.size := by omega
  have l2 : w.heap.size + 1 + 1 < w7.heap.size := by omega
  have l3 : w.heap.size + 1 + 1 + 1 < w7.heap.size := by omega
  have l4 : w.heap.size + 1 + 1 + 1 + 1 < w7.heap.size := by omega
  have l5 : w.heap.size + 1 + 1 + 1 + 1 + 1 < w7.heap.size := by omega
  clear hz
  go_wp2_with fail
  clear l0 l1 l2 l3 l4 l5
  refine (HT1 _).out.mono ?_
  rintro e w8 ⟨rfl, kk⟩
  clear hc
  have k1 := (k0.alloc _ _).trans kk
  clear k0 kk
  have hc := k1.cell
  go_wp2_with fail
  refine (HT2 _).out.mono ?_
  rintro e w9 ⟨rfl, kk⟩
  clear hc
  have k0 := k1.trans kk
  clear k1 kk
  have hc := k0.cell
  go_wp2_with fail
  refine (HTG _).out.mono ?_
  rintro e w10 ⟨rfl, kk⟩
  clear hc
  have k1 := k0.trans kk
  clear k0 kk
  have hc := k1.cell
  have hz := k1.size
  simp at hz
  have l0 : w.heap.size < w10.heap.size := by omega
  have l1 : w.heap.size + 1 < w10.heap.size := by omega
  have l2 : w.heap.size + 1 + 1 < w10.heap.size := by omega
  have l3 : w.heap.size + 1 + 1 + 1 < w10.heap.size := by omega
  have l4 : w.heap.size + 1 + 1 + 1 + 1 < w10.heap.size := by omega
  have l5 : w.heap.size + 1 + 1 + 1 + 1 + 1 < w10.heap.size := by omega
  clear hz
  go_wp2
  go_ret
  exact ⟨rfl, (((((((Kept.refl w).alloc _ _).alloc _ _).alloc _ _).alloc _ _).alloc _ _).alloc _ _).trans (k1.alloc _ _)⟩

set_option maxHeartbeats 4000000 in
set_option maxRecDepth 100000 in
theorem back_GGG (i : Int) (g : Int) (m : Bool) (i' : Int) (g' : Int) (m' : Bool) (a a' : Int) (l : Int) (f : Bool) (v : Int) (l' : Int) (f' : Bool) (v' : Int) (c c' : Int) (j : Int) (t : Int) (j' : Int) (t' : Int) (x x' : Int) (HR1 : ∀ w, Hid (Calls Try.prog 9 #[.agg #[.int .i64 i, .int .i64 g, .bool m]] w fun e W => e = .returned (.tuple #[.int .u64 a, .int .i64 0]) ∧ Kept w W)) (HR2 : ∀ w, Hid (Calls Try.prog 9 #[.agg #[.int .i64 i', .int .i64 g', .bool m']] w fun e W => e = .returned (.tuple #[.int .u64 a', .int .i64 0]) ∧ Kept w W)) (HRG : ∀ w, Hid (Calls Try.prog 18 #[.int .u64 a] w fun e W => e = .returned (.tuple #[.agg #[.int .i64 i, .int .i64 g, .bool m], .int .i64 0]) ∧ Kept w W)) (FR : (a == a') = (i == i' && (g == g' && m == m'))) (HS1 : ∀ w, Hid (Calls Try.prog 13 #[.agg #[.int .i64 l, .bool f, .int .i64 v]] w fun e W => e = .returned (.tuple #[.int .u64 c, .int .i64 0]) ∧ Kept w W)) (HS2 : ∀ w, Hid (Calls Try.prog 13 #[.agg #[.int .i64 l', .bool f', .int .i64 v']] w fun e W => e = .returned (.tuple #[.int .u64 c', .int .i64 0]) ∧ Kept w W)) (HSG : ∀ w, Hid (Calls Try.prog 22 #[.int .u64 c] w fun e W => e = .returned (.tuple #[.agg #[.int .i64 l, .bool f, .int .i64 v], .int .i64 0]) ∧ Kept w W)) (FS : (c == c') = (l == l' && (f == f' && v == v'))) (HT1 : ∀ w, Hid (Calls Try.prog 11 #[.agg #[.int .i64 j, .int .i64 t]] w fun e W => e = .returned (.tuple #[.int .u64 x, .int .i64 0]) ∧ Kept w W)) (HT2 : ∀ w, Hid (Calls Try.prog 11 #[.agg #[.int .i64 j', .int .i64 t']] w fun e W => e = .returned (.tuple #[.int .u64 x', .int .i64 0]) ∧ Kept w W)) (HTG : ∀ w, Hid (Calls Try.prog 20 #[.int .u64 x] w fun e W => e = .returned (.tuple #[.agg #[.int .i64 j, .int .i64 t], .int .i64 0]) ∧ Kept w W)) (FT : (x == x') = (j == j' && t == t')) (w : World) : Calls Try.prog 6 #[.agg #[.int .i64 i, .int .i64 g, .bool m], .agg #[.int .i64 i', .int .i64 g', .bool m'], .agg #[.int .i64 l, .bool f, .int .i64 v], .agg #[.int .i64 l', .bool f', .int .i64 v'], .agg #[.int .i64 j, .int .i64 t], .agg #[.int .i64 j', .int .i64 t']] w fun e W => e = .returned (.bool true) ∧ Kept w W := by
  have QR : ∀ W, (binOp .eql 23 (.agg #[.int .i64 i, .int .i64 g, .bool m]) (.agg #[.int .i64 i', .int .i64 g', .bool m'])).run Try.prog W = .ok (.bool (a == a')) W := fun W => by rw [eq_ref, FR]
  clear FR
  have QS : ∀ W, (binOp .eql 27 (.agg #[.int .i64 l, .bool f, .int .i64 v]) (.agg #[.int .i64 l', .bool f', .int .i64 v'])).run Try.prog W = .ok (.bool (c == c')) W := fun W => by rw [eq_slot, FS]
  clear FS
  have QT : ∀ W, (binOp .eql 25 (.agg #[.int .i64 j, .int .i64 t]) (.agg #[.int .i64 j', .int .i64 t'])).run Try.prog W = .ok (.bool (x == x')) W := fun W => by rw [eq_top, FT]
  clear FT
  go_enter Try.func6, Try.ntmps6
  go_wp2_with fail
  refine (known_any _).mono ?_
  rintro e w1 ⟨rfl, k0⟩
  have hc := k0.cell
  go_wp2_with fail
  refine (HR1 _).out.mono ?_
  rintro e w2 ⟨rfl, kk⟩
  clear hc
  have k1 := k0.trans kk
  clear k0 kk
  have hc := k1.cell
  go_wp2_with fail
  refine (HR2 _).out.mono ?_
  rintro e w3 ⟨rfl, kk⟩
  clear hc
  have k0 := k1.trans kk
  clear k1 kk
  have hc := k0.cell
  go_wp2_with fail
  refine (HRG _).out.mono ?_
  rintro e w4 ⟨rfl, kk⟩
  clear hc
  have k1 := k0.trans kk
  clear k0 kk
  have hc := k1.cell
  have hz := k1.size
  simp at hz
  have l0 : w.heap.size < w4.heap.size := by omega
  have l1 : w.heap.size + 1 < w4.heap.size := by omega
  have l2 : w.heap.size + 1 + 1 < w4.heap.size := by omega
  have l3 : w.heap.size + 1 + 1 + 1 < w4.heap.size := by omega
  have l4 : w.heap.size + 1 + 1 + 1 + 1 < w4.heap.size := by omega
  have l5 : w.heap.size + 1 + 1 + 1 + 1 + 1 < w4.heap.size := by omega
  clear hz
  go_wp2_with fail
  clear l0 l1 l2 l3 l4 l5
  refine (HS1 _).out.mono ?_
  rintro e w5 ⟨rfl, kk⟩
  clear hc
  have k0 := (k1.alloc _ _).trans kk
  clear k1 kk
  have hc := k0.cell
  go_wp2_with fail
  refine (HS2 _).out.mono ?_
  rintro e w6 ⟨rfl, kk⟩
  clear hc
  have k1 := k0.trans kk
  clear k0 kk
  have hc := k1.cell
  go_wp2_with fail
  refine (HSG _).out.mono ?_
  rintro e w7 ⟨rfl, kk⟩
  clear hc
  have k0 := k1.trans kk
  clear k1 kk
  have hc := k0.cell
  have hz := k0.size
  simp at hz
  have l0 : w.heap.size < w7.heap.size := by omega
  have l1 : w.heap.size + 1 < w7.heap.size := by omega
  have l2 : w.heap.size + 1 + 1 < w7.heap.size := by omega
  have l3 : w.heap.size + 1 + 1 + 1 < w7.heap.size := by omega
  have l4 : w.heap.size + 1 + 1 + 1 + 1 < w7.heap.size := by omega
  have l5 : w.heap.size + 1 + 1 + 1 + 1 + 1 < w7.heap.size := by omega
  clear hz
  go_wp2_with fail
  clear l0 l1 l2 l3 l4 l5
  refine (HT1 _).out.mono ?_
  rintro e w8 ⟨rfl, kk⟩
  clear hc
  have k1 := (k0.alloc _ _).trans kk
  clear k0 kk
  have hc := k1.cell
  go_wp2_with fail
  refine (HT2 _).out.mono ?_
  rintro e w9 ⟨rfl, kk⟩
  clear hc
  have k0 := k1.trans kk
  clear k1 kk
  have hc := k0.cell
  go_wp2_with fail
  refine (HTG _).out.mono ?_
  rintro e w10 ⟨rfl, kk⟩
  clear hc
  have k1 := k0.trans kk
  clear k0 kk
  have hc := k1.cell
  have hz := k1.size
  simp at hz
  have l0 : w.heap.size < w10.heap.size := by omega
  have l1 : w.heap.size + 1 < w10.heap.size := by omega
  have l2 : w.heap.size + 1 + 1 < w10.heap.size := by omega
  have l3 : w.heap.size + 1 + 1 + 1 < w10.heap.size := by omega
  have l4 : w.heap.size + 1 + 1 + 1 + 1 < w10.heap.size := by omega
  have l5 : w.heap.size + 1 + 1 + 1 + 1 + 1 < w10.heap.size := by omega
  clear hz
  go_wp2
  go_ret
  exact ⟨rfl, (((((((Kept.refl w).alloc _ _).alloc _ _).alloc _ _).alloc _ _).alloc _ _).alloc _ _).trans (k1.alloc _ _)⟩

end Go.Proofs.Ytflggocnhinfeaa
