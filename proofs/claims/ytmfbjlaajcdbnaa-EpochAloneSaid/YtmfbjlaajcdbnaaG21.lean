/- 'told': a core's operation, the program's and the document's, steps alike and tells alike. Written by gen12t.py. -/
import Derived.Test.YtmfbjlaajcdbnaaG20
import Derived.Deep.RegionHeld3
import Derived.Deep.QuietTactic
import Derived.BigQuiet
set_option linter.unusedVariables false
set_option linter.unusedSimpArgs false

namespace Go.Proofs.Ytmfbjlaajcdbnaa.Ep
set_option maxRecDepth 20000
open Go.RowKit
open Wo (St acc wordAt PMem RefIs)
open Sk (Stk Wd pmem_kept pmem_lt pmem_frame ref_frame ref_kept ref_lt)

set_option maxHeartbeats 4000000 in
theorem same_adv_step (own : Nat → Nat) (c : Nat) (S : Stk) (M B M2 B2 n : Nat) (s : St) (d p : Int) (x : EOp) (P Q : Nat) (w : World) (h : AdvIs own c S w d p x P Q) (hd : Duo own w M B M2 B2 n s) (hS : EOk S n) (c1 : s.cnt ≤ 900000) :
    Calls Try.prog 14 #[.agg #[.pointer none, .pointer none, .pointer none, .pointer none, .pointer (some ⟨P, 0, none⟩), .pointer (some ⟨Q, 0, none⟩)], .pointer (some ⟨M, 0, none⟩), .pointer (some ⟨M2, 0, none⟩), .bool true] w (ToldPost own c S M B M2 B2 n s (.adv d p x P Q) true w) := by
  have FIRST := Lib.hid (fun W (k : Kept w W) => adv_first own c S M B M2 B2 n s d p x P Q W (PS.Is.kept (p := .adv d p x P Q) h k) (hd.kept k) hS (by omega))
  have SECOND := Lib.hid (adv_second own c S M B M2 B2 n s d p x P Q w)
  have hP : P < w.heap.size := h.1.lt
  have hQ : Q < w.heap.size := h.2.1.lt
  have hB : B < w.heap.size := (pmem_lt hd.p).2
  have hB2 : B2 < w.heap.size := (ref_lt hd.r hd.n1).2
  have hM2 : M2 < w.heap.size := (ref_lt hd.r hd.n1).1
  have HH := Lib.hid h
  have HD := Lib.hid hd
  have HS := Lib.hid hS
  clear h hd hS
  go_enter Try.func14, Try.ntmps14
  go_upto_region 11 with fail
  obtain ⟨W1, hW1⟩ : ∃ W1, W1 = w.alloc (.cells #[.pointer none, .pointer none, .pointer none, .pointer none, .pointer (some ⟨P, 0, none⟩), .pointer (some ⟨Q, 0, none⟩)] 44) := ⟨_, rfl⟩
  have a0 : W1.cell? ⟨w.heap.size, 4, none⟩ = some (.pointer (some ⟨P, 0, none⟩)) := by rw [hW1]; exact cell_new w _ _ _ 4 rfl
  have a1 : W1.cell? ⟨w.heap.size, 5, none⟩ = some (.pointer (some ⟨Q, 0, none⟩)) := by rw [hW1]; exact cell_new w _ _ _ 5 rfl
  have k1 : Kept w W1 := by rw [hW1]; exact (Kept.refl w).alloc _ _
  rw [← hW1]
  have z1 : w.heap.size < W1.heap.size := by rw [hW1]; simp
  have K1 := Lib.hid k1
  clear hW1 k1
  go_region_held3 (fun w' => w'.cell? ⟨w.heap.size, 4, none⟩ = some (.pointer (some ⟨P, 0, none⟩)) ∧ w'.cell? ⟨w.heap.size, 5, none⟩ = some (.pointer (some ⟨Q, 0, none⟩))) (first | go_keep | (exact ⟨d0, d1⟩) | (exact ⟨b0, b1⟩)) (first
    | (go_at_call 32; refine (FIRST.out _ (K1.out.trans (by first | exact Kept.refl _ | exact (Kept.refl _).drew | exact (Kept.refl _).drewN _))).mono ?_; rintro e u1 ⟨rfl, y1, y2, y3, y4, y5, y6⟩; have BT : But (fun k => k = P ∨ k = B) W1 u1 := (Kept.but (w' := _) (by first | exact Kept.refl _ | exact (Kept.refl _).drew | exact (Kept.refl _).drewN _) _).trans y6 (fun _ _ h => h); have B1 : But (mine own c) w u1 := ((K1.out.trans (c := _) (by first | exact Kept.refl _ | exact (Kept.refl _).drew | exact (Kept.refl _).drewN _)).but _).trans y5 (fun _ _ h => h); have b0 := BT.some a0 (by omega); have b1 := BT.some a1 (by omega))
    | (go_at_call 62; refine (SECOND.out _ HH.out HD.out HS.out (by omega) (y1.kept (by first | exact Kept.refl _ | exact (Kept.refl _).drew | exact (Kept.refl _).drewN _)) (y2.kept (by first | exact Kept.refl _ | exact (Kept.refl _).drew | exact (Kept.refl _).drewN _)) (pmem_kept y3 (by first | exact Kept.refl _ | exact (Kept.refl _).drew | exact (Kept.refl _).drewN _)) (ref_kept y4 HS.out.ok.n1 (by first | exact Kept.refl _ | exact (Kept.refl _).drew | exact (Kept.refl _).drewN _))).mono ?_; rintro e u2 ⟨rfl, v1, v2, v3, v4⟩; have BU : But (fun k => k = Q ∨ k = M2 ∨ k = B2) u1 u2 := (Kept.but (w' := _) (by first | exact Kept.refl _ | exact (Kept.refl _).drew | exact (Kept.refl _).drewN _) _).trans v4 (fun _ _ h => h); have B2' : But (mine own c) w u2 := (B1.trans ((Kept.but (w' := _) (by first | exact Kept.refl _ | exact (Kept.refl _).drew | exact (Kept.refl _).drewN _) _).trans v3 (fun _ _ h => h)) (fun _ _ h => h)); have d0 := BU.some b0 (by omega); have d1 := BU.some b1 (by omega)))
  obtain ⟨x', hx'⟩ : ∃ x', x' = advOp n S d p s x := ⟨_, rfl⟩
  obtain ⟨s', hs'⟩ : ∃ s', s' = advSt n S s x := ⟨_, rfl⟩
  have hcnt : s'.cnt ≤ s.cnt + 1 := by rw [hs']; exact (@adv_cnt n S s x).2
  rw [← hx'] at v1
  rw [← hs'] at v2
  rw [← hx']
  have VI : Hid (AdvIs own c S u2 d p x' P Q) := Lib.hid v1
  have VD := Lib.hid v2
  have VB := Lib.hid B2'
  clear hx' hs' y1 y2 y3 y4 y5 y6 BT B1 b0 b1 v1 v2 v3 v4 BU B2' a0 a1
  have a0 := d0
  have a1 := d1
  have z2 : w.heap.size < u2.heap.size := lt_of_cell d0
  clear d0 d1
  go_wp2_with fail
  go_region_held3 (fun w' => w'.cell? ⟨w.heap.size, 4, none⟩ = some (.pointer (some ⟨P, 0, none⟩)) ∧ w'.cell? ⟨w.heap.size, 5, none⟩ = some (.pointer (some ⟨Q, 0, none⟩))) (first | go_keep | (exact ⟨b0, b1⟩) | (exact ⟨d0, d1⟩)) (first
    | (go_at_call 34; refine (adv_told P S d p x' _ (VI.out.1.kept (by first | exact Kept.refl _ | exact (Kept.refl _).drew | exact (Kept.refl _).drewN _))).mono ?_; rintro e u3 ⟨rfl, k3⟩; have K3 : Kept u2 u3 := Kept.trans (b := _) (by first | exact Kept.refl _ | exact (Kept.refl _).drew | exact (Kept.refl _).drewN _) k3; have b0 := K3.some a0; have b1 := K3.some a1)
    | (go_at_call 63; refine (radv_told Q S d p x' _ (VI.out.2.1.kept (by first | exact K3 | exact K3.drew | exact K3.drewN _)) VI.out.2.2.1).mono ?_; rintro e u4 ⟨rfl, k4⟩; have K4 : Kept u2 u4 := Kept.trans (b := _) (by first | exact K3 | exact K3.drew | exact K3.drewN _) k4; have d0 := K4.some a0; have d1 := K4.some a1))
  go_wp2
  go_ret
  have KK := K4
  exact ⟨rfl, .adv d p x' P Q, s', rfl, fun h => absurd h (by decide), PS.Is.kept (p := .adv d p x' P Q) VI.out KK, VD.out.kept KK, hcnt, VB.out.then KK⟩

set_option maxHeartbeats 4000000 in
theorem same_adv_rest (own : Nat → Nat) (c : Nat) (S : Stk) (M B M2 B2 n : Nat) (s : St) (d p : Int) (x : EOp) (P Q : Nat) (w : World) (h : AdvIs own c S w d p x P Q) (hd : Duo own w M B M2 B2 n s) (hS : EOk S n) (c1 : s.cnt ≤ 900000) :
    Calls Try.prog 14 #[.agg #[.pointer none, .pointer none, .pointer none, .pointer none, .pointer (some ⟨P, 0, none⟩), .pointer (some ⟨Q, 0, none⟩)], .pointer (some ⟨M, 0, none⟩), .pointer (some ⟨M2, 0, none⟩), .bool false] w (ToldPost own c S M B M2 B2 n s (.adv d p x P Q) false w) := by
  have FIRST := Lib.hid (fun W (k : Kept w W) => adv_first own c S M B M2 B2 n s d p x P Q W (PS.Is.kept (p := .adv d p x P Q) h k) (hd.kept k) hS (by omega))
  have SECOND := Lib.hid (adv_second own c S M B M2 B2 n s d p x P Q w)
  have hP : P < w.heap.size := h.1.lt
  have hQ : Q < w.heap.size := h.2.1.lt
  have hB : B < w.heap.size := (pmem_lt hd.p).2
  have hB2 : B2 < w.heap.size := (ref_lt hd.r hd.n1).2
  have hM2 : M2 < w.heap.size := (ref_lt hd.r hd.n1).1
  have HH := Lib.hid h
  have HD := Lib.hid hd
  have HS := Lib.hid hS
  clear h hd hS
  go_enter Try.func14, Try.ntmps14
  go_upto_region 11 with fail
  obtain ⟨W1, hW1⟩ : ∃ W1, W1 = w.alloc (.cells #[.pointer none, .pointer none, .pointer none, .pointer none, .pointer (some ⟨P, 0, none⟩), .pointer (some ⟨Q, 0, none⟩)] 44) := ⟨_, rfl⟩
  have a0 : W1.cell? ⟨w.heap.size, 4, none⟩ = some (.pointer (some ⟨P, 0, none⟩)) := by rw [hW1]; exact cell_new w _ _ _ 4 rfl
  have a1 : W1.cell? ⟨w.heap.size, 5, none⟩ = some (.pointer (some ⟨Q, 0, none⟩)) := by rw [hW1]; exact cell_new w _ _ _ 5 rfl
  have k1 : Kept w W1 := by rw [hW1]; exact (Kept.refl w).alloc _ _
  rw [← hW1]
  have z1 : w.heap.size < W1.heap.size := by rw [hW1]; simp
  have K1 := Lib.hid k1
  clear hW1 k1
  go_quiet (fail)
  have VI : Hid (AdvIs own c S W1 d p x P Q) := Lib.hid (PS.Is.kept (p := .adv d p x P Q) HH.out K1.out)
  go_wp2_with fail
  go_region_held3 (fun w' => w'.cell? ⟨w.heap.size, 4, none⟩ = some (.pointer (some ⟨P, 0, none⟩)) ∧ w'.cell? ⟨w.heap.size, 5, none⟩ = some (.pointer (some ⟨Q, 0, none⟩))) (first | go_keep | (exact ⟨b0, b1⟩) | (exact ⟨d0, d1⟩)) (first
    | (go_at_call 34; refine (adv_told P S d p x _ (VI.out.1.kept (by first | exact Kept.refl _ | exact (Kept.refl _).drew | exact (Kept.refl _).drewN _))).mono ?_; rintro e u3 ⟨rfl, k3⟩; have K3 : Kept W1 u3 := Kept.trans (b := _) (by first | exact Kept.refl _ | exact (Kept.refl _).drew | exact (Kept.refl _).drewN _) k3; have b0 := K3.some a0; have b1 := K3.some a1)
    | (go_at_call 63; refine (radv_told Q S d p x _ (VI.out.2.1.kept (by first | exact K3 | exact K3.drew | exact K3.drewN _)) VI.out.2.2.1).mono ?_; rintro e u4 ⟨rfl, k4⟩; have K4 : Kept W1 u4 := Kept.trans (b := _) (by first | exact K3 | exact K3.drew | exact K3.drewN _) k4; have d0 := K4.some a0; have d1 := K4.some a1))
  go_wp2
  go_ret
  have KK := K4
  exact ⟨rfl, .adv d p x P Q, s, rfl, fun _ => rfl, PS.Is.kept (p := .adv d p x P Q) VI.out KK, HD.out.kept (K1.out.trans KK), by omega, ((K1.out.trans KK).but _)⟩
end Go.Proofs.Ytmfbjlaajcdbnaa.Ep
