/- The program's ring: filled, full, empty, place, front, with, without. -/
import Derived.Test.YtpmalbdnjpbijaaFiRing
import Derived.WalkLawsBesides
import Derived.Deep.QuietTactic
import Derived.BigQuiet
import Derived.Deep.RegionHeld3
import Derived.Deep.Light
import Derived.LoopN
import Derived.Lib.Hide
namespace Go.Proofs.Ytpmalbdnjpbijaa
open Go.RowKit
attribute [local go_sem ↓] ld_named st_named cp_named bd_named lv_named

theorem Kept.wrote {S : Nat → Prop} {w w1 w2 : World} (k : Kept w w1) (b : But S w1 w2) (h : ∀ j, S j → w.heap.size ≤ j) : Kept w w2 :=
  ((k.but S).trans b (fun _ _ h => h)).kept (fun j hj hS => by have := h j hS; omega)
theorem Kept.wrote1 {w w1 w2 : World} {n : Nat} (k : Kept w w1) (b : But (fun j => j = n) w1 w2) (h : w.heap.size ≤ n) : Kept w w2 := k.wrote b (fun j e => by subst e; exact h)

/-- A ring is told. -/
def RetR (w : World) (room : Nat) (q : List Int) (e : Ending) (w' : World) : Prop := ∃ R, e = .returned (.agg R) ∧ Rg R room q ∧ Kept w w'

set_option maxRecDepth 100000 in
set_option maxHeartbeats 1000000 in
theorem filled_any {w : World} {v : Value} {q : List Int} (room : Nat) (hl : Lay w v q.length (words q)) (hq : q.length ≤ room) (hr : room ≤ 1024) :
    Calls Try.prog 28 #[.int .i64 room, v] w (RetR w room q) := by
  obtain ⟨Z, hZ, hZ1, _, _, hz⟩ := zeroed
  obtain ⟨R0, r0s, r01, r0r, r0f, r0m, hbuild⟩ := build_ring room q.length
  have k1 : Kept w (w.alloc (.cells Z 55)) := (Kept.refl w).alloc _ _
  have k2 : Kept w ((w.alloc (.cells Z 55)).alloc (.cells Z 55)) := k1.alloc _ _
  have b1 : BigAt ((w.alloc (.cells Z 55)).alloc (.cells Z 55)) w.heap.size Z := (BigAt.new w Z _ hZ hZ1 _ rfl).kept ((Kept.refl _).alloc _ _)
  have b2 : BigAt ((w.alloc (.cells Z 55)).alloc (.cells Z 55)) (w.heap.size + 1) Z := BigAt.new _ Z _ hZ hZ1 _ (by simp)
  obtain ⟨w3, run3, but3, big3, s3⟩ := big_st b2 r0s r01
  have k3 := k2.wrote1 but3 (by omega)
  have b3 := b1.but but3 (by omega)
  obtain ⟨w4, R4, run4, but4, big4, q4, h4⟩ := big_cp big3 3 (hl.kept k3) (Nat.le_trans hq hr)
  have k4 := k3.wrote1 but4 (by omega)
  have b4 := b3.but but4 (by omega)
  have ld4 := big_ld big4
  obtain ⟨w5, run5, but5, big5, s5⟩ := big_st b4 big4.size big4.one
  have k5 := Lib.hid (k4.wrote1 but5 (Nat.le_refl _))
  have RG := Lib.hid (show Rg R4 room q from ⟨big4.size, big4.one, (h4 1024 (by decide)).trans r0r, ⟨0, by decide, (h4 1025 (by decide)).trans r0f, fun i x hx => by
    have hi : i < q.length := (List.getElem?_eq_some_iff.1 hx).1
    rw [Nat.zero_add, Nat.mod_eq_of_lt (by omega)]
    exact q4 i x hx⟩, (h4 1026 (by decide)).trans r0m, hq, hr⟩)
  obtain ⟨a, c, rfl, _⟩ := hl.form
  obtain ⟨n, hn⟩ : ∃ n, n = q.length := ⟨_, rfl⟩
  rw [← hn] at hbuild run4 ⊢
  clear hn k1 k2 b1 b2 but3 big3 s3 k3 b3 but4 big4 q4 h4 k4 b4 but5 s5 hZ hZ1 hl r0s r01 r0r r0f r0m hq hr
  go_enter Try.func28, Try.ntmps28
  go_wp2
  refine bodyPost_ret (v := .agg R4) (ring_result Try.results28 rfl big5) rfl ⟨R4, rfl, RG.out, k5.out⟩

set_option maxHeartbeats 1000000 in
theorem full_any {w : World} {b room : Nat} {R : Array Value} {q : List Int} (hb : BigAt w b R) (hR : Rg R room q) :
    Calls Try.prog 32 #[.pointer (some ⟨b, 0, none⟩)] w fun e w' => e = .returned (.bool (decide (q.length = room))) ∧ Kept w w' := by
  have c1 := hb.cell _ _ hR.many
  have c2 := hb.cell _ _ hR.room_
  obtain ⟨n, hn⟩ : ∃ n, n = q.length := ⟨_, rfl⟩
  rw [← hn] at c1 ⊢
  clear hn hR hb
  go_enter Try.func32, Try.ntmps32
  go_wp2
  go_quiet (fail)
  go_wp2
  go_ret
  refine ⟨?_, (Kept.refl w).drewN _⟩
  have : ((n : Int) == (room : Int)) = decide (n = room) := by rw [Bool.eq_iff_iff]; simp; omega
  show Ending.returned (.bool ((n : Int) == (room : Int))) = _
  rw [this]

set_option maxHeartbeats 1000000 in
theorem empty_any {w : World} {b room : Nat} {R : Array Value} {q : List Int} (hb : BigAt w b R) (hR : Rg R room q) :
    Calls Try.prog 35 #[.pointer (some ⟨b, 0, none⟩)] w fun e w' => e = .returned (.bool (decide (q.length = 0))) ∧ w = w' := by
  have c1 := hb.cell _ _ hR.many
  obtain ⟨n, hn⟩ : ∃ n, n = q.length := ⟨_, rfl⟩
  rw [← hn] at c1 ⊢
  clear hn hR hb
  go_enter Try.func35, Try.ntmps35
  go_wp2
  go_ret
  refine ⟨?_, rfl⟩
  have : ((n : Int) == 0) = decide (n = 0) := by rw [Bool.eq_iff_iff]; simp
  show Ending.returned (.bool ((n : Int) == 0)) = _
  rw [this]

set_option maxHeartbeats 1000000 in
theorem place_any {w : World} {b f n : Nat} (c1 : w.cell? ⟨b, 1025, none⟩ = some (.int .i64 f)) (hf : f < 1024) (hn : n ≤ 1024) :
    Calls Try.prog 40 #[.pointer (some ⟨b, 0, none⟩), .int .i64 n] w fun e w' => e = .returned (.int .i64 ((f + n) % 1024 : Nat)) ∧ w = w' := by
  go_enter Try.func40, Try.ntmps40
  go_wp2
  go_ret
  refine ⟨?_, rfl⟩
  show Ending.returned (.int .i64 (((f : Int) + n) % 1024)) = _
  rw [show (((f : Int) + n) % 1024) = (((f + n) % 1024 : Nat) : Int) by omega]

set_option maxHeartbeats 1000000 in
theorem front_any {w : World} {b room : Nat} {R : Array Value} {q : List Int} {x : Int} (hb : BigAt w b R) (hR : Rg R room q) (hx : q[0]? = some x) :
    Calls Try.prog 36 #[.pointer (some ⟨b, 0, none⟩)] w fun e w' => e = .returned (.int .u64 x) ∧ Kept w w' := by
  obtain ⟨f, hf, hc, hq⟩ := hR.first
  have c1 := hb.cell _ _ hc
  have c2 := hb.cell _ _ (hq 0 x hx)
  have PL := Lib.hid (fun W (k : Kept w W) => place_any (n := 0) (k.some c1) hf (by decide))
  obtain ⟨i, hi⟩ : ∃ i, i = (f + 0) % 1024 := ⟨_, rfl⟩
  rw [← hi] at c2
  have i1 : i < 1024 := by omega
  have i2 : (i : Int) < 1024 := by omega
  have i3 : (0 : Int) ≤ (i : Int) := by omega
  have i4 : ¬ ((i : Int) < 0) := by omega
  rw [← hi] at PL
  clear hi hq hc hR hb hx
  go_enter Try.func36, Try.ntmps36
  go_wp2
  go_region_held3 (fun w' => w'.cell? ⟨b, i, none⟩ = some (.int .u64 x)) (first | assumption | go_keep) (first | (go_at_call 40; refine (PL.out _ (by first | with_reducible exact Kept.refl _ | with_reducible exact (Kept.refl _).drew | with_reducible exact (Kept.refl _).drewN _)).mono ?_; rintro e w1 ⟨rfl, rfl⟩))
  go_wp2
  go_ret
  exact ⟨rfl, (Kept.refl w).drew⟩

set_option maxRecDepth 100000 in
set_option maxHeartbeats 1000000 in
theorem with_any {w : World} {room : Nat} {R : Array Value} {q : List Int} {x : Int} (hR : Rg R room q) (hq : q.length < room) :
    Calls Try.prog 34 #[.agg R, .int .u64 x] w (RetR w room (q ++ [x])) := by
  obtain ⟨Z, hZ, hZ1, _, _, hz⟩ := zeroed
  obtain ⟨f, hf, hfc, hfq⟩ := hR.first
  have hm := hR.most
  obtain ⟨W2, hW2⟩ : ∃ W2, W2 = ((w.alloc (.cells R 55)).alloc (.cells Z 55)) := ⟨_, rfl⟩
  have k2 : Kept w W2 := by rw [hW2]; exact ((Kept.refl w).alloc _ _).alloc _ _
  have b1 : BigAt W2 w.heap.size R := by rw [hW2]; exact (BigAt.new w R _ hR.size hR.one _ rfl).kept ((Kept.refl _).alloc _ _)
  have b2 : BigAt W2 (w.heap.size + 1) Z := by rw [hW2]; exact BigAt.new _ Z _ hZ hZ1 _ (by simp)
  obtain ⟨i, hi⟩ : ∃ i, i = (f + q.length) % 1024 := ⟨_, rfl⟩
  have c0 := b1.cell _ _ hfc
  have c1 := b1.cell _ _ hR.many
  have PL := Lib.hid (place_any (w := W2) c0 hf (show q.length ≤ 1024 by omega))
  rw [← hi] at PL
  have i1 : i < 1024 := by omega
  obtain ⟨vi, hvi⟩ : ∃ v, R[i]? = some v := ⟨_, Array.getElem?_eq_getElem (by rw [hR.size]; omega)⟩
  have c2 := b1.cell _ _ hvi
  have s1 := b1.soft i
  have s2 := b1.soft 1026
  have b3 := (b1.set i (.int .u64 x) rfl).set 1026 (.int .i64 (q.length + 1)) rfl
  have k3 : Kept w ((W2.setCell ⟨w.heap.size, i, none⟩ (.int .u64 x)).setCell ⟨w.heap.size, 1026, none⟩ (.int .i64 (q.length + 1))) := (k2.setCell (p := ⟨w.heap.size, i, none⟩) (Nat.le_refl _) _).setCell (p := ⟨w.heap.size, 1026, none⟩) (Nat.le_refl _) _
  have d3 : BigAt ((W2.setCell ⟨w.heap.size, i, none⟩ (.int .u64 x)).setCell ⟨w.heap.size, 1026, none⟩ (.int .i64 (q.length + 1))) (w.heap.size + 1) Z :=
    b2.but (((But.refl (fun j => j = w.heap.size) _).here _ _).here _ _) (by omega)
  have ld := big_ld b3
  obtain ⟨w5, run5, but5, big5, s5⟩ := big_st d3 b3.size b3.one
  have k5 := Lib.hid (k3.wrote1 but5 (by omega))
  have RG := Lib.hid (show Rg ((R.setIfInBounds i (.int .u64 x)).setIfInBounds 1026 (.int .i64 (q.length + 1))) room (q ++ [x]) from ⟨b3.size, b3.one, by
      rw [Array.getElem?_setIfInBounds, if_neg (by decide), Array.getElem?_setIfInBounds, if_neg (by omega)]; exact hR.room_, ⟨f, hf, by
      rw [Array.getElem?_setIfInBounds, if_neg (by decide), Array.getElem?_setIfInBounds, if_neg (by omega)]; exact hfc, fun j y hy => by
        rw [Array.getElem?_setIfInBounds, if_neg (by omega), Array.getElem?_setIfInBounds]
        have hj : j < q.length + 1 := by have := (List.getElem?_eq_some_iff.1 hy).1; simpa using this
        by_cases e : j = q.length
        · subst e
          rw [if_pos hi, if_pos (by rw [hR.size]; omega)]
          simp at hy
          rw [hy]
        · rw [if_neg (by omega)]
          rw [List.getElem?_append_left (by omega)] at hy
          exact hfq j y hy⟩, by
      rw [Array.getElem?_setIfInBounds, if_pos rfl, if_pos (by simp [hR.size])]; simp, by simp; omega, hm⟩)
  obtain ⟨n, hn⟩ : ∃ n, n = q.length := ⟨_, rfl⟩
  rw [← hn] at c1 PL RG ld run5 hq
  obtain ⟨R5, hR5⟩ : ∃ R5, R5 = ((R.setIfInBounds i (.int .u64 x)).setIfInBounds 1026 (.int .i64 ((n : Int) + 1))) := ⟨_, rfl⟩
  rw [hn] at hR5
  rw [← hR5] at big5
  rw [← hn] at hR5
  rw [← hR5] at RG ld run5
  clear hn hR5 hi hvi hR hfc hfq k2 b1 b2 b3 k3 d3 but5 s5 hZ hZ1
  have HW := Lib.hid hW2
  clear hW2
  have i2 : (i : Int) < 1024 := by omega
  go_enter Try.func34, Try.ntmps34
  go_upto_region 1 with fail
  rw [← HW.out]
  go_wp2_with fail
  refine PL.out.mono ?_
  rintro e w1 ⟨rfl, rfl⟩
  go_wp2
  refine bodyPost_ret (v := .agg R5) (ring_result Try.results34 rfl big5) rfl ⟨R5, rfl, RG.out, k5.out⟩

set_option maxRecDepth 100000 in
set_option maxHeartbeats 1000000 in
theorem without_any {w : World} {room : Nat} {R : Array Value} {q : List Int} {x : Int} (hR : Rg R room (x :: q)) :
    Calls Try.prog 38 #[.agg R] w (RetR w room q) := by
  obtain ⟨Z, hZ, hZ1, _, _, hz⟩ := zeroed
  obtain ⟨f, hf, hfc, hfq⟩ := hR.first
  have hm := hR.most
  have hlen : (x :: q).length = q.length + 1 := rfl
  have hfit := hR.fits
  rw [hlen] at hfit
  obtain ⟨W2, hW2⟩ : ∃ W2, W2 = ((w.alloc (.cells R 55)).alloc (.cells Z 55)) := ⟨_, rfl⟩
  have k2 : Kept w W2 := by rw [hW2]; exact ((Kept.refl w).alloc _ _).alloc _ _
  have b1 : BigAt W2 w.heap.size R := by rw [hW2]; exact (BigAt.new w R _ hR.size hR.one _ rfl).kept ((Kept.refl _).alloc _ _)
  have b2 : BigAt W2 (w.heap.size + 1) Z := by rw [hW2]; exact BigAt.new _ Z _ hZ hZ1 _ (by simp)
  obtain ⟨i, hi⟩ : ∃ i, i = (f + 1) % 1024 := ⟨_, rfl⟩
  have c0 := b1.cell _ _ hfc
  have c1 := b1.cell _ _ hR.many
  rw [hlen] at c1
  have PL := Lib.hid (place_any (w := W2) (n := 1) c0 hf (by decide))
  rw [← hi] at PL
  have i1 : i < 1024 := by omega
  have s1 := b1.soft 1025
  have s2 := b1.soft 1026
  have b3 := (b1.set 1025 (.int .i64 i) rfl).set 1026 (.int .i64 q.length) rfl
  have k3 : Kept w ((W2.setCell ⟨w.heap.size, 1025, none⟩ (.int .i64 i)).setCell ⟨w.heap.size, 1026, none⟩ (.int .i64 q.length)) := (k2.setCell (p := ⟨w.heap.size, 1025, none⟩) (Nat.le_refl _) _).setCell (p := ⟨w.heap.size, 1026, none⟩) (Nat.le_refl _) _
  have d3 : BigAt ((W2.setCell ⟨w.heap.size, 1025, none⟩ (.int .i64 i)).setCell ⟨w.heap.size, 1026, none⟩ (.int .i64 q.length)) (w.heap.size + 1) Z :=
    b2.but (((But.refl (fun j => j = w.heap.size) _).here _ _).here _ _) (by omega)
  have ld := big_ld b3
  obtain ⟨w5, run5, but5, big5, s5⟩ := big_st d3 b3.size b3.one
  have k5 := Lib.hid (k3.wrote1 but5 (by omega))
  have RG := Lib.hid (show Rg ((R.setIfInBounds 1025 (.int .i64 i)).setIfInBounds 1026 (.int .i64 q.length)) room q from ⟨b3.size, b3.one, by
      rw [Array.getElem?_setIfInBounds, if_neg (by decide), Array.getElem?_setIfInBounds, if_neg (by decide)]; exact hR.room_, ⟨i, i1, by
      rw [Array.getElem?_setIfInBounds, if_neg (by decide), Array.getElem?_setIfInBounds, if_pos rfl, if_pos (by rw [hR.size]; decide)], fun j y hy => by
        rw [Array.getElem?_setIfInBounds, if_neg (by omega), Array.getElem?_setIfInBounds, if_neg (by omega)]
        have := hfq (j + 1) y (by simpa using hy)
        rwa [show (f + (j + 1)) % 1024 = (i + j) % 1024 by omega] at this⟩, by
      rw [Array.getElem?_setIfInBounds, if_pos rfl, if_pos (by simp [hR.size])], by omega, hm⟩)
  obtain ⟨n, hn⟩ : ∃ n, n = q.length := ⟨_, rfl⟩
  rw [← hn] at c1 RG ld run5 hfit
  obtain ⟨R5, hR5⟩ : ∃ R5, R5 = ((R.setIfInBounds 1025 (.int .i64 i)).setIfInBounds 1026 (.int .i64 (n : Int))) := ⟨_, rfl⟩
  rw [hn] at hR5
  rw [← hR5] at big5
  rw [← hn] at hR5
  rw [← hR5] at RG ld run5
  have HW := Lib.hid hW2
  clear hn hR5 hi hR hfc hfq k2 b1 b2 b3 k3 d3 but5 s5 hZ hZ1 hW2 hlen
  have n0 : n ≤ 1024 := by omega
  have c1 : W2.cell? ⟨w.heap.size, 1026, none⟩ = some (.int .i64 ((n : Int) + 1)) := by rw [c1]; rfl
  go_enter Try.func38, Try.ntmps38
  go_upto_region 1 with fail
  rw [← HW.out]
  go_wp2_with fail
  refine PL.out.mono ?_
  rintro e w1 ⟨rfl, rfl⟩
  go_wp2
  refine bodyPost_ret (v := .agg R5) (ring_result Try.results38 rfl big5) rfl ⟨R5, rfl, RG.out, k5.out⟩
end Go.Proofs.Ytpmalbdnjpbijaa
