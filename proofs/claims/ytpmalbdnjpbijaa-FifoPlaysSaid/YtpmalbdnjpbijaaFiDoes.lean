/- What an operation does: the funcs that compute the next queue, and the func that hands them out. -/
import Derived.Test.YtpmalbdnjpbijaaFiList
import Derived.Deep.DeepCutAuto
namespace Go.Proofs.Ytpmalbdnjpbijaa
open Go.RowKit
attribute [local go_sem ↓] ld_named st_named cp_named bd_named lv_named

set_option maxRecDepth 100000 in
set_option maxHeartbeats 2000000 in
theorem does1_any {w : World} {b x y room : Nat} {R : Array Value} {q : List Int} {u : Int} (hb : BigAt w b R) (hR : Rg R room q) (hq : q.length < room)
    (hx : w.cell? ⟨x, 0, none⟩ = some (.pointer (some ⟨b, 0, none⟩))) (hy : w.cell? ⟨y, 3, none⟩ = some (.int .u64 u)) :
    Calls Try.prog 33 #[.pointer (some ⟨x, 0, none⟩), .pointer (some ⟨y, 0, none⟩)] w (RetR w room (q ++ [u])) := by
  obtain ⟨Z, hZ, hZ1, _, _, hz⟩ := zeroed
  obtain ⟨W0, hW0⟩ : ∃ W0, W0 = w.alloc (.cells Z 55) := ⟨_, rfl⟩
  have k0 : Kept w W0 := by rw [hW0]; exact (Kept.refl w).alloc _ _
  have z0 : BigAt W0 w.heap.size Z := by rw [hW0]; exact BigAt.new w Z _ hZ hZ1 _ rfl
  have b0 := hb.kept k0
  have x0 := k0.some hx
  have y0 := k0.some hy
  have xl := lt_of_cell hx
  have yl := lt_of_cell hy
  have bl := hb.lt
  have ld0 := big_ld b0
  have K0 := Lib.hid k0
  have Z0 := Lib.hid z0
  have B0 := Lib.hid b0
  have WI := Lib.hid (fun W => with_any (w := W) (x := u) hR hq)
  have HW := Lib.hid hW0
  clear hW0 k0 z0 b0 hb hR hq hx hy hZ hZ1
  go_enter Try.func33, Try.ntmps33
  go_upto_region 1 with fail
  rw [← HW.out]
  have kt0 : Kept W0 W0.drew := (Kept.refl W0).drew
  go_region_held3 (fun w' => w'.cell? ⟨x, 0, none⟩ = some (.pointer (some ⟨b, 0, none⟩)) ∧ w'.cell? ⟨y, 3, none⟩ = some (.int .u64 u) ∧ (ldR (.pointer (some ⟨b, 0, none⟩))).run Try.prog w' = .ok (.agg R) w')
    (first | exact ⟨but4.some (kt1.some x0) (by omega), but4.some (kt1.some y0) (by omega), big_ld ((B0.out.kept kt1).but but4 (by omega))⟩ | exact ⟨kt1.some x0, kt1.some y0, big_ld (B0.out.kept kt1)⟩ | exact ⟨kt0.some x0, kt0.some y0, big_ld (B0.out.kept kt0)⟩)
    (first | (go_at_call 34; refine (WI.out _).mono ?_; rintro e w1 ⟨R1, rfl, g1, k1⟩; have kt1 : Kept W0 w1 := kt0.trans k1; obtain ⟨w4, run4, but4, big4, s4⟩ := big_st (Z0.out.kept kt1) g1.size g1.one))
  go_wp2
  exact bodyPost_ret (v := .agg R1) (ring_result Try.results33 rfl big4) rfl ⟨R1, rfl, g1, (K0.out.trans kt1).wrote1 but4 (Nat.le_refl _)⟩

set_option maxRecDepth 100000 in
set_option maxHeartbeats 2000000 in
theorem does2_any {w : World} {b x room : Nat} {R : Array Value} {q : List Int} {v : Int} (hb : BigAt w b R) (hR : Rg R room (v :: q))
    (hx : w.cell? ⟨x, 0, none⟩ = some (.pointer (some ⟨b, 0, none⟩))) :
    Calls Try.prog 37 #[.pointer (some ⟨x, 0, none⟩)] w (RetR w room q) := by
  obtain ⟨Z, hZ, hZ1, _, _, hz⟩ := zeroed
  obtain ⟨W0, hW0⟩ : ∃ W0, W0 = w.alloc (.cells Z 55) := ⟨_, rfl⟩
  have k0 : Kept w W0 := by rw [hW0]; exact (Kept.refl w).alloc _ _
  have z0 : BigAt W0 w.heap.size Z := by rw [hW0]; exact BigAt.new w Z _ hZ hZ1 _ rfl
  have b0 := hb.kept k0
  have x0 := k0.some hx
  have xl := lt_of_cell hx
  have bl := hb.lt
  have ld0 := big_ld b0
  have K0 := Lib.hid k0
  have Z0 := Lib.hid z0
  have WI := Lib.hid (fun W => without_any (w := W) hR)
  have HW := Lib.hid hW0
  clear hW0 k0 z0 b0 hb hR hx hZ hZ1
  go_enter Try.func37, Try.ntmps37
  go_upto_region 1 with fail
  rw [← HW.out]
  go_wp2_with fail
  refine (WI.out _).mono ?_
  rintro e w1 ⟨R1, rfl, g1, k1⟩
  obtain ⟨w4, run4, but4, big4, s4⟩ := big_st (Z0.out.kept k1) g1.size g1.one
  go_wp2
  exact bodyPost_ret (v := .agg R1) (ring_result Try.results37 rfl big4) rfl ⟨R1, rfl, g1, (K0.out.trans k1).wrote1 but4 (Nat.le_refl _)⟩

set_option maxRecDepth 100000 in
set_option maxHeartbeats 2000000 in
theorem does3_any {w : World} {b x room : Nat} {R : Array Value} {q : List Int} (hb : BigAt w b R) (hR : Rg R room q)
    (hx : w.cell? ⟨x, 0, none⟩ = some (.pointer (some ⟨b, 0, none⟩))) :
    Calls Try.prog 39 #[.pointer (some ⟨x, 0, none⟩)] w (RetR w room q) := by
  obtain ⟨Z, hZ, hZ1, _, _, hz⟩ := zeroed
  obtain ⟨W0, hW0⟩ : ∃ W0, W0 = w.alloc (.cells Z 55) := ⟨_, rfl⟩
  have k0 : Kept w W0 := by rw [hW0]; exact (Kept.refl w).alloc _ _
  have z0 : BigAt W0 w.heap.size Z := by rw [hW0]; exact BigAt.new w Z _ hZ hZ1 _ rfl
  have b0 := hb.kept k0
  have x0 := k0.some hx
  have ld0 := big_ld b0
  obtain ⟨w4, run4, but4, big4, s4⟩ := big_st z0 hR.size hR.one
  have K4 := Lib.hid (k0.wrote1 but4 (Nat.le_refl _))
  have HR := Lib.hid hR
  have HW := Lib.hid hW0
  clear hW0 k0 z0 b0 hb hR hx hZ hZ1 but4 s4
  go_enter Try.func39, Try.ntmps39
  go_upto_region 1 with fail
  rw [← HW.out]
  go_wp2
  exact bodyPost_ret (v := .agg R) (ring_result Try.results39 rfl big4) rfl ⟨R, rfl, HR.out, K4.out⟩
end Go.Proofs.Ytpmalbdnjpbijaa
