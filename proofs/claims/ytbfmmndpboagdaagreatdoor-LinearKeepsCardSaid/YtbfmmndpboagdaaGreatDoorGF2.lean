/- What an operation does: the funcs that compute the next queue, and the func that hands them out. -/
import Derived.Test.YtbfmmndpboagdaaGreatDoorGF1
import Derived.Deep.DeepCutAuto
import Derived.ScopeJumps
import Derived.WalkMore
namespace Go.Proofs.YtbfmmndpboagdaaGreatDoor.Fi
set_option maxRecDepth 20000
open Go.RowKit
attribute [local go_sem ↓] ld_named st_named cp_named bd_named lv_named

set_option maxRecDepth 100000 in
set_option maxHeartbeats 2000000 in
theorem does1_any {w : World} {b x y room : Nat} {R : Array Value} {q : List Int} {u : Int} (hb : BigAt w b R) (hR : Rg R room q) (hq : q.length < room)
    (hx : w.cell? ⟨x, 0, none⟩ = some (.pointer (some ⟨b, 0, none⟩))) (hy : w.cell? ⟨y, 3, none⟩ = some (.int .u64 u)) :
    Calls Tryz.prog 66 #[.pointer (some ⟨x, 0, none⟩), .pointer (some ⟨y, 0, none⟩)] w (RetR w room (q ++ [u])) := by
  obtain ⟨Z, hZ, hZ1, _, _, hz⟩ := zeroed
  obtain ⟨W0, hW0⟩ : ∃ W0, W0 = w.alloc (.cells Z 114) := ⟨_, rfl⟩
  have k0 : Kept w W0 := by rw [hW0]; exact (Kept.refl w).alloc _ _
  have z0 : BigAt W0 w.heap.size Z := by rw [hW0]; exact BigAt.new w Z _ hZ hZ1 _ rfl
  have b0 := hb.kept k0
  have x0 := k0.some hx
  have y0 := k0.some hy
  have xl := lt_of_cell hx
  have yl := lt_of_cell hy
  have bl := hb.lt
  have ld0 := big_ld b0
  have K0 := Lib.hid k0
  have Z0 := Lib.hid z0
  have B0 := Lib.hid b0
  have WI := Lib.hid (fun W => with_any (w := W) (x := u) hR hq)
  have HW := Lib.hid hW0
  clear hW0 k0 z0 b0 hb hR hq hx hy hZ hZ1
  go_enter Tryz.func66, Tryz.ntmps66
  go_upto_region 1 with fail
  rw [← HW.out]
  have kt0 : Kept W0 W0.drew := (Kept.refl W0).drew
  go_region_held3 (fun w' => w'.cell? ⟨x, 0, none⟩ = some (.pointer (some ⟨b, 0, none⟩)) ∧ w'.cell? ⟨y, 3, none⟩ = some (.int .u64 u) ∧ (ldR (.pointer (some ⟨b, 0, none⟩))).run Tryz.prog w' = .ok (.agg R) w')
    (first | exact ⟨but4.some (kt1.some x0) (by omega), but4.some (kt1.some y0) (by omega), big_ld ((B0.out.kept kt1).but but4 (by omega))⟩ | exact ⟨kt1.some x0, kt1.some y0, big_ld (B0.out.kept kt1)⟩ | exact ⟨kt0.some x0, kt0.some y0, big_ld (B0.out.kept kt0)⟩)
    (first | (go_at_call 67; refine (WI.out _).mono ?_; rintro e w1 ⟨R1, rfl, g1, k1⟩; have kt1 : Kept W0 w1 := kt0.trans k1; obtain ⟨w4, run4, but4, big4, s4⟩ := big_st (Z0.out.kept kt1) g1.size g1.one))
  go_wp2
  exact bodyPost_ret (v := .agg R1) (ring_result Tryz.results66 rfl big4) rfl ⟨R1, rfl, g1, (K0.out.trans kt1).wrote1_Fi but4 (Nat.le_refl _)⟩

set_option maxRecDepth 100000 in
set_option maxHeartbeats 2000000 in
theorem does2_any {w : World} {b x room : Nat} {R : Array Value} {q : List Int} {v : Int} (hb : BigAt w b R) (hR : Rg R room (v :: q))
    (hx : w.cell? ⟨x, 0, none⟩ = some (.pointer (some ⟨b, 0, none⟩))) :
    Calls Tryz.prog 70 #[.pointer (some ⟨x, 0, none⟩)] w (RetR w room q) := by
  obtain ⟨Z, hZ, hZ1, _, _, hz⟩ := zeroed
  obtain ⟨W0, hW0⟩ : ∃ W0, W0 = w.alloc (.cells Z 114) := ⟨_, rfl⟩
  have k0 : Kept w W0 := by rw [hW0]; exact (Kept.refl w).alloc _ _
  have z0 : BigAt W0 w.heap.size Z := by rw [hW0]; exact BigAt.new w Z _ hZ hZ1 _ rfl
  have b0 := hb.kept k0
  have x0 := k0.some hx
  have xl := lt_of_cell hx
  have bl := hb.lt
  have ld0 := big_ld b0
  have K0 := Lib.hid k0
  have Z0 := Lib.hid z0
  have WI := Lib.hid (fun W => without_any (w := W) hR)
  have HW := Lib.hid hW0
  clear hW0 k0 z0 b0 hb hR hx hZ hZ1
  go_enter Tryz.func70, Tryz.ntmps70
  go_upto_region 1 with fail
  rw [← HW.out]
  go_wp2_with fail
  refine (WI.out _).mono ?_
  rintro e w1 ⟨R1, rfl, g1, k1⟩
  obtain ⟨w4, run4, but4, big4, s4⟩ := big_st (Z0.out.kept k1) g1.size g1.one
  go_wp2
  exact bodyPost_ret (v := .agg R1) (ring_result Tryz.results70 rfl big4) rfl ⟨R1, rfl, g1, (K0.out.trans k1).wrote1_Fi but4 (Nat.le_refl _)⟩

set_option maxRecDepth 100000 in
set_option maxHeartbeats 2000000 in
theorem does3_any {w : World} {b x room : Nat} {R : Array Value} {q : List Int} (hb : BigAt w b R) (hR : Rg R room q)
    (hx : w.cell? ⟨x, 0, none⟩ = some (.pointer (some ⟨b, 0, none⟩))) :
    Calls Tryz.prog 72 #[.pointer (some ⟨x, 0, none⟩)] w (RetR w room q) := by
  obtain ⟨Z, hZ, hZ1, _, _, hz⟩ := zeroed
  obtain ⟨W0, hW0⟩ : ∃ W0, W0 = w.alloc (.cells Z 114) := ⟨_, rfl⟩
  have k0 : Kept w W0 := by rw [hW0]; exact (Kept.refl w).alloc _ _
  have z0 : BigAt W0 w.heap.size Z := by rw [hW0]; exact BigAt.new w Z _ hZ hZ1 _ rfl
  have b0 := hb.kept k0
  have x0 := k0.some hx
  have ld0 := big_ld b0
  obtain ⟨w4, run4, but4, big4, s4⟩ := big_st z0 hR.size hR.one
  have K4 := Lib.hid (k0.wrote1_Fi but4 (Nat.le_refl _))
  have HR := Lib.hid hR
  have HW := Lib.hid hW0
  clear hW0 k0 z0 b0 hb hR hx hZ hZ1 but4 s4
  go_enter Tryz.func72, Tryz.ntmps72
  go_upto_region 1 with fail
  rw [← HW.out]
  go_wp2
  exact bodyPost_ret (v := .agg R) (ring_result Tryz.results72 rfl big4) rfl ⟨R, rfl, HR.out, K4.out⟩
end Go.Proofs.YtbfmmndpboagdaaGreatDoor.Fi

namespace Go.Proofs.YtbfmmndpboagdaaGreatDoor.Fi
set_option maxRecDepth 20000
open Go.RowKit
attribute [local go_sem ↓] ld_named st_named cp_named bd_named lv_named

def NextF (W : World) (base b room : Nat) (q q' : List Int) (F : Value) : Prop :=
  ∃ x, base ≤ x ∧ W.cell? ⟨x, 0, none⟩ = some (.pointer (some ⟨b, 0, none⟩)) ∧
    ((∃ y u, base ≤ y ∧ W.cell? ⟨y, 3, none⟩ = some (.int .u64 u) ∧ F = .func (.func 66) #[] #[.pointer (some ⟨x, 0, none⟩), .pointer (some ⟨y, 0, none⟩)] ∧ q.length < room ∧ q' = q ++ [u]) ∨
     (∃ v, F = .func (.func 70) #[] #[.pointer (some ⟨x, 0, none⟩)] ∧ q = v :: q') ∨
     (F = .func (.func 72) #[] #[.pointer (some ⟨x, 0, none⟩)] ∧ q' = q))
def FuncOf (W : World) (base b room : Nat) (q : List Int) (F : Value) : Option (Ann × List Int) → Prop
  | none => F = .nilFunc
  | some p => NextF W base b room q p.2 F
def RetD (w : World) (b room : Nat) (q : List Int) (o : Opn) (e : Ending) (w' : World) : Prop :=
  ∃ F, e = .returned (.tuple #[.agg #[.int .i64 (tell room q o).e, .int .i64 (tell room q o).n, .int .u64 (tell room q o).v], F]) ∧ Kept w w' ∧ FuncOf w' w.heap.size b room q F (act room q o)

theorem wp_scope_once {P : Program} {a : Act} {w : World} {Q : Exit → Act → World → Prop} {c rest : Code} (l : Nat) (hf : findLabel c l = some rest)
    (h : c.wp P (Exit.jump l (fun a w => rest.wp P (Exit.noGoto Q) a w) Q) a w) : (Code.scope c).wp P Q a w :=
  wp_scope_jumps l _ (fun _ _ => 0) hf h fun a w hJ => Code.wp_mono (fun e a w he => by
    cases e <;> first | exact he | exact he.elim) hJ

structure Bx (w W : World) (b : Nat) (o : Opn) : Prop where
  x : W.cell? ⟨w.heap.size, 0, none⟩ = some (.pointer (some ⟨b, 0, none⟩))
  o0 : W.cell? ⟨w.heap.size + 1, 0, none⟩ = some (.int .i64 o.k)
  o3 : W.cell? ⟨w.heap.size + 1, 3, none⟩ = some (.int .u64 o.u)
  a0 : W.cell? ⟨w.heap.size + 1 + 1, 0, none⟩ = some (.int .i64 0)
  a1 : W.cell? ⟨w.heap.size + 1 + 1, 1, none⟩ = some (.int .i64 0)
  a2 : W.cell? ⟨w.heap.size + 1 + 1, 2, none⟩ = some (.int .u64 0)
  s : ∀ i, W.frozen? ⟨w.heap.size + 1 + 1, i, none⟩ = false
  k : Kept w W
theorem Bx.new (w : World) (b : Nat) (o : Opn) : Bx w (((w.alloc (.cells #[.pointer (some ⟨b, 0, none⟩)] 119)).alloc (.cells #[.int .i64 o.k, .int .i64 o.a, .int .i64 o.b, .int .u64 o.u] 24)).alloc (.cells #[.int .i64 0, .int .i64 0, .int .u64 0] 27)) b o := by
  have k1 : Kept w (w.alloc (.cells #[.pointer (some ⟨b, 0, none⟩)] 119)) := (Kept.refl w).alloc _ _
  refine ⟨?_, ?_, ?_, cell_new _ _ _ _ 0 (by simp), cell_new _ _ _ _ 1 (by simp), cell_new _ _ _ _ 2 (by simp), fun i => ?_, (k1.alloc _ _).alloc _ _⟩
  · exact (((Kept.refl _).alloc _ _).alloc _ _).some (cell_new _ _ _ _ 0 rfl)
  · exact ((Kept.refl _).alloc _ _).some (cell_new _ _ _ _ 0 (by simp))
  · exact ((Kept.refl _).alloc _ _).some (cell_new _ _ _ _ 3 (by simp))
  · rw [frozen?_alloc_cells]; simp [World.frozen?]
theorem Bx.kept {w W W' : World} {b : Nat} {o : Opn} (h : Bx w W b o) (k : Kept W W') : Bx w W' b o :=
  ⟨k.some h.x, k.some h.o0, k.some h.o3, k.some h.a0, k.some h.a1, k.some h.a2, fun i => k.soft (lt_of_cell h.a0) (h.s i), h.k.trans k⟩
theorem emptyK {w : World} {b room : Nat} {R : Array Value} {q : List Int} (hb : BigAt w b R) (hR : Rg R room q) :
    Calls Tryz.prog 68 #[.pointer (some ⟨b, 0, none⟩)] w fun e w' => e = .returned (.bool (decide (q.length = 0))) ∧ Kept w w' :=
  (empty_any hb hR).mono fun _ _ h => ⟨h.1, by rw [← h.2]; exact Kept.refl _⟩
section
variable {w w1 Wx : World} {b room : Nat} {q : List Int} {o : Opn}
theorem RetD.same (h : Bx w w1 b o) (hb : But (fun j => j = w.heap.size + 1 + 1) w1 Wx) {e v : Int} (ac : act room q o = some (⟨e, 0, v⟩, q)) :
    RetD w b room q o (.returned (.tuple #[.agg #[.int .i64 e, .int .i64 0, .int .u64 v], .func (.func 72) #[] #[.pointer (some ⟨w.heap.size, 0, none⟩)]])) Wx := by
  refine ⟨_, by simp only [tell, ac]; rfl, h.k.wrote1_Fi hb (by omega), ?_⟩
  rw [ac]
  exact ⟨w.heap.size, Nat.le_refl _, hb.some h.x (by omega), .inr (.inr ⟨rfl, rfl⟩)⟩
theorem RetD.more (h : Bx w w1 b o) (hb : But (fun j => j = w.heap.size + 1 + 1) w1 Wx) (ac : act room q o = some (⟨0, 0, 0⟩, q ++ [o.u])) (hq : q.length < room) :
    RetD w b room q o (.returned (.tuple #[.agg #[.int .i64 0, .int .i64 0, .int .u64 0], .func (.func 66) #[] #[.pointer (some ⟨w.heap.size, 0, none⟩), .pointer (some ⟨w.heap.size + 1, 0, none⟩)]])) Wx := by
  refine ⟨_, by simp only [tell, ac]; rfl, h.k.wrote1_Fi hb (by omega), ?_⟩
  rw [ac]
  exact ⟨w.heap.size, Nat.le_refl _, hb.some h.x (by omega), .inl ⟨w.heap.size + 1, o.u, by omega, hb.some h.o3 (by omega), rfl, hq, rfl⟩⟩
theorem RetD.less (h : Bx w w1 b o) (hb : But (fun j => j = w.heap.size + 1 + 1) w1 Wx) {r : List Int} {v : Int} (ac : act room q o = some (⟨0, 0, 0⟩, r)) (hq : q = v :: r) :
    RetD w b room q o (.returned (.tuple #[.agg #[.int .i64 0, .int .i64 0, .int .u64 0], .func (.func 70) #[] #[.pointer (some ⟨w.heap.size, 0, none⟩)]])) Wx := by
  refine ⟨_, by simp only [tell, ac]; rfl, h.k.wrote1_Fi hb (by omega), ?_⟩
  rw [ac]
  exact ⟨w.heap.size, Nat.le_refl _, hb.some h.x (by omega), .inr (.inl ⟨v, rfl, hq⟩)⟩
theorem RetD.nope (h : Bx w w1 b o) (hb : But (fun j => j = w.heap.size + 1 + 1) w1 Wx) (ac : act room q o = none) :
    RetD w b room q o (.returned (.tuple #[.agg #[.int .i64 0, .int .i64 0, .int .u64 0], .nilFunc])) Wx := by
  refine ⟨_, by simp only [tell, ac]; rfl, h.k.wrote1_Fi hb (by omega), ?_⟩
  rw [ac]
  rfl
end

set_option maxRecDepth 100000 in
set_option maxHeartbeats 2000000 in
theorem does_full {w : World} {b room : Nat} {R : Array Value} {q : List Int} {o : Opn} (hb : BigAt w b R) (hR : Rg R room q) (hk : o.k = 1) (hq : q.length = room) :
    Calls Tryz.prog 43 #[.pointer (some ⟨b, 0, none⟩), .agg #[.int .i64 o.k, .int .i64 o.a, .int .i64 o.b, .int .u64 o.u]] w (RetD w b room q o) := by
  have FU := Lib.hid (fun W (k : Kept w W) => full_any (hb.kept k) hR)
  rw [decide_eq_true hq] at FU
  have AC := Lib.hid (show act room q o = some (⟨7, 0, 0⟩, q) by simp [act, hk, hq])
  clear hb hR hq
  obtain ⟨W, hW⟩ : ∃ W, (((w.alloc (.cells #[.pointer (some ⟨b, 0, none⟩)] 119)).alloc (.cells #[.int .i64 o.k, .int .i64 o.a, .int .i64 o.b, .int .u64 o.u] 24)).alloc (.cells #[.int .i64 0, .int .i64 0, .int .u64 0] 27)) = W := ⟨_, rfl⟩
  have bx : Bx w W b o := by rw [← hW]; exact Bx.new w b o
  have BX := Lib.hid bx
  obtain ⟨x0, o0, o3, a0, a1, a2, sf, _⟩ := bx
  have s0 := sf 0
  have s1 := sf 1
  have s2 := sf 2
  have HW := Lib.hid hW
  rw [hk] at o0
  clear sf hW hk
  go_enter Tryz.func43, Tryz.ntmps43
  go_wp2_with fail
  rw [HW.out]
  refine wp_scope_once 0 rfl ?_
  go_wp2_with fail
  refine (FU.out _ BX.out.k).mono ?_
  rintro e w1 ⟨rfl, k1⟩
  have bx1 := BX.out.kept k1
  have BX1 := Lib.hid bx1
  obtain ⟨x1, p1, u1, a1, b1, c1, sf1, _⟩ := bx1
  have f10 := sf1 0
  have f11 := sf1 1
  have f12 := sf1 2
  clear sf1 k1
  go_wp2
  go_step3
  refine ⟨rfl, ?_⟩
  go_wp2
  exact bodyPost_ret (v := .tuple #[.agg #[.int .i64 7, .int .i64 0, .int .u64 0], .func (.func 72) #[] #[.pointer (some ⟨w.heap.size, 0, none⟩)]]) (by simp [results, Tryz.results43, go_sem, cell_set, a1, b1, c1]) rfl (RetD.same BX1.out (by repeat (first | (with_reducible exact But.refl _ _) | (with_reducible refine But.here ?_ _ _))) AC.out)

set_option maxRecDepth 100000 in
set_option maxHeartbeats 2000000 in
theorem does_push {w : World} {b room : Nat} {R : Array Value} {q : List Int} {o : Opn} (hb : BigAt w b R) (hR : Rg R room q) (hk : o.k = 1) (hq : ¬ q.length = room) :
    Calls Tryz.prog 43 #[.pointer (some ⟨b, 0, none⟩), .agg #[.int .i64 o.k, .int .i64 o.a, .int .i64 o.b, .int .u64 o.u]] w (RetD w b room q o) := by
  have FU := Lib.hid (fun W (k : Kept w W) => full_any (hb.kept k) hR)
  rw [decide_eq_false hq] at FU
  have AC := Lib.hid (show act room q o = some (⟨0, 0, 0⟩, q ++ [o.u]) by simp [act, hk, hq])
  have HQ := Lib.hid (show q.length < room from by have := hR.fits; omega)
  clear hb hR hq
  obtain ⟨W, hW⟩ : ∃ W, (((w.alloc (.cells #[.pointer (some ⟨b, 0, none⟩)] 119)).alloc (.cells #[.int .i64 o.k, .int .i64 o.a, .int .i64 o.b, .int .u64 o.u] 24)).alloc (.cells #[.int .i64 0, .int .i64 0, .int .u64 0] 27)) = W := ⟨_, rfl⟩
  have bx : Bx w W b o := by rw [← hW]; exact Bx.new w b o
  have BX := Lib.hid bx
  obtain ⟨x0, o0, o3, a0, a1, a2, sf, _⟩ := bx
  have s0 := sf 0
  have s1 := sf 1
  have s2 := sf 2
  have HW := Lib.hid hW
  rw [hk] at o0
  clear sf hW hk
  go_enter Tryz.func43, Tryz.ntmps43
  go_wp2_with fail
  rw [HW.out]
  apply wp_scope_straight
  go_wp2_with fail
  refine (FU.out _ BX.out.k).mono ?_
  rintro e w1 ⟨rfl, k1⟩
  have bx1 := BX.out.kept k1
  have BX1 := Lib.hid bx1
  obtain ⟨x1, p1, u1, a1, b1, c1, sf1, _⟩ := bx1
  have f10 := sf1 0
  have f11 := sf1 1
  have f12 := sf1 2
  clear sf1 k1
  go_wp2
  exact bodyPost_ret (v := .tuple #[.agg #[.int .i64 0, .int .i64 0, .int .u64 0], .func (.func 66) #[] #[.pointer (some ⟨w.heap.size, 0, none⟩), .pointer (some ⟨w.heap.size + 1, 0, none⟩)]]) (by simp [results, Tryz.results43, go_sem, cell_set, a1, b1, c1]) rfl (RetD.more BX1.out (by repeat (first | (with_reducible exact But.refl _ _) | (with_reducible refine But.here ?_ _ _))) AC.out HQ.out)

set_option maxRecDepth 100000 in
set_option maxHeartbeats 2000000 in
theorem does_front_none {w : World} {b room : Nat} {R : Array Value} {q : List Int} {o : Opn} (hb : BigAt w b R) (hR : Rg R room q) (hk : o.k = 2) (hq : q = []) :
    Calls Tryz.prog 43 #[.pointer (some ⟨b, 0, none⟩), .agg #[.int .i64 o.k, .int .i64 o.a, .int .i64 o.b, .int .u64 o.u]] w (RetD w b room q o) := by
  have FU := Lib.hid (fun W (k : Kept w W) => emptyK (hb.kept k) hR)
  rw [decide_eq_true (by rw [hq]; rfl)] at FU
  have AC := Lib.hid (show act room q o = some (⟨15, 0, 0⟩, q) by simp [act, hk, hq])
  clear hb hR hq
  obtain ⟨W, hW⟩ : ∃ W, (((w.alloc (.cells #[.pointer (some ⟨b, 0, none⟩)] 119)).alloc (.cells #[.int .i64 o.k, .int .i64 o.a, .int .i64 o.b, .int .u64 o.u] 24)).alloc (.cells #[.int .i64 0, .int .i64 0, .int .u64 0] 27)) = W := ⟨_, rfl⟩
  have bx : Bx w W b o := by rw [← hW]; exact Bx.new w b o
  have BX := Lib.hid bx
  obtain ⟨x0, o0, o3, a0, a1, a2, sf, _⟩ := bx
  have s0 := sf 0
  have s1 := sf 1
  have s2 := sf 2
  have HW := Lib.hid hW
  rw [hk] at o0
  clear sf hW hk
  go_enter Tryz.func43, Tryz.ntmps43
  go_wp2_with fail
  rw [HW.out]
  refine wp_scope_once 1 rfl ?_
  go_wp2_with fail
  refine (FU.out _ BX.out.k).mono ?_
  rintro e w1 ⟨rfl, k1⟩
  have bx1 := BX.out.kept k1
  have BX1 := Lib.hid bx1
  obtain ⟨x1, p1, u1, a1, b1, c1, sf1, _⟩ := bx1
  have f10 := sf1 0
  have f11 := sf1 1
  have f12 := sf1 2
  clear sf1 k1
  go_wp2
  go_step3
  refine ⟨rfl, ?_⟩
  go_wp2
  go_step3
  go_wp2
  exact bodyPost_ret (v := .tuple #[.agg #[.int .i64 15, .int .i64 0, .int .u64 0], .func (.func 72) #[] #[.pointer (some ⟨w.heap.size, 0, none⟩)]]) (by simp [results, Tryz.results43, go_sem, cell_set, a1, b1, c1]) rfl (RetD.same BX1.out (by repeat (first | (with_reducible exact But.refl _ _) | (with_reducible refine But.here ?_ _ _))) AC.out)

set_option maxRecDepth 100000 in
set_option maxHeartbeats 2000000 in
theorem does_front {w : World} {b room : Nat} {R : Array Value} {q : List Int} {o : Opn} (hb : BigAt w b R) (hR : Rg R room q) {x : Int} {r : List Int} (hk : o.k = 2) (hq : q = x :: r) :
    Calls Tryz.prog 43 #[.pointer (some ⟨b, 0, none⟩), .agg #[.int .i64 o.k, .int .i64 o.a, .int .i64 o.b, .int .u64 o.u]] w (RetD w b room q o) := by
  have FU := Lib.hid (fun W (k : Kept w W) => emptyK (hb.kept k) hR)
  rw [decide_eq_false (by rw [hq]; simp)] at FU
  have AC := Lib.hid (show act room q o = some (⟨0, 0, x⟩, q) by simp [act, hk, hq])
  have FR := Lib.hid (fun W (k : Kept w W) => front_any (x := x) (hb.kept k) hR (by rw [hq]; rfl))
  clear hb hR hq
  obtain ⟨W, hW⟩ : ∃ W, (((w.alloc (.cells #[.pointer (some ⟨b, 0, none⟩)] 119)).alloc (.cells #[.int .i64 o.k, .int .i64 o.a, .int .i64 o.b, .int .u64 o.u] 24)).alloc (.cells #[.int .i64 0, .int .i64 0, .int .u64 0] 27)) = W := ⟨_, rfl⟩
  have bx : Bx w W b o := by rw [← hW]; exact Bx.new w b o
  have BX := Lib.hid bx
  obtain ⟨x0, o0, o3, a0, a1, a2, sf, _⟩ := bx
  have s0 := sf 0
  have s1 := sf 1
  have s2 := sf 2
  have HW := Lib.hid hW
  rw [hk] at o0
  clear sf hW hk
  go_enter Tryz.func43, Tryz.ntmps43
  go_wp2_with fail
  rw [HW.out]
  refine wp_scope_once 0 rfl ?_
  go_wp2_with fail
  refine (FU.out _ BX.out.k).mono ?_
  rintro e w1 ⟨rfl, k1⟩
  have bx1 := BX.out.kept k1
  have BX1 := Lib.hid bx1
  obtain ⟨x1, p1, u1, a1, b1, c1, sf1, _⟩ := bx1
  have f10 := sf1 0
  have f11 := sf1 1
  have f12 := sf1 2
  clear sf1 k1
  go_wp2_with fail
  refine (FR.out _ BX1.out.k).mono ?_
  rintro e w2 ⟨rfl, k2⟩
  have bx2 := BX1.out.kept k2
  have BX2 := Lib.hid bx2
  obtain ⟨x2, p2, u2, a2, b2, c2, sf2, _⟩ := bx2
  have f20 := sf2 0
  have f21 := sf2 1
  have f22 := sf2 2
  clear sf2 k2
  go_wp2
  go_step3
  refine ⟨rfl, ?_⟩
  go_wp2
  exact bodyPost_ret (v := .tuple #[.agg #[.int .i64 0, .int .i64 0, .int .u64 x], .func (.func 72) #[] #[.pointer (some ⟨w.heap.size, 0, none⟩)]]) (by simp [results, Tryz.results43, go_sem, cell_set, a2, b2, c2]) rfl (RetD.same BX2.out (by repeat (first | (with_reducible exact But.refl _ _) | (with_reducible refine But.here ?_ _ _))) AC.out)

set_option maxRecDepth 100000 in
set_option maxHeartbeats 2000000 in
theorem does_drop_none {w : World} {b room : Nat} {R : Array Value} {q : List Int} {o : Opn} (hb : BigAt w b R) (hR : Rg R room q) (hk : o.k = 3) (hq : q = []) :
    Calls Tryz.prog 43 #[.pointer (some ⟨b, 0, none⟩), .agg #[.int .i64 o.k, .int .i64 o.a, .int .i64 o.b, .int .u64 o.u]] w (RetD w b room q o) := by
  have FU := Lib.hid (fun W (k : Kept w W) => emptyK (hb.kept k) hR)
  rw [decide_eq_true (by rw [hq]; rfl)] at FU
  have AC := Lib.hid (show act room q o = some (⟨15, 0, 0⟩, q) by simp [act, hk, hq])
  clear hb hR hq
  obtain ⟨W, hW⟩ : ∃ W, (((w.alloc (.cells #[.pointer (some ⟨b, 0, none⟩)] 119)).alloc (.cells #[.int .i64 o.k, .int .i64 o.a, .int .i64 o.b, .int .u64 o.u] 24)).alloc (.cells #[.int .i64 0, .int .i64 0, .int .u64 0] 27)) = W := ⟨_, rfl⟩
  have bx : Bx w W b o := by rw [← hW]; exact Bx.new w b o
  have BX := Lib.hid bx
  obtain ⟨x0, o0, o3, a0, a1, a2, sf, _⟩ := bx
  have s0 := sf 0
  have s1 := sf 1
  have s2 := sf 2
  have HW := Lib.hid hW
  rw [hk] at o0
  clear sf hW hk
  go_enter Tryz.func43, Tryz.ntmps43
  go_wp2_with fail
  rw [HW.out]
  refine wp_scope_once 1 rfl ?_
  go_wp2_with fail
  refine (FU.out _ BX.out.k).mono ?_
  rintro e w1 ⟨rfl, k1⟩
  have bx1 := BX.out.kept k1
  have BX1 := Lib.hid bx1
  obtain ⟨x1, p1, u1, a1, b1, c1, sf1, _⟩ := bx1
  have f10 := sf1 0
  have f11 := sf1 1
  have f12 := sf1 2
  clear sf1 k1
  go_wp2
  go_step3
  refine ⟨rfl, ?_⟩
  go_wp2
  go_step3
  go_wp2
  exact bodyPost_ret (v := .tuple #[.agg #[.int .i64 15, .int .i64 0, .int .u64 0], .func (.func 72) #[] #[.pointer (some ⟨w.heap.size, 0, none⟩)]]) (by simp [results, Tryz.results43, go_sem, cell_set, a1, b1, c1]) rfl (RetD.same BX1.out (by repeat (first | (with_reducible exact But.refl _ _) | (with_reducible refine But.here ?_ _ _))) AC.out)

set_option maxRecDepth 100000 in
set_option maxHeartbeats 2000000 in
theorem does_drop {w : World} {b room : Nat} {R : Array Value} {q : List Int} {o : Opn} (hb : BigAt w b R) (hR : Rg R room q) {x : Int} {r : List Int} (hk : o.k = 3) (hq : q = x :: r) :
    Calls Tryz.prog 43 #[.pointer (some ⟨b, 0, none⟩), .agg #[.int .i64 o.k, .int .i64 o.a, .int .i64 o.b, .int .u64 o.u]] w (RetD w b room q o) := by
  have FU := Lib.hid (fun W (k : Kept w W) => emptyK (hb.kept k) hR)
  rw [decide_eq_false (by rw [hq]; simp)] at FU
  have AC := Lib.hid (show act room q o = some (⟨0, 0, 0⟩, r) by simp [act, hk, hq])
  have HQ := Lib.hid hq
  clear hb hR hq
  obtain ⟨W, hW⟩ : ∃ W, (((w.alloc (.cells #[.pointer (some ⟨b, 0, none⟩)] 119)).alloc (.cells #[.int .i64 o.k, .int .i64 o.a, .int .i64 o.b, .int .u64 o.u] 24)).alloc (.cells #[.int .i64 0, .int .i64 0, .int .u64 0] 27)) = W := ⟨_, rfl⟩
  have bx : Bx w W b o := by rw [← hW]; exact Bx.new w b o
  have BX := Lib.hid bx
  obtain ⟨x0, o0, o3, a0, a1, a2, sf, _⟩ := bx
  have s0 := sf 0
  have s1 := sf 1
  have s2 := sf 2
  have HW := Lib.hid hW
  rw [hk] at o0
  clear sf hW hk
  go_enter Tryz.func43, Tryz.ntmps43
  go_wp2_with fail
  rw [HW.out]
  apply wp_scope_straight
  go_wp2_with fail
  refine (FU.out _ BX.out.k).mono ?_
  rintro e w1 ⟨rfl, k1⟩
  have bx1 := BX.out.kept k1
  have BX1 := Lib.hid bx1
  obtain ⟨x1, p1, u1, a1, b1, c1, sf1, _⟩ := bx1
  have f10 := sf1 0
  have f11 := sf1 1
  have f12 := sf1 2
  clear sf1 k1
  go_wp2
  exact bodyPost_ret (v := .tuple #[.agg #[.int .i64 0, .int .i64 0, .int .u64 0], .func (.func 70) #[] #[.pointer (some ⟨w.heap.size, 0, none⟩)]]) (by simp [results, Tryz.results43, go_sem, cell_set, a1, b1, c1]) rfl (RetD.less BX1.out (by repeat (first | (with_reducible exact But.refl _ _) | (with_reducible refine But.here ?_ _ _))) AC.out HQ.out)

set_option maxRecDepth 100000 in
set_option maxHeartbeats 2000000 in
theorem does_other {w : World} {b room : Nat} {R : Array Value} {q : List Int} {o : Opn} (_ : BigAt w b R) (_ : Rg R room q) (h1 : o.k ≠ 1) (h2 : o.k ≠ 2) (h3 : o.k ≠ 3) :
    Calls Tryz.prog 43 #[.pointer (some ⟨b, 0, none⟩), .agg #[.int .i64 o.k, .int .i64 o.a, .int .i64 o.b, .int .u64 o.u]] w (RetD w b room q o) := by
  have AC := Lib.hid (show act room q o = none by simp [act, h1, h2, h3])
  have e1 : (o.k == 1) = false := by simpa using h1
  have e2 : (o.k == 2) = false := by simpa using h2
  have e3 : (o.k == 3) = false := by simpa using h3
  clear h1 h2 h3
  obtain ⟨W, hW⟩ : ∃ W, (((w.alloc (.cells #[.pointer (some ⟨b, 0, none⟩)] 119)).alloc (.cells #[.int .i64 o.k, .int .i64 o.a, .int .i64 o.b, .int .u64 o.u] 24)).alloc (.cells #[.int .i64 0, .int .i64 0, .int .u64 0] 27)) = W := ⟨_, rfl⟩
  have bx : Bx w W b o := by rw [← hW]; exact Bx.new w b o
  have BX := Lib.hid bx
  obtain ⟨x0, o0, o3, a0, a1, a2, sf, _⟩ := bx
  have s0 := sf 0
  have s1 := sf 1
  have s2 := sf 2
  have HW := Lib.hid hW
  clear sf hW
  go_enter Tryz.func43, Tryz.ntmps43
  go_wp2_with fail
  rw [HW.out]
  apply wp_scope_straight
  go_wp2
  exact bodyPost_ret (v := .tuple #[.agg #[.int .i64 0, .int .i64 0, .int .u64 0], .nilFunc]) (by simp [results, Tryz.results43, go_sem, cell_set, a0, a1, a2]) rfl (RetD.nope BX.out (by repeat (first | (with_reducible exact But.refl _ _) | (with_reducible refine But.here ?_ _ _))) AC.out)

theorem does_any {w : World} {b room : Nat} {R : Array Value} {q : List Int} (o : Opn) (hb : BigAt w b R) (hR : Rg R room q) :
    Calls Tryz.prog 43 #[.pointer (some ⟨b, 0, none⟩), .agg #[.int .i64 o.k, .int .i64 o.a, .int .i64 o.b, .int .u64 o.u]] w (RetD w b room q o) := by
  by_cases h1 : o.k = 1
  · by_cases hq : q.length = room
    · exact does_full hb hR h1 hq
    · exact does_push hb hR h1 hq
  by_cases h2 : o.k = 2
  · cases hq : q with
    | nil => rw [← hq]; exact does_front_none hb hR h2 hq
    | cons x r => rw [← hq]; exact does_front hb hR h2 hq
  by_cases h3 : o.k = 3
  · cases hq : q with
    | nil => rw [← hq]; exact does_drop_none hb hR h3 hq
    | cons x r => rw [← hq]; exact does_drop hb hR h3 hq
  · exact does_other hb hR h1 h2 h3
end Go.Proofs.YtbfmmndpboagdaaGreatDoor.Fi

namespace Go.Proofs.YtbfmmndpboagdaaGreatDoor.Fi
set_option maxRecDepth 20000
open Go.RowKit
attribute [local go_sem ↓] ld_named st_named cp_named bd_named lv_named

theorem chk_lo {room : Int} {n : Nat} (h : room < 1) : chkF room n = 3 := if_pos (.inl h)
theorem chk_hi {room : Int} {n : Nat} (h : 1024 < room) : chkF room n = 3 := if_pos (.inr h)
theorem chk_full {room : Int} {n : Nat} (h1 : ¬ room < 1) (h2 : ¬ 1024 < room) (h : room < n) : chkF room n = 7 := by
  unfold chkF; rw [if_neg (by omega), if_pos h]
theorem chk_ok {room : Int} {n : Nat} (h1 : ¬ room < 1) (h2 : ¬ 1024 < room) (h : ¬ room < n) : chkF room n = 0 := by
  unfold chkF; rw [if_neg (by omega), if_neg h]
theorem chk_zero {room : Int} {n : Nat} (h : chkF room n = 0) : 1 ≤ room ∧ room ≤ 1024 ∧ (n : Int) ≤ room := by
  unfold chkF at h
  split at h
  · cases h
  · split at h
    · cases h
    · omega

set_option maxHeartbeats 1000000 in
theorem check_any (w : World) (room : Int) (a : Option Addr) (n c : Nat) : Calls Tryz.prog 41 #[.int .i64 room, .slice a n c] w fun e w' => e = .returned (.int .i64 (chkF room n)) ∧ w = w' := by
  by_cases h1 : room < 1
  · rw [chk_lo h1]
    go_enter Tryz.func41, Tryz.ntmps41
    go_wp2
    go_ret
    exact ⟨rfl, rfl⟩
  by_cases h2 : 1024 < room
  · rw [chk_hi h2]
    go_enter Tryz.func41, Tryz.ntmps41
    go_wp2
    go_ret
    exact ⟨rfl, rfl⟩
  by_cases h3 : room < n
  · rw [chk_full h1 h2 h3]
    go_enter Tryz.func41, Tryz.ntmps41
    go_wp2
    go_ret
    exact ⟨rfl, rfl⟩
  · rw [chk_ok h1 h2 h3]
    go_enter Tryz.func41, Tryz.ntmps41
    go_wp2
    go_ret
    exact ⟨rfl, rfl⟩
theorem check_at {w : World} {room : Int} {a : Option Addr} {n c : Nat} {x : Int} (h : chkF room n = x) : Calls Tryz.prog 41 #[.int .i64 room, .slice a n c] w fun e w' => e = .returned (.int .i64 x) ∧ w = w' := by
  subst h; exact check_any w room a n c

def tellI (room : Int) (q : List Int) (o : Opn) : Ann := (actI room q o).elim noAnn (·.1)

theorem equal_nil (d : Nat) (w : World) : (Op.equalIn (d + 1) 116 .nilFunc .nilFunc).run Tryz.prog w = .ok true w := by
  unfold Op.equalIn
  rw [Sem.run_bind, run_underlying Tryz.underlying116 w]
  rfl
theorem equal_func (d : Nat) (f : Fn) (x y : Array Value) (w : World) : (Op.equalIn (d + 1) 116 (.func f x y) .nilFunc).run Tryz.prog w = .ok false w := by
  unfold Op.equalIn
  rw [Sem.run_bind, run_underlying Tryz.underlying116 w]
  rfl
theorem eql_nil (w : World) : (binOp .eql 116 .nilFunc .nilFunc).run Tryz.prog w = .ok (.bool true) w := by
  show (do pure (Value.bool (← Op.equalIn (9999 + 1) 116 .nilFunc .nilFunc)) : Sem Value).run Tryz.prog w = _
  rw [Sem.run_bind, equal_nil]; rfl
theorem eql_func (f : Fn) (x y : Array Value) (w : World) : (binOp .eql 116 (.func f x y) .nilFunc).run Tryz.prog w = .ok (.bool false) w := by
  show (do pure (Value.bool (← Op.equalIn (9999 + 1) 116 (.func f x y) .nilFunc)) : Sem Value).run Tryz.prog w = _
  rw [Sem.run_bind, equal_func]; rfl
theorem neq_nil (w : World) : (binOp .neq 116 .nilFunc .nilFunc).run Tryz.prog w = .ok (.bool false) w := by
  show (do pure (Value.bool (!(← Op.equalIn (9999 + 1) 116 .nilFunc .nilFunc))) : Sem Value).run Tryz.prog w = _
  rw [Sem.run_bind, equal_nil]; rfl
theorem neq_func (f : Fn) (x y : Array Value) (w : World) : (binOp .neq 116 (.func f x y) .nilFunc).run Tryz.prog w = .ok (.bool true) w := by
  show (do pure (Value.bool (!(← Op.equalIn (9999 + 1) 116 (.func f x y) .nilFunc))) : Sem Value).run Tryz.prog w = _
  rw [Sem.run_bind, equal_func]; rfl
theorem func_neq {W : World} {base b room : Nat} {q : List Int} {F : Value} {p : Option (Ann × List Int)} (h : FuncOf W base b room q F p) :
    ∀ w, (binOp .neq 116 F .nilFunc).run Tryz.prog w = .ok (.bool p.isSome) w := by
  intro w
  cases p with
  | none =>
    obtain rfl : F = .nilFunc := h
    exact neq_nil w
  | some p =>
    obtain ⟨x, _, _, ⟨y, u, _, _, rfl, _⟩ | ⟨v, rfl, _⟩ | ⟨rfl, _⟩⟩ := h
    · exact neq_func _ _ _ w
    · exact neq_func _ _ _ w
    · exact neq_func _ _ _ w

theorem func_shape {W : World} {base b room : Nat} {q : List Int} {F : Value} {p : Option (Ann × List Int)} (h : FuncOf W base b room q F p) : F = .nilFunc ∨ ∃ f x y, F = .func f x y := by
  cases p with
  | none => exact .inl h
  | some p =>
    obtain ⟨x, _, _, ⟨y, u, _, _, rfl, _⟩ | ⟨v, rfl, _⟩ | ⟨rfl, _⟩⟩ := h
    · exact .inr ⟨_, _, _, rfl⟩
    · exact .inr ⟨_, _, _, rfl⟩
    · exact .inr ⟨_, _, _, rfl⟩
theorem func_guard {W : World} {base b room : Nat} {q : List Int} {F : Value} {p : Option (Ann × List Int)} (h : FuncOf W base b room q F p) (op : BinOp) :
    ∀ (x y : Operand) (w : World), (eqGuard op 116 x y F .nilFunc).run Tryz.prog w = .ok () w := by
  intro x y w
  rcases func_shape h with rfl | ⟨f, x, y, rfl⟩ <;> cases op <;> rfl
theorem func_eql {W : World} {base b room : Nat} {q : List Int} {F : Value} {p : Option (Ann × List Int)} (h : FuncOf W base b room q F p) :
    ∀ w, (binOp .eql 116 F .nilFunc).run Tryz.prog w = .ok (.bool p.isNone) w := by
  intro w
  cases p with
  | none =>
    obtain rfl : F = .nilFunc := h
    exact eql_nil w
  | some p =>
    obtain ⟨x, _, _, ⟨y, u, _, _, rfl, _⟩ | ⟨v, rfl, _⟩ | ⟨rfl, _⟩⟩ := h
    · exact eql_func _ _ _ w
    · exact eql_func _ _ _ w
    · exact eql_func _ _ _ w

theorem AnBox.put {W : World} {g : Nat} {a : Ann} (h : AnBox W g a) (x : Ann) : AnBox (((W.setCell ⟨g, 0, none⟩ (.int .i64 x.e)).setCell ⟨g, 1, none⟩ (.int .i64 x.n)).setCell ⟨g, 2, none⟩ (.int .u64 x.v)) g x :=
  ⟨by simp [cell_set, h.c0], by simp [cell_set, h.c1], by simp [cell_set, h.c2], fun i => by simp only [World.frozen?_setCell]; exact h.s i⟩
theorem an_var {W : World} {b : Nat} {x : Ann} (h : AnBox W b x) : (loadVar 27 ⟨b, 0, none⟩).run Tryz.prog W = .ok (.agg #[.int .i64 x.e, .int .i64 x.n, .int .u64 x.v]) W := by
  have := run_loadVar_mid (P := Tryz.prog) W b 0 _ (anc x) _ (fun j v hv => by
    rw [Nat.zero_add]
    match j, hv with
    | 0, hv => cases hv; exact h.c0
    | 1, hv => cases hv; exact h.c1
    | 2, hv => cases hv; exact h.c2) Tryz.underlying27 rfl (by
      obtain ⟨i0, hi, _, hz1, _⟩ := info_parts infoA
      rw [hi]; simp [hz1, anc])
  simpa [anc] using this
theorem ans_result {fn : Func} {tmps : Array Value} {n m b : Nat} {w : World} {x : Ann} {v : Value} (hr : fn.results = #[.cell n 27, .tmp m]) (ht : tmps.getD n undef = .pointer (some ⟨b, 0, none⟩)) (hm : tmps.getD m undef = v) (h : AnBox w b x) :
    (results fn tmps).run Tryz.prog w = .ok (.tuple #[.agg #[.int .i64 x.e, .int .i64 x.n, .int .u64 x.v], v]) w := by
  have hv := an_var h
  have ht' : tmps[n]?.getD undef = .pointer (some ⟨b, 0, none⟩) := by simpa using ht
  have hm' : tmps[m]?.getD undef = v := by simpa using hm
  unfold results
  rw [hr]
  simp [ht', hm', asAddr, hv]

set_option maxRecDepth 100000 in
set_option maxHeartbeats 2000000 in
theorem answer_any {w : World} {a : Option Addr} {c : Nat} {q : List Int} (room : Int) (o : Opn) (hl : Lay w (.slice a q.length c) q.length (words q)) :
    Calls Tryz.prog 26 #[.int .i64 room, .slice a q.length c, .agg #[.int .i64 o.k, .int .i64 o.a, .int .i64 o.b, .int .u64 o.u]] w
      fun e w' => e = .returned (.tuple #[.agg #[.int .i64 (tellI room q o).e, .int .i64 (tellI room q o).n, .int .u64 (tellI room q o).v], .bool (actI room q o).isSome]) ∧ Kept w w' := by
  by_cases hz : chkF room q.length = 0
  · obtain ⟨r1, r2, r3⟩ := chk_zero hz
    obtain ⟨r, rfl⟩ : ∃ r : Nat, room = r := ⟨room.toNat, by omega⟩
    have e0 : actI r q o = act r q o := by unfold actI; rw [if_pos hz]; rfl
    have e1 : tellI r q o = tell r q o := by unfold tellI tell; rw [e0]
    rw [e1, e0]
    clear e1 e0
    obtain ⟨Z, hZ, hZ1, _, _, hzv⟩ := zeroed
    obtain ⟨W0, hW0⟩ : ∃ W0, ((w.alloc (.cells #[.int .i64 o.k, .int .i64 o.a, .int .i64 o.b, .int .u64 o.u] 24)).alloc (.cells #[.int .i64 0, .int .i64 0, .int .u64 0] 27)) = W0 := ⟨_, rfl⟩
    have OB := Lib.hid (show OpBox W0 w.heap.size o by rw [← hW0]; exact (OpBox.new w o _ _ rfl).kept ((Kept.refl _).alloc _ _))
    have AB := Lib.hid (show AnBox W0 (w.heap.size + 1) noAnn by rw [← hW0]; exact AnBox.new _ noAnn _ _ (by simp))
    have K0 := Lib.hid (show Kept w W0 by rw [← hW0]; exact ((Kept.refl w).alloc _ _).alloc _ _)
    have CK := Lib.hid (fun W => check_at (w := W) (a := a) (c := c) hz)
    have FI := Lib.hid (filled_any r (hl.kept K0.out) (by omega) (by omega))
    have HW := Lib.hid hW0
    obtain ⟨n, hn⟩ : ∃ n, n = q.length := ⟨_, rfl⟩
    rw [← hn] at CK FI ⊢
    clear hz hl hn hW0
    go_enter Tryz.func26, Tryz.ntmps26
    go_upto_region 1 with fail
    rw [HW.out]
    go_wp2_with fail
    refine (CK.out _).mono ?_
    rintro e w1 ⟨rfl, rfl⟩
    go_wp2_with fail
    refine FI.out.mono ?_
    rintro e w1 ⟨R, rfl, g1, k1⟩
    obtain ⟨w3, run3, but3, big3, s3⟩ := big_st (BigAt.new w1 Z 114 hZ hZ1 _ rfl) g1.size g1.one
    have K3 := Lib.hid (k1.trans (((Kept.refl w1).alloc Z 114).wrote1_Fi but3 (Nat.le_refl _)))
    have DO := Lib.hid (does_any o big3 g1)
    obtain ⟨o0, o1, o2, o3⟩ := OB.out.kept K3.out
    clear k1 but3 s3 big3 hZ hZ1
    go_wp2_with fail
    refine DO.out.mono ?_
    rintro e w4 ⟨F, rfl, k4, hF⟩
    have FN := func_neq hF
    have FG := func_guard hF .neq
    have K4 := Lib.hid (K3.out.trans k4)
    obtain ⟨a0, a1, a2, sA⟩ := AB.out.kept K4.out
    have s0 := sA 0
    have s1 := sA 1
    have s2 := sA 2
    have l4 := lt_of_cell a0
    clear sA hF k4
    go_wp2
    have A4 := ((AB.out.kept K4.out).put (tell r q o)).kept ((Kept.refl _).alloc #[.int .i64 (tell r q o).e, .int .i64 (tell r q o).n, .int .u64 (tell r q o).v] 27)
    exact bodyPost_ret (ans_result Tryz.results26 rfl rfl A4) rfl ⟨rfl, (((((K0.out.trans K4.out).setCell (p := ⟨w.heap.size + 1, 0, none⟩) (by simp) _).setCell (p := ⟨w.heap.size + 1, 1, none⟩) (by simp) _).setCell (p := ⟨w.heap.size + 1, 2, none⟩) (by simp) _).alloc _ _)⟩
  · have e0 : actI room q o = none := by unfold actI; rw [if_neg hz]
    have e1 : tellI room q o = noAnn := by unfold tellI; rw [e0]; rfl
    rw [e1, e0]
    obtain ⟨x, hx⟩ : ∃ x, chkF room q.length = x := ⟨_, rfl⟩
    have hx0 : x ≠ 0 := by rw [← hx]; exact hz
    have b1 : (x != 0) = true := by simpa using hx0
    have CK := Lib.hid (fun W => check_at (w := W) (a := a) (c := c) hx)
    obtain ⟨n, hn⟩ : ∃ n, n = q.length := ⟨_, rfl⟩
    rw [← hn] at CK ⊢
    clear hz hl hn e0 e1 hx hx0
    go_enter Tryz.func26, Tryz.ntmps26
    go_wp2_with fail
    refine (CK.out _).mono ?_
    rintro e w1 ⟨rfl, rfl⟩
    go_wp2
    exact bodyPost_ret (v := .tuple #[.agg #[.int .i64 0, .int .i64 0, .int .u64 0], .bool false]) (by simp [results, Tryz.results26, go_sem]) rfl ⟨rfl, by (go_light; repeat (first | (with_reducible exact Kept.refl _) | (with_reducible assumption) | (with_reducible refine Kept.alloc ?_ _ _) | (with_reducible refine Kept.drew ?_) | (with_reducible refine Kept.drewN ?_ _) | ((with_reducible refine Kept.setCell ?_ ?_ _); rotate_left; focus (first | (simp; done) | (simp; omega))) | refine Kept.trans ?_ (by assumption)))⟩
end Go.Proofs.YtbfmmndpboagdaaGreatDoor.Fi

namespace Go.Proofs.YtbfmmndpboagdaaGreatDoor.Fi
set_option maxRecDepth 20000
open Go.RowKit
attribute [local go_sem ↓] ld_named st_named cp_named bd_named lv_named

def RetN (w : World) (p : Option (List Int)) (e : Ending) (w' : World) : Prop :=
  ∃ a c, e = .returned (.tuple #[.slice a (p.getD []).length c, .bool p.isSome]) ∧ Kept w w' ∧ OwnW w' w.heap.size (.slice a (p.getD []).length c) (p.getD [])
theorem RetN.none_ {w w' : World} (k : Kept w w') : RetN w none (.returned (.tuple #[.slice none 0 0, .bool false])) w' := ⟨none, 0, rfl, k, World.ownsRow_nil _ _ _ _⟩

theorem ann_neq (x y : Ann) : ∀ W, (binOp .neq 27 (.agg #[.int .i64 x.e, .int .i64 x.n, .int .u64 x.v]) (.agg #[.int .i64 y.e, .int .i64 y.n, .int .u64 y.v])).run Tryz.prog W = .ok (.bool (decide (x ≠ y))) W := by
  intro W
  obtain ⟨a, b, c⟩ := x
  obtain ⟨a', b', c'⟩ := y
  by_cases h1 : a = a'
  · subst h1
    by_cases h2 : b = b'
    · subst h2
      by_cases h3 : c = c'
      · subst h3
        go_simp
      · have e1 : (c == c') = false := by simpa using h3
        go_simp
    · have e1 : (b == b') = false := by simpa using h2
      go_simp
  · have e1 : (a == a') = false := by simpa using h1
    go_simp
theorem ann_eql (x y : Ann) : ∀ W, (binOp .eql 27 (.agg #[.int .i64 x.e, .int .i64 x.n, .int .u64 x.v]) (.agg #[.int .i64 y.e, .int .i64 y.n, .int .u64 y.v])).run Tryz.prog W = .ok (.bool (decide (x = y))) W := by
  intro W
  obtain ⟨a, b, c⟩ := x
  obtain ⟨a', b', c'⟩ := y
  by_cases h1 : a = a'
  · subst h1
    by_cases h2 : b = b'
    · subst h2
      by_cases h3 : c = c'
      · subst h3
        go_simp
      · have e1 : (c == c') = false := by simpa using h3
        go_simp
    · have e1 : (b == b') = false := by simpa using h2
      go_simp
  · have e1 : (a == a') = false := by simpa using h1
    go_simp
set_option maxRecDepth 100000 in
set_option maxHeartbeats 4000000 in
theorem next_none {w : World} {a : Option Addr} {c : Nat} {q : List Int} {r : Nat} {o : Opn} (x : Ann) (hl : Lay w (.slice a q.length c) q.length (words q)) (hz : chkF r q.length = 0) (r1 : (1 : Int) ≤ r) (r2 : (r : Int) ≤ 1024) (r3 : (q.length : Int) ≤ r) (hac : act r q o = none) : Calls Tryz.prog 27 #[.int .i64 r, .slice a q.length c, .agg #[.int .i64 o.k, .int .i64 o.a, .int .i64 o.b, .int .u64 o.u], .agg #[.int .i64 x.e, .int .i64 x.n, .int .u64 x.v]] w (RetN w none) := by
  obtain ⟨Z, hZ, hZ1, _, _, hzv⟩ := zeroed
  obtain ⟨W0, hW0⟩ : ∃ W0, ((w.alloc (.cells #[.int .i64 o.k, .int .i64 o.a, .int .i64 o.b, .int .u64 o.u] 24)).alloc (.cells #[.int .i64 x.e, .int .i64 x.n, .int .u64 x.v] 27)) = W0 := ⟨_, rfl⟩
  have OB := Lib.hid (show OpBox W0 w.heap.size o by rw [← hW0]; exact (OpBox.new w o _ _ rfl).kept ((Kept.refl _).alloc _ _))
  have AB := Lib.hid (show AnBox W0 (w.heap.size + 1) x by rw [← hW0]; exact AnBox.new _ x _ _ (by simp))
  have K0 := Lib.hid (show Kept w W0 by rw [← hW0]; exact ((Kept.refl w).alloc _ _).alloc _ _)
  have CK := Lib.hid (fun W => check_at (w := W) (a := a) (c := c) hz)
  have FI := Lib.hid (filled_any r (hl.kept K0.out) (by omega) (by omega))
  have HW := Lib.hid hW0
  have AC := Lib.hid hac
  obtain ⟨n, hn⟩ : ∃ n, n = q.length := ⟨_, rfl⟩
  rw [← hn] at CK FI ⊢
  clear hz hl hn hW0 hac
  go_enter Tryz.func27, Tryz.ntmps27
  go_upto_region 1 with fail
  rw [HW.out]
  go_wp2_with fail
  refine (CK.out _).mono ?_
  rintro e w1 ⟨rfl, rfl⟩
  go_wp2_with fail
  refine FI.out.mono ?_
  rintro e w1 ⟨R, rfl, g1, k1⟩
  obtain ⟨w3, run3, but3, big3, s3⟩ := big_st (BigAt.new w1 Z 114 hZ hZ1 _ rfl) g1.size g1.one
  have K3 := Lib.hid (k1.trans (((Kept.refl w1).alloc Z 114).wrote1_Fi but3 (Nat.le_refl _)))
  have l1 := k1.size
  have L0 := K0.out.size
  have B3 := Lib.hid big3
  have G1 := Lib.hid g1
  have DO := Lib.hid (does_any o big3 g1)
  obtain ⟨o0, o1, o2, o3⟩ := OB.out.kept K3.out
  clear k1 but3 s3 big3 g1 hZ hZ1
  go_wp2_with fail
  refine DO.out.mono ?_
  rintro e w4 ⟨F, rfl, k4, hF⟩
  have e0 : tell r q o = noAnn := by unfold tell; rw [AC.out]; rfl
  rw [e0]
  rw [AC.out] at hF
  obtain rfl : F = .nilFunc := hF
  have FN := eql_nil
  have K4 := Lib.hid (K0.out.trans (K3.out.trans k4))
  clear k4
  go_wp2
  refine bodyPost_ret (v := .tuple #[.slice none 0 0, .bool false]) (by simp [results, Tryz.results27, go_sem]) rfl (RetN.none_ (K4.out.alloc _ _))

set_option maxRecDepth 100000 in
set_option maxHeartbeats 4000000 in
theorem next_other {w : World} {a : Option Addr} {c : Nat} {q : List Int} {r : Nat} {o : Opn} (x : Ann) (hl : Lay w (.slice a q.length c) q.length (words q)) (hz : chkF r q.length = 0) (r1 : (1 : Int) ≤ r) (r2 : (r : Int) ≤ 1024) (r3 : (q.length : Int) ≤ r) {p : Ann × List Int} (hac : act r q o = some p) (hx : x ≠ p.1) : Calls Tryz.prog 27 #[.int .i64 r, .slice a q.length c, .agg #[.int .i64 o.k, .int .i64 o.a, .int .i64 o.b, .int .u64 o.u], .agg #[.int .i64 x.e, .int .i64 x.n, .int .u64 x.v]] w (RetN w none) := by
  have HX := Lib.hid hx
  clear hx
  obtain ⟨Z, hZ, hZ1, _, _, hzv⟩ := zeroed
  obtain ⟨W0, hW0⟩ : ∃ W0, ((w.alloc (.cells #[.int .i64 o.k, .int .i64 o.a, .int .i64 o.b, .int .u64 o.u] 24)).alloc (.cells #[.int .i64 x.e, .int .i64 x.n, .int .u64 x.v] 27)) = W0 := ⟨_, rfl⟩
  have OB := Lib.hid (show OpBox W0 w.heap.size o by rw [← hW0]; exact (OpBox.new w o _ _ rfl).kept ((Kept.refl _).alloc _ _))
  have AB := Lib.hid (show AnBox W0 (w.heap.size + 1) x by rw [← hW0]; exact AnBox.new _ x _ _ (by simp))
  have K0 := Lib.hid (show Kept w W0 by rw [← hW0]; exact ((Kept.refl w).alloc _ _).alloc _ _)
  have CK := Lib.hid (fun W => check_at (w := W) (a := a) (c := c) hz)
  have FI := Lib.hid (filled_any r (hl.kept K0.out) (by omega) (by omega))
  have HW := Lib.hid hW0
  have AC := Lib.hid hac
  obtain ⟨n, hn⟩ : ∃ n, n = q.length := ⟨_, rfl⟩
  rw [← hn] at CK FI ⊢
  clear hz hl hn hW0 hac
  go_enter Tryz.func27, Tryz.ntmps27
  go_upto_region 1 with fail
  rw [HW.out]
  go_wp2_with fail
  refine (CK.out _).mono ?_
  rintro e w1 ⟨rfl, rfl⟩
  go_wp2_with fail
  refine FI.out.mono ?_
  rintro e w1 ⟨R, rfl, g1, k1⟩
  obtain ⟨w3, run3, but3, big3, s3⟩ := big_st (BigAt.new w1 Z 114 hZ hZ1 _ rfl) g1.size g1.one
  have K3 := Lib.hid (k1.trans (((Kept.refl w1).alloc Z 114).wrote1_Fi but3 (Nat.le_refl _)))
  have l1 := k1.size
  have L0 := K0.out.size
  have B3 := Lib.hid big3
  have G1 := Lib.hid g1
  have DO := Lib.hid (does_any o big3 g1)
  obtain ⟨o0, o1, o2, o3⟩ := OB.out.kept K3.out
  clear k1 but3 s3 big3 g1 hZ hZ1
  go_wp2_with fail
  refine DO.out.mono ?_
  rintro e w4 ⟨F, rfl, k4, hF⟩
  have e0 : tell r q o = p.1 := by unfold tell; rw [AC.out]; rfl
  rw [e0]
  rw [AC.out] at hF
  have FN := func_eql hF
  have FG := func_guard hF .eql
  have K34 := Lib.hid (K3.out.trans k4)
  have K4 := Lib.hid (K0.out.trans (K3.out.trans k4))
  obtain ⟨a0, a1, a2, sA⟩ := AB.out.kept K34.out
  have l4 := lt_of_cell a0
  have NE := ann_neq x p.1
  clear sA k4
  have b0 : (some p).isNone = false := rfl
  rw [b0] at FN
  rw [decide_eq_true HX.out] at NE
  clear hF b0
  go_wp2
  refine bodyPost_ret (v := .tuple #[.slice none 0 0, .bool false]) (by simp [results, Tryz.results27, go_sem]) rfl (RetN.none_ (K4.out.alloc _ _))

set_option maxRecDepth 100000 in
set_option maxHeartbeats 4000000 in
theorem next_it {w : World} {a : Option Addr} {c : Nat} {q : List Int} {r : Nat} {o : Opn} (x : Ann) (hl : Lay w (.slice a q.length c) q.length (words q)) (hz : chkF r q.length = 0) (r1 : (1 : Int) ≤ r) (r2 : (r : Int) ≤ 1024) (r3 : (q.length : Int) ≤ r) {p : Ann × List Int} (hac : act r q o = some p) (hx : x = p.1) : Calls Tryz.prog 27 #[.int .i64 r, .slice a q.length c, .agg #[.int .i64 o.k, .int .i64 o.a, .int .i64 o.b, .int .u64 o.u], .agg #[.int .i64 x.e, .int .i64 x.n, .int .u64 x.v]] w (RetN w (some p.2)) := by
  have HX := Lib.hid hx
  clear hx
  obtain ⟨Z, hZ, hZ1, _, _, hzv⟩ := zeroed
  obtain ⟨W0, hW0⟩ : ∃ W0, ((w.alloc (.cells #[.int .i64 o.k, .int .i64 o.a, .int .i64 o.b, .int .u64 o.u] 24)).alloc (.cells #[.int .i64 x.e, .int .i64 x.n, .int .u64 x.v] 27)) = W0 := ⟨_, rfl⟩
  have OB := Lib.hid (show OpBox W0 w.heap.size o by rw [← hW0]; exact (OpBox.new w o _ _ rfl).kept ((Kept.refl _).alloc _ _))
  have AB := Lib.hid (show AnBox W0 (w.heap.size + 1) x by rw [← hW0]; exact AnBox.new _ x _ _ (by simp))
  have K0 := Lib.hid (show Kept w W0 by rw [← hW0]; exact ((Kept.refl w).alloc _ _).alloc _ _)
  have CK := Lib.hid (fun W => check_at (w := W) (a := a) (c := c) hz)
  have FI := Lib.hid (filled_any r (hl.kept K0.out) (by omega) (by omega))
  have HW := Lib.hid hW0
  have AC := Lib.hid hac
  obtain ⟨n, hn⟩ : ∃ n, n = q.length := ⟨_, rfl⟩
  rw [← hn] at CK FI ⊢
  clear hz hl hn hW0 hac
  go_enter Tryz.func27, Tryz.ntmps27
  go_upto_region 1 with fail
  rw [HW.out]
  go_wp2_with fail
  refine (CK.out _).mono ?_
  rintro e w1 ⟨rfl, rfl⟩
  go_wp2_with fail
  refine FI.out.mono ?_
  rintro e w1 ⟨R, rfl, g1, k1⟩
  obtain ⟨w3, run3, but3, big3, s3⟩ := big_st (BigAt.new w1 Z 114 hZ hZ1 _ rfl) g1.size g1.one
  have K3 := Lib.hid (k1.trans (((Kept.refl w1).alloc Z 114).wrote1_Fi but3 (Nat.le_refl _)))
  have l1 := k1.size
  have L0 := K0.out.size
  have B3 := Lib.hid big3
  have G1 := Lib.hid g1
  have DO := Lib.hid (does_any o big3 g1)
  obtain ⟨o0, o1, o2, o3⟩ := OB.out.kept K3.out
  clear k1 but3 s3 big3 g1 hZ hZ1
  go_wp2_with fail
  refine DO.out.mono ?_
  rintro e w4 ⟨F, rfl, k4, hF⟩
  have e0 : tell r q o = p.1 := by unfold tell; rw [AC.out]; rfl
  rw [e0]
  rw [AC.out] at hF
  have FN := func_eql hF
  have FG := func_guard hF .eql
  have K34 := Lib.hid (K3.out.trans k4)
  have K4 := Lib.hid (K0.out.trans (K3.out.trans k4))
  obtain ⟨a0, a1, a2, sA⟩ := AB.out.kept K34.out
  have l4 := lt_of_cell a0
  have NE := ann_neq x p.1
  have k40 := k4
  clear sA k4
  have b0 : (some p).isNone = false := rfl
  rw [b0] at FN
  rw [decide_eq_false (by simp [HX.out])] at NE
  have BB := Lib.hid ((B3.out.kept k40).kept ((Kept.refl w4).alloc #[.int .i64 p.1.e, .int .i64 p.1.n, .int .u64 p.1.v] 27))
  have KA : Kept w4 (w4.alloc (.cells #[.int .i64 p.1.e, .int .i64 p.1.n, .int .u64 p.1.v] 27)) := (Kept.refl w4).alloc _ _
  clear b0 k40
  obtain ⟨y, _, hy, ⟨z, u, _, hz, rfl, hq, hq'⟩ | ⟨v, rfl, hq⟩ | ⟨rfl, hq⟩⟩ := hF
  · have C1 := Lib.hid (does1_any BB.out G1.out hq (KA.some hy) (KA.some hz))
    rw [← hq'] at C1
    clear hq hq' hy hz
    go_wp2_with fail
    go_at_call 66
    refine C1.out.mono ?_
    rintro e w5 ⟨R5, rfl, g5, k5⟩
    obtain ⟨w6, run6, but6, big6, s6⟩ := big_st (BB.out.kept k5) g5.size g5.one
    have K6 := Lib.hid ((K4.out.trans ((Kept.refl w4).alloc _ _ |>.trans k5)).wrote1_Fi but6 (by omega))
    have LI := Lib.hid (list_any big6 g5)
    clear but6 s6 big6 k5
    go_wp2_with fail
    refine LI.out.mono ?_
    rintro e w7 ⟨a7, c7, rfl, k7, own7⟩
    go_wp2
    refine bodyPost_ret (v := .tuple #[.slice a7 p.2.length c7, .bool true]) (by simp [results, Tryz.results27, go_sem]) rfl ⟨a7, c7, rfl, K6.out.trans k7, own_mono own7 K6.out.size⟩
  · rw [hq] at G1
    have C2 := Lib.hid (does2_any BB.out G1.out (KA.some hy))
    clear hq hy
    go_wp2_with fail
    go_at_call 70
    refine C2.out.mono ?_
    rintro e w5 ⟨R5, rfl, g5, k5⟩
    obtain ⟨w6, run6, but6, big6, s6⟩ := big_st (BB.out.kept k5) g5.size g5.one
    have K6 := Lib.hid ((K4.out.trans ((Kept.refl w4).alloc _ _ |>.trans k5)).wrote1_Fi but6 (by omega))
    have LI := Lib.hid (list_any big6 g5)
    clear but6 s6 big6 k5
    go_wp2_with fail
    refine LI.out.mono ?_
    rintro e w7 ⟨a7, c7, rfl, k7, own7⟩
    go_wp2
    refine bodyPost_ret (v := .tuple #[.slice a7 p.2.length c7, .bool true]) (by simp [results, Tryz.results27, go_sem]) rfl ⟨a7, c7, rfl, K6.out.trans k7, own_mono own7 K6.out.size⟩
  · rw [← hq] at G1
    have C3 := Lib.hid (does3_any BB.out G1.out (KA.some hy))
    clear hq hy
    go_wp2_with fail
    go_at_call 72
    refine C3.out.mono ?_
    rintro e w5 ⟨R5, rfl, g5, k5⟩
    obtain ⟨w6, run6, but6, big6, s6⟩ := big_st (BB.out.kept k5) g5.size g5.one
    have K6 := Lib.hid ((K4.out.trans ((Kept.refl w4).alloc _ _ |>.trans k5)).wrote1_Fi but6 (by omega))
    have LI := Lib.hid (list_any big6 g5)
    clear but6 s6 big6 k5
    go_wp2_with fail
    refine LI.out.mono ?_
    rintro e w7 ⟨a7, c7, rfl, k7, own7⟩
    go_wp2
    refine bodyPost_ret (v := .tuple #[.slice a7 p.2.length c7, .bool true]) (by simp [results, Tryz.results27, go_sem]) rfl ⟨a7, c7, rfl, K6.out.trans k7, own_mono own7 K6.out.size⟩

theorem next_any {w : World} {a : Option Addr} {c : Nat} {q : List Int} (room : Int) (o : Opn) (x : Ann) (hl : Lay w (.slice a q.length c) q.length (words q)) :
    Calls Tryz.prog 27 #[.int .i64 room, .slice a q.length c, .agg #[.int .i64 o.k, .int .i64 o.a, .int .i64 o.b, .int .u64 o.u], .agg #[.int .i64 x.e, .int .i64 x.n, .int .u64 x.v]] w (RetN w (nextI room q o x)) := by
  by_cases hz : chkF room q.length = 0
  · obtain ⟨r1, r2, r3⟩ := chk_zero hz
    obtain ⟨r, rfl⟩ : ∃ r : Nat, room = r := ⟨room.toNat, by omega⟩
    have e0 : actI r q o = act r q o := by unfold actI; rw [if_pos hz]; rfl
    unfold nextI
    rw [e0]
    cases hac : act r q o with
    | none => exact next_none x hl hz r1 r2 r3 hac
    | some p =>
      by_cases hx : x = p.1
      · have e1 : (Option.elim (some p) none fun p => if x = p.1 then some p.2 else none) = some p.2 := if_pos hx
        rw [e1]
        exact next_it x hl hz r1 r2 r3 hac hx
      · have e1 : (Option.elim (some p) none fun p => if x = p.1 then some p.2 else none) = none := if_neg hx
        rw [e1]
        exact next_other x hl hz r1 r2 r3 hac hx
  · have e0 : nextI room q o x = none := by unfold nextI actI; rw [if_neg hz]; rfl
    rw [e0]
    obtain ⟨y, hy⟩ : ∃ y, chkF room q.length = y := ⟨_, rfl⟩
    have hy0 : y ≠ 0 := by rw [← hy]; exact hz
    have b1 : (y != 0) = true := by simpa using hy0
    have CK := Lib.hid (fun W => check_at (w := W) (a := a) (c := c) hy)
    obtain ⟨n, hn⟩ : ∃ n, n = q.length := ⟨_, rfl⟩
    rw [← hn] at CK ⊢
    clear hz hl hn e0 hy hy0
    go_enter Tryz.func27, Tryz.ntmps27
    go_wp2_with fail
    refine (CK.out _).mono ?_
    rintro e w1 ⟨rfl, rfl⟩
    go_wp2
    refine bodyPost_ret (v := .tuple #[.slice none 0 0, .bool false]) (by simp [results, Tryz.results27, go_sem]) rfl (RetN.none_ (((Kept.refl w).alloc _ _).alloc _ _))
end Go.Proofs.YtbfmmndpboagdaaGreatDoor.Fi
