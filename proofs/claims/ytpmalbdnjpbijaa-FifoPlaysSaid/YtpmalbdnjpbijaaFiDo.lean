/- What an operation does: the func that hands out the func. -/
import Derived.Test.YtpmalbdnjpbijaaFiDoes
import Derived.ScopeJumps
import Derived.WalkMore
namespace Go.Proofs.Ytpmalbdnjpbijaa
open Go.RowKit
attribute [local go_sem ↓] ld_named st_named cp_named bd_named lv_named

/-- What computes the next queue: a func over the ring at b. -/
def NextF (W : World) (base b room : Nat) (q q' : List Int) (F : Value) : Prop :=
  ∃ x, base ≤ x ∧ W.cell? ⟨x, 0, none⟩ = some (.pointer (some ⟨b, 0, none⟩)) ∧
    ((∃ y u, base ≤ y ∧ W.cell? ⟨y, 3, none⟩ = some (.int .u64 u) ∧ F = .func (.func 33) #[] #[.pointer (some ⟨x, 0, none⟩), .pointer (some ⟨y, 0, none⟩)] ∧ q.length < room ∧ q' = q ++ [u]) ∨
     (∃ v, F = .func (.func 37) #[] #[.pointer (some ⟨x, 0, none⟩)] ∧ q = v :: q') ∨
     (F = .func (.func 39) #[] #[.pointer (some ⟨x, 0, none⟩)] ∧ q' = q))
def FuncOf (W : World) (base b room : Nat) (q : List Int) (F : Value) : Option (Ann × List Int) → Prop
  | none => F = .nilFunc
  | some p => NextF W base b room q p.2 F
def RetD (w : World) (b room : Nat) (q : List Int) (o : Opn) (e : Ending) (w' : World) : Prop :=
  ∃ F, e = .returned (.tuple #[.agg #[.int .i64 (tell room q o).e, .int .i64 (tell room q o).n, .int .u64 (tell room q o).v], F]) ∧ Kept w w' ∧ FuncOf w' w.heap.size b room q F (act room q o)

/-- One jump, forward. -/
theorem wp_scope_once {P : Program} {a : Act} {w : World} {Q : Exit → Act → World → Prop} {c rest : Code} (l : Nat) (hf : findLabel c l = some rest)
    (h : c.wp P (Exit.jump l (fun a w => rest.wp P (Exit.noGoto Q) a w) Q) a w) : (Code.scope c).wp P Q a w :=
  wp_scope_jumps l _ (fun _ _ => 0) hf h fun a w hJ => Code.wp_mono (fun e a w he => by
    cases e <;> first | exact he | exact he.elim) hJ

/-- The three variables that the func lays first: the ring's pointer, the operation, the answer. -/
structure Bx (w W : World) (b : Nat) (o : Opn) : Prop where
  x : W.cell? ⟨w.heap.size, 0, none⟩ = some (.pointer (some ⟨b, 0, none⟩))
  o0 : W.cell? ⟨w.heap.size + 1, 0, none⟩ = some (.int .i64 o.k)
  o3 : W.cell? ⟨w.heap.size + 1, 3, none⟩ = some (.int .u64 o.u)
  a0 : W.cell? ⟨w.heap.size + 1 + 1, 0, none⟩ = some (.int .i64 0)
  a1 : W.cell? ⟨w.heap.size + 1 + 1, 1, none⟩ = some (.int .i64 0)
  a2 : W.cell? ⟨w.heap.size + 1 + 1, 2, none⟩ = some (.int .u64 0)
  s : ∀ i, W.frozen? ⟨w.heap.size + 1 + 1, i, none⟩ = false
  k : Kept w W
theorem Bx.new (w : World) (b : Nat) (o : Opn) : Bx w (((w.alloc (.cells #[.pointer (some ⟨b, 0, none⟩)] 60)).alloc (.cells #[.int .i64 o.k, .int .i64 o.a, .int .i64 o.b, .int .u64 o.u] 25)).alloc (.cells #[.int .i64 0, .int .i64 0, .int .u64 0] 28)) b o := by
  have k1 : Kept w (w.alloc (.cells #[.pointer (some ⟨b, 0, none⟩)] 60)) := (Kept.refl w).alloc _ _
  refine ⟨?_, ?_, ?_, cell_new _ _ _ _ 0 (by simp), cell_new _ _ _ _ 1 (by simp), cell_new _ _ _ _ 2 (by simp), fun i => ?_, (k1.alloc _ _).alloc _ _⟩
  · exact (((Kept.refl _).alloc _ _).alloc _ _).some (cell_new _ _ _ _ 0 rfl)
  · exact ((Kept.refl _).alloc _ _).some (cell_new _ _ _ _ 0 (by simp))
  · exact ((Kept.refl _).alloc _ _).some (cell_new _ _ _ _ 3 (by simp))
  · rw [frozen?_alloc_cells]; simp [World.frozen?]
theorem Bx.kept {w W W' : World} {b : Nat} {o : Opn} (h : Bx w W b o) (k : Kept W W') : Bx w W' b o :=
  ⟨k.some h.x, k.some h.o0, k.some h.o3, k.some h.a0, k.some h.a1, k.some h.a2, fun i => k.soft (lt_of_cell h.a0) (h.s i), h.k.trans k⟩
theorem emptyK {w : World} {b room : Nat} {R : Array Value} {q : List Int} (hb : BigAt w b R) (hR : Rg R room q) :
    Calls Try.prog 35 #[.pointer (some ⟨b, 0, none⟩)] w fun e w' => e = .returned (.bool (decide (q.length = 0))) ∧ Kept w w' :=
  (empty_any hb hR).mono fun _ _ h => ⟨h.1, by rw [← h.2]; exact Kept.refl _⟩
section
variable {w w1 Wx : World} {b room : Nat} {q : List Int} {o : Opn}
theorem RetD.same (h : Bx w w1 b o) (hb : But (fun j => j = w.heap.size + 1 + 1) w1 Wx) {e v : Int} (ac : act room q o = some (⟨e, 0, v⟩, q)) :
    RetD w b room q o (.returned (.tuple #[.agg #[.int .i64 e, .int .i64 0, .int .u64 v], .func (.func 39) #[] #[.pointer (some ⟨w.heap.size, 0, none⟩)]])) Wx := by
  refine ⟨_, by simp only [tell, ac]; rfl, h.k.wrote1 hb (by omega), ?_⟩
  rw [ac]
  exact ⟨w.heap.size, Nat.le_refl _, hb.some h.x (by omega), .inr (.inr ⟨rfl, rfl⟩)⟩
theorem RetD.more (h : Bx w w1 b o) (hb : But (fun j => j = w.heap.size + 1 + 1) w1 Wx) (ac : act room q o = some (⟨0, 0, 0⟩, q ++ [o.u])) (hq : q.length < room) :
    RetD w b room q o (.returned (.tuple #[.agg #[.int .i64 0, .int .i64 0, .int .u64 0], .func (.func 33) #[] #[.pointer (some ⟨w.heap.size, 0, none⟩), .pointer (some ⟨w.heap.size + 1, 0, none⟩)]])) Wx := by
  refine ⟨_, by simp only [tell, ac]; rfl, h.k.wrote1 hb (by omega), ?_⟩
  rw [ac]
  exact ⟨w.heap.size, Nat.le_refl _, hb.some h.x (by omega), .inl ⟨w.heap.size + 1, o.u, by omega, hb.some h.o3 (by omega), rfl, hq, rfl⟩⟩
theorem RetD.less (h : Bx w w1 b o) (hb : But (fun j => j = w.heap.size + 1 + 1) w1 Wx) {r : List Int} {v : Int} (ac : act room q o = some (⟨0, 0, 0⟩, r)) (hq : q = v :: r) :
    RetD w b room q o (.returned (.tuple #[.agg #[.int .i64 0, .int .i64 0, .int .u64 0], .func (.func 37) #[] #[.pointer (some ⟨w.heap.size, 0, none⟩)]])) Wx := by
  refine ⟨_, by simp only [tell, ac]; rfl, h.k.wrote1 hb (by omega), ?_⟩
  rw [ac]
  exact ⟨w.heap.size, Nat.le_refl _, hb.some h.x (by omega), .inr (.inl ⟨v, rfl, hq⟩)⟩
theorem RetD.nope (h : Bx w w1 b o) (hb : But (fun j => j = w.heap.size + 1 + 1) w1 Wx) (ac : act room q o = none) :
    RetD w b room q o (.returned (.tuple #[.agg #[.int .i64 0, .int .i64 0, .int .u64 0], .nilFunc])) Wx := by
  refine ⟨_, by simp only [tell, ac]; rfl, h.k.wrote1 hb (by omega), ?_⟩
  rw [ac]
  rfl
end

set_option maxRecDepth 100000 in
set_option maxHeartbeats 2000000 in
theorem does_full {w : World} {b room : Nat} {R : Array Value} {q : List Int} {o : Opn} (hb : BigAt w b R) (hR : Rg R room q) (hk : o.k = 1) (hq : q.length = room) :
    Calls Try.prog 29 #[.pointer (some ⟨b, 0, none⟩), .agg #[.int .i64 o.k, .int .i64 o.a, .int .i64 o.b, .int .u64 o.u]] w (RetD w b room q o) := by
  have FU := Lib.hid (fun W (k : Kept w W) => full_any (hb.kept k) hR)
  rw [decide_eq_true hq] at FU
  have AC := Lib.hid (show act room q o = some (⟨7, 0, 0⟩, q) by simp [act, hk, hq])
  clear hb hR hq
  obtain ⟨W, hW⟩ : ∃ W, (((w.alloc (.cells #[.pointer (some ⟨b, 0, none⟩)] 60)).alloc (.cells #[.int .i64 o.k, .int .i64 o.a, .int .i64 o.b, .int .u64 o.u] 25)).alloc (.cells #[.int .i64 0, .int .i64 0, .int .u64 0] 28)) = W := ⟨_, rfl⟩
  have bx : Bx w W b o := by rw [← hW]; exact Bx.new w b o
  have BX := Lib.hid bx
  obtain ⟨x0, o0, o3, a0, a1, a2, sf, _⟩ := bx
  have s0 := sf 0
  have s1 := sf 1
  have s2 := sf 2
  have HW := Lib.hid hW
  rw [hk] at o0
  clear sf hW hk
  go_enter Try.func29, Try.ntmps29
  go_wp2_with fail
  rw [HW.out]
  refine wp_scope_once 0 rfl ?_
  go_wp2_with fail
  refine (FU.out _ BX.out.k).mono ?_
  rintro e w1 ⟨rfl, k1⟩
  have bx1 := BX.out.kept k1
  have BX1 := Lib.hid bx1
  obtain ⟨x1, p1, u1, a1, b1, c1, sf1, _⟩ := bx1
  have f10 := sf1 0
  have f11 := sf1 1
  have f12 := sf1 2
  clear sf1 k1
  go_wp2
  go_step3
  refine ⟨rfl, ?_⟩
  go_wp2
  exact bodyPost_ret (v := .tuple #[.agg #[.int .i64 7, .int .i64 0, .int .u64 0], .func (.func 39) #[] #[.pointer (some ⟨w.heap.size, 0, none⟩)]]) (by simp [results, Try.results29, go_sem, cell_set, a1, b1, c1]) rfl (RetD.same BX1.out (by repeat (first | (with_reducible exact But.refl _ _) | (with_reducible refine But.here ?_ _ _))) AC.out)

set_option maxRecDepth 100000 in
set_option maxHeartbeats 2000000 in
theorem does_push {w : World} {b room : Nat} {R : Array Value} {q : List Int} {o : Opn} (hb : BigAt w b R) (hR : Rg R room q) (hk : o.k = 1) (hq : ¬ q.length = room) :
    Calls Try.prog 29 #[.pointer (some ⟨b, 0, none⟩), .agg #[.int .i64 o.k, .int .i64 o.a, .int .i64 o.b, .int .u64 o.u]] w (RetD w b room q o) := by
  have FU := Lib.hid (fun W (k : Kept w W) => full_any (hb.kept k) hR)
  rw [decide_eq_false hq] at FU
  have AC := Lib.hid (show act room q o = some (⟨0, 0, 0⟩, q ++ [o.u]) by simp [act, hk, hq])
  have HQ := Lib.hid (show q.length < room from by have := hR.fits; omega)
  clear hb hR hq
  obtain ⟨W, hW⟩ : ∃ W, (((w.alloc (.cells #[.pointer (some ⟨b, 0, none⟩)] 60)).alloc (.cells #[.int .i64 o.k, .int .i64 o.a, .int .i64 o.b, .int .u64 o.u] 25)).alloc (.cells #[.int .i64 0, .int .i64 0, .int .u64 0] 28)) = W := ⟨_, rfl⟩
  have bx : Bx w W b o := by rw [← hW]; exact Bx.new w b o
  have BX := Lib.hid bx
  obtain ⟨x0, o0, o3, a0, a1, a2, sf, _⟩ := bx
  have s0 := sf 0
  have s1 := sf 1
  have s2 := sf 2
  have HW := Lib.hid hW
  rw [hk] at o0
  clear sf hW hk
  go_enter Try.func29, Try.ntmps29
  go_wp2_with fail
  rw [HW.out]
  apply wp_scope_straight
  go_wp2_with fail
  refine (FU.out _ BX.out.k).mono ?_
  rintro e w1 ⟨rfl, k1⟩
  have bx1 := BX.out.kept k1
  have BX1 := Lib.hid bx1
  obtain ⟨x1, p1, u1, a1, b1, c1, sf1, _⟩ := bx1
  have f10 := sf1 0
  have f11 := sf1 1
  have f12 := sf1 2
  clear sf1 k1
  go_wp2
  exact bodyPost_ret (v := .tuple #[.agg #[.int .i64 0, .int .i64 0, .int .u64 0], .func (.func 33) #[] #[.pointer (some ⟨w.heap.size, 0, none⟩), .pointer (some ⟨w.heap.size + 1, 0, none⟩)]]) (by simp [results, Try.results29, go_sem, cell_set, a1, b1, c1]) rfl (RetD.more BX1.out (by repeat (first | (with_reducible exact But.refl _ _) | (with_reducible refine But.here ?_ _ _))) AC.out HQ.out)

set_option maxRecDepth 100000 in
set_option maxHeartbeats 2000000 in
theorem does_front_none {w : World} {b room : Nat} {R : Array Value} {q : List Int} {o : Opn} (hb : BigAt w b R) (hR : Rg R room q) (hk : o.k = 2) (hq : q = []) :
    Calls Try.prog 29 #[.pointer (some ⟨b, 0, none⟩), .agg #[.int .i64 o.k, .int .i64 o.a, .int .i64 o.b, .int .u64 o.u]] w (RetD w b room q o) := by
  have FU := Lib.hid (fun W (k : Kept w W) => emptyK (hb.kept k) hR)
  rw [decide_eq_true (by rw [hq]; rfl)] at FU
  have AC := Lib.hid (show act room q o = some (⟨15, 0, 0⟩, q) by simp [act, hk, hq])
  clear hb hR hq
  obtain ⟨W, hW⟩ : ∃ W, (((w.alloc (.cells #[.pointer (some ⟨b, 0, none⟩)] 60)).alloc (.cells #[.int .i64 o.k, .int .i64 o.a, .int .i64 o.b, .int .u64 o.u] 25)).alloc (.cells #[.int .i64 0, .int .i64 0, .int .u64 0] 28)) = W := ⟨_, rfl⟩
  have bx : Bx w W b o := by rw [← hW]; exact Bx.new w b o
  have BX := Lib.hid bx
  obtain ⟨x0, o0, o3, a0, a1, a2, sf, _⟩ := bx
  have s0 := sf 0
  have s1 := sf 1
  have s2 := sf 2
  have HW := Lib.hid hW
  rw [hk] at o0
  clear sf hW hk
  go_enter Try.func29, Try.ntmps29
  go_wp2_with fail
  rw [HW.out]
  refine wp_scope_once 1 rfl ?_
  go_wp2_with fail
  refine (FU.out _ BX.out.k).mono ?_
  rintro e w1 ⟨rfl, k1⟩
  have bx1 := BX.out.kept k1
  have BX1 := Lib.hid bx1
  obtain ⟨x1, p1, u1, a1, b1, c1, sf1, _⟩ := bx1
  have f10 := sf1 0
  have f11 := sf1 1
  have f12 := sf1 2
  clear sf1 k1
  go_wp2
  go_step3
  refine ⟨rfl, ?_⟩
  go_wp2
  go_step3
  go_wp2
  exact bodyPost_ret (v := .tuple #[.agg #[.int .i64 15, .int .i64 0, .int .u64 0], .func (.func 39) #[] #[.pointer (some ⟨w.heap.size, 0, none⟩)]]) (by simp [results, Try.results29, go_sem, cell_set, a1, b1, c1]) rfl (RetD.same BX1.out (by repeat (first | (with_reducible exact But.refl _ _) | (with_reducible refine But.here ?_ _ _))) AC.out)

set_option maxRecDepth 100000 in
set_option maxHeartbeats 2000000 in
theorem does_front {w : World} {b room : Nat} {R : Array Value} {q : List Int} {o : Opn} (hb : BigAt w b R) (hR : Rg R room q) {x : Int} {r : List Int} (hk : o.k = 2) (hq : q = x :: r) :
    Calls Try.prog 29 #[.pointer (some ⟨b, 0, none⟩), .agg #[.int .i64 o.k, .int .i64 o.a, .int .i64 o.b, .int .u64 o.u]] w (RetD w b room q o) := by
  have FU := Lib.hid (fun W (k : Kept w W) => emptyK (hb.kept k) hR)
  rw [decide_eq_false (by rw [hq]; simp)] at FU
  have AC := Lib.hid (show act room q o = some (⟨0, 0, x⟩, q) by simp [act, hk, hq])
  have FR := Lib.hid (fun W (k : Kept w W) => front_any (x := x) (hb.kept k) hR (by rw [hq]; rfl))
  clear hb hR hq
  obtain ⟨W, hW⟩ : ∃ W, (((w.alloc (.cells #[.pointer (some ⟨b, 0, none⟩)] 60)).alloc (.cells #[.int .i64 o.k, .int .i64 o.a, .int .i64 o.b, .int .u64 o.u] 25)).alloc (.cells #[.int .i64 0, .int .i64 0, .int .u64 0] 28)) = W := ⟨_, rfl⟩
  have bx : Bx w W b o := by rw [← hW]; exact Bx.new w b o
  have BX := Lib.hid bx
  obtain ⟨x0, o0, o3, a0, a1, a2, sf, _⟩ := bx
  have s0 := sf 0
  have s1 := sf 1
  have s2 := sf 2
  have HW := Lib.hid hW
  rw [hk] at o0
  clear sf hW hk
  go_enter Try.func29, Try.ntmps29
  go_wp2_with fail
  rw [HW.out]
  refine wp_scope_once 0 rfl ?_
  go_wp2_with fail
  refine (FU.out _ BX.out.k).mono ?_
  rintro e w1 ⟨rfl, k1⟩
  have bx1 := BX.out.kept k1
  have BX1 := Lib.hid bx1
  obtain ⟨x1, p1, u1, a1, b1, c1, sf1, _⟩ := bx1
  have f10 := sf1 0
  have f11 := sf1 1
  have f12 := sf1 2
  clear sf1 k1
  go_wp2_with fail
  refine (FR.out _ BX1.out.k).mono ?_
  rintro e w2 ⟨rfl, k2⟩
  have bx2 := BX1.out.kept k2
  have BX2 := Lib.hid bx2
  obtain ⟨x2, p2, u2, a2, b2, c2, sf2, _⟩ := bx2
  have f20 := sf2 0
  have f21 := sf2 1
  have f22 := sf2 2
  clear sf2 k2
  go_wp2
  go_step3
  refine ⟨rfl, ?_⟩
  go_wp2
  exact bodyPost_ret (v := .tuple #[.agg #[.int .i64 0, .int .i64 0, .int .u64 x], .func (.func 39) #[] #[.pointer (some ⟨w.heap.size, 0, none⟩)]]) (by simp [results, Try.results29, go_sem, cell_set, a2, b2, c2]) rfl (RetD.same BX2.out (by repeat (first | (with_reducible exact But.refl _ _) | (with_reducible refine But.here ?_ _ _))) AC.out)

set_option maxRecDepth 100000 in
set_option maxHeartbeats 2000000 in
theorem does_drop_none {w : World} {b room : Nat} {R : Array Value} {q : List Int} {o : Opn} (hb : BigAt w b R) (hR : Rg R room q) (hk : o.k = 3) (hq : q = []) :
    Calls Try.prog 29 #[.pointer (some ⟨b, 0, none⟩), .agg #[.int .i64 o.k, .int .i64 o.a, .int .i64 o.b, .int .u64 o.u]] w (RetD w b room q o) := by
  have FU := Lib.hid (fun W (k : Kept w W) => emptyK (hb.kept k) hR)
  rw [decide_eq_true (by rw [hq]; rfl)] at FU
  have AC := Lib.hid (show act room q o = some (⟨15, 0, 0⟩, q) by simp [act, hk, hq])
  clear hb hR hq
  obtain ⟨W, hW⟩ : ∃ W, (((w.alloc (.cells #[.pointer (some ⟨b, 0, none⟩)] 60)).alloc (.cells #[.int .i64 o.k, .int .i64 o.a, .int .i64 o.b, .int .u64 o.u] 25)).alloc (.cells #[.int .i64 0, .int .i64 0, .int .u64 0] 28)) = W := ⟨_, rfl⟩
  have bx : Bx w W b o := by rw [← hW]; exact Bx.new w b o
  have BX := Lib.hid bx
  obtain ⟨x0, o0, o3, a0, a1, a2, sf, _⟩ := bx
  have s0 := sf 0
  have s1 := sf 1
  have s2 := sf 2
  have HW := Lib.hid hW
  rw [hk] at o0
  clear sf hW hk
  go_enter Try.func29, Try.ntmps29
  go_wp2_with fail
  rw [HW.out]
  refine wp_scope_once 1 rfl ?_
  go_wp2_with fail
  refine (FU.out _ BX.out.k).mono ?_
  rintro e w1 ⟨rfl, k1⟩
  have bx1 := BX.out.kept k1
  have BX1 := Lib.hid bx1
  obtain ⟨x1, p1, u1, a1, b1, c1, sf1, _⟩ := bx1
  have f10 := sf1 0
  have f11 := sf1 1
  have f12 := sf1 2
  clear sf1 k1
  go_wp2
  go_step3
  refine ⟨rfl, ?_⟩
  go_wp2
  go_step3
  go_wp2
  exact bodyPost_ret (v := .tuple #[.agg #[.int .i64 15, .int .i64 0, .int .u64 0], .func (.func 39) #[] #[.pointer (some ⟨w.heap.size, 0, none⟩)]]) (by simp [results, Try.results29, go_sem, cell_set, a1, b1, c1]) rfl (RetD.same BX1.out (by repeat (first | (with_reducible exact But.refl _ _) | (with_reducible refine But.here ?_ _ _))) AC.out)

set_option maxRecDepth 100000 in
set_option maxHeartbeats 2000000 in
theorem does_drop {w : World} {b room : Nat} {R : Array Value} {q : List Int} {o : Opn} (hb : BigAt w b R) (hR : Rg R room q) {x : Int} {r : List Int} (hk : o.k = 3) (hq : q = x :: r) :
    Calls Try.prog 29 #[.pointer (some ⟨b, 0, none⟩), .agg #[.int .i64 o.k, .int .i64 o.a, .int .i64 o.b, .int .u64 o.u]] w (RetD w b room q o) := by
  have FU := Lib.hid (fun W (k : Kept w W) => emptyK (hb.kept k) hR)
  rw [decide_eq_false (by rw [hq]; simp)] at FU
  have AC := Lib.hid (show act room q o = some (⟨0, 0, 0⟩, r) by simp [act, hk, hq])
  have HQ := Lib.hid hq
  clear hb hR hq
  obtain ⟨W, hW⟩ : ∃ W, (((w.alloc (.cells #[.pointer (some ⟨b, 0, none⟩)] 60)).alloc (.cells #[.int .i64 o.k, .int .i64 o.a, .int .i64 o.b, .int .u64 o.u] 25)).alloc (.cells #[.int .i64 0, .int .i64 0, .int .u64 0] 28)) = W := ⟨_, rfl⟩
  have bx : Bx w W b o := by rw [← hW]; exact Bx.new w b o
  have BX := Lib.hid bx
  obtain ⟨x0, o0, o3, a0, a1, a2, sf, _⟩ := bx
  have s0 := sf 0
  have s1 := sf 1
  have s2 := sf 2
  have HW := Lib.hid hW
  rw [hk] at o0
  clear sf hW hk
  go_enter Try.func29, Try.ntmps29
  go_wp2_with fail
  rw [HW.out]
  apply wp_scope_straight
  go_wp2_with fail
  refine (FU.out _ BX.out.k).mono ?_
  rintro e w1 ⟨rfl, k1⟩
  have bx1 := BX.out.kept k1
  have BX1 := Lib.hid bx1
  obtain ⟨x1, p1, u1, a1, b1, c1, sf1, _⟩ := bx1
  have f10 := sf1 0
  have f11 := sf1 1
  have f12 := sf1 2
  clear sf1 k1
  go_wp2
  exact bodyPost_ret (v := .tuple #[.agg #[.int .i64 0, .int .i64 0, .int .u64 0], .func (.func 37) #[] #[.pointer (some ⟨w.heap.size, 0, none⟩)]]) (by simp [results, Try.results29, go_sem, cell_set, a1, b1, c1]) rfl (RetD.less BX1.out (by repeat (first | (with_reducible exact But.refl _ _) | (with_reducible refine But.here ?_ _ _))) AC.out HQ.out)

set_option maxRecDepth 100000 in
set_option maxHeartbeats 2000000 in
theorem does_other {w : World} {b room : Nat} {R : Array Value} {q : List Int} {o : Opn} (_ : BigAt w b R) (_ : Rg R room q) (h1 : o.k ≠ 1) (h2 : o.k ≠ 2) (h3 : o.k ≠ 3) :
    Calls Try.prog 29 #[.pointer (some ⟨b, 0, none⟩), .agg #[.int .i64 o.k, .int .i64 o.a, .int .i64 o.b, .int .u64 o.u]] w (RetD w b room q o) := by
  have AC := Lib.hid (show act room q o = none by simp [act, h1, h2, h3])
  have e1 : (o.k == 1) = false := by simpa using h1
  have e2 : (o.k == 2) = false := by simpa using h2
  have e3 : (o.k == 3) = false := by simpa using h3
  clear h1 h2 h3
  obtain ⟨W, hW⟩ : ∃ W, (((w.alloc (.cells #[.pointer (some ⟨b, 0, none⟩)] 60)).alloc (.cells #[.int .i64 o.k, .int .i64 o.a, .int .i64 o.b, .int .u64 o.u] 25)).alloc (.cells #[.int .i64 0, .int .i64 0, .int .u64 0] 28)) = W := ⟨_, rfl⟩
  have bx : Bx w W b o := by rw [← hW]; exact Bx.new w b o
  have BX := Lib.hid bx
  obtain ⟨x0, o0, o3, a0, a1, a2, sf, _⟩ := bx
  have s0 := sf 0
  have s1 := sf 1
  have s2 := sf 2
  have HW := Lib.hid hW
  clear sf hW
  go_enter Try.func29, Try.ntmps29
  go_wp2_with fail
  rw [HW.out]
  apply wp_scope_straight
  go_wp2
  exact bodyPost_ret (v := .tuple #[.agg #[.int .i64 0, .int .i64 0, .int .u64 0], .nilFunc]) (by simp [results, Try.results29, go_sem, cell_set, a0, a1, a2]) rfl (RetD.nope BX.out (by repeat (first | (with_reducible exact But.refl _ _) | (with_reducible refine But.here ?_ _ _))) AC.out)

/-- Whatever the operation is. -/
theorem does_any {w : World} {b room : Nat} {R : Array Value} {q : List Int} (o : Opn) (hb : BigAt w b R) (hR : Rg R room q) :
    Calls Try.prog 29 #[.pointer (some ⟨b, 0, none⟩), .agg #[.int .i64 o.k, .int .i64 o.a, .int .i64 o.b, .int .u64 o.u]] w (RetD w b room q o) := by
  by_cases h1 : o.k = 1
  · by_cases hq : q.length = room
    · exact does_full hb hR h1 hq
    · exact does_push hb hR h1 hq
  by_cases h2 : o.k = 2
  · cases hq : q with
    | nil => rw [← hq]; exact does_front_none hb hR h2 hq
    | cons x r => rw [← hq]; exact does_front hb hR h2 hq
  by_cases h3 : o.k = 3
  · cases hq : q with
    | nil => rw [← hq]; exact does_drop_none hb hR h3 hq
    | cons x r => rw [← hq]; exact does_drop hb hR h3 hq
  · exact does_other hb hR h1 h2 h3
end Go.Proofs.Ytpmalbdnjpbijaa
