/- The program's span of a call. -/
import Derived.Test.YtjbplbfedndjpaaEvProg2
import Derived.Deep.RegionHeld3
namespace Go.Proofs.Ytjbplbfedndjpaa
open Go.RowKit Go.Maps

/-- The blocks of span's own, as its region begins. -/
structure SpanLaid (w W : World) (v : Value) (i t : Int) : Prop where
  kept : Kept w W
  size : W.heap.size = w.heap.size + 3
  b0 : W.cell? ⟨w.heap.size, 0, none⟩ = some v
  b1 : W.cell? ⟨w.heap.size + 1, 0, none⟩ = some (.int .i64 i)
  b2 : W.cell? ⟨w.heap.size + 1, 1, none⟩ = some (.int .i64 t)
  z : SpBox W (w.heap.size + 1 + 1) zeroSp
  soft : ∀ j, W.frozen? ⟨w.heap.size + 1 + 1, j, none⟩ = false
theorem spanLaid (w : World) (v : Value) (b : Nat) (i t : Int) :
    SpanLaid w (((w.alloc (.cells #[v, .map (some b)] 62)).alloc (.cells #[.int .i64 i, .int .i64 t] 69)).alloc (.cells #[.int .i64 0, .int .i64 0, .int .i64 0, .int .i64 0, .int .i64 0, .int .i64 0, .int .u64 0, .int .i64 0, .int .i64 0, .int .u64 0] 57)) v i t where
  kept := (((Kept.refl w).alloc _ _).alloc _ _).alloc _ _
  size := by simp
  b0 := (((Kept.refl _).alloc _ _).alloc _ _).some (cell_new w _ _ _ 0 rfl)
  b1 := ((Kept.refl _).alloc _ _).some (cell_new _ _ _ _ 0 (by simp))
  b2 := ((Kept.refl _).alloc _ _).some (cell_new _ _ _ _ 1 (by simp))
  z := SpBox.at _ zeroSp _ _ (by simp)
  soft j := by rw [frozen?_alloc_cells]; simp [World.frozen?]

set_option maxRecDepth 100000 in
set_option maxHeartbeats 8000000 in
theorem span_any {w : World} {a : Option Addr} {c b : Nat} {h : List Ev} {i : Nat} {e : Ev} (hE : Lay w (.slice a h.length c) h.length (flatE h)) (hl : h.length ≤ 5000) (hi : h[i]? = some e) :
    Calls Try.prog 35 #[.agg #[.slice a h.length c, .map (some b)], .int .i64 e.id, .agg #[.int .i64 i, .int .i64 (too h e.id)]] w fun ed w' => ed = .returned (.agg #[.int .i64 (sp h (i, e)).id, .int .i64 (sp h (i, e)).from_, .int .i64 (sp h (i, e)).to, .int .i64 (sp h (i, e)).k, .int .i64 (sp h (i, e)).x, .int .i64 (sp h (i, e)).y, .int .u64 (sp h (i, e)).u, .int .i64 (sp h (i, e)).er, .int .i64 (sp h (i, e)).n, .int .u64 (sp h (i, e)).v]) ∧ Kept w w' := by
  have hil := (List.getElem?_eq_some_iff.1 hi).1
  obtain ⟨g, o, c, e', h1, h2, hc⟩ := hE.ev (by omega)
  cases e'
  obtain ⟨n, hn⟩ : ∃ n, n = h.length := ⟨_, rfl⟩
  have HN := Lib.hid hn
  have HC := Lib.hid hc
  have x0 := (hc i e hi).c0
  have x2 := (hc i e hi).c2
  have x3 : w.cell? ⟨g, o + i * 9 + 2 + 1, none⟩ = some (.int .i64 e.x) := (hc i e hi).c3
  have x4 : w.cell? ⟨g, o + i * 9 + 2 + 2, none⟩ = some (.int .i64 e.y) := (hc i e hi).c4
  have x5 : w.cell? ⟨g, o + i * 9 + 2 + 3, none⟩ = some (.int .u64 e.u) := (hc i e hi).c5
  have gl := lt_of_cell x0
  rw [← hn] at hl hil ⊢
  cases hx : ix h e.id true with
  | none =>
    have ht : too h e.id = -1 := by unfold too pos; rw [hx]
    have hs := sp_open (h := h) (x := (i, e)) (show has h e.id true = false by rw [← ix_some, hx]; rfl)
    rw [ht, hs]
    dsimp only
    have PQ := Lib.hid (fun (x : Int) W => pending_at x (-1) true rfl W)
    clear hE hi hc hn ht hs hx
    go_enter Try.func35, Try.ntmps35
    go_wp2
    obtain ⟨W3, hW3⟩ : ∃ W3, ((w.alloc (.cells #[.slice (some ⟨g, o, none⟩) n c, .map (some b)] 62)).alloc (.cells #[.int .i64 i, .int .i64 (-1)] 69)).alloc (.cells #[.int .i64 0, .int .i64 0, .int .i64 0, .int .i64 0, .int .i64 0, .int .i64 0, .int .u64 0, .int .i64 0, .int .i64 0, .int .u64 0] 57) = W3 := ⟨_, rfl⟩
    have L3 := Lib.hid (hW3 ▸ spanLaid w (.slice (some ⟨g, o, none⟩) n c) b i (-1))
    have y2 := L3.out.kept.some x2
    have y3 := L3.out.kept.some x3
    have y4 := L3.out.kept.some x4
    have y5 := L3.out.kept.some x5
    have b0 := L3.out.b0
    have b1 := L3.out.b1
    have b2 := L3.out.b2
    have hsz := L3.out.size
    rw [hW3]
    clear hW3 x0 x2 x3 x4 x5
    go_region_held3 (fun w' => w'.cell? ⟨g, o + i * 9 + 2, none⟩ = some (.int .i64 e.k) ∧ w'.cell? ⟨g, o + i * 9 + 2 + 1, none⟩ = some (.int .i64 e.x) ∧ w'.cell? ⟨g, o + i * 9 + 2 + 2, none⟩ = some (.int .i64 e.y) ∧ w'.cell? ⟨g, o + i * 9 + 2 + 3, none⟩ = some (.int .u64 e.u) ∧
        w'.cell? ⟨w.heap.size, 0, none⟩ = some (.slice (some ⟨g, o, none⟩) n c) ∧ w'.cell? ⟨w.heap.size + 1, 0, none⟩ = some (.int .i64 i) ∧ w'.cell? ⟨w.heap.size + 1, 1, none⟩ = some (.int .i64 (-1)))
      (first | go_keep | exact ⟨y2, y3, y4, y5, b0, b1, b2⟩)
      (fail)
    have KA : Kept W3 (W3.alloc (.cells #[.int .i64 e.id, .int .i64 i, .int .i64 (-1), .int .i64 e.k, .int .i64 e.x, .int .i64 e.y, .int .u64 e.u, .int .i64 0, .int .i64 0, .int .u64 0] 57)).drew := ((Kept.refl W3).alloc _ _).drew
    have BX := (SpBox.at W3 (Sp.mk e.id (i : Int) (-1) e.k e.x e.y e.u 0 0 0) 57 (w.heap.size + 3) hsz.symm).kept (Kept.refl _).drew
    go_wp2_with fail; refine (PQ.out _ _).mono ?_; rintro ed w5 ⟨rfl, k5⟩
    obtain ⟨s0, s1, s2, s3, s4, s5, s6, s7, s8, s9⟩ := BX.kept k5
    have KK := KA.trans k5
    obtain ⟨z0, z1, z2, z3, z4, z5, z6, z7, z8, z9⟩ := L3.out.z.kept KK
    have f0 := KK.soft (b := w.heap.size + 1 + 1) (by omega) (L3.out.soft 0)
    have f1 := KK.soft (b := w.heap.size + 1 + 1) (by omega) (L3.out.soft 1)
    have f2 := KK.soft (b := w.heap.size + 1 + 1) (by omega) (L3.out.soft 2)
    have f3 := KK.soft (b := w.heap.size + 1 + 1) (by omega) (L3.out.soft 3)
    have f4 := KK.soft (b := w.heap.size + 1 + 1) (by omega) (L3.out.soft 4)
    have f5 := KK.soft (b := w.heap.size + 1 + 1) (by omega) (L3.out.soft 5)
    have f6 := KK.soft (b := w.heap.size + 1 + 1) (by omega) (L3.out.soft 6)
    have f7 := KK.soft (b := w.heap.size + 1 + 1) (by omega) (L3.out.soft 7)
    have f8 := KK.soft (b := w.heap.size + 1 + 1) (by omega) (L3.out.soft 8)
    have f9 := KK.soft (b := w.heap.size + 1 + 1) (by omega) (L3.out.soft 9)
    have HKK := Lib.hid KK
    clear KA KK k5 BX
    go_wp2
    change bodyPost _ _ _ _ _ (stored w5 (w.heap.size + 1 + 1) (Sp.mk e.id (i : Int) (-1) e.k e.x e.y e.u 0 0 0))
    have SB := stored_box (SpBox.mk z0 z1 z2 z3 z4 z5 z6 z7 z8 z9 : SpBox w5 (w.heap.size + 1 + 1) zeroSp) (Sp.mk e.id (i : Int) (-1) e.k e.x e.y e.u 0 0 0)
    have KS := stored_kept (L3.out.kept.trans HKK.out) (b := w.heap.size + 1 + 1) (by omega) (Sp.mk e.id (i : Int) (-1) e.k e.x e.y e.u 0 0 0)
    generalize stored w5 (w.heap.size + 1 + 1) (Sp.mk e.id (i : Int) (-1) e.k e.x e.y e.u 0 0 0) = X at SB KS ⊢
    obtain ⟨r0, r1, r2, r3, r4, r5, r6, r7, r8, r9⟩ := SB
    exact bodyPost_ret (v := .agg #[.int .i64 (Sp.mk e.id (i : Int) (-1) e.k e.x e.y e.u 0 0 0).id, .int .i64 (Sp.mk e.id (i : Int) (-1) e.k e.x e.y e.u 0 0 0).from_, .int .i64 (Sp.mk e.id (i : Int) (-1) e.k e.x e.y e.u 0 0 0).to, .int .i64 (Sp.mk e.id (i : Int) (-1) e.k e.x e.y e.u 0 0 0).k, .int .i64 (Sp.mk e.id (i : Int) (-1) e.k e.x e.y e.u 0 0 0).x, .int .i64 (Sp.mk e.id (i : Int) (-1) e.k e.x e.y e.u 0 0 0).y, .int .u64 (Sp.mk e.id (i : Int) (-1) e.k e.x e.y e.u 0 0 0).u, .int .i64 (Sp.mk e.id (i : Int) (-1) e.k e.x e.y e.u 0 0 0).er, .int .i64 (Sp.mk e.id (i : Int) (-1) e.k e.x e.y e.u 0 0 0).n, .int .u64 (Sp.mk e.id (i : Int) (-1) e.k e.x e.y e.u 0 0 0).v]) (by simp [results, Try.results35, go_sem, r0, r1, r2, r3, r4, r5, r6, r7, r8, r9]) rfl ⟨rfl, KS⟩
  | some j =>
    obtain ⟨f, hf, _⟩ := ix_at hx
    have hjl : j < n := by rw [HN.out]; exact ix_lt hx
    have ht : too h e.id = (j : Int) := by unfold too pos; rw [hx]
    have hs := sp_shut (h := h) (x := (i, e)) hx hf
    rw [ht, hs]
    dsimp only
    have PQ := Lib.hid (fun (x : Int) W => pending_at x (j : Int) false (by simp) W)
    have HF := Lib.hid hf
    clear hf
    clear hE hi hc hn ht hs hx
    go_enter Try.func35, Try.ntmps35
    go_wp2
    obtain ⟨W3, hW3⟩ : ∃ W3, ((w.alloc (.cells #[.slice (some ⟨g, o, none⟩) n c, .map (some b)] 62)).alloc (.cells #[.int .i64 i, .int .i64 (j : Int)] 69)).alloc (.cells #[.int .i64 0, .int .i64 0, .int .i64 0, .int .i64 0, .int .i64 0, .int .i64 0, .int .u64 0, .int .i64 0, .int .i64 0, .int .u64 0] 57) = W3 := ⟨_, rfl⟩
    have L3 := Lib.hid (hW3 ▸ spanLaid w (.slice (some ⟨g, o, none⟩) n c) b i (j : Int))
    have y2 := L3.out.kept.some x2
    have y3 := L3.out.kept.some x3
    have y4 := L3.out.kept.some x4
    have y5 := L3.out.kept.some x5
    have b0 := L3.out.b0
    have b1 := L3.out.b1
    have b2 := L3.out.b2
    have hsz := L3.out.size
    rw [hW3]
    clear hW3 x0 x2 x3 x4 x5
    go_region_held3 (fun w' => w'.cell? ⟨g, o + i * 9 + 2, none⟩ = some (.int .i64 e.k) ∧ w'.cell? ⟨g, o + i * 9 + 2 + 1, none⟩ = some (.int .i64 e.x) ∧ w'.cell? ⟨g, o + i * 9 + 2 + 2, none⟩ = some (.int .i64 e.y) ∧ w'.cell? ⟨g, o + i * 9 + 2 + 3, none⟩ = some (.int .u64 e.u) ∧
        w'.cell? ⟨w.heap.size, 0, none⟩ = some (.slice (some ⟨g, o, none⟩) n c) ∧ w'.cell? ⟨w.heap.size + 1, 0, none⟩ = some (.int .i64 i) ∧ w'.cell? ⟨w.heap.size + 1, 1, none⟩ = some (.int .i64 (j : Int)))
      (first | go_keep | exact ⟨y2, y3, y4, y5, b0, b1, b2⟩)
      (fail)
    have KA : Kept W3 (W3.alloc (.cells #[.int .i64 e.id, .int .i64 i, .int .i64 (j : Int), .int .i64 e.k, .int .i64 e.x, .int .i64 e.y, .int .u64 e.u, .int .i64 0, .int .i64 0, .int .u64 0] 57)).drew := ((Kept.refl W3).alloc _ _).drew
    have BX := (SpBox.at W3 (Sp.mk e.id (i : Int) (j : Int) e.k e.x e.y e.u 0 0 0) 57 (w.heap.size + 3) hsz.symm).kept (Kept.refl _).drew
    go_wp2_with fail; refine (PQ.out _ _).mono ?_; rintro ed w5 ⟨rfl, k5⟩
    obtain ⟨s0, s1, s2, s3, s4, s5, s6, s7, s8, s9⟩ := BX.kept k5
    have KK := KA.trans k5
    obtain ⟨z0, z1, z2, z3, z4, z5, z6, z7, z8, z9⟩ := L3.out.z.kept KK
    have f0 := KK.soft (b := w.heap.size + 1 + 1) (by omega) (L3.out.soft 0)
    have f1 := KK.soft (b := w.heap.size + 1 + 1) (by omega) (L3.out.soft 1)
    have f2 := KK.soft (b := w.heap.size + 1 + 1) (by omega) (L3.out.soft 2)
    have f3 := KK.soft (b := w.heap.size + 1 + 1) (by omega) (L3.out.soft 3)
    have f4 := KK.soft (b := w.heap.size + 1 + 1) (by omega) (L3.out.soft 4)
    have f5 := KK.soft (b := w.heap.size + 1 + 1) (by omega) (L3.out.soft 5)
    have f6 := KK.soft (b := w.heap.size + 1 + 1) (by omega) (L3.out.soft 6)
    have f7 := KK.soft (b := w.heap.size + 1 + 1) (by omega) (L3.out.soft 7)
    have f8 := KK.soft (b := w.heap.size + 1 + 1) (by omega) (L3.out.soft 8)
    have f9 := KK.soft (b := w.heap.size + 1 + 1) (by omega) (L3.out.soft 9)
    have u6 := KK.some (L3.out.kept.some (HC.out j f HF.out).c6)
    have u7 : w5.cell? ⟨g, o + j * 9 + 6 + 1, none⟩ = some (.int .i64 f.n) := KK.some (L3.out.kept.some (HC.out j f HF.out).c7)
    have u8 : w5.cell? ⟨g, o + j * 9 + 6 + 2, none⟩ = some (.int .u64 f.v) := KK.some (L3.out.kept.some (HC.out j f HF.out).c8)
    have v0 := KK.some b0
    have v2 := KK.some b2
    have hlt5 : w.heap.size + 3 < w5.heap.size := by have := k5.size; simp at this; omega
    have p7 := k5.soft (b := w.heap.size + 3) (i := 7) (by simp; omega) (by rw [World.frozen?_drew, frozen?_alloc_cells]; simp [World.frozen?, Array.getElem?_eq_none (show W3.heap.size ≤ w.heap.size + 3 by omega)])
    have p8 := k5.soft (b := w.heap.size + 3) (i := 8) (by simp; omega) (by rw [World.frozen?_drew, frozen?_alloc_cells]; simp [World.frozen?, Array.getElem?_eq_none (show W3.heap.size ≤ w.heap.size + 3 by omega)])
    have p9 := k5.soft (b := w.heap.size + 3) (i := 9) (by simp; omega) (by rw [World.frozen?_drew, frozen?_alloc_cells]; simp [World.frozen?, Array.getElem?_eq_none (show W3.heap.size ≤ w.heap.size + 3 by omega)])
    have HKK := Lib.hid KK
    clear KA KK k5 BX
    go_wp2
    have bX : But (fun k => k = w.heap.size + 3) w5 (((w5.setCell ⟨w.heap.size + 3, 7, none⟩ (.int .i64 f.er)).setCell ⟨w.heap.size + 3, 8, none⟩ (.int .i64 f.n)).setCell ⟨w.heap.size + 3, 9, none⟩ (.int .u64 f.v)) := (((But.refl _ w5).here _ _).here _ _).here _ _
    have kX : Kept w (((w5.setCell ⟨w.heap.size + 3, 7, none⟩ (.int .i64 f.er)).setCell ⟨w.heap.size + 3, 8, none⟩ (.int .i64 f.n)).setCell ⟨w.heap.size + 3, 9, none⟩ (.int .u64 f.v)) := (((L3.out.kept.trans HKK.out).setCell (p := ⟨w.heap.size + 3, 7, none⟩) (by simp) _).setCell (p := ⟨w.heap.size + 3, 8, none⟩) (by simp) _).setCell (p := ⟨w.heap.size + 3, 9, none⟩) (by simp) _
    change bodyPost _ _ _ _ _ (stored (((w5.setCell ⟨w.heap.size + 3, 7, none⟩ (.int .i64 f.er)).setCell ⟨w.heap.size + 3, 8, none⟩ (.int .i64 f.n)).setCell ⟨w.heap.size + 3, 9, none⟩ (.int .u64 f.v)) (w.heap.size + 1 + 1) (Sp.mk e.id (i : Int) (j : Int) e.k e.x e.y e.u f.er f.n f.v))
    have SB := stored_box ((SpBox.mk z0 z1 z2 z3 z4 z5 z6 z7 z8 z9 : SpBox w5 (w.heap.size + 1 + 1) zeroSp).but bX (by omega)) (Sp.mk e.id (i : Int) (j : Int) e.k e.x e.y e.u f.er f.n f.v)
    have KS := stored_kept kX (b := w.heap.size + 1 + 1) (by omega) (Sp.mk e.id (i : Int) (j : Int) e.k e.x e.y e.u f.er f.n f.v)
    generalize stored (((w5.setCell ⟨w.heap.size + 3, 7, none⟩ (.int .i64 f.er)).setCell ⟨w.heap.size + 3, 8, none⟩ (.int .i64 f.n)).setCell ⟨w.heap.size + 3, 9, none⟩ (.int .u64 f.v)) (w.heap.size + 1 + 1) (Sp.mk e.id (i : Int) (j : Int) e.k e.x e.y e.u f.er f.n f.v) = X at SB KS ⊢
    obtain ⟨r0, r1, r2, r3, r4, r5, r6, r7, r8, r9⟩ := SB
    exact bodyPost_ret (v := .agg #[.int .i64 (Sp.mk e.id (i : Int) (j : Int) e.k e.x e.y e.u f.er f.n f.v).id, .int .i64 (Sp.mk e.id (i : Int) (j : Int) e.k e.x e.y e.u f.er f.n f.v).from_, .int .i64 (Sp.mk e.id (i : Int) (j : Int) e.k e.x e.y e.u f.er f.n f.v).to, .int .i64 (Sp.mk e.id (i : Int) (j : Int) e.k e.x e.y e.u f.er f.n f.v).k, .int .i64 (Sp.mk e.id (i : Int) (j : Int) e.k e.x e.y e.u f.er f.n f.v).x, .int .i64 (Sp.mk e.id (i : Int) (j : Int) e.k e.x e.y e.u f.er f.n f.v).y, .int .u64 (Sp.mk e.id (i : Int) (j : Int) e.k e.x e.y e.u f.er f.n f.v).u, .int .i64 (Sp.mk e.id (i : Int) (j : Int) e.k e.x e.y e.u f.er f.n f.v).er, .int .i64 (Sp.mk e.id (i : Int) (j : Int) e.k e.x e.y e.u f.er f.n f.v).n, .int .u64 (Sp.mk e.id (i : Int) (j : Int) e.k e.x e.y e.u f.er f.n f.v).v]) (by simp [results, Try.results35, go_sem, r0, r1, r2, r3, r4, r5, r6, r7, r8, r9]) rfl ⟨rfl, KS⟩
end Go.Proofs.Ytjbplbfedndjpaa
