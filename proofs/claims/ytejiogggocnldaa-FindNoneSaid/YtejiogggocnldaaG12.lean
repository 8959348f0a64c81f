/- A Find's four steps, the program's: enter, look, cut, compare. Written by gen16c.py. -/
import Derived.Test.YtejiogggocnldaaG09
import Derived.Deep.RegionHeld3
set_option linter.unusedVariables false
set_option linter.unusedSimpArgs false

namespace Go.Proofs.Ytejiogggocnldaa.Fd
set_option maxRecDepth 20000
open Go.RowKit
open Wo (St acc wordAt PMem RefIs)
open Sk (Stk Arn idx Wd)
open Tw (Twr TB towV atI nextI next_any at_any I64 nextI_lo nextI_hi)

theorem fmark_any (x : Int) (w : World) : Calls Try.prog 116 #[.int .u64 x] w fun e w' => e = .returned (.bool (markB x)) ∧ w = w' := Wo.marked_any x w
theorem funmark_any (x : Int) (h0 : 0 ≤ x) (h1 : x < 18446744073709551616) (w : World) : Calls Try.prog 120 #[.int .u64 x, .bool false] w fun e w' => e = .returned (.int .u64 (unmark x)) ∧ w = w' := by
  have := Wo.marks_any x false w h0 h1
  have e : Wo.setMark x false = unmark x := by unfold Wo.setMark unmark; simp
  rwa [e] at this
theorem fd_cells {w : World} {F : Nat} {t : Twr} {key : Int} {o : FOp} (h : FdAt w F t key o) : w.cell? ⟨F, 1, none⟩ = some (.int .i64 t.D) ∧ w.cell? ⟨F, 2, none⟩ = some (.int .i64 t.H) ∧ w.cell? ⟨F, 3, none⟩ = some (.int .i64 t.G) ∧ w.cell? ⟨F, 4, none⟩ = some (.int .i64 t.A.F.T) ∧ w.cell? ⟨F, 5, none⟩ = some (.int .i64 t.A.F.K) ∧ w.cell? ⟨F, 6, none⟩ = some (.int .i64 t.A.F.N) ∧ w.cell? ⟨F, 7, none⟩ = some (.int .i64 t.A.G) ∧ w.cell? ⟨F, 8, none⟩ = some (.int .i64 t.A.V) ∧ w.cell? ⟨F, 9, none⟩ = some (.int .i64 t.A.L) ∧ w.cell? ⟨F, 10, none⟩ = some (.int .i64 t.E.T) ∧ w.cell? ⟨F, 11, none⟩ = some (.int .i64 t.E.K) ∧ w.cell? ⟨F, 12, none⟩ = some (.int .i64 t.E.N) ∧ w.cell? ⟨F, 13, none⟩ = some (.int .i64 t.P) :=
  ⟨h.tf.t0, h.tf.t1, h.tf.t2, h.tf.t3, h.tf.t4, h.tf.t5, h.tf.t6, h.tf.t7, h.tf.t8, h.tf.t9, h.tf.t10, h.tf.t11, h.tf.t12⟩
theorem q5_all {w : World} {b : Nat} {q : Pos} (h : Q5 w b q) : w.cell? ⟨b, 0, none⟩ = some (.int .i64 q.p) ∧ w.cell? ⟨b, 1, none⟩ = some (.int .u64 q.k) ∧ w.cell? ⟨b, 2, none⟩ = some (.int .u64 q.c) ∧ w.cell? ⟨b, 3, none⟩ = some (.int .u64 q.v) ∧ w.cell? ⟨b, 4, none⟩ = some (.int .i64 q.x) := ⟨h.c0, h.c1, h.c2, h.c3, h.c4⟩
theorem fq_all {w : World} {F b : Nat} {t : Twr} {key : Int} {o : FOp} {q : Pos} (h : FdAt w F t key o) (h2 : Q5 w b q) : w.cell? ⟨F, 1, none⟩ = some (.int .i64 t.D) ∧ w.cell? ⟨F, 2, none⟩ = some (.int .i64 t.H) ∧ w.cell? ⟨F, 3, none⟩ = some (.int .i64 t.G) ∧ w.cell? ⟨F, 4, none⟩ = some (.int .i64 t.A.F.T) ∧ w.cell? ⟨F, 5, none⟩ = some (.int .i64 t.A.F.K) ∧ w.cell? ⟨F, 6, none⟩ = some (.int .i64 t.A.F.N) ∧ w.cell? ⟨F, 7, none⟩ = some (.int .i64 t.A.G) ∧ w.cell? ⟨F, 8, none⟩ = some (.int .i64 t.A.V) ∧ w.cell? ⟨F, 9, none⟩ = some (.int .i64 t.A.L) ∧ w.cell? ⟨F, 10, none⟩ = some (.int .i64 t.E.T) ∧ w.cell? ⟨F, 11, none⟩ = some (.int .i64 t.E.K) ∧ w.cell? ⟨F, 12, none⟩ = some (.int .i64 t.E.N) ∧ w.cell? ⟨F, 13, none⟩ = some (.int .i64 t.P) ∧ w.cell? ⟨b, 0, none⟩ = some (.int .i64 q.p) ∧ w.cell? ⟨b, 1, none⟩ = some (.int .u64 q.k) ∧ w.cell? ⟨b, 2, none⟩ = some (.int .u64 q.c) ∧ w.cell? ⟨b, 3, none⟩ = some (.int .u64 q.v) ∧ w.cell? ⟨b, 4, none⟩ = some (.int .i64 q.x) :=
  ⟨h.tf.t0, h.tf.t1, h.tf.t2, h.tf.t3, h.tf.t4, h.tf.t5, h.tf.t6, h.tf.t7, h.tf.t8, h.tf.t9, h.tf.t10, h.tf.t11, h.tf.t12, h2.c0, h2.c1, h2.c2, h2.c3, h2.c4⟩
set_option maxHeartbeats 2000000 in
theorem enter_any (F : Nat) (t : Twr) (key : Int) (o : FOp) (l : Nat) (hl : l < 4) (q : Pos) (mv : Value) (v : Int) (v0 : 0 ≤ v) (v1 : v < 18446744073709551616) (T : Nat → Prop) (hT : ¬ T F) (Q : World → Prop) (hQ : ∀ W W', Q W → But (fun j => j = F) W W' → Q W') (w : World) (hTn : ∀ j, w.heap.size ≤ j → ¬ T j) (h : FdAt w F t key o)
    (hL : ∀ W, But (fun j => j = F) w W → Calls Try.prog 33 #[mv, .int .i64 (nextI t q.p l)] W fun e w' => e = .returned (.int .u64 v) ∧ Q w' ∧ But T W w') :
    Calls Try.prog 87 #[.pointer (some ⟨F, 0, none⟩), .int .i64 l, posV q, mv] w fun e w' => e = .returned (.tuple #[]) ∧ FdAt w' F t key ⟨if markB v then fun _ => Pos.zero else upd o.pos l (faced t.A.F.N q v), q.k, o.er⟩ ∧ Q w' ∧ But (fun j => j = F ∨ T j) w w' := by
  obtain ⟨mb, hmb⟩ : ∃ mb, mb = markB v := ⟨_, rfl⟩
  have MK := fun W => Lib.hid (show Calls Try.prog 116 #[.int .u64 v] W fun e w' => e = .returned (.bool mb) ∧ W = w' from by rw [hmb]; exact fmark_any v W)
  rw [← hmb]
  clear hmb
  have NX := fun W => Lib.hid (next_any t q.p l (by unfold I64; omega) W)
  have l0 : (0 : Int) ≤ (l : Int) := by omega
  have l4 : (l : Int) < 4 := by omega
  have H := Lib.hid h
  have HF := h.fz
  have lF := h.lt
  have cb := h.by_
  have HL := Lib.hid hL
  have HQ := Lib.hid hQ
  obtain ⟨c1, c2, c3, c4, c5, c6, c7, c8, c9, c10, c11, c12, c13⟩ := h.tf
  clear h hL hQ
  go_enter Try.func87, Try.ntmps87
  go_wp2_with fail
  obtain ⟨b, hb⟩ : ∃ b, b = w.heap.size := ⟨_, rfl⟩
  obtain ⟨W2, hW2⟩ : ∃ W2, W2 = ((w.setCell ⟨F, 35, none⟩ (.int .u64 q.k)).alloc (.cells #[.int .i64 q.p, .int .u64 q.k, .int .u64 q.c, .int .u64 q.v, .int .i64 q.x] 58)) := ⟨_, rfl⟩
  have bF : But (fun j => j = F) w (w.setCell ⟨F, 35, none⟩ (.int .u64 q.k)) := (But.refl _ _).here _ _
  have B2 : Hid (But (fun j => j = F) w W2) := Lib.hid (by rw [hW2]; exact bF.alloc _ _)
  have F2 : Hid (FdAt W2 F t key ⟨o.pos, q.k, o.er⟩) := Lib.hid (by rw [hW2]; exact (H.out.putBy q.k).kept ((Kept.refl _).alloc _ _))
  have Q2 : Hid (Q5 W2 b q) := Lib.hid (by rw [hW2]; exact Q5.new _ _ _ (by rw [hb]; simp) q)
  have lb : F < b := by omega
  have hz : b < W2.heap.size := lt_of_cell Q2.out.c0
  rw [← hW2, ← hb]
  have HB := Lib.hid hb
  clear hW2 hb bF cb c1 c2 c3 c4 c5 c6 c7 c8 c9 c10 c11 c12 c13 HF H
  obtain ⟨c1, c2, c3, c4, c5, c6, c7, c8, c9, c10, c11, c12, c13, d0, d1, d2, d3, d4⟩ := fq_all F2.out Q2.out
  have KT : Kept W2 W2 := Kept.refl _
  go_region_held3 (fun w' => w'.cell? ⟨F, 1, none⟩ = some (.int .i64 t.D) ∧ w'.cell? ⟨F, 2, none⟩ = some (.int .i64 t.H) ∧ w'.cell? ⟨F, 3, none⟩ = some (.int .i64 t.G) ∧ w'.cell? ⟨F, 4, none⟩ = some (.int .i64 t.A.F.T) ∧ w'.cell? ⟨F, 5, none⟩ = some (.int .i64 t.A.F.K) ∧ w'.cell? ⟨F, 6, none⟩ = some (.int .i64 t.A.F.N) ∧ w'.cell? ⟨F, 7, none⟩ = some (.int .i64 t.A.G) ∧ w'.cell? ⟨F, 8, none⟩ = some (.int .i64 t.A.V) ∧ w'.cell? ⟨F, 9, none⟩ = some (.int .i64 t.A.L) ∧ w'.cell? ⟨F, 10, none⟩ = some (.int .i64 t.E.T) ∧ w'.cell? ⟨F, 11, none⟩ = some (.int .i64 t.E.K) ∧ w'.cell? ⟨F, 12, none⟩ = some (.int .i64 t.E.N) ∧ w'.cell? ⟨F, 13, none⟩ = some (.int .i64 t.P) ∧ w'.cell? ⟨b, 0, none⟩ = some (.int .i64 q.p) ∧ w'.cell? ⟨b, 1, none⟩ = some (.int .u64 q.k) ∧ w'.cell? ⟨b, 2, none⟩ = some (.int .u64 q.c) ∧ w'.cell? ⟨b, 3, none⟩ = some (.int .u64 q.v) ∧ w'.cell? ⟨b, 4, none⟩ = some (.int .i64 q.x)) (first | (with_reducible exact fq_all (F2.out.kept KT) (Q2.out.kept KT)) | (with_reducible exact fq_all (F2.out.kept KT.drew) (Q2.out.kept KT.drew)) | (with_reducible exact fq_all (F4.out) (Q4.out))) (first | (go_at_call 92; (with_reducible refine Calls.mono (NX _).out ?_); rintro e x3 ⟨rfl, y⟩; have KT : Kept W2 x3 := Kept.trans (b := _) (by first | with_reducible exact Kept.refl _ | with_reducible exact (Kept.refl _).drew | with_reducible exact (Kept.refl _).drewN _) y; clear y) | (go_at_call 33; (with_reducible refine Calls.mono (HL.out _ (B2.out.then (by first | with_reducible exact KT | with_reducible exact KT.drew | with_reducible exact KT.drewN _))) ?_); rintro e x4 ⟨rfl, q4, y⟩; have F4 := Lib.hid ((F2.out.kept (by first | with_reducible exact KT | with_reducible exact KT.drew | with_reducible exact KT.drewN _)).but y hT); have Q4 := Lib.hid ((Q2.out.kept (by first | with_reducible exact KT | with_reducible exact KT.drew | with_reducible exact KT.drewN _)).but y (hTn _ (by have := HB.out; omega))); have B4 := Lib.hid ((B2.out.then (by first | with_reducible exact KT | with_reducible exact KT.drew | with_reducible exact KT.drewN _)).mono (T := fun j => j = F ∨ T j) (fun _ _ h => .inl h)); have B4 := Lib.hid (B4.out.trans y (fun _ _ h => .inr h)); have QQ := Lib.hid q4))
  clear KT
  obtain ⟨c1, c2, c3, c4, c5, c6, c7, c8, c9, c10, c11, c12, c13, d0, d1, d2, d3, d4⟩ := fq_all F4.out Q4.out
  go_wp2_with fail
  refine (MK _).out.mono ?_
  rintro e _ ⟨rfl, rfl⟩
  cases mb with
  | true =>
    go_wp2_with fail
    refine (restart_any F t key _ _ F4.out).mono ?_
    rintro e w5 ⟨rfl, f5, b5⟩
    go_wp2
    refine bodyPost_ret (v := .tuple #[]) (by simp [results, Try.results87, go_sem]) rfl ?_
    exact ⟨rfl, f5, HQ.out _ _ QQ.out b5, B4.out.trans b5 (fun _ _ h => .inl h)⟩
  | false =>
    have FC := fun W k => Lib.hid (facing_any F t q v v0 v1 W (F4.out.tf.but (k : But (fun j => False) x4 W) id))
    have lz := lt_of_cell d0
    have lzF := lt_of_cell c1
    have HF := F4.out.fz
    have s0 := F4.out.ps.p0 l hl
    have s1 := F4.out.ps.p1 l hl
    have s2 := F4.out.ps.p2 l hl
    have s3 := F4.out.ps.p3 l hl
    have s4 := F4.out.ps.p4 l hl
    have KT : Kept x4 x4 := Kept.refl _
    go_wp2_with fail
    go_region_held3 (fun w' => w'.cell? ⟨b, 0, none⟩ = some (.int .i64 q.p) ∧ w'.cell? ⟨b, 1, none⟩ = some (.int .u64 q.k) ∧ w'.cell? ⟨b, 2, none⟩ = some (.int .u64 q.c) ∧ w'.cell? ⟨b, 3, none⟩ = some (.int .u64 q.v) ∧ w'.cell? ⟨b, 4, none⟩ = some (.int .i64 q.x)) (first | (with_reducible exact q5_all (Q4.out.kept KT)) | (with_reducible exact q5_all (Q4.out.kept KT.drew)) | exact q5_all ((Q4.out.kept KT).but (st5_but _ F _ _) (by omega))) (first | (go_at_call 118; (with_reducible refine Calls.mono (FC _ (by first | with_reducible exact (Kept.refl _).but _ | with_reducible exact (Kept.refl _).drew.but _ | with_reducible exact ((Kept.refl _).drewN _).but _)).out ?_); rintro e x5 ⟨rfl, y⟩; have KT : Kept x4 x5 := Kept.trans (b := _) (by first | with_reducible exact Kept.refl _ | with_reducible exact (Kept.refl _).drew | with_reducible exact (Kept.refl _).drewN _) y; have HF := (F4.out.kept KT).fz; have s0 := KT.some s0; have s1 := KT.some s1; have s2 := KT.some s2; have s3 := KT.some s3; have s4 := KT.some s4; clear y))
    go_end0
    exact ⟨rfl, (F4.out.kept KT).put hl _, HQ.out _ _ QQ.out ((KT.but _).trans (st5_but _ F _ _) (fun _ _ h => h)), (B4.out.then KT).trans (st5_but _ F _ _) (fun _ _ h => .inl h)⟩
theorem PosAt.putV {w : World} {F : Nat} {f : Nat → Pos} (h : PosAt w F f) {l : Nat} (hl : l < 4) (u : Int) : PosAt (w.setCell ⟨F, 15 + l * 5 + 3, none⟩ (.int .u64 u)) F (upd f l ⟨(f l).p, (f l).k, (f l).c, u, (f l).x⟩) := by
  refine ⟨?_, ?_, ?_, ?_, ?_⟩
  · intro k hk
    by_cases hn : k = l
    · subst hn
      rw [upd_same]
      exact set_out (by omega) _ (h.p0 k hk)
    · rw [upd_other _ _ hn]
      exact set_out (by omega) _ (h.p0 k hk)
  · intro k hk
    by_cases hn : k = l
    · subst hn
      rw [upd_same]
      exact set_out (by omega) _ (h.p1 k hk)
    · rw [upd_other _ _ hn]
      exact set_out (by omega) _ (h.p1 k hk)
  · intro k hk
    by_cases hn : k = l
    · subst hn
      rw [upd_same]
      exact set_out (by omega) _ (h.p2 k hk)
    · rw [upd_other _ _ hn]
      exact set_out (by omega) _ (h.p2 k hk)
  · intro k hk
    by_cases hn : k = l
    · subst hn
      rw [upd_same]
      rw [cell_set, if_pos rfl, h.p3 k hk]; rfl
    · rw [upd_other _ _ hn]
      exact set_out (by omega) _ (h.p3 k hk)
  · intro k hk
    by_cases hn : k = l
    · subst hn
      rw [upd_same]
      exact set_out (by omega) _ (h.p4 k hk)
    · rw [upd_other _ _ hn]
      exact set_out (by omega) _ (h.p4 k hk)
theorem FdAt.putV {w : World} {F : Nat} {t : Twr} {key : Int} {o : FOp} (h : FdAt w F t key o) {l : Nat} (hl : l < 4) (u : Int) : FdAt (w.setCell ⟨F, 15 + l * 5 + 3, none⟩ (.int .u64 u)) F t key ⟨upd o.pos l ⟨(o.pos l).p, (o.pos l).k, (o.pos l).c, u, (o.pos l).x⟩, o.r, o.er⟩ :=
  ⟨set_out (by omega) _ h.md, ⟨set_out (by omega) _ h.tf.t0, set_out (by omega) _ h.tf.t1, set_out (by omega) _ h.tf.t2, set_out (by omega) _ h.tf.t3, set_out (by omega) _ h.tf.t4, set_out (by omega) _ h.tf.t5, set_out (by omega) _ h.tf.t6, set_out (by omega) _ h.tf.t7, set_out (by omega) _ h.tf.t8, set_out (by omega) _ h.tf.t9, set_out (by omega) _ h.tf.t10, set_out (by omega) _ h.tf.t11, set_out (by omega) _ h.tf.t12⟩, set_out (by omega) _ h.ky, h.ps.putV hl u, set_out (by omega) _ h.by_, set_out (by omega) _ h.er, fun i => by simp [h.fz]⟩
theorem PosAt.putX {w : World} {F : Nat} {f : Nat → Pos} (h : PosAt w F f) {l : Nat} (hl : l < 4) (u : Int) : PosAt (w.setCell ⟨F, 15 + l * 5 + 4, none⟩ (.int .i64 u)) F (upd f l ⟨(f l).p, (f l).k, (f l).c, (f l).v, u⟩) := by
  refine ⟨?_, ?_, ?_, ?_, ?_⟩
  · intro k hk
    by_cases hn : k = l
    · subst hn
      rw [upd_same]
      exact set_out (by omega) _ (h.p0 k hk)
    · rw [upd_other _ _ hn]
      exact set_out (by omega) _ (h.p0 k hk)
  · intro k hk
    by_cases hn : k = l
    · subst hn
      rw [upd_same]
      exact set_out (by omega) _ (h.p1 k hk)
    · rw [upd_other _ _ hn]
      exact set_out (by omega) _ (h.p1 k hk)
  · intro k hk
    by_cases hn : k = l
    · subst hn
      rw [upd_same]
      exact set_out (by omega) _ (h.p2 k hk)
    · rw [upd_other _ _ hn]
      exact set_out (by omega) _ (h.p2 k hk)
  · intro k hk
    by_cases hn : k = l
    · subst hn
      rw [upd_same]
      exact set_out (by omega) _ (h.p3 k hk)
    · rw [upd_other _ _ hn]
      exact set_out (by omega) _ (h.p3 k hk)
  · intro k hk
    by_cases hn : k = l
    · subst hn
      rw [upd_same]
      rw [cell_set, if_pos rfl, h.p4 k hk]; rfl
    · rw [upd_other _ _ hn]
      exact set_out (by omega) _ (h.p4 k hk)
theorem FdAt.putX {w : World} {F : Nat} {t : Twr} {key : Int} {o : FOp} (h : FdAt w F t key o) {l : Nat} (hl : l < 4) (u : Int) : FdAt (w.setCell ⟨F, 15 + l * 5 + 4, none⟩ (.int .i64 u)) F t key ⟨upd o.pos l ⟨(o.pos l).p, (o.pos l).k, (o.pos l).c, (o.pos l).v, u⟩, o.r, o.er⟩ :=
  ⟨set_out (by omega) _ h.md, ⟨set_out (by omega) _ h.tf.t0, set_out (by omega) _ h.tf.t1, set_out (by omega) _ h.tf.t2, set_out (by omega) _ h.tf.t3, set_out (by omega) _ h.tf.t4, set_out (by omega) _ h.tf.t5, set_out (by omega) _ h.tf.t6, set_out (by omega) _ h.tf.t7, set_out (by omega) _ h.tf.t8, set_out (by omega) _ h.tf.t9, set_out (by omega) _ h.tf.t10, set_out (by omega) _ h.tf.t11, set_out (by omega) _ h.tf.t12⟩, set_out (by omega) _ h.ky, h.ps.putX hl u, set_out (by omega) _ h.by_, set_out (by omega) _ h.er, fun i => by simp [h.fz]⟩
theorem fl_all {w : World} {F : Nat} {t : Twr} {key c : Int} {o : FOp} {l : Nat} (h : FdAt w F t key o) (hl : l < 4) (hc : (o.pos l).c = c) : w.cell? ⟨F, 1, none⟩ = some (.int .i64 t.D) ∧ w.cell? ⟨F, 2, none⟩ = some (.int .i64 t.H) ∧ w.cell? ⟨F, 3, none⟩ = some (.int .i64 t.G) ∧ w.cell? ⟨F, 4, none⟩ = some (.int .i64 t.A.F.T) ∧ w.cell? ⟨F, 5, none⟩ = some (.int .i64 t.A.F.K) ∧ w.cell? ⟨F, 6, none⟩ = some (.int .i64 t.A.F.N) ∧ w.cell? ⟨F, 7, none⟩ = some (.int .i64 t.A.G) ∧ w.cell? ⟨F, 8, none⟩ = some (.int .i64 t.A.V) ∧ w.cell? ⟨F, 9, none⟩ = some (.int .i64 t.A.L) ∧ w.cell? ⟨F, 10, none⟩ = some (.int .i64 t.E.T) ∧ w.cell? ⟨F, 11, none⟩ = some (.int .i64 t.E.K) ∧ w.cell? ⟨F, 12, none⟩ = some (.int .i64 t.E.N) ∧ w.cell? ⟨F, 13, none⟩ = some (.int .i64 t.P) ∧ w.cell? ⟨F, 15 + l * 5 + 2, none⟩ = some (.int .u64 c) :=
  ⟨h.tf.t0, h.tf.t1, h.tf.t2, h.tf.t3, h.tf.t4, h.tf.t5, h.tf.t6, h.tf.t7, h.tf.t8, h.tf.t9, h.tf.t10, h.tf.t11, h.tf.t12, by rw [← hc]; exact h.ps.p2 l hl⟩
end Go.Proofs.Ytejiogggocnldaa.Fd

namespace Go.Proofs.Ytejiogggocnldaa.Fd
set_option maxRecDepth 20000
open Go.RowKit
open Wo (St acc wordAt PMem RefIs)
open Sk (Stk Arn idx Wd)
open Tw (Twr TB towV atI nextI next_any at_any I64 nextI_lo nextI_hi)

set_option maxHeartbeats 4000000 in
theorem flook_any (F : Nat) (t : Twr) (key : Int) (o : FOp) (l : Nat) (hl : l < 4) (hlG : (l : Int) < t.G) (hc0 : 0 ≤ (o.pos l).c) (hc1 : (o.pos l).c < 18446744073709551616) (mv : Value) (v : Int) (T : Nat → Prop) (hT : ¬ T F) (Q : World → Prop) (hQ : ∀ W W', Q W → But (fun j => j = F) W W' → Q W') (w : World) (h : FdAt w F t key o)
    (hL : ∀ W, But (fun j => j = F) w W → Calls Try.prog 33 #[mv, .int .i64 (nextI t (idx t.A.F.N (o.pos l).c) l)] W fun e w' => e = .returned (.int .u64 v) ∧ Q w' ∧ But T W w') :
    Calls Try.prog 88 #[.pointer (some ⟨F, 0, none⟩), .int .i64 l, mv] w fun e w' => e = .returned (.tuple #[]) ∧ FdAt w' F t key ⟨upd o.pos l ⟨(o.pos l).p, (o.pos l).k, (o.pos l).c, v, if markB v then 2 else 3⟩, (o.pos l).c, o.er⟩ ∧ Q w' ∧ But (fun j => j = F ∨ T j) w w' := by
  obtain ⟨mb, hmb⟩ : ∃ mb, mb = markB v := ⟨_, rfl⟩
  have MK := fun W => Lib.hid (show Calls Try.prog 116 #[.int .u64 v] W fun e w' => e = .returned (.bool mb) ∧ W = w' from by rw [hmb]; exact fmark_any v W)
  rw [← hmb]
  obtain ⟨c, hc⟩ : ∃ c, c = (o.pos l).c := ⟨_, rfl⟩
  rw [← hc] at hc0 hc1 hL
  obtain ⟨i, hi⟩ : ∃ i, i = idx t.A.F.N c := ⟨_, rfl⟩
  rw [← hi] at hL
  obtain ⟨qp, hp⟩ : ∃ q, q = (o.pos l).p := ⟨_, rfl⟩
  obtain ⟨qk, hk⟩ : ∃ q, q = (o.pos l).k := ⟨_, rfl⟩
  rw [← hc, ← hp, ← hk]
  have RD := fun W => Lib.hid (show Calls Try.prog 119 #[towV t, .int .u64 c] W fun e w' => e = .returned (.int .i64 i) ∧ Kept W w' from by rw [hi]; exact fread_any t c hc0 hc1 W)
  have NX := fun W => Lib.hid (next_any t i l (by unfold I64; omega) W)
  have l0 : (0 : Int) ≤ (l : Int) := by omega
  have l4 : (l : Int) < 4 := by omega
  have H := Lib.hid h
  have HF := h.fz
  have lF := h.lt
  have cb := h.by_
  have s2 := h.ps.p2 l hl
  rw [← hc] at s2
  have HL := Lib.hid hL
  have HQ := Lib.hid hQ
  have HC := Lib.hid (And.intro hc (And.intro hp hk))
  clear h hL hQ hmb hc hi hc0 hc1 hp hk hlG
  go_enter Try.func88, Try.ntmps88
  go_wp2_with fail
  obtain ⟨W2, hW2⟩ : ∃ W2, W2 = w.setCell ⟨F, 35, none⟩ (.int .u64 c) := ⟨_, rfl⟩
  have B2 : Hid (But (fun j => j = F) w W2) := Lib.hid (by rw [hW2]; exact (But.refl _ _).here _ _)
  have F2 : Hid (FdAt W2 F t key ⟨o.pos, c, o.er⟩) := Lib.hid (by rw [hW2]; exact H.out.putBy c)
  rw [← hW2]
  clear hW2 cb HF s2 lF H
  obtain ⟨c1, c2, c3, c4, c5, c6, c7, c8, c9, c10, c11, c12, c13, s2⟩ := fl_all F2.out hl HC.out.1.symm
  have lF := F2.out.lt
  have KT : Kept W2 W2 := Kept.refl _
  go_region_held3 (fun w' => w'.cell? ⟨F, 1, none⟩ = some (.int .i64 t.D) ∧ w'.cell? ⟨F, 2, none⟩ = some (.int .i64 t.H) ∧ w'.cell? ⟨F, 3, none⟩ = some (.int .i64 t.G) ∧ w'.cell? ⟨F, 4, none⟩ = some (.int .i64 t.A.F.T) ∧ w'.cell? ⟨F, 5, none⟩ = some (.int .i64 t.A.F.K) ∧ w'.cell? ⟨F, 6, none⟩ = some (.int .i64 t.A.F.N) ∧ w'.cell? ⟨F, 7, none⟩ = some (.int .i64 t.A.G) ∧ w'.cell? ⟨F, 8, none⟩ = some (.int .i64 t.A.V) ∧ w'.cell? ⟨F, 9, none⟩ = some (.int .i64 t.A.L) ∧ w'.cell? ⟨F, 10, none⟩ = some (.int .i64 t.E.T) ∧ w'.cell? ⟨F, 11, none⟩ = some (.int .i64 t.E.K) ∧ w'.cell? ⟨F, 12, none⟩ = some (.int .i64 t.E.N) ∧ w'.cell? ⟨F, 13, none⟩ = some (.int .i64 t.P) ∧ w'.cell? ⟨F, 15 + l * 5 + 2, none⟩ = some (.int .u64 c)) (first | (with_reducible exact fl_all (F2.out.kept KT) hl HC.out.1.symm) | (with_reducible exact fl_all (F2.out.kept KT.drew) hl HC.out.1.symm) | (with_reducible exact fl_all F4.out hl HC.out.1.symm) | exact fl_all (F4.out.putV hl v) hl (by dsimp only; rw [upd_same]; exact HC.out.1.symm) | exact fl_all ((F4.out.putV hl v).putX hl 3) hl (by dsimp only; rw [upd_same]; dsimp only; rw [upd_same]; exact HC.out.1.symm)) (first
    | (go_at_call 119; (with_reducible refine Calls.mono (RD _).out ?_); rintro e x3 ⟨rfl, y⟩; have KT : Kept W2 x3 := Kept.trans (b := _) (by first | with_reducible exact KT | with_reducible exact KT.drew | with_reducible exact KT.drewN _) y; clear y)
    | (go_at_call 92; (with_reducible refine Calls.mono (NX _).out ?_); rintro e x3 ⟨rfl, y⟩; have KT : Kept W2 x3 := Kept.trans (b := _) (by first | with_reducible exact KT | with_reducible exact KT.drew | with_reducible exact KT.drewN _) y; clear y)
    | (go_at_call 33; (with_reducible refine Calls.mono (HL.out _ (B2.out.then (by first | with_reducible exact KT | with_reducible exact KT.drew | with_reducible exact KT.drewN _))) ?_); rintro e x4 ⟨rfl, q4, y⟩; have F4 := Lib.hid ((F2.out.kept (by first | with_reducible exact KT | with_reducible exact KT.drew | with_reducible exact KT.drewN _)).but y hT); have B4 := Lib.hid ((B2.out.then (by first | with_reducible exact KT | with_reducible exact KT.drew | with_reducible exact KT.drewN _)).mono (T := fun j => j = F ∨ T j) (fun _ _ h => .inl h)); have B4 := Lib.hid (B4.out.trans y (fun _ _ h => .inr h)); have QQ := Lib.hid q4; have HF := F4.out.fz; have s3 := F4.out.ps.p3 l hl; have s4 := F4.out.ps.p4 l hl; have lF4 := F4.out.lt))
  obtain ⟨W5, hW5⟩ : ∃ W5, W5 = (x4.setCell ⟨F, 15 + l * 5 + 3, none⟩ (.int .u64 v)).setCell ⟨F, 15 + l * 5 + 4, none⟩ (.int .i64 3) := ⟨_, rfl⟩
  have b5 : But (fun j => j = F) x4 W5 := by rw [hW5]; exact ((But.refl _ _).here _ _).here _ _
  have F5 : Hid (FdAt W5 F t key ⟨upd o.pos l ⟨qp, qk, c, v, 3⟩, c, o.er⟩) := Lib.hid (by
    rw [hW5]
    refine ((F4.out.putV hl v).putX hl 3).like (fun k _ => ?_) rfl rfl
    dsimp only
    by_cases hn : k = l
    · subst hn
      rw [upd_same, upd_same, upd_same, HC.out.1, HC.out.2.1, HC.out.2.2]
    · rw [upd_other _ _ hn, upd_other _ _ hn, upd_other _ _ hn])
  have B5 := Lib.hid (B4.out.trans b5 (fun _ _ h => .inl h))
  have QQ := Lib.hid (HQ.out _ _ QQ.out b5)
  rw [← hW5]
  clear hW5 b5 s3 s4 HF lF4 KT
  have s3 := F5.out.ps.p3 l hl
  have s4 := F5.out.ps.p4 l hl
  dsimp only at s3 s4
  rw [upd_same] at s3 s4
  dsimp only at s3 s4
  have HF := F5.out.fz
  go_wp2_with fail
  refine (MK _).out.mono ?_
  rintro e _ ⟨rfl, rfl⟩
  cases mb with
  | true =>
    go_wp2
    go_end0
    refine ⟨rfl, ?_, HQ.out _ _ QQ.out ((But.refl _ _).here _ _), B5.out.trans ((But.refl _ _).here _ _) (fun _ _ h => .inl h)⟩
    refine (F5.out.putX hl 2).like (fun k _ => ?_) rfl rfl
    dsimp only
    by_cases hn : k = l
    · subst hn
      rw [upd_same, upd_same, upd_same]
    · rw [upd_other _ _ hn, upd_other _ _ hn, upd_other _ _ hn]
  | false =>
    go_wp2
    go_end0
    exact ⟨rfl, F5.out, QQ.out, B5.out⟩
end Go.Proofs.Ytejiogggocnldaa.Fd

namespace Go.Proofs.Ytejiogggocnldaa.Fd
set_option maxRecDepth 20000
open Go.RowKit
open Wo (St acc wordAt PMem RefIs)
open Sk (Stk Arn idx Wd)
open Tw (Twr TB towV atI nextI next_any at_any I64 nextI_lo nextI_hi)

set_option maxHeartbeats 4000000 in
theorem cut_any (F : Nat) (t : Twr) (key : Int) (o : FOp) (l : Nat) (hl : l < 4) (q : Pos) (hq : o.pos l = q) (hv0 : 0 ≤ q.v) (hv1 : q.v < 18446744073709551616) (mv : Value) (held : Bool) (T : Nat → Prop) (hT : ¬ T F) (Q : World → Prop) (hQ : ∀ W W', Q W → But (fun j => j = F) W W' → Q W') (w : World) (hTn : ∀ j, w.heap.size ≤ j → ¬ T j) (h : FdAt w F t key o)
    (hL : ∀ W, But (fun j => j = F) w W → Calls Try.prog 121 #[mv, .int .i64 (nextI t q.p l), .int .u64 q.c, .int .u64 (unmark q.v)] W fun e w' => e = .returned (.bool held) ∧ Q w' ∧ But T W w') :
    Calls Try.prog 89 #[.pointer (some ⟨F, 0, none⟩), .int .i64 l, mv] w fun e w' => e = .returned (.tuple #[]) ∧ FdAt w' F t key ⟨if held then upd o.pos l (faced t.A.F.N q (unmark q.v)) else fun _ => Pos.zero, q.k, o.er⟩ ∧ Q w' ∧ But (fun j => j = F ∨ T j) w w' := by
  have UM := fun W => Lib.hid (funmark_any q.v hv0 hv1 W)
  obtain ⟨v, hv⟩ : ∃ v, v = unmark q.v := ⟨_, rfl⟩
  have v0 : 0 ≤ v := by rw [hv]; unfold unmark; omega
  have v1 : v < 18446744073709551616 := by rw [hv]; unfold unmark; omega
  rw [← hv] at hL UM ⊢
  have NX := fun W => Lib.hid (next_any t q.p l (by unfold I64; omega) W)
  have l0 : (0 : Int) ≤ (l : Int) := by omega
  have l4 : (l : Int) < 4 := by omega
  have H := Lib.hid h
  have HF := h.fz
  have lF := h.lt
  have cb := h.by_
  have s0 := h.ps.p0 l hl
  have s1 := h.ps.p1 l hl
  have s2 := h.ps.p2 l hl
  have s3 := h.ps.p3 l hl
  have s4 := h.ps.p4 l hl
  rw [hq] at s0 s1 s2 s3 s4
  have HL := Lib.hid hL
  have HQ := Lib.hid hQ
  clear h hL hQ hq hv0 hv1 hv
  go_enter Try.func89, Try.ntmps89
  go_wp2_with fail
  obtain ⟨b, hb⟩ : ∃ b, b = w.heap.size := ⟨_, rfl⟩
  obtain ⟨W2, hW2⟩ : ∃ W2, W2 = ((w.setCell ⟨F, 35, none⟩ (.int .u64 q.k)).alloc (.cells #[.int .i64 q.p, .int .u64 q.k, .int .u64 q.c, .int .u64 q.v, .int .i64 q.x] 58)) := ⟨_, rfl⟩
  have bF : But (fun j => j = F) w (w.setCell ⟨F, 35, none⟩ (.int .u64 q.k)) := (But.refl _ _).here _ _
  have B2 : Hid (But (fun j => j = F) w W2) := Lib.hid (by rw [hW2]; exact bF.alloc _ _)
  have F2 : Hid (FdAt W2 F t key ⟨o.pos, q.k, o.er⟩) := Lib.hid (by rw [hW2]; exact (H.out.putBy q.k).kept ((Kept.refl _).alloc _ _))
  have Q2 : Hid (Q5 W2 b q) := Lib.hid (by rw [hW2]; exact Q5.new _ _ _ (by rw [hb]; simp) q)
  have lb : F < b := by omega
  have hz : b < W2.heap.size := lt_of_cell Q2.out.c0
  rw [← hW2, ← hb]
  have HB := Lib.hid hb
  clear hW2 hb bF cb s0 s1 s2 s3 s4 HF H
  obtain ⟨d0, d1, d2, d3, d4⟩ := q5_all Q2.out
  refine (UM _).out.mono ?_
  rintro e _ ⟨rfl, rfl⟩
  obtain ⟨c1, c2, c3, c4, c5, c6, c7, c8, c9, c10, c11, c12, c13⟩ := fd_cells F2.out
  have KT : Kept W2 W2 := Kept.refl _
  go_wp2_with fail
  go_region_held3 (fun w' => w'.cell? ⟨F, 1, none⟩ = some (.int .i64 t.D) ∧ w'.cell? ⟨F, 2, none⟩ = some (.int .i64 t.H) ∧ w'.cell? ⟨F, 3, none⟩ = some (.int .i64 t.G) ∧ w'.cell? ⟨F, 4, none⟩ = some (.int .i64 t.A.F.T) ∧ w'.cell? ⟨F, 5, none⟩ = some (.int .i64 t.A.F.K) ∧ w'.cell? ⟨F, 6, none⟩ = some (.int .i64 t.A.F.N) ∧ w'.cell? ⟨F, 7, none⟩ = some (.int .i64 t.A.G) ∧ w'.cell? ⟨F, 8, none⟩ = some (.int .i64 t.A.V) ∧ w'.cell? ⟨F, 9, none⟩ = some (.int .i64 t.A.L) ∧ w'.cell? ⟨F, 10, none⟩ = some (.int .i64 t.E.T) ∧ w'.cell? ⟨F, 11, none⟩ = some (.int .i64 t.E.K) ∧ w'.cell? ⟨F, 12, none⟩ = some (.int .i64 t.E.N) ∧ w'.cell? ⟨F, 13, none⟩ = some (.int .i64 t.P) ∧ w'.cell? ⟨b, 0, none⟩ = some (.int .i64 q.p) ∧ w'.cell? ⟨b, 1, none⟩ = some (.int .u64 q.k) ∧ w'.cell? ⟨b, 2, none⟩ = some (.int .u64 q.c) ∧ w'.cell? ⟨b, 3, none⟩ = some (.int .u64 q.v) ∧ w'.cell? ⟨b, 4, none⟩ = some (.int .i64 q.x)) (first | (with_reducible exact fq_all (F2.out.kept KT) (Q2.out.kept KT)) | (with_reducible exact fq_all (F2.out.kept KT.drew) (Q2.out.kept KT.drew)) | (with_reducible exact fq_all F4.out Q4.out)) (first | (go_at_call 92; (with_reducible refine Calls.mono (NX _).out ?_); rintro e x3 ⟨rfl, y⟩; have KT : Kept W2 x3 := Kept.trans (b := _) (by first | with_reducible exact KT | with_reducible exact KT.drew | with_reducible exact KT.drewN _) y; clear y) | (go_at_call 121; (with_reducible refine Calls.mono (HL.out _ (B2.out.then (by first | with_reducible exact KT | with_reducible exact KT.drew | with_reducible exact KT.drewN _))) ?_); rintro e x4 ⟨rfl, q4, y⟩; have F4 := Lib.hid ((F2.out.kept (by first | with_reducible exact KT | with_reducible exact KT.drew | with_reducible exact KT.drewN _)).but y hT); have Q4 := Lib.hid ((Q2.out.kept (by first | with_reducible exact KT | with_reducible exact KT.drew | with_reducible exact KT.drewN _)).but y (hTn _ (by have := HB.out; omega))); have B4 := Lib.hid ((B2.out.then (by first | with_reducible exact KT | with_reducible exact KT.drew | with_reducible exact KT.drewN _)).mono (T := fun j => j = F ∨ T j) (fun _ _ h => .inl h)); have B4 := Lib.hid (B4.out.trans y (fun _ _ h => .inr h)); have QQ := Lib.hid q4))
  clear KT
  obtain ⟨d0, d1, d2, d3, d4⟩ := q5_all Q4.out
  cases held with
  | false =>
    go_wp2_with fail
    refine (restart_any F t key _ _ F4.out).mono ?_
    rintro e w5 ⟨rfl, f5, b5⟩
    go_wp2
    refine bodyPost_ret (v := .tuple #[]) (by simp [results, Try.results89, go_sem]) rfl ?_
    exact ⟨rfl, f5, HQ.out _ _ QQ.out b5, B4.out.trans b5 (fun _ _ h => .inl h)⟩
  | true =>
    have FC := fun W k => Lib.hid (facing_any F t q v v0 v1 W (F4.out.tf.but (k : But (fun j => False) x4 W) id))
    have lz := lt_of_cell d0
    have lzF := F4.out.lt
    have HF := F4.out.fz
    have s0 := F4.out.ps.p0 l hl
    have s1 := F4.out.ps.p1 l hl
    have s2 := F4.out.ps.p2 l hl
    have s3 := F4.out.ps.p3 l hl
    have s4 := F4.out.ps.p4 l hl
    have KT : Kept x4 x4 := Kept.refl _
    go_wp2_with fail
    go_region_held3 (fun w' => w'.cell? ⟨b, 0, none⟩ = some (.int .i64 q.p) ∧ w'.cell? ⟨b, 1, none⟩ = some (.int .u64 q.k) ∧ w'.cell? ⟨b, 2, none⟩ = some (.int .u64 q.c) ∧ w'.cell? ⟨b, 3, none⟩ = some (.int .u64 q.v) ∧ w'.cell? ⟨b, 4, none⟩ = some (.int .i64 q.x)) (first | (with_reducible exact q5_all (Q4.out.kept KT)) | (with_reducible exact q5_all (Q4.out.kept KT.drew)) | exact q5_all ((Q4.out.kept KT).but (st5_but _ F _ _) (by omega))) (first | (go_at_call 118; (with_reducible refine Calls.mono (FC _ (by first | with_reducible exact (Kept.refl _).but _ | with_reducible exact (Kept.refl _).drew.but _ | with_reducible exact ((Kept.refl _).drewN _).but _)).out ?_); rintro e x5 ⟨rfl, y⟩; have KT : Kept x4 x5 := Kept.trans (b := _) (by first | with_reducible exact Kept.refl _ | with_reducible exact (Kept.refl _).drew | with_reducible exact (Kept.refl _).drewN _) y; have HF := (F4.out.kept KT).fz; have s0 := KT.some s0; have s1 := KT.some s1; have s2 := KT.some s2; have s3 := KT.some s3; have s4 := KT.some s4; clear y))
    go_end0
    exact ⟨rfl, (F4.out.kept KT).put hl _, HQ.out _ _ QQ.out ((KT.but _).trans (st5_but _ F _ _) (fun _ _ h => h)), (B4.out.then KT).trans (st5_but _ F _ _) (fun _ _ h => .inl h)⟩
end Go.Proofs.Ytejiogggocnldaa.Fd
