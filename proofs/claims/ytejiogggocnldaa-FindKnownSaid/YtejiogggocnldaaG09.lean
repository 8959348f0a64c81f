/- A Find, the program's: facing, restart, ended, NewFind, what it tells of its end. Written by gen16b.py. -/
import Derived.Test.YtejiogggocnldaaG08
import Derived.Deep.MidRow
import Derived.Laws.IdiomCopy
set_option linter.unusedVariables false
set_option linter.unusedSimpArgs false

namespace Go.Proofs.Ytejiogggocnldaa.Fd
set_option maxRecDepth 20000
open Go.RowKit
open Wo (St acc wordAt PMem RefIs)
open Sk (Stk Arn idx Wd)
open Tw (Twr TB towV atI nextI I64 nextI_lo nextI_hi)

structure Q5 (w : World) (b : Nat) (q : Pos) : Prop where
  c0 : w.cell? ⟨b, 0, none⟩ = some (.int .i64 q.p)
  c1 : w.cell? ⟨b, 1, none⟩ = some (.int .u64 q.k)
  c2 : w.cell? ⟨b, 2, none⟩ = some (.int .u64 q.c)
  c3 : w.cell? ⟨b, 3, none⟩ = some (.int .u64 q.v)
  c4 : w.cell? ⟨b, 4, none⟩ = some (.int .i64 q.x)
  f : ∀ i, w.frozen? ⟨b, i, none⟩ = false
theorem Q5.but {w w' : World} {b : Nat} {q : Pos} (h : Q5 w b q) {T : Nat → Prop} (k : But T w w') (hT : ¬ T b) : Q5 w' b q :=
  ⟨k.some h.c0 hT, k.some h.c1 hT, k.some h.c2 hT, k.some h.c3 hT, k.some h.c4 hT, fun i => k.soft (lt_of_cell h.c0) (h.f i)⟩
theorem Q5.kept {w w' : World} {b : Nat} {q : Pos} (h : Q5 w b q) (k : Kept w w') : Q5 w' b q := h.but (k.but (fun _ => False)) id
theorem Q5.new (w : World) (b : Nat) (ty : TypeId) (hb : b = w.heap.size) (q : Pos) : Q5 (w.alloc (.cells #[.int .i64 q.p, .int .u64 q.k, .int .u64 q.c, .int .u64 q.v, .int .i64 q.x] ty)) b q :=
  ⟨cell_new _ _ _ _ 0 hb, cell_new _ _ _ _ 1 hb, cell_new _ _ _ _ 2 hb, cell_new _ _ _ _ 3 hb, cell_new _ _ _ _ 4 hb, fun i => by subst hb; simp⟩
theorem Q5.put2 {w : World} {b : Nat} {q : Pos} (h : Q5 w b q) (X : Int) : Q5 (w.setCell ⟨b, 2, none⟩ (.int .u64 X)) b ⟨q.p, q.k, X, q.v, q.x⟩ :=
  ⟨by simp [cell_set, h.c0], by simp [cell_set, h.c1], by simp [cell_set, h.c2], by simp [cell_set, h.c3], by simp [cell_set, h.c4], fun i => by simp [h.f]⟩
theorem Q5.put4 {w : World} {b : Nat} {q : Pos} (h : Q5 w b q) (X : Int) : Q5 (w.setCell ⟨b, 4, none⟩ (.int .i64 X)) b ⟨q.p, q.k, q.c, q.v, X⟩ :=
  ⟨by simp [cell_set, h.c0], by simp [cell_set, h.c1], by simp [cell_set, h.c2], by simp [cell_set, h.c3], by simp [cell_set, h.c4], fun i => by simp [h.f]⟩
theorem fac_facts {w x : World} {ty tz : TypeId} {q : Pos} {X : Int} (y : Kept ((w.alloc (.cells #[.int .i64 q.p, .int .u64 q.k, .int .u64 X, .int .u64 q.v, .int .i64 1] ty)).alloc (.cells #[.int .i64 0, .int .u64 0, .int .u64 0, .int .u64 0, .int .i64 0] tz)) x) :
    Q5 x w.heap.size ⟨q.p, q.k, X, q.v, 1⟩ ∧ Q5 x (w.heap.size + 1) Pos.zero ∧ Kept w x := by
  have q0 := Q5.new w _ ty rfl ⟨q.p, q.k, X, q.v, 1⟩
  have k0 : Kept (w.alloc (.cells #[.int .i64 q.p, .int .u64 q.k, .int .u64 X, .int .u64 q.v, .int .i64 1] ty)) ((w.alloc (.cells #[.int .i64 q.p, .int .u64 q.k, .int .u64 X, .int .u64 q.v, .int .i64 1] ty)).alloc (.cells #[.int .i64 0, .int .u64 0, .int .u64 0, .int .u64 0, .int .i64 0] tz)) := (Kept.refl _).alloc _ _
  have q1 := Q5.new (w.alloc (.cells #[.int .i64 q.p, .int .u64 q.k, .int .u64 X, .int .u64 q.v, .int .i64 1] ty)) (w.heap.size + 1) tz (by simp) Pos.zero
  exact ⟨(q0.kept k0).kept y, q1.kept y, (((Kept.refl _).alloc _ _).alloc _ _).trans y⟩

set_option maxHeartbeats 1000000 in
theorem facing_no (F : Nat) (t : Twr) (q : Pos) (x : Int) (h0 : 0 ≤ x) (h1 : x < 18446744073709551616) (hi : idx t.A.F.N x = -1) (w : World) (h : TF w F t) : Calls Try.prog 118 #[.pointer (some ⟨F, 0, none⟩), posV q, .int .u64 x] w fun e w' => e = .returned (posV ⟨q.p, q.k, x, q.v, 4⟩) ∧ Kept w w' := by
  have RD := fun W => Lib.hid (show Calls Try.prog 119 #[towV t, .int .u64 x] W fun e w' => e = .returned (.int .i64 (-1)) ∧ Kept W w' from by have := fread_any t x h0 h1 W; rwa [hi] at this)
  clear hi h0 h1
  have lF := lt_of_cell h.t0
  obtain ⟨c1, c2, c3, c4, c5, c6, c7, c8, c9, c10, c11, c12, c13⟩ := h
  go_enter Try.func118, Try.ntmps118
  go_wp2_with fail
  refine (RD _).out.mono ?_
  rintro e w1 ⟨rfl, k1⟩
  have FF := fac_facts (q := q) k1
  clear k1
  obtain ⟨⟨b0, b1, b2, b3, b4, bf⟩, ⟨z0, z1, z2, z3, z4, zf⟩, K1⟩ := FF
  clear c1 c2 c3 c4 c5 c6 c7 c8 c9 c10 c11 c12 c13
  dsimp only [Pos.zero] at z0 z1 z2 z3 z4
  go_wp2
  refine bodyPost_ret (v := posV ⟨q.p, q.k, x, q.v, 4⟩) (by simp [results, Try.results118, go_sem, cell_set, b0, b1, b2, b3, b4, z0, z1, z2, z3, z4]) rfl ⟨rfl, ?_⟩
  (go_light; repeat (first | (with_reducible exact Kept.refl _) | (with_reducible assumption) | (with_reducible refine Kept.alloc ?_ _ _) | (with_reducible refine Kept.drew ?_) | (with_reducible refine Kept.drewN ?_ _) | ((with_reducible refine Kept.setCell ?_ ?_ _); rotate_left; focus (first | (simp; done) | (simp; omega))) | refine Kept.trans ?_ (by assumption)))
set_option maxHeartbeats 1000000 in
theorem facing_yes (F : Nat) (t : Twr) (q : Pos) (x : Int) (h0 : 0 ≤ x) (h1 : x < 18446744073709551616) (hi : 0 ≤ idx t.A.F.N x) (w : World) (h : TF w F t) : Calls Try.prog 118 #[.pointer (some ⟨F, 0, none⟩), posV q, .int .u64 x] w fun e w' => e = .returned (posV ⟨q.p, q.k, x, q.v, 1⟩) ∧ Kept w w' := by
  obtain ⟨i, hj⟩ : ∃ i, i = idx t.A.F.N x := ⟨_, rfl⟩
  have RD := fun W => Lib.hid (show Calls Try.prog 119 #[towV t, .int .u64 x] W fun e w' => e = .returned (.int .i64 i) ∧ Kept W w' from by have := fread_any t x h0 h1 W; rwa [← hj] at this)
  rw [← hj] at hi
  clear hj h0 h1
  have lF := lt_of_cell h.t0
  obtain ⟨c1, c2, c3, c4, c5, c6, c7, c8, c9, c10, c11, c12, c13⟩ := h
  go_enter Try.func118, Try.ntmps118
  go_wp2_with fail
  refine (RD _).out.mono ?_
  rintro e w1 ⟨rfl, k1⟩
  have FF := fac_facts (q := q) k1
  clear k1
  obtain ⟨⟨b0, b1, b2, b3, b4, bf⟩, ⟨z0, z1, z2, z3, z4, zf⟩, K1⟩ := FF
  clear c1 c2 c3 c4 c5 c6 c7 c8 c9 c10 c11 c12 c13
  dsimp only [Pos.zero] at z0 z1 z2 z3 z4
  go_wp2
  refine bodyPost_ret (v := posV ⟨q.p, q.k, x, q.v, 1⟩) (by simp [results, Try.results118, go_sem, cell_set, b0, b1, b2, b3, b4, z0, z1, z2, z3, z4]) rfl ⟨rfl, ?_⟩
  (go_light; repeat (first | (with_reducible exact Kept.refl _) | (with_reducible assumption) | (with_reducible refine Kept.alloc ?_ _ _) | (with_reducible refine Kept.drew ?_) | (with_reducible refine Kept.drewN ?_ _) | ((with_reducible refine Kept.setCell ?_ ?_ _); rotate_left; focus (first | (simp; done) | (simp; omega))) | refine Kept.trans ?_ (by assumption)))
theorem idx_lo (N x : Int) (h : idx N x < 0) (h0 : 0 ≤ x) : idx N x = -1 := by
  unfold idx at h ⊢
  split at h <;> rename_i hh
  · rw [if_pos hh]; omega
  · rw [if_neg hh]
theorem facing_any (F : Nat) (t : Twr) (q : Pos) (x : Int) (h0 : 0 ≤ x) (h1 : x < 18446744073709551616) (w : World) (h : TF w F t) : Calls Try.prog 118 #[.pointer (some ⟨F, 0, none⟩), posV q, .int .u64 x] w fun e w' => e = .returned (posV (faced t.A.F.N q x)) ∧ Kept w w' := by
  unfold faced
  split
  · exact facing_no F t q x h0 h1 (idx_lo _ _ (by assumption) h0) w h
  · exact facing_yes F t q x h0 h1 (by omega) w h

def st5 (w : World) (F o : Nat) (q : Pos) : World := ((((w.setCell ⟨F, o, none⟩ (.int .i64 q.p)).setCell ⟨F, o + 1, none⟩ (.int .u64 q.k)).setCell ⟨F, o + 2, none⟩ (.int .u64 q.c)).setCell ⟨F, o + 3, none⟩ (.int .u64 q.v)).setCell ⟨F, o + 4, none⟩ (.int .i64 q.x)
theorem st5_but (w : World) (F o : Nat) (q : Pos) : But (fun j => j = F) w (st5 w F o q) := (((((But.refl _ _).here _ _).here _ _).here _ _).here _ _).here _ _
theorem st5_out (w : World) (F o : Nat) (q : Pos) {j : Nat} (h : j < o ∨ o + 5 ≤ j) : (st5 w F o q).cell? ⟨F, j, none⟩ = w.cell? ⟨F, j, none⟩ := by
  unfold st5
  rw [cell_set, if_neg (by omega), cell_set, if_neg (by omega), cell_set, if_neg (by omega), cell_set, if_neg (by omega), cell_set, if_neg (by omega)]
theorem st5_in (w : World) (F o : Nat) (q : Pos) {u0 u1 u2 u3 u4 : Value} (h0 : w.cell? ⟨F, o, none⟩ = some u0) (h1 : w.cell? ⟨F, o + 1, none⟩ = some u1) (h2 : w.cell? ⟨F, o + 2, none⟩ = some u2) (h3 : w.cell? ⟨F, o + 3, none⟩ = some u3) (h4 : w.cell? ⟨F, o + 4, none⟩ = some u4) :
    (st5 w F o q).cell? ⟨F, o, none⟩ = some (.int .i64 q.p) ∧ (st5 w F o q).cell? ⟨F, o + 1, none⟩ = some (.int .u64 q.k) ∧ (st5 w F o q).cell? ⟨F, o + 2, none⟩ = some (.int .u64 q.c) ∧ (st5 w F o q).cell? ⟨F, o + 3, none⟩ = some (.int .u64 q.v) ∧ (st5 w F o q).cell? ⟨F, o + 4, none⟩ = some (.int .i64 q.x) := by
  unfold st5
  refine ⟨?_, ?_, ?_, ?_, ?_⟩ <;> simp [cell_set, h0, h1, h2, h3, h4]
theorem FdAt.put {w : World} {F : Nat} {t : Twr} {key : Int} {o : FOp} (h : FdAt w F t key o) {l : Nat} (hl : l < 4) (q : Pos) : FdAt (st5 w F (15 + l * 5) q) F t key ⟨upd o.pos l q, o.r, o.er⟩ := by
  obtain ⟨c0, c1, c2, c3, c4⟩ := st5_in w F (15 + l * 5) q (h.ps.p0 l hl) (h.ps.p1 l hl) (h.ps.p2 l hl) (h.ps.p3 l hl) (h.ps.p4 l hl)
  have out : ∀ j, j < 15 ∨ 35 ≤ j → (st5 w F (15 + l * 5) q).cell? ⟨F, j, none⟩ = w.cell? ⟨F, j, none⟩ := fun j hj => st5_out w F _ q (by omega)
  refine ⟨(out 0 (by omega)).trans h.md, ⟨(out 1 (by omega)).trans h.tf.t0, (out 2 (by omega)).trans h.tf.t1, (out 3 (by omega)).trans h.tf.t2, (out 4 (by omega)).trans h.tf.t3, (out 5 (by omega)).trans h.tf.t4, (out 6 (by omega)).trans h.tf.t5, (out 7 (by omega)).trans h.tf.t6, (out 8 (by omega)).trans h.tf.t7, (out 9 (by omega)).trans h.tf.t8, (out 10 (by omega)).trans h.tf.t9, (out 11 (by omega)).trans h.tf.t10, (out 12 (by omega)).trans h.tf.t11, (out 13 (by omega)).trans h.tf.t12⟩, (out 14 (by omega)).trans h.ky, ⟨?_, ?_, ?_, ?_, ?_⟩, (out 35 (by omega)).trans h.by_, (out 36 (by omega)).trans h.er, fun i => (st5_but w F _ q).soft h.lt (h.fz i)⟩
  · intro k hk
    by_cases hn : k = l
    · subst hn
      dsimp only
      rw [upd_same]
      exact c0
    · dsimp only
      rw [upd_other _ _ hn]
      exact (st5_out w F (15 + l * 5) q (j := 15 + k * 5) (by omega)).trans (h.ps.p0 k hk)
  · intro k hk
    by_cases hn : k = l
    · subst hn
      dsimp only
      rw [upd_same]
      exact c1
    · dsimp only
      rw [upd_other _ _ hn]
      exact (st5_out w F (15 + l * 5) q (j := 15 + k * 5 + 1) (by omega)).trans (h.ps.p1 k hk)
  · intro k hk
    by_cases hn : k = l
    · subst hn
      dsimp only
      rw [upd_same]
      exact c2
    · dsimp only
      rw [upd_other _ _ hn]
      exact (st5_out w F (15 + l * 5) q (j := 15 + k * 5 + 2) (by omega)).trans (h.ps.p2 k hk)
  · intro k hk
    by_cases hn : k = l
    · subst hn
      dsimp only
      rw [upd_same]
      exact c3
    · dsimp only
      rw [upd_other _ _ hn]
      exact (st5_out w F (15 + l * 5) q (j := 15 + k * 5 + 3) (by omega)).trans (h.ps.p3 k hk)
  · intro k hk
    by_cases hn : k = l
    · subst hn
      dsimp only
      rw [upd_same]
      exact c4
    · dsimp only
      rw [upd_other _ _ hn]
      exact (st5_out w F (15 + l * 5) q (j := 15 + k * 5 + 4) (by omega)).trans (h.ps.p4 k hk)
theorem FdAt.like {w : World} {F : Nat} {t : Twr} {key : Int} {o o' : FOp} (h : FdAt w F t key o) (hp : ∀ k, k < 4 → o'.pos k = o.pos k) (hr : o'.r = o.r) (he : o'.er = o.er) : FdAt w F t key o' :=
  ⟨h.md, h.tf, h.ky, ⟨fun k hk => by rw [hp k hk]; exact h.ps.p0 k hk, fun k hk => by rw [hp k hk]; exact h.ps.p1 k hk, fun k hk => by rw [hp k hk]; exact h.ps.p2 k hk, fun k hk => by rw [hp k hk]; exact h.ps.p3 k hk, fun k hk => by rw [hp k hk]; exact h.ps.p4 k hk⟩, by rw [hr]; exact h.by_, by rw [he]; exact h.er, h.fz⟩
theorem set_out {w : World} {F j i : Nat} {u : Value} (h : i ≠ j) (v : Value) (hc : w.cell? ⟨F, j, none⟩ = some u) : (w.setCell ⟨F, i, none⟩ v).cell? ⟨F, j, none⟩ = some u := by rw [cell_set, if_neg h]; exact hc
theorem FdAt.putBy {w : World} {F : Nat} {t : Twr} {key : Int} {o : FOp} (h : FdAt w F t key o) (r : Int) : FdAt (w.setCell ⟨F, 35, none⟩ (.int .u64 r)) F t key ⟨o.pos, r, o.er⟩ :=
  ⟨set_out (by decide) _ h.md, ⟨set_out (by decide) _ h.tf.t0, set_out (by decide) _ h.tf.t1, set_out (by decide) _ h.tf.t2, set_out (by decide) _ h.tf.t3, set_out (by decide) _ h.tf.t4, set_out (by decide) _ h.tf.t5, set_out (by decide) _ h.tf.t6, set_out (by decide) _ h.tf.t7, set_out (by decide) _ h.tf.t8, set_out (by decide) _ h.tf.t9, set_out (by decide) _ h.tf.t10, set_out (by decide) _ h.tf.t11, set_out (by decide) _ h.tf.t12⟩, set_out (by decide) _ h.ky, ⟨fun k hk => set_out (by omega) _ (h.ps.p0 k hk), fun k hk => set_out (by omega) _ (h.ps.p1 k hk), fun k hk => set_out (by omega) _ (h.ps.p2 k hk), fun k hk => set_out (by omega) _ (h.ps.p3 k hk), fun k hk => set_out (by omega) _ (h.ps.p4 k hk)⟩, by rw [cell_set, if_pos rfl, h.by_]; rfl, set_out (by decide) _ h.er, fun i => by simp [h.fz]⟩
theorem FdAt.putEr {w : World} {F : Nat} {t : Twr} {key : Int} {o : FOp} (h : FdAt w F t key o) (r : Int) : FdAt (w.setCell ⟨F, 36, none⟩ (.int .i64 r)) F t key ⟨o.pos, o.r, r⟩ :=
  ⟨set_out (by decide) _ h.md, ⟨set_out (by decide) _ h.tf.t0, set_out (by decide) _ h.tf.t1, set_out (by decide) _ h.tf.t2, set_out (by decide) _ h.tf.t3, set_out (by decide) _ h.tf.t4, set_out (by decide) _ h.tf.t5, set_out (by decide) _ h.tf.t6, set_out (by decide) _ h.tf.t7, set_out (by decide) _ h.tf.t8, set_out (by decide) _ h.tf.t9, set_out (by decide) _ h.tf.t10, set_out (by decide) _ h.tf.t11, set_out (by decide) _ h.tf.t12⟩, set_out (by decide) _ h.ky, ⟨fun k hk => set_out (by omega) _ (h.ps.p0 k hk), fun k hk => set_out (by omega) _ (h.ps.p1 k hk), fun k hk => set_out (by omega) _ (h.ps.p2 k hk), fun k hk => set_out (by omega) _ (h.ps.p3 k hk), fun k hk => set_out (by omega) _ (h.ps.p4 k hk)⟩, set_out (by decide) _ h.by_, by rw [cell_set, if_pos rfl, h.er]; rfl, fun i => by simp [h.fz]⟩
theorem FdAt.putAt {w : World} {F : Nat} {t : Twr} {key : Int} {o : FOp} (h : FdAt w F t key o) {l o' : Nat} (hl : l < 4) (ho : o' = 15 + l * 5) (q : Pos) : FdAt (st5 w F o' q) F t key ⟨upd o.pos l q, o.r, o.er⟩ := by
  subst ho
  exact h.put hl q
theorem k4 {p : Nat → Prop} (h0 : p 0) (h1 : p 1) (h2 : p 2) (h3 : p 3) : ∀ k, k < 4 → p k := by
  intro k hk
  have : k = 0 ∨ k = 1 ∨ k = 2 ∨ k = 3 := by omega
  rcases this with rfl | rfl | rfl | rfl <;> assumption
def stP (p v : Value) : Sem Unit := Instr.storeAt 59 p v
theorem stP_named (p v : Value) : Instr.storeAt 59 p v = stP p v := rfl
theorem infoP : (Try.prog.info? 59).map (·.size) = some 20 := by kernel_rfl
theorem hereN {b : Nat} {a : World} : ∀ (vs : List Value) (o : Nat) (w : World), But (fun k => k = b) a w → But (fun k => k = b) a (w.setCells b o vs)
  | [], _, _, h => h
  | v :: r, o, _, h => hereN r (o + 1) _ (h.here o v)
theorem rs_run {w : World} {F : Nat} {t : Twr} {key : Int} {o : FOp} (h : FdAt w F t key o) :
    ∃ w', (stP (.pointer (some ⟨F, 15, none⟩)) (.agg #[.int .i64 0, .int .u64 0, .int .u64 0, .int .u64 0, .int .i64 0, .int .i64 0, .int .u64 0, .int .u64 0, .int .u64 0, .int .i64 0, .int .i64 0, .int .u64 0, .int .u64 0, .int .u64 0, .int .i64 0, .int .i64 0, .int .u64 0, .int .u64 0, .int .u64 0, .int .i64 0])).run Try.prog w = .ok () w' ∧ FdAt w' F t key ⟨fun _ => Pos.zero, o.r, o.er⟩ ∧ But (fun j => j = F) w w' := by
  have there : ∀ j, j < 20 → (w.cell? ⟨F, 15 + j, none⟩).isSome = true := by
    intro j hj
    obtain ⟨k, i, hk, hi, rfl⟩ : ∃ k i, k < 4 ∧ i < 5 ∧ j = k * 5 + i := ⟨j / 5, j % 5, by omega, by omega, by omega⟩
    have hi2 : i = 0 ∨ i = 1 ∨ i = 2 ∨ i = 3 ∨ i = 4 := by omega
    rw [← Nat.add_assoc]
    rcases hi2 with rfl | rfl | rfl | rfl | rfl
    · rw [Nat.add_zero, h.ps.p0 k hk]; rfl
    · rw [h.ps.p1 k hk]; rfl
    · rw [h.ps.p2 k hk]; rfl
    · rw [h.ps.p3 k hk]; rfl
    · rw [h.ps.p4 k hk]; rfl
  have bb : But (fun j => j = F) w (w.setCells F 15 [.int .i64 0, .int .u64 0, .int .u64 0, .int .u64 0, .int .i64 0, .int .i64 0, .int .u64 0, .int .u64 0, .int .u64 0, .int .i64 0, .int .i64 0, .int .u64 0, .int .u64 0, .int .u64 0, .int .i64 0, .int .i64 0, .int .u64 0, .int .u64 0, .int .u64 0, .int .i64 0]) := hereN _ _ _ (But.refl _ _)
  have cin : ∀ (j : Nat) (v : Value), [.int .i64 0, .int .u64 0, .int .u64 0, .int .u64 0, .int .i64 0, .int .i64 0, .int .u64 0, .int .u64 0, .int .u64 0, .int .i64 0, .int .i64 0, .int .u64 0, .int .u64 0, .int .u64 0, .int .i64 0, .int .i64 0, .int .u64 0, .int .u64 0, .int .u64 0, .int .i64 0][j]? = some v → (w.setCells F 15 [.int .i64 0, .int .u64 0, .int .u64 0, .int .u64 0, .int .i64 0, .int .i64 0, .int .u64 0, .int .u64 0, .int .u64 0, .int .i64 0, .int .i64 0, .int .u64 0, .int .u64 0, .int .u64 0, .int .i64 0, .int .i64 0, .int .u64 0, .int .u64 0, .int .u64 0, .int .i64 0]).cell? ⟨F, 15 + j, none⟩ = some v := by
    intro j v hv
    exact World.rangeAt_setCells_same w F 15 _ (fun i hi => ⟨there i (by simpa using hi), h.fz _⟩) j v hv
  have out : ∀ j, j < 15 ∨ 35 ≤ j → (w.setCells F 15 [.int .i64 0, .int .u64 0, .int .u64 0, .int .u64 0, .int .i64 0, .int .i64 0, .int .u64 0, .int .u64 0, .int .u64 0, .int .i64 0, .int .i64 0, .int .u64 0, .int .u64 0, .int .u64 0, .int .i64 0, .int .i64 0, .int .u64 0, .int .u64 0, .int .u64 0, .int .i64 0]).cell? ⟨F, j, none⟩ = w.cell? ⟨F, j, none⟩ := fun j hj => World.cell?_setCells_out F _ 15 w ⟨F, j, none⟩ (fun _ _ => hj)
  refine ⟨w.setCells F 15 [.int .i64 0, .int .u64 0, .int .u64 0, .int .u64 0, .int .i64 0, .int .i64 0, .int .u64 0, .int .u64 0, .int .u64 0, .int .i64 0, .int .i64 0, .int .u64 0, .int .u64 0, .int .u64 0, .int .i64 0, .int .i64 0, .int .u64 0, .int .u64 0, .int .u64 0, .int .i64 0], ?_, ⟨(out 0 (by omega)).trans h.md, ⟨(out 1 (by omega)).trans h.tf.t0, (out 2 (by omega)).trans h.tf.t1, (out 3 (by omega)).trans h.tf.t2, (out 4 (by omega)).trans h.tf.t3, (out 5 (by omega)).trans h.tf.t4, (out 6 (by omega)).trans h.tf.t5, (out 7 (by omega)).trans h.tf.t6, (out 8 (by omega)).trans h.tf.t7, (out 9 (by omega)).trans h.tf.t8, (out 10 (by omega)).trans h.tf.t9, (out 11 (by omega)).trans h.tf.t10, (out 12 (by omega)).trans h.tf.t11, (out 13 (by omega)).trans h.tf.t12⟩, (out 14 (by omega)).trans h.ky, ⟨k4 (cin 0 _ rfl) (cin 5 _ rfl) (cin 10 _ rfl) (cin 15 _ rfl), k4 (cin 1 _ rfl) (cin 6 _ rfl) (cin 11 _ rfl) (cin 16 _ rfl), k4 (cin 2 _ rfl) (cin 7 _ rfl) (cin 12 _ rfl) (cin 17 _ rfl), k4 (cin 3 _ rfl) (cin 8 _ rfl) (cin 13 _ rfl) (cin 18 _ rfl), k4 (cin 4 _ rfl) (cin 9 _ rfl) (cin 14 _ rfl) (cin 19 _ rfl)⟩, (out 35 (by omega)).trans h.by_, (out 36 (by omega)).trans h.er, fun i => bb.soft h.lt (h.fz i)⟩, bb⟩
  unfold stP
  exact run_storeAt_mid (P := Try.prog) w F 15 _ _ (fun i hi => ⟨there i (by simpa using hi), h.fz _⟩) infoP (by simp [Value.oneCell'])
attribute [local go_sem ↓] stP_named
set_option maxHeartbeats 1000000 in
theorem restart_any (F : Nat) (t : Twr) (key : Int) (o : FOp) (w : World) (h : FdAt w F t key o) : Calls Try.prog 117 #[.pointer (some ⟨F, 0, none⟩)] w fun e w' => e = .returned (.tuple #[]) ∧ FdAt w' F t key ⟨fun _ => Pos.zero, o.r, o.er⟩ ∧ But (fun j => j = F) w w' := by
  obtain ⟨w1, hr, f1, b1⟩ := rs_run h
  have H := Lib.hid (And.intro f1 b1)
  clear f1 b1 h
  go_enter Try.func117, Try.ntmps117
  go_wp2
  go_end0
  exact ⟨rfl, H.out⟩
set_option maxHeartbeats 1000000 in
theorem ended_no (F : Nat) (t : Twr) (key : Int) (o : FOp) (w : World) (h : FdAt w F t key o) (hx : (o.pos 0).x ≠ 4) : Calls Try.prog 91 #[.pointer (some ⟨F, 0, none⟩)] w fun e w' => e = .returned (.bool false) ∧ Kept w w' := by
  have s4 := h.ps.p4 0 (by decide)
  simp only [Nat.reduceMul, Nat.reduceAdd, Nat.add_zero, Nat.zero_mul] at s4
  obtain ⟨x, hxx⟩ : ∃ x, x = (o.pos 0).x := ⟨_, rfl⟩
  rw [← hxx] at hx s4
  have hb : (x != 4) = true := by simpa using hx
  clear h hxx hx
  go_enter Try.func91, Try.ntmps91
  go_wp2
  go_ret
  exact ⟨rfl, by (go_light; repeat (first | (with_reducible exact Kept.refl _) | (with_reducible assumption) | (with_reducible refine Kept.alloc ?_ _ _) | (with_reducible refine Kept.drew ?_) | (with_reducible refine Kept.drewN ?_ _) | ((with_reducible refine Kept.setCell ?_ ?_ _); rotate_left; focus (first | (simp; done) | (simp; omega))) | refine Kept.trans ?_ (by assumption)))⟩
set_option maxHeartbeats 1000000 in
theorem ended_yes (F : Nat) (t : Twr) (key : Int) (o : FOp) (w : World) (h : FdAt w F t key o) (hx : (o.pos 0).x = 4) : Calls Try.prog 91 #[.pointer (some ⟨F, 0, none⟩)] w fun e w' => e = .returned (.bool true) ∧ FdAt w' F t key ⟨o.pos, o.r, 0⟩ ∧ But (fun j => j = F) w w' := by
  have H := Lib.hid h
  have s4 := h.ps.p4 0 (by decide)
  simp only [Nat.reduceMul, Nat.reduceAdd, Nat.add_zero, Nat.zero_mul, hx] at s4
  have s5 := h.er
  have HF := h.fz
  clear h
  go_enter Try.func91, Try.ntmps91
  go_wp2
  go_ret
  exact ⟨rfl, H.out.putEr 0, (But.refl _ _).here _ _⟩
set_option maxHeartbeats 400000 in
theorem ferr_nil (w : World) : Calls Try.prog 14 #[.pointer none] w fun e w' => e = .returned (.int .i64 1) ∧ w = w' := by
  go_enter Try.func14, Try.ntmps14
  go_wp2
  go_ret
  exact ⟨rfl, rfl⟩
set_option maxHeartbeats 400000 in
theorem ferr_made (P : Nat) (er : Int) (w : World) (c0 : w.cell? ⟨P, 0, none⟩ = some (.bool true)) (c7 : w.cell? ⟨P, 36, none⟩ = some (.int .i64 er)) : Calls Try.prog 14 #[.pointer (some ⟨P, 0, none⟩)] w fun e w' => e = .returned (.int .i64 er) ∧ w = w' := by
  go_enter Try.func14, Try.ntmps14
  go_wp2
  go_ret
  exact ⟨rfl, rfl⟩
set_option maxHeartbeats 400000 in
theorem ferr_none (P : Nat) (w : World) (c0 : w.cell? ⟨P, 0, none⟩ = some (.bool false)) : Calls Try.prog 14 #[.pointer (some ⟨P, 0, none⟩)] w fun e w' => e = .returned (.int .i64 1) ∧ w = w' := by
  go_enter Try.func14, Try.ntmps14
  go_wp2
  go_ret
  exact ⟨rfl, rfl⟩
set_option maxHeartbeats 400000 in
theorem fby_nil (w : World) : Calls Try.prog 18 #[.pointer none] w fun e w' => e = .returned (.int .u64 0) ∧ w = w' := by
  go_enter Try.func18, Try.ntmps18
  go_wp2
  go_ret
  exact ⟨rfl, rfl⟩
set_option maxHeartbeats 400000 in
theorem fby_made (P : Nat) (v : Int) (w : World) (c6 : w.cell? ⟨P, 35, none⟩ = some (.int .u64 v)) : Calls Try.prog 18 #[.pointer (some ⟨P, 0, none⟩)] w fun e w' => e = .returned (.int .u64 v) ∧ w = w' := by
  go_enter Try.func18, Try.ntmps18
  go_wp2
  go_ret
  exact ⟨rfl, rfl⟩
set_option maxHeartbeats 400000 in
theorem fstep_nil (m : Value) (w : World) : Calls Try.prog 13 #[.pointer none, m] w fun e w' => e = .returned (.bool true) ∧ w = w' := by
  go_enter Try.func13, Try.ntmps13
  go_wp2
  go_ret
  exact ⟨rfl, rfl⟩
def nilT : Twr := ⟨0, 0, 0, ⟨⟨0, 0, 0⟩, 0, 0, 0⟩, ⟨0, 0, 0⟩, 0⟩
def newF (t : Twr) : FOp := ⟨fun _ => Pos.zero, 0, if t.Sound then 14 else 2⟩
def FMade (t : Twr) (key : Int) (w : World) (e : Ending) (w' : World) : Prop := ∃ F, e = .returned (.pointer (some ⟨F, 0, none⟩)) ∧ w.heap.size ≤ F ∧ F < w'.heap.size ∧ FdAt w' F (if t.Sound then t else nilT) (if t.Sound then key else 0) (newF t) ∧ Kept w w'
theorem new_fd (w : World) (F : Nat) (ty : TypeId) (hF : F = w.heap.size) (t : Twr) (key er : Int) : FdAt (w.alloc (.cells #[.bool true, .int .i64 t.D, .int .i64 t.H, .int .i64 t.G, .int .i64 t.A.F.T, .int .i64 t.A.F.K, .int .i64 t.A.F.N, .int .i64 t.A.G, .int .i64 t.A.V, .int .i64 t.A.L, .int .i64 t.E.T, .int .i64 t.E.K, .int .i64 t.E.N, .int .i64 t.P, .int .u64 key,
    .int .i64 0, .int .u64 0, .int .u64 0, .int .u64 0, .int .i64 0, .int .i64 0, .int .u64 0, .int .u64 0, .int .u64 0, .int .i64 0, .int .i64 0, .int .u64 0, .int .u64 0, .int .u64 0, .int .i64 0, .int .i64 0, .int .u64 0, .int .u64 0, .int .u64 0, .int .i64 0, .int .u64 0, .int .i64 er] ty)) F t key ⟨fun _ => Pos.zero, 0, er⟩ :=
  ⟨cell_new _ _ _ _ 0 hF, ⟨cell_new _ _ _ _ 1 hF, cell_new _ _ _ _ 2 hF, cell_new _ _ _ _ 3 hF, cell_new _ _ _ _ 4 hF, cell_new _ _ _ _ 5 hF, cell_new _ _ _ _ 6 hF, cell_new _ _ _ _ 7 hF, cell_new _ _ _ _ 8 hF, cell_new _ _ _ _ 9 hF, cell_new _ _ _ _ 10 hF, cell_new _ _ _ _ 11 hF, cell_new _ _ _ _ 12 hF, cell_new _ _ _ _ 13 hF⟩, cell_new _ _ _ _ 14 hF, ⟨k4 (cell_new _ _ _ _ 15 hF) (cell_new _ _ _ _ 20 hF) (cell_new _ _ _ _ 25 hF) (cell_new _ _ _ _ 30 hF), k4 (cell_new _ _ _ _ 16 hF) (cell_new _ _ _ _ 21 hF) (cell_new _ _ _ _ 26 hF) (cell_new _ _ _ _ 31 hF), k4 (cell_new _ _ _ _ 17 hF) (cell_new _ _ _ _ 22 hF) (cell_new _ _ _ _ 27 hF) (cell_new _ _ _ _ 32 hF), k4 (cell_new _ _ _ _ 18 hF) (cell_new _ _ _ _ 23 hF) (cell_new _ _ _ _ 28 hF) (cell_new _ _ _ _ 33 hF), k4 (cell_new _ _ _ _ 19 hF) (cell_new _ _ _ _ 24 hF) (cell_new _ _ _ _ 29 hF) (cell_new _ _ _ _ 34 hF)⟩, cell_new _ _ _ _ 35 hF, cell_new _ _ _ _ 36 hF, fun i => by subst hF; simp⟩
set_option maxHeartbeats 1000000 in
theorem fnew_yes (t : Twr) (hs : t.Sound) (key : Int) (w : World) : Calls Try.prog 19 #[towV t, .int .u64 key] w (FMade t key w) := by
  have SD := fun W => Lib.hid (show Calls Try.prog 59 #[towV t] W fun e w' => e = .returned (.bool true) ∧ Kept W w' from by have := fsound_any t W; rwa [decide_eq_true hs] at this)
  have HS := Lib.hid hs
  clear hs
  go_enter Try.func19, Try.ntmps19
  go_wp2_with fail
  refine (SD _).out.mono ?_
  rintro e w1 ⟨rfl, k1⟩
  obtain ⟨a0, a1, a2, a3, a4, a5, a6, a7, a8, a9, a10, a11, a12⟩ := TB.kept (TB.new w _ _ rfl t) k1
  have K1 := Lib.hid (((Kept.refl w).alloc _ _).trans k1)
  clear k1
  go_wp2
  go_ret
  refine ⟨_, rfl, K1.out.size, by simp, ?_, K1.out.alloc _ _⟩
  rw [if_pos HS.out, if_pos HS.out]
  unfold newF
  rw [if_pos HS.out]
  exact new_fd _ _ _ rfl t key 14
set_option maxHeartbeats 1000000 in
theorem fnew_no (t : Twr) (hs : ¬ t.Sound) (key : Int) (w : World) : Calls Try.prog 19 #[towV t, .int .u64 key] w (FMade t key w) := by
  have SD := fun W => Lib.hid (show Calls Try.prog 59 #[towV t] W fun e w' => e = .returned (.bool false) ∧ Kept W w' from by have := fsound_any t W; rwa [decide_eq_false hs] at this)
  have HS := Lib.hid hs
  clear hs
  go_enter Try.func19, Try.ntmps19
  go_wp2_with fail
  refine (SD _).out.mono ?_
  rintro e w1 ⟨rfl, k1⟩
  have K1 := Lib.hid (((Kept.refl w).alloc _ _).trans k1)
  clear k1
  go_wp2
  go_ret
  refine ⟨_, rfl, K1.out.size, by simp, ?_, K1.out.alloc _ _⟩
  rw [if_neg HS.out, if_neg HS.out]
  unfold newF
  rw [if_neg HS.out]
  exact new_fd _ _ _ rfl nilT 0 2
theorem fnew_any (t : Twr) (key : Int) (w : World) : Calls Try.prog 19 #[towV t, .int .u64 key] w (FMade t key w) := by
  by_cases hs : t.Sound
  · exact fnew_yes t hs key w
  · exact fnew_no t hs key w
end Go.Proofs.Ytejiogggocnldaa.Fd
