/- A Find's step, the program's: comp. Written by gen16c.py. -/
import Derived.Test.YtejiogggocnldaaG12
import Derived.Test.YtejiogggocnldaaG11
import Derived.Test.YtejiogggocnldaaG03
set_option linter.unusedVariables false
set_option linter.unusedSimpArgs false

namespace Go.Proofs.Ytejiogggocnldaa.Fd
set_option maxRecDepth 20000
open Go.RowKit
open Wo (St acc wordAt PMem RefIs)
open Sk (Stk Arn idx Wd)
open Tw (Twr TB towV atI nextI next_any at_any I64 nextI_lo nextI_hi)

set_option maxHeartbeats 4000000 in
theorem comp_any (F : Nat) (t : Twr) (key : Int) (o : FOp) (l : Nat) (hl : l < 4) (q : Pos) (hq : o.pos l = q) (hc0 : 0 ≤ q.c) (hc1 : q.c < 18446744073709551616) (hv0 : 0 ≤ q.v) (hv1 : q.v < 18446744073709551616) (mv : Value) (v : Int) (T : Nat → Prop) (hT : ¬ T F) (Q : World → Prop) (hQ : ∀ W W', Q W → But (fun j => j = F) W W' → Q W') (w : World) (hQB : ∀ W W', Q W → But (fun j => j = w.heap.size) W W' → Q W') (hTn : ∀ j, w.heap.size ≤ j → ¬ T j) (h : FdAt w F t key o)
    (hL : ∀ W, But (fun j => j = F) w W → Calls Try.prog 33 #[mv, .int .i64 (atI t (idx t.A.F.N q.c) 0)] W fun e w' => e = .returned (.int .u64 v) ∧ Q w' ∧ But T W w') :
    Calls Try.prog 90 #[.pointer (some ⟨F, 0, none⟩), .int .i64 l, mv] w fun e w' => e = .returned (.tuple #[]) ∧ FdAt w' F t key ⟨if key ≤ v then upd o.pos l ⟨q.p, q.k, q.c, q.v, 4⟩ else upd o.pos l (faced t.A.F.N ⟨idx t.A.F.N q.c, q.c, q.c, q.v, q.x⟩ q.v), q.c, o.er⟩ ∧ Q w' ∧ But (fun j => j = F ∨ T j) w w' := by
  obtain ⟨i, hi⟩ : ∃ i, i = idx t.A.F.N q.c := ⟨_, rfl⟩
  rw [← hi] at hL ⊢
  have RD := fun W => Lib.hid (show Calls Try.prog 119 #[towV t, .int .u64 q.c] W fun e w' => e = .returned (.int .i64 i) ∧ Kept W w' from by rw [hi]; exact fread_any t q.c hc0 hc1 W)
  have AT := fun W => Lib.hid (at_any t i 0 (by unfold I64; omega) W)
  have l0 : (0 : Int) ≤ (l : Int) := by omega
  have l4 : (l : Int) < 4 := by omega
  have H := Lib.hid h
  have HF := h.fz
  have lF := h.lt
  have cb := h.by_
  have s0 := h.ps.p0 l hl
  have s1 := h.ps.p1 l hl
  have s2 := h.ps.p2 l hl
  have s3 := h.ps.p3 l hl
  have s4 := h.ps.p4 l hl
  rw [hq] at s0 s1 s2 s3 s4
  have HL := Lib.hid hL
  have HQ := Lib.hid hQ
  have HQB := Lib.hid hQB
  have HP := Lib.hid hq
  clear h hL hQ hQB hq hi hc0 hc1
  go_enter Try.func90, Try.ntmps90
  go_wp2_with fail
  obtain ⟨b, hb⟩ : ∃ b, b = w.heap.size := ⟨_, rfl⟩
  obtain ⟨W2, hW2⟩ : ∃ W2, W2 = ((w.setCell ⟨F, 35, none⟩ (.int .u64 q.c)).alloc (.cells #[.int .i64 q.p, .int .u64 q.k, .int .u64 q.c, .int .u64 q.v, .int .i64 q.x] 58)) := ⟨_, rfl⟩
  have bF : But (fun j => j = F) w (w.setCell ⟨F, 35, none⟩ (.int .u64 q.c)) := (But.refl _ _).here _ _
  have B2 : Hid (But (fun j => j = F) w W2) := Lib.hid (by rw [hW2]; exact bF.alloc _ _)
  have F2 : Hid (FdAt W2 F t key ⟨o.pos, q.c, o.er⟩) := Lib.hid (by rw [hW2]; exact (H.out.putBy q.c).kept ((Kept.refl _).alloc _ _))
  have Q2 : Hid (Q5 W2 b q) := Lib.hid (by rw [hW2]; exact Q5.new _ _ _ (by rw [hb]; simp) q)
  have lb : F < b := by omega
  have hz : b < W2.heap.size := lt_of_cell Q2.out.c0
  rw [← hW2, ← hb]
  have HB := Lib.hid hb
  clear hW2 hb bF cb s0 s1 s2 s3 s4 HF H
  obtain ⟨c1, c2, c3, c4, c5, c6, c7, c8, c9, c10, c11, c12, c13, d0, d1, d2, d3, d4⟩ := fq_all F2.out Q2.out
  have KT : Kept W2 W2 := Kept.refl _
  go_region_held3 (fun w' => w'.cell? ⟨F, 1, none⟩ = some (.int .i64 t.D) ∧ w'.cell? ⟨F, 2, none⟩ = some (.int .i64 t.H) ∧ w'.cell? ⟨F, 3, none⟩ = some (.int .i64 t.G) ∧ w'.cell? ⟨F, 4, none⟩ = some (.int .i64 t.A.F.T) ∧ w'.cell? ⟨F, 5, none⟩ = some (.int .i64 t.A.F.K) ∧ w'.cell? ⟨F, 6, none⟩ = some (.int .i64 t.A.F.N) ∧ w'.cell? ⟨F, 7, none⟩ = some (.int .i64 t.A.G) ∧ w'.cell? ⟨F, 8, none⟩ = some (.int .i64 t.A.V) ∧ w'.cell? ⟨F, 9, none⟩ = some (.int .i64 t.A.L) ∧ w'.cell? ⟨F, 10, none⟩ = some (.int .i64 t.E.T) ∧ w'.cell? ⟨F, 11, none⟩ = some (.int .i64 t.E.K) ∧ w'.cell? ⟨F, 12, none⟩ = some (.int .i64 t.E.N) ∧ w'.cell? ⟨F, 13, none⟩ = some (.int .i64 t.P) ∧ w'.cell? ⟨b, 0, none⟩ = some (.int .i64 q.p) ∧ w'.cell? ⟨b, 1, none⟩ = some (.int .u64 q.k) ∧ w'.cell? ⟨b, 2, none⟩ = some (.int .u64 q.c) ∧ w'.cell? ⟨b, 3, none⟩ = some (.int .u64 q.v) ∧ w'.cell? ⟨b, 4, none⟩ = some (.int .i64 q.x)) (first | (with_reducible exact fq_all (F2.out.kept KT) (Q2.out.kept KT)) | (with_reducible exact fq_all (F2.out.kept KT.drew) (Q2.out.kept KT.drew))) (first | (go_at_call 119; (with_reducible refine Calls.mono (RD _).out ?_); rintro e x3 ⟨rfl, y⟩; have KT : Kept W2 x3 := Kept.trans (b := _) (by first | with_reducible exact KT | with_reducible exact KT.drew | with_reducible exact KT.drewN _) y; clear y))
  have kk := F2.out.kept KT
  obtain ⟨c1, c2, c3, c4, c5, c6, c7, c8, c9, c10, c11, c12, c13, d0, d1, d2, d3, d4⟩ := fq_all kk (Q2.out.kept KT)
  have ky := kk.ky
  have hz := lt_of_cell d0
  clear kk
  go_wp2_with fail
  go_region_held3 (fun w' => w'.cell? ⟨F, 14, none⟩ = some (.int .u64 key) ∧ w'.cell? ⟨F, 1, none⟩ = some (.int .i64 t.D) ∧ w'.cell? ⟨F, 2, none⟩ = some (.int .i64 t.H) ∧ w'.cell? ⟨F, 3, none⟩ = some (.int .i64 t.G) ∧ w'.cell? ⟨F, 4, none⟩ = some (.int .i64 t.A.F.T) ∧ w'.cell? ⟨F, 5, none⟩ = some (.int .i64 t.A.F.K) ∧ w'.cell? ⟨F, 6, none⟩ = some (.int .i64 t.A.F.N) ∧ w'.cell? ⟨F, 7, none⟩ = some (.int .i64 t.A.G) ∧ w'.cell? ⟨F, 8, none⟩ = some (.int .i64 t.A.V) ∧ w'.cell? ⟨F, 9, none⟩ = some (.int .i64 t.A.L) ∧ w'.cell? ⟨F, 10, none⟩ = some (.int .i64 t.E.T) ∧ w'.cell? ⟨F, 11, none⟩ = some (.int .i64 t.E.K) ∧ w'.cell? ⟨F, 12, none⟩ = some (.int .i64 t.E.N) ∧ w'.cell? ⟨F, 13, none⟩ = some (.int .i64 t.P) ∧ w'.cell? ⟨b, 0, none⟩ = some (.int .i64 q.p) ∧ w'.cell? ⟨b, 1, none⟩ = some (.int .u64 q.k) ∧ w'.cell? ⟨b, 2, none⟩ = some (.int .u64 q.c) ∧ w'.cell? ⟨b, 3, none⟩ = some (.int .u64 q.v) ∧ w'.cell? ⟨b, 4, none⟩ = some (.int .i64 q.x)) (first | (with_reducible exact ⟨(F2.out.kept KT).ky, fq_all (F2.out.kept KT) (Q2.out.kept KT)⟩) | (with_reducible exact ⟨(F2.out.kept KT.drew).ky, fq_all (F2.out.kept KT.drew) (Q2.out.kept KT.drew)⟩) | (with_reducible exact ⟨F4.out.ky, fq_all F4.out Q4.out⟩)) (first | (go_at_call 122; (with_reducible refine Calls.mono (AT _).out ?_); rintro e x3 ⟨rfl, y⟩; have KT : Kept W2 x3 := Kept.trans (b := _) (by first | with_reducible exact KT | with_reducible exact KT.drew | with_reducible exact KT.drewN _) y; clear y) | (go_at_call 33; (with_reducible refine Calls.mono (HL.out _ (B2.out.then (by first | with_reducible exact KT | with_reducible exact KT.drew | with_reducible exact KT.drewN _))) ?_); rintro e x4 ⟨rfl, q4, y⟩; have F4 := Lib.hid ((F2.out.kept (by first | with_reducible exact KT | with_reducible exact KT.drew | with_reducible exact KT.drewN _)).but y hT); have Q4 := Lib.hid ((Q2.out.kept (by first | with_reducible exact KT | with_reducible exact KT.drew | with_reducible exact KT.drewN _)).but y (hTn _ (by have := HB.out; omega))); have B4 := Lib.hid ((B2.out.then (by first | with_reducible exact KT | with_reducible exact KT.drew | with_reducible exact KT.drewN _)).mono (T := fun j => j = F ∨ T j) (fun _ _ h => .inl h)); have B4 := Lib.hid (B4.out.trans y (fun _ _ h => .inr h)); have QQ := Lib.hid q4))
  clear KT
  by_cases hk : key ≤ v
  · have hd : decide (key ≤ v) = true := decide_eq_true hk
    have s4 := F4.out.ps.p4 l hl
    have HF := F4.out.fz
    have lF := F4.out.lt
    go_wp2
    refine bodyPost_ret (v := .tuple #[]) (by simp [results, Try.results90, go_sem]) rfl ?_
    refine ⟨rfl, ?_, HQ.out _ _ QQ.out ((But.refl _ _).here _ _), B4.out.trans ((But.refl _ _).here _ _) (fun _ _ h => .inl h)⟩
    refine (F4.out.putX hl 4).like (fun k _ => ?_) rfl rfl
    dsimp only
    by_cases hn : k = l
    · subst hn
      rw [upd_same, upd_same, HP.out]
    · rw [upd_other _ _ hn, upd_other _ _ hn]
  · have hd : decide (key ≤ v) = false := decide_eq_false hk
    obtain ⟨d0, d1, d2, d3, d4⟩ := q5_all Q4.out
    have df := Q4.out.f
    have lzF := F4.out.lt
    have lz := lt_of_cell d0
    go_wp2_with fail
    obtain ⟨W5, hW5⟩ : ∃ W5, W5 = (x4.setCell ⟨b, 0, none⟩ (.int .i64 i)).setCell ⟨b, 1, none⟩ (.int .u64 q.c) := ⟨_, rfl⟩
    have b5 : But (fun j => j = b) x4 W5 := by rw [hW5]; exact ((But.refl _ _).here _ _).here _ _
    have Q5' : Hid (Q5 W5 b ⟨i, q.c, q.c, q.v, q.x⟩) := Lib.hid (by
      rw [hW5]
      exact ⟨by simp [cell_set, d0], by simp [cell_set, d1], by simp [cell_set, d2], by simp [cell_set, d3], by simp [cell_set, d4], fun i => by simp [df]⟩)
    have F5 : Hid (FdAt W5 F t key ⟨o.pos, q.c, o.er⟩) := Lib.hid (F4.out.but b5 (by omega))
    have QQ := Lib.hid (HQB.out _ _ QQ.out (by rw [← HB.out]; exact b5))
    have B5 := Lib.hid (B4.out.trans b5 (fun i hi e => by have := HB.out; omega))
    rw [← hW5]
    clear hW5 b5 d0 d1 d2 d3 d4 df lzF lz
    obtain ⟨d0, d1, d2, d3, d4⟩ := q5_all Q5'.out
    have FC := fun W k => Lib.hid (facing_any F t ⟨i, q.c, q.c, q.v, q.x⟩ q.v hv0 hv1 W (F5.out.tf.but (k : But (fun j => False) W5 W) id))
    have lz := lt_of_cell d0
    have lzF := F5.out.lt
    have HF := F5.out.fz
    have s0 := F5.out.ps.p0 l hl
    have s1 := F5.out.ps.p1 l hl
    have s2 := F5.out.ps.p2 l hl
    have s3 := F5.out.ps.p3 l hl
    have s4 := F5.out.ps.p4 l hl
    have KT : Kept W5 W5 := Kept.refl _
    go_wp2_with fail
    go_region_held3 (fun w' => w'.cell? ⟨b, 0, none⟩ = some (.int .i64 i) ∧ w'.cell? ⟨b, 1, none⟩ = some (.int .u64 q.c) ∧ w'.cell? ⟨b, 2, none⟩ = some (.int .u64 q.c) ∧ w'.cell? ⟨b, 3, none⟩ = some (.int .u64 q.v) ∧ w'.cell? ⟨b, 4, none⟩ = some (.int .i64 q.x)) (first | (with_reducible exact q5_all (Q5'.out.kept KT)) | (with_reducible exact q5_all (Q5'.out.kept KT.drew)) | exact q5_all ((Q5'.out.kept KT).but (st5_but _ F _ _) (by omega))) (first | (go_at_call 118; (with_reducible refine Calls.mono (FC _ (by first | with_reducible exact (Kept.refl _).but _ | with_reducible exact (Kept.refl _).drew.but _ | with_reducible exact ((Kept.refl _).drewN _).but _)).out ?_); rintro e x5 ⟨rfl, y⟩; have KT : Kept W5 x5 := Kept.trans (b := _) (by first | with_reducible exact Kept.refl _ | with_reducible exact (Kept.refl _).drew | with_reducible exact (Kept.refl _).drewN _) y; have HF := (F5.out.kept KT).fz; have s0 := KT.some s0; have s1 := KT.some s1; have s2 := KT.some s2; have s3 := KT.some s3; have s4 := KT.some s4; clear y))
    go_end0
    refine ⟨rfl, ?_, HQ.out _ _ QQ.out ((KT.but _).trans (st5_but _ F _ _) (fun _ _ h => h)), (B5.out.then KT).trans (st5_but _ F _ _) (fun _ _ h => .inl h)⟩
    rw [if_neg (show ¬ key ≤ v by omega)]
    exact (F5.out.kept KT).put hl _
end Go.Proofs.Ytejiogggocnldaa.Fd

namespace Go.Proofs.Ytejiogggocnldaa.Fd
set_option maxRecDepth 100000
open Go.RowKit Go.Shelf
open Wo (St acc wordAt PMem RefIs)
open Sk (Stk Arn idx Wd Blk leaves)
open Tw (Twr TB towV atI nextI)
attribute [local go_sem] Oper.semAt_some

theorem lvl_spec {f : Nat → Pos} : ∀ {g l : Nat}, lvl f g = some l → l < g ∧ (f l).x ≠ 4 ∧ ∀ y, l < y → y < g → (f y).x = 4
  | 0, l, h => by cases h
  | g + 1, l, h => by
    unfold lvl at h
    split at h
    · rename_i hx
      obtain ⟨h1, h2, h3⟩ := lvl_spec h
      refine ⟨by omega, h2, fun y hy hy2 => ?_⟩
      by_cases e : y = g
      · subst e; exact hx
      · exact h3 y hy (by omega)
    · rename_i hx
      cases h
      exact ⟨by omega, hx, fun y hy hy2 => by omega⟩
theorem lvl_none {f : Nat → Pos} : ∀ {g : Nat}, lvl f g = none → ∀ y, y < g → (f y).x = 4
  | 0, _, y, hy => by omega
  | g + 1, h, y, hy => by
    unfold lvl at h
    split at h
    · rename_i hx
      by_cases e : y = g
      · subst e; exact hx
      · exact lvl_none h y (by omega)
    · cases h
theorem mem_ls {g k j : Nat} (h : j < k) : g - 1 - j ∈ lsL g k := by
  unfold lsL
  exact List.mem_map.2 ⟨j, List.mem_range.2 h, rfl⟩
theorem ended_any (F : Nat) (t : Twr) (key : Int) (o : FOp) (w : World) (h : FdAt w F t key o) : Calls Try.prog 91 #[.pointer (some ⟨F, 0, none⟩)] w fun e w' => e = .returned (.bool (decide ((o.pos 0).x = 4))) ∧ FdAt w' F t key ⟨o.pos, o.r, if (o.pos 0).x = 4 then 0 else o.er⟩ ∧ But (fun j => j = F) w w' := by
  by_cases hx : (o.pos 0).x = 4
  · rw [decide_eq_true hx, if_pos hx]; exact ended_yes F t key o w h hx
  · rw [decide_eq_false hx, if_neg hx]; exact (ended_no F t key o w h hx).mono fun _ _ ⟨a, b⟩ => ⟨a, h.kept b, b.but _⟩
structure SI (w : World) (N0 F a : Nat) (o : FOp) (p : Option Addr) (pre : List Nat) (X : World) : Prop where
  kept : Kept w X
  b0 : X.cell? ⟨w.heap.size, 0, none⟩ = some (.pointer (some ⟨F, 0, none⟩))
  b1 : X.cell? ⟨w.heap.size + 1, 0, none⟩ = some (.pointer p)
  r : X.cell? ⟨w.heap.size + 1 + 1, 0, none⟩ = some (.bool false)
  rf : ∀ i, X.frozen? ⟨w.heap.size + 1 + 1, i, none⟩ = false
  a0 : X.cell? ⟨a, 0, none⟩ = some (.pointer (some ⟨F, 0, none⟩))
  sz : N0 ≤ X.heap.size
  dn : ∀ y ∈ pre, (o.pos y).x = 4
structure SB (w : World) (N0 a : Nat) : Prop where
  lw : w.heap.size + 1 + 1 < a
  la : a < N0
theorem SI.but {w : World} {N0 F a : Nat} {o : FOp} {p : Option Addr} {pre : List Nat} {X X' : World} (h : SI w N0 F a o p pre X) (hb : SB w N0 a) {T : Nat → Prop} (k : But T X X') (hT : ∀ j, T j → N0 ≤ j) : SI w N0 F a o p pre X' := by
  have h1 := hb.lw
  have h2 := hb.la
  refine ⟨((h.kept.but T).trans k (fun _ _ h => h)).kept (fun j hj e => by have := hT j e; omega), k.some h.b0 (fun e => ?_), k.some h.b1 (fun e => ?_), k.some h.r (fun e => ?_), fun i => k.soft (lt_of_cell h.r) (h.rf i), k.some h.a0 (fun e => ?_), Nat.le_trans h.sz k.size, h.dn⟩ <;> (have := hT _ e; omega)
theorem SI.keep {w : World} {N0 F a : Nat} {o : FOp} {p : Option Addr} {pre : List Nat} {X X' : World} (h : SI w N0 F a o p pre X) (hb : SB w N0 a) (k : Kept X X') : SI w N0 F a o p pre X' := h.but hb (k.but (fun _ => False)) (fun _ e => e.elim)
theorem SI.turn {w : World} {N0 F a : Nat} {o : FOp} {p : Option Addr} {pre : List Nat} {X : World} {l : Nat} {y y' : Loop} (h : SI w N0 F a o p pre X) (hb : SB w N0 a) (hl : N0 ≤ l) (hy : X.heap[l]? = some (.loop y)) : SI w N0 F a o p pre (X.putObj l (.loop y')) :=
  h.but hb (Sk.but_turned (But.refl (fun k => k = l) _) hy rfl rfl (.inl rfl)) (fun _ e => by subst e; exact hl)
structure SX (w : World) (N0 F : Nat) (t : Twr) (key : Int) (p1 : Nat → Pos) (r1 er1 : Int) (Q : World → Prop) (T : Nat → Prop) (b : Bool) (X : World) : Prop where
  fd : FdAt X F t key ⟨p1, r1, er1⟩
  q : Q X
  but : But (fun j => j = F ∨ T j) w X
  r : X.cell? ⟨w.heap.size + 1 + 1, 0, none⟩ = some (.bool b)
  sz : N0 ≤ X.heap.size
theorem SX.go {w : World} {N0 F : Nat} {t : Twr} {key : Int} {p1 : Nat → Pos} {r1 er1 : Int} {Q : World → Prop} {T : Nat → Prop} {b : Bool} {X X' : World} (h : SX w N0 F t key p1 r1 er1 Q T b X) (hF : F < w.heap.size) (hN : w.heap.size + 1 + 1 < N0) (hQ : ∀ W W' S, Q W → But S W W' → (∀ j, S j → w.heap.size ≤ j) → Q W') {S : Nat → Prop} (k : But S X X') (hS : ∀ j, S j → N0 ≤ j) : SX w N0 F t key p1 r1 er1 Q T b X' :=
  ⟨h.fd.but k (fun e => by have := hS _ e; omega), hQ _ _ S h.q k (fun j e => by have := hS j e; omega), (h.but.mono (T := fun j => (j = F ∨ T j) ∨ S j) (fun _ _ h => .inl h)).trans (k.mono (fun _ _ h => .inr h)) (fun _ _ h => h) |>.mono (fun j hj e => e.elim id (fun e => by have := hS j e; omega)), k.some h.r (fun e => by have := hS _ e; omega), Nat.le_trans h.sz k.size⟩
theorem box_soft (w : World) (v : Value) (ty : TypeId) {b : Nat} (hb : b = w.heap.size) (i : Nat) : (w.alloc (.cells #[v] ty)).frozen? ⟨b, i, none⟩ = false := by subst hb; simp
def SA (g : Nat) (o : FOp) (N0 F a : Nat) (p : Option Addr) (n : Nat) (x : Nat) (A : Act) (W : World) : Prop :=
  ∃ fb, Q5 W fb (frm g o.pos x) ∧ N0 + 1 + 1 ≤ fb ∧ A = { tmps := #[.pointer (some ⟨F, 0, none⟩), .pointer p, .pointer (some ⟨n, 0, none⟩), .pointer (some ⟨n + 1, 0, none⟩), .pointer (some ⟨n + 1 + 1, 0, none⟩), .int .i64 (x : Nat), .pointer (some ⟨fb, 0, none⟩), .pointer (some ⟨F, 0, none⟩), .func (.func 115) #[] #[.pointer (some ⟨a, 0, none⟩)], .int .i64 (x : Nat), posV (frm g o.pos x), undef, undef, undef, undef, undef, undef, undef, undef, undef, undef, undef, undef, undef, undef, undef, undef, undef, undef, undef, undef, undef, undef, undef, undef, undef, undef, undef, undef, undef, undef, undef, undef, undef, undef, undef, undef], defers := [] }
def Does (F : Nat) (t : Twr) (key : Int) (g : Nat) (o : FOp) (p : Option Addr) (l : Nat) (p1 : Nat → Pos) (r1 : Int) (Q : World → Prop) (T : Nat → Prop) (w : World) : Prop :=
  ((o.pos l).x = 0 ∧ ∀ W, Kept w W → Calls Try.prog 87 #[.pointer (some ⟨F, 0, none⟩), .int .i64 (l : Nat), posV (frm g o.pos l), .pointer p] W fun e w' => e = .returned (.tuple #[]) ∧ FdAt w' F t key ⟨p1, r1, o.er⟩ ∧ Q w' ∧ But (fun j => j = F ∨ T j) W w')
  ∨ ((o.pos l).x = 1 ∧ ∀ W, Kept w W → Calls Try.prog 88 #[.pointer (some ⟨F, 0, none⟩), .int .i64 (l : Nat), .pointer p] W fun e w' => e = .returned (.tuple #[]) ∧ FdAt w' F t key ⟨p1, r1, o.er⟩ ∧ Q w' ∧ But (fun j => j = F ∨ T j) W w')
  ∨ ((o.pos l).x = 2 ∧ ∀ W, Kept w W → Calls Try.prog 89 #[.pointer (some ⟨F, 0, none⟩), .int .i64 (l : Nat), .pointer p] W fun e w' => e = .returned (.tuple #[]) ∧ FdAt w' F t key ⟨p1, r1, o.er⟩ ∧ Q w' ∧ But (fun j => j = F ∨ T j) W w')
  ∨ ((o.pos l).x = 3 ∧ ∀ W, Kept w W → Calls Try.prog 90 #[.pointer (some ⟨F, 0, none⟩), .int .i64 (l : Nat), .pointer p] W fun e w' => e = .returned (.tuple #[]) ∧ FdAt w' F t key ⟨p1, r1, o.er⟩ ∧ Q w' ∧ But (fun j => j = F ∨ T j) W w')
set_option maxHeartbeats 8000000 in
theorem fstep_at (F : Nat) (t : Twr) (key : Int) (g : Nat) (hg : (g : Int) = t.G) (g4 : g ≤ 4) (o : FOp) (p : Option Addr) (l : Nat) (hl : lvl o.pos g = some l) (p1 : Nat → Pos) (r1 : Int) (Q : World → Prop) (T : Nat → Prop) (w : World) (hT : ∀ j, T j → j < w.heap.size) (hQ : ∀ W W' S, Q W → But S W W' → (∀ j, S j → j = F ∨ w.heap.size ≤ j) → Q W') (h : FdAt w F t key o) (hD : Does F t key g o p l p1 r1 Q T w) :
    Calls Try.prog 53 #[.pointer (some ⟨F, 0, none⟩), .pointer p] w fun e w' => e = .returned (.bool (decide ((p1 0).x = 4))) ∧ FdAt w' F t key ⟨p1, r1, if (p1 0).x = 4 then 0 else o.er⟩ ∧ Q w' ∧ But (fun j => j = F ∨ T j) w w' := by
  obtain ⟨bb, hbb⟩ : ∃ b, b = decide ((p1 0).x = 4) := ⟨_, rfl⟩
  obtain ⟨er1, her⟩ : ∃ e : Int, e = (if (p1 0).x = 4 then 0 else o.er) := ⟨_, rfl⟩
  have EN : ∀ W, FdAt W F t key ⟨p1, r1, o.er⟩ → Hid (Calls Try.prog 91 #[.pointer (some ⟨F, 0, none⟩)] W fun e w' => e = .returned (.bool bb) ∧ FdAt w' F t key ⟨p1, r1, er1⟩ ∧ But (fun j => j = F) W w') := fun W f => Lib.hid (by rw [hbb, her]; exact ended_any F t key _ W f)
  rw [← hbb, ← her]
  have H := Lib.hid h
  have HT := Lib.hid hT
  have HQ := Lib.hid hQ
  have HD := Lib.hid hD
  have HL := Lib.hid (lvl_spec hl)
  have lF := h.lt
  have HG := Lib.hid hg
  clear h hT hQ hD hl hbb her hg
  refine (callsIn_wide (n := 6)).1 ?_
  refine callsIn_of_wp_marks Try.func53 rfl trivial ?_ rfl
  simp only [Try.ntmps53, List.size_toArray, List.length_cons, List.length_nil, Nat.reduceAdd, Nat.reduceSub, Array.replicate_succ, Array.replicate_zero, List.push_toArray, List.append_toArray, List.nil_append, List.cons_append]
  rw [wpIn_wide]
  go_wp2_with fail
  apply wp_scope_straight
  go_wp2_with fail
  apply wp_label
  go_wp2_with fail
  obtain ⟨W0, hW0⟩ : ∃ W0, W0 = (((w.alloc (.cells #[.pointer (some ⟨F, 0, none⟩)] 55)).alloc (.cells #[.pointer p] 32)).alloc (.cells #[.bool false] 4)) := ⟨_, rfl⟩
  have b0 : W0.cell? ⟨w.heap.size, 0, none⟩ = some (.pointer (some ⟨F, 0, none⟩)) := by rw [hW0]; exact (((Kept.refl _).alloc _ _).alloc _ _).some (cell_new _ _ _ _ 0 rfl)
  have b1 : W0.cell? ⟨w.heap.size + 1, 0, none⟩ = some (.pointer p) := by rw [hW0]; exact ((Kept.refl _).alloc _ _).some (cell_new _ _ _ _ 0 (by simp))
  have r0 : W0.cell? ⟨w.heap.size + 1 + 1, 0, none⟩ = some (.bool false) := by rw [hW0]; exact cell_new _ _ _ _ 0 (by simp)
  have rf : ∀ i, W0.frozen? ⟨w.heap.size + 1 + 1, i, none⟩ = false := by
    intro i; rw [hW0]
    exact (box_soft _ _ _ (by simp) i)
  have k0 : Kept w W0 := by rw [hW0]; exact (((Kept.refl w).alloc _ _).alloc _ _).alloc _ _
  rw [← hW0]
  clear hW0
  refine (down_any F _).mono ?_
  rintro e w3 ⟨a, rfl, la, ha, a0, k3⟩
  have SI0 : Hid (SI w w3.heap.size F a o p [] w3) := Lib.hid ⟨k0.trans k3, k3.some b0, k3.some b1, k3.some r0, fun i => k3.soft (lt_of_cell r0) (rf i), a0, Nat.le_refl _, by simp⟩
  have SB0 : Hid (SB w w3.heap.size a) := Lib.hid ⟨Nat.lt_of_lt_of_le (lt_of_cell r0) la, ha⟩
  have hz : w.heap.size + 1 + 1 < w3.heap.size := Nat.lt_of_lt_of_le (lt_of_cell r0) k3.size
  clear b0 b1 r0 rf k0 la ha a0 k3
  go_wp2_with fail
  rw [← wpIn_wide (n := 6)]
  refine range_manyB (Bs := fun k => (k = F ∨ T k) ∨ k = w.heap.size + 1 + 1) (by decide) (gf := 115) (lb := #[.pointer (some ⟨a, 0, none⟩)]) rfl (enters_of Try.func115 (by kernel_rfl) rfl) (fun x : Nat => #[Value.int .i64 (x : Nat), posV (frm g o.pos x)]) (fun _ => rfl)
    (fun k h => by
      have hT := HT.out k
      rcases h with (h | h) | h
      · omega
      · have := hT h; omega
      · omega)
    (fun pre X => SI w w3.heap.size F a o p pre X)
    (fun cd pre X => cd = .ret ∧ SX w w3.heap.size F t key p1 r1 er1 Q T bb X)
    (fun pre x => pre = lsL g pre.length ∧ x = g - 1 - pre.length ∧ pre.length < g) (fun xs => xs = lsL g g)
    ?_ ?_ ?_ ?_ ?_ ?_ ?_
    (fun x A X => SA g o w3.heap.size F a p w.heap.size x A X)
    ?_ ?_ ?_ ?_ ?_
  · exact fun X k => SI0.out.keep SB0.out k
  · exact fun pre X X' h k => h.keep SB0.out k
  · exact fun pre X l y y' hl hy h => h.turn SB0.out hl hy
  · exact fun pre X X' n hn h k => h.but SB0.out k (fun j e => by have e : j = n := e; omega)
  · exact fun cd pre X X' h k => ⟨h.1, h.2.go lF hz (fun W W' S q b e => HQ.out W W' S q b (fun j hj => .inr (e j hj))) (k.but (fun _ => False)) (fun _ e => e.elim)⟩
  · exact fun cd pre X l y y' hl hy h => ⟨h.1, h.2.go lF hz (fun W W' S q b e => HQ.out W W' S q b (fun j hj => .inr (e j hj))) (Sk.but_turned (But.refl (fun k => k = l) _) hy rfl rfl (.inl rfl)) (fun j e => by subst e; exact hl)⟩
  · intro l0 X0 J Jx k0 z0 hl hJk hJw hJb hY h0
    refine down_in 5 (by decide) l0 a F g o.pos g4 (fun k => ((k = F ∨ T k) ∨ k = w.heap.size + 1 + 1) ∨ (w3.heap.size ≤ k ∧ k < w3.heap.size + 1 + 1)) J Jx hJk (fun pre X h => ?_) X0 (fun pre X1 X2 n hn => hJw pre X1 X2 n hn) (fun j hj hb => ?_) hY h0
    · have h := (hJb pre X h).1
      have f := H.out.kept h.kept
      exact ⟨h.a0, by rw [HG.out]; exact f.tf.t2, f.ps⟩
    · have hT := HT.out j
      rcases hb with ((h | h) | h) | h
      · omega
      · have := hT h; omega
      · omega
      · omega
  · rintro x A X l0 y y' hl1 hl2 hy ⟨fb, hq, hfb, rfl⟩
    exact ⟨fb, hq.but (Sk.but_turned (But.refl (fun k => k = l0) _) hy rfl rfl (.inl rfl)) (fun e => by omega), hfb, rfl⟩
  · intro l0 x X K hX hK
    have HK := Lib.hid hK
    clear hK
    gi_wp2
    exact HK.out _ _ ⟨X.heap.size, Q5.new _ _ _ rfl _, hX, rfl⟩ ((Kept.refl _).alloc _ _)
  · intro l0 pre x A X hA hI hso hsz hbut
    obtain ⟨fb, hq, hfb, rfl⟩ := hA
    obtain ⟨hso1, hso2, hso3⟩ := hso
    have HI := Lib.hid hI
    have f := H.out.kept hI.kept
    have b0 := hI.b0
    have b1 := hI.b1
    have r0 := hI.r
    have rf := hI.rf
    have HF := Lib.hid f
    have hxg : x < g := by omega
    have p4 := f.ps.p4 x (by omega)
    have HQ5 := Lib.hid hq
    have x0 : (0 : Int) ≤ (x : Int) := by omega
    have x4 : (x : Int) < 4 := by omega
    by_cases hx : (o.pos x).x = 4
    · rw [hx] at p4
      have HX := Lib.hid hx
      have HS := Lib.hid hso1
      clear hso1 hso2 hso3 hx hq f hI hbut
      gi_wp2
      refine .inl ⟨⟨HI.out.kept, HI.out.b0, HI.out.b1, HI.out.r, HI.out.rf, HI.out.a0, HI.out.sz, ?_⟩, Sk.Blk.refl _ _⟩
      intro y hy
      rcases List.mem_append.1 hy with hy | hy
      · exact HI.out.dn y hy
      · rw [List.mem_singleton] at hy
        subst hy
        exact HX.out
    · have hxl : x = l := by
        obtain ⟨h1, h2, h3⟩ := HL.out
        rcases Nat.lt_trichotomy x l with h | h | h
        · exfalso
          refine h2 (hI.dn l ?_)
          rw [hso1, show l = g - 1 - (g - 1 - l) by omega]
          exact mem_ls (by omega)
        · exact h
        · exact absurd (h3 x h hxg) hx
      subst hxl
      have HKK := Lib.hid hI.kept
      have HSZ := Lib.hid hI.sz
      have d := HQ5.out
      obtain ⟨d0, d1, d2, d3, d4, _⟩ := d
      clear hso1 hso2 hso3 hx hq f hI hbut
      have NN : Hid (∀ j, w.heap.size ≤ j → ¬ (j = F ∨ T j)) := Lib.hid (fun j hj e => by
        rcases e with e | e
        · omega
        · have := HT.out j e; omega)
      have hD := HD.out
      unfold Does at hD
      rcases hD with ⟨hx, hc⟩ | ⟨hx, hc⟩ | ⟨hx, hc⟩ | ⟨hx, hc⟩
      · rw [hx] at p4
        have HC := Lib.hid (hc X HKK.out)
        clear hc hx
        gi_wp2_with (refine ⟨trivial, ?_⟩; first | (gi_at_call 87; refine (CallsIn.inRound l0 (callsIn_wide.2 HC.out)).mono ?_; rintro e v ⟨rfl, f4, q4, k4⟩; have F4 := Lib.hid f4; have K4 := Lib.hid k4; have Q4 := Lib.hid q4; have b0 := k4.some b0 (NN.out _ (by omega)); have r0 := k4.some r0 (NN.out _ (by omega)); have rf := (fun i => k4.soft (lt_of_cell HI.out.r) (rf i) : ∀ i, v.frozen? ⟨w.heap.size + 1 + 1, i, none⟩ = false); clear f4 k4 q4) | (gi_at_call 91; refine (CallsIn.inRound l0 (callsIn_wide.2 (EN _ F4.out).out)).mono ?_; rintro e v2 ⟨rfl, f5, k5⟩; have F5 := Lib.hid f5; have K5 := Lib.hid k5; have r0 := k5.some r0 (by omega); have rf := (fun i => k5.soft (by have := lt_of_cell HI.out.r; have := K4.out.size; omega) (rf i) : ∀ i, v2.frozen? ⟨w.heap.size + 1 + 1, i, none⟩ = false); clear f5 k5))
        have b6 : But (fun j => j = w.heap.size + 1 + 1) v2 (v2.setCell ⟨w.heap.size + 1 + 1, 0, none⟩ (.bool bb)) := (But.refl _ _).here _ _
        have BK := (K4.out.trans K5.out (fun _ _ h => .inl h))
        refine .inr ⟨.ret, .inl ⟨rfl, rfl⟩, ⟨rfl, ⟨F5.out.but b6 (by omega), HQ.out _ _ _ (HQ.out _ _ _ Q4.out K5.out (fun j e => .inl e)) b6 (fun j e => .inr (by omega)), ((HKK.out.but _).trans BK (fun _ _ h => h)).trans b6 (fun i hi e => by omega), by rw [cell_set, if_pos rfl, r0]; rfl, ?_⟩⟩, ?_⟩
        · have := BK.size; have := b6.size; have := HSZ.out; omega
        · exact (Sk.Blk.of ((BK.mono (T := fun k => (k = F ∨ T k) ∨ k = w.heap.size + 1 + 1) (fun _ _ h => .inl h)).trans b6 (fun _ _ e => .inr e)))
      · rw [hx] at p4
        have HC := Lib.hid (hc X HKK.out)
        clear hc hx
        gi_wp2_with (refine ⟨trivial, ?_⟩; first | (gi_at_call 88; refine (CallsIn.inRound l0 (callsIn_wide.2 HC.out)).mono ?_; rintro e v ⟨rfl, f4, q4, k4⟩; have F4 := Lib.hid f4; have K4 := Lib.hid k4; have Q4 := Lib.hid q4; have b0 := k4.some b0 (NN.out _ (by omega)); have r0 := k4.some r0 (NN.out _ (by omega)); have rf := (fun i => k4.soft (lt_of_cell HI.out.r) (rf i) : ∀ i, v.frozen? ⟨w.heap.size + 1 + 1, i, none⟩ = false); clear f4 k4 q4) | (gi_at_call 91; refine (CallsIn.inRound l0 (callsIn_wide.2 (EN _ F4.out).out)).mono ?_; rintro e v2 ⟨rfl, f5, k5⟩; have F5 := Lib.hid f5; have K5 := Lib.hid k5; have r0 := k5.some r0 (by omega); have rf := (fun i => k5.soft (by have := lt_of_cell HI.out.r; have := K4.out.size; omega) (rf i) : ∀ i, v2.frozen? ⟨w.heap.size + 1 + 1, i, none⟩ = false); clear f5 k5))
        have b6 : But (fun j => j = w.heap.size + 1 + 1) v2 (v2.setCell ⟨w.heap.size + 1 + 1, 0, none⟩ (.bool bb)) := (But.refl _ _).here _ _
        have BK := (K4.out.trans K5.out (fun _ _ h => .inl h))
        refine .inr ⟨.ret, .inl ⟨rfl, rfl⟩, ⟨rfl, ⟨F5.out.but b6 (by omega), HQ.out _ _ _ (HQ.out _ _ _ Q4.out K5.out (fun j e => .inl e)) b6 (fun j e => .inr (by omega)), ((HKK.out.but _).trans BK (fun _ _ h => h)).trans b6 (fun i hi e => by omega), by rw [cell_set, if_pos rfl, r0]; rfl, ?_⟩⟩, ?_⟩
        · have := BK.size; have := b6.size; have := HSZ.out; omega
        · exact (Sk.Blk.of ((BK.mono (T := fun k => (k = F ∨ T k) ∨ k = w.heap.size + 1 + 1) (fun _ _ h => .inl h)).trans b6 (fun _ _ e => .inr e)))
      · rw [hx] at p4
        have HC := Lib.hid (hc X HKK.out)
        clear hc hx
        gi_wp2_with (refine ⟨trivial, ?_⟩; first | (gi_at_call 89; refine (CallsIn.inRound l0 (callsIn_wide.2 HC.out)).mono ?_; rintro e v ⟨rfl, f4, q4, k4⟩; have F4 := Lib.hid f4; have K4 := Lib.hid k4; have Q4 := Lib.hid q4; have b0 := k4.some b0 (NN.out _ (by omega)); have r0 := k4.some r0 (NN.out _ (by omega)); have rf := (fun i => k4.soft (lt_of_cell HI.out.r) (rf i) : ∀ i, v.frozen? ⟨w.heap.size + 1 + 1, i, none⟩ = false); clear f4 k4 q4) | (gi_at_call 91; refine (CallsIn.inRound l0 (callsIn_wide.2 (EN _ F4.out).out)).mono ?_; rintro e v2 ⟨rfl, f5, k5⟩; have F5 := Lib.hid f5; have K5 := Lib.hid k5; have r0 := k5.some r0 (by omega); have rf := (fun i => k5.soft (by have := lt_of_cell HI.out.r; have := K4.out.size; omega) (rf i) : ∀ i, v2.frozen? ⟨w.heap.size + 1 + 1, i, none⟩ = false); clear f5 k5))
        have b6 : But (fun j => j = w.heap.size + 1 + 1) v2 (v2.setCell ⟨w.heap.size + 1 + 1, 0, none⟩ (.bool bb)) := (But.refl _ _).here _ _
        have BK := (K4.out.trans K5.out (fun _ _ h => .inl h))
        refine .inr ⟨.ret, .inl ⟨rfl, rfl⟩, ⟨rfl, ⟨F5.out.but b6 (by omega), HQ.out _ _ _ (HQ.out _ _ _ Q4.out K5.out (fun j e => .inl e)) b6 (fun j e => .inr (by omega)), ((HKK.out.but _).trans BK (fun _ _ h => h)).trans b6 (fun i hi e => by omega), by rw [cell_set, if_pos rfl, r0]; rfl, ?_⟩⟩, ?_⟩
        · have := BK.size; have := b6.size; have := HSZ.out; omega
        · exact (Sk.Blk.of ((BK.mono (T := fun k => (k = F ∨ T k) ∨ k = w.heap.size + 1 + 1) (fun _ _ h => .inl h)).trans b6 (fun _ _ e => .inr e)))
      · rw [hx] at p4
        have HC := Lib.hid (hc X HKK.out)
        clear hc hx
        gi_wp2_with (refine ⟨trivial, ?_⟩; first | (gi_at_call 90; refine (CallsIn.inRound l0 (callsIn_wide.2 HC.out)).mono ?_; rintro e v ⟨rfl, f4, q4, k4⟩; have F4 := Lib.hid f4; have K4 := Lib.hid k4; have Q4 := Lib.hid q4; have b0 := k4.some b0 (NN.out _ (by omega)); have r0 := k4.some r0 (NN.out _ (by omega)); have rf := (fun i => k4.soft (lt_of_cell HI.out.r) (rf i) : ∀ i, v.frozen? ⟨w.heap.size + 1 + 1, i, none⟩ = false); clear f4 k4 q4) | (gi_at_call 91; refine (CallsIn.inRound l0 (callsIn_wide.2 (EN _ F4.out).out)).mono ?_; rintro e v2 ⟨rfl, f5, k5⟩; have F5 := Lib.hid f5; have K5 := Lib.hid k5; have r0 := k5.some r0 (by omega); have rf := (fun i => k5.soft (by have := lt_of_cell HI.out.r; have := K4.out.size; omega) (rf i) : ∀ i, v2.frozen? ⟨w.heap.size + 1 + 1, i, none⟩ = false); clear f5 k5))
        have b6 : But (fun j => j = w.heap.size + 1 + 1) v2 (v2.setCell ⟨w.heap.size + 1 + 1, 0, none⟩ (.bool bb)) := (But.refl _ _).here _ _
        have BK := (K4.out.trans K5.out (fun _ _ h => .inl h))
        refine .inr ⟨.ret, .inl ⟨rfl, rfl⟩, ⟨rfl, ⟨F5.out.but b6 (by omega), HQ.out _ _ _ (HQ.out _ _ _ Q4.out K5.out (fun j e => .inl e)) b6 (fun j e => .inr (by omega)), ((HKK.out.but _).trans BK (fun _ _ h => h)).trans b6 (fun i hi e => by omega), by rw [cell_set, if_pos rfl, r0]; rfl, ?_⟩⟩, ?_⟩
        · have := BK.size; have := b6.size; have := HSZ.out; omega
        · exact (Sk.Blk.of ((BK.mono (T := fun k => (k = F ∨ T k) ∨ k = w.heap.size + 1 + 1) (fun _ _ h => .inl h)).trans b6 (fun _ _ e => .inr e)))
  · intro D xs X hN hI hbut hD hd
    exfalso
    obtain ⟨h1, h2, h3⟩ := HL.out
    refine h2 (hI.dn l ?_)
    rw [hN, show l = g - 1 - (g - 1 - l) by omega]
    exact mem_ls (by omega)
  · intro D cd xs X hI hbut hD hd
    obtain ⟨rfl, hX⟩ := hI
    have r0 := hX.r
    clear hbut
    rw [wpIn_wide]
    go_wp2
    have bD : But (fun k => k = D) X (X.putObj D (.deferred none)) := Sk.but_turned (But.refl _ _) hd rfl rfl (.inl rfl)
    have hY := hX.go lF hz (fun W W' S q b e => HQ.out W W' S q b (fun j hj => .inr (e j hj))) bD (fun j e => by subst e; exact hD)
    have e0 := hY.r
    refine ⟨by simp, .inl ⟨_, _, rfl, run_takeDeferred hd, ?_⟩⟩
    exact ⟨.bool bb, by simp [results, Try.results53, go_sem, e0], rfl, hY.fd, hY.q, hY.but⟩
end Go.Proofs.Ytejiogggocnldaa.Fd
