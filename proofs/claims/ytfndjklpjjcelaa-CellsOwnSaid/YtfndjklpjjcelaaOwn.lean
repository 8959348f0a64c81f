/- The walk of CellsOwn, over the model. -/
import Derived.Test.YtfndjklpjjcelaaOwnFacts
import Derived.Deep.QuietTactic
import Derived.BigQuiet
namespace Go.Proofs.Ytfndjklpjjcelaa
open Go.RowKit

theorem frozen_new (w : World) (C : Array Value) (t : TypeId) (n i : Nat) (h : n = w.heap.size) : (w.alloc (.cells C t)).frozen? ⟨n, i, none⟩ = false := by
  subst h; simp
theorem far4 {w : World} {b b' o : Nat} {v0 v1 v2 v3 u : Value} (h : b' ≠ b) (hc : w.cell? ⟨b, o, none⟩ = some u) :
    ((((w.setCell ⟨b', 0, none⟩ v0).setCell ⟨b', 1, none⟩ v1).setCell ⟨b', 2, none⟩ v2).setCell ⟨b', 3, none⟩ v3).cell? ⟨b, o, none⟩ = some u := by
  rw [cell_set_far _ _ _ _ _ _ h, cell_set_far _ _ _ _ _ _ h, cell_set_far _ _ _ _ _ _ h, cell_set_far _ _ _ _ _ _ h]; exact hc
theorem put4 {w : World} {b : Nat} {v0 v1 v2 v3 u0 u1 u2 u3 : Value} (h0 : w.cell? ⟨b, 0, none⟩ = some u0) (h1 : w.cell? ⟨b, 1, none⟩ = some u1) (h2 : w.cell? ⟨b, 2, none⟩ = some u2) (h3 : w.cell? ⟨b, 3, none⟩ = some u3) :
    ((((w.setCell ⟨b, 0, none⟩ v0).setCell ⟨b, 1, none⟩ v1).setCell ⟨b, 2, none⟩ v2).setCell ⟨b, 3, none⟩ v3).cell? ⟨b, 0, none⟩ = some v0 ∧
    ((((w.setCell ⟨b, 0, none⟩ v0).setCell ⟨b, 1, none⟩ v1).setCell ⟨b, 2, none⟩ v2).setCell ⟨b, 3, none⟩ v3).cell? ⟨b, 1, none⟩ = some v1 ∧
    ((((w.setCell ⟨b, 0, none⟩ v0).setCell ⟨b, 1, none⟩ v1).setCell ⟨b, 2, none⟩ v2).setCell ⟨b, 3, none⟩ v3).cell? ⟨b, 2, none⟩ = some v2 ∧
    ((((w.setCell ⟨b, 0, none⟩ v0).setCell ⟨b, 1, none⟩ v1).setCell ⟨b, 2, none⟩ v2).setCell ⟨b, 3, none⟩ v3).cell? ⟨b, 3, none⟩ = some v3 := by
  simp [cell_set, h0, h1, h2, h3]
theorem kept4 {a w : World} {b : Nat} {v0 v1 v2 v3 : Value} (k : Kept a w) (h : a.heap.size ≤ b) : Kept a ((((w.setCell ⟨b, 0, none⟩ v0).setCell ⟨b, 1, none⟩ v1).setCell ⟨b, 2, none⟩ v2).setCell ⟨b, 3, none⟩ v3) :=
  (((k.setCell (p := ⟨b, 0, none⟩) h v0).setCell (p := ⟨b, 1, none⟩) h v1).setCell (p := ⟨b, 2, none⟩) h v2).setCell (p := ⟨b, 3, none⟩) h v3
def OwnRel (C : Cells) (w : World) (n M1 : Nat) (S1 : Nat → Prop) (M2 : Nat) (S2 : Nat → Prop) (len : Nat) (i : Value) (wr : World) : Prop :=
  ∃ (k : Nat) (s r : St), k ≤ len ∧ i = .int .i64 k ∧ 0 ≤ s.cnt ∧ s.cnt ≤ k ∧ 0 ≤ r.cnt ∧ r.cnt ≤ k ∧ (∀ j, r.ws j = s.ws j) ∧ C.Is wr M1 S1 n s ∧ C.Is wr M2 S2 n r ∧ Kept w wr

/-- What 'does' leaves, by names. -/
def ActPost (C : Cells) (M : Nat) (S : Nat → Prop) (n : Nat) (s' : St) (v : Int) (w : World) (e : Ending) (w' : World) : Prop :=
  e = .returned (.int .u64 v) ∧ C.Is w' M S n s' ∧ But S w w'

/-- Behind the copy of an access: the words that were there, the count, the access's own variable. -/
def OwnCut (n : Nat) (s : St) (a0 a1 a2 a3 : Int) (wr : World) (t11 t12 t13 : Value) (wx : World) : Prop :=
  ∃ b5 c5 be, t11 = .slice (some ⟨b5, 0, none⟩) n c5 ∧ t12 = .int .i64 s.cnt ∧ t13 = .pointer (some ⟨be, 0, none⟩) ∧ Kept wr wx ∧ wr.heap.size ≤ b5 ∧ wr.heap.size ≤ be ∧ (∀ i, i < n → wx.cell? ⟨b5, i, none⟩ = some (.int .u64 (s.ws i))) ∧
    wx.cell? ⟨be, 0, none⟩ = some (.int .i64 a0) ∧ wx.cell? ⟨be, 1, none⟩ = some (.int .i64 a1) ∧ wx.cell? ⟨be, 2, none⟩ = some (.int .u64 a2) ∧ wx.cell? ⟨be, 3, none⟩ = some (.int .u64 a3)


set_option maxHeartbeats 4000000 in
set_option maxRecDepth 100000 in
theorem own_walk (C : Cells) (x : Int) (p n : Nat) (hp : p < 100) (hn : n = 1 + p) (HP : ∀ w, Hid (Calls Try.prog 27 #[.int .i64 x, .int .i64 100] w fun e w' => e = .returned (.int .i64 (p : Int)) ∧ w = w'))
    (q1 : Option Addr) (len1 cap1 : Nat) (w : World) (h1 : len1 ≤ 60) (t1 : IsTable w q1 len1 cap1 4 actR) :
    Calls Try.prog 6 #[.int .i64 x, .slice q1 len1 cap1] w fun e w' => e = .returned (.bool true) ∧ Kept w w' := by
  have T1 := Lib.hid t1
  have HNW : Hid (∀ w, Calls Try.prog 9 #[.int .i64 (n : Int)] w (MadePost C.Is n St.zero w)) := Lib.hid (fun w => C.new_yes n w (by omega) (by omega))
  have HN : Hid (n ≤ 9223372036854775807) := Lib.hid (by omega)
  have hpn : 1 + (p : Int) = (n : Int) := by omega
  have hn100 : (n : Int) ≤ 100 := by omega
  clear t1 hn
  go_enter Try.func6, Try.ntmps6
  go_wp2_with fail
  refine (known_any C _).mono ?_
  rintro e w1 ⟨rfl, k1⟩
  go_wp2_with fail
  refine (HP _).out.mono ?_
  rintro e w2 ⟨rfl, rfl⟩
  go_wp2_with fail
  refine (HNW.out _).mono ?_
  rintro e w2 ⟨M1, S1, rfl, i1, g1, k2⟩
  go_wp2_with fail
  refine (HNW.out _).mono ?_
  rintro e w3 ⟨M2, S2, rfl, i2, g2, k3⟩
  have G1 : Hid (∀ j, S1 j → w.heap.size ≤ j) := Lib.hid (fun j h => by have := g1 j h; have := k1.size; omega)
  have G2 : Hid (∀ j, S2 j → w.heap.size ≤ j) := Lib.hid (fun j h => by have := g2 j h; have := k1.size; have := k2.size; omega)
  have DJ : Hid ((∀ j, S2 j → ¬ S1 j) ∧ (∀ j, S1 j → ¬ S2 j)) := Lib.hid ⟨fun j a b => by have := g1 j b; have := g2 j a; omega, fun j a b => by have := g1 j a; have := g2 j b; omega⟩
  have J1 : Hid (C.Is w3 M1 S1 n St.zero) := Lib.hid (C.frame i1 (k3.but (fun _ => False)) (fun _ _ h => h))
  have J2 := Lib.hid i2
  have K3 := (k1.trans k2).trans k3
  clear i1 i2 g1 g2 k1 k2 k3 hpn
  go_wp2_with fail
  go_loopw [10] (OwnRel C w n M1 S1 M2 S2 len1) (fun i _ => len1 - (intOf i).toNat)
  case atStart => exact ⟨0, St.zero, St.zero, Nat.zero_le _, rfl, by decide, by decide, by decide, by decide, fun _ => rfl, J1.out, J2.out, K3⟩
  case round =>
    obtain ⟨k, s, r, hk, rfl, hs0, hs1, hr0, hr1, hrs, i1, i2, kw⟩ := hrel
    have HRS := Lib.hid hrs
    clear J1 J2 K3 hrs
    by_cases hlt : k < len1
    · skip
      obtain ⟨b, off, rfl, _, _, hbw, hel⟩ := T1.out.at (by omega) (by decide)
      obtain ⟨a0, e0, _⟩ := (hel k hlt 0 (by decide)).2.1 rfl
      obtain ⟨a1, e1, _⟩ := (hel k hlt 1 (by decide)).2.2.1 rfl
      obtain ⟨a2, e2, _⟩ := (hel k hlt 2 (by decide)).2.2.2.1 rfl
      obtain ⟨a3, e3, _⟩ := (hel k hlt 3 (by decide)).2.2.2.2 rfl
      have c0 : wr.cell? ⟨b, off + k * 4, none⟩ = some (.int .i64 a0) := kw.some (by rw [← e0]; exact (hel k hlt 0 (by decide)).1)
      have c1 : wr.cell? ⟨b, off + k * 4 + 1, none⟩ = some (.int .i64 a1) := kw.some (by rw [← e1]; exact (hel k hlt 1 (by decide)).1)
      have c2 : wr.cell? ⟨b, off + k * 4 + 2, none⟩ = some (.int .u64 a2) := kw.some (by rw [← e2]; exact (hel k hlt 2 (by decide)).1)
      have c3 : wr.cell? ⟨b, off + k * 4 + 3, none⟩ = some (.int .u64 a3) := kw.some (by rw [← e3]; exact (hel k hlt 3 (by decide)).1)
      clear e0 e1 e2 e3 hel
      have I1 : Hid (∀ w', Kept wr w' → C.Is w' M1 S1 n s) := Lib.hid (fun w' h => C.frame i1 (h.but (fun _ => False)) (fun _ _ h => h))
      have I2 := Lib.hid i2
      have LO : Hid (∀ j, S1 j → j < wr.heap.size) := Lib.hid (C.low i1)
      have ZW := kw.size
      have nr : wr.heap.size ≠ b := by omega
      clear i1 i2
      go_upto_region 12 with fail
      go_cut [11, 12, 13] (OwnCut n s a0 a1 a2 a3 wr)
      case first =>
        go_upto_region 12 with fail
        go_region_held3 (fun w' => w'.cell? ⟨b, off + k * 4, none⟩ = some (.int .i64 a0) ∧ w'.cell? ⟨b, off + k * 4 + 1, none⟩ = some (.int .i64 a1) ∧ w'.cell? ⟨b, off + k * 4 + 2, none⟩ = some (.int .u64 a2) ∧ w'.cell? ⟨b, off + k * 4 + 3, none⟩ = some (.int .u64 a3)) (first | (with_reducible exact ⟨far4 n5 (K6.some c0), far4 n5 (K6.some c1), far4 n5 (K6.some c2), far4 n5 (K6.some c3)⟩) | (with_reducible exact ⟨far4 nr (K6.some c0), far4 nr (K6.some c1), far4 nr (K6.some c2), far4 nr (K6.some c3)⟩) | (with_reducible exact ⟨(K5).some c0, (K5).some c1, (K5).some c2, (K5).some c3⟩) | (with_reducible exact ⟨(K6).some c0, (K6).some c1, (K6).some c2, (K6).some c3⟩) | (with_reducible exact ⟨(K6.alloc _ _).some c0, (K6.alloc _ _).some c1, (K6.alloc _ _).some c2, (K6.alloc _ _).some c3⟩) | (with_reducible exact ⟨((K6.alloc _ _).drew).some c0, ((K6.alloc _ _).drew).some c1, ((K6.alloc _ _).drew).some c2, ((K6.alloc _ _).drew).some c3⟩) | (with_reducible exact ⟨(K5.alloc _ _).some c0, (K5.alloc _ _).some c1, (K5.alloc _ _).some c2, (K5.alloc _ _).some c3⟩) | (with_reducible exact ⟨(((Kept.refl wr).drew.alloc _ _)).some c0, (((Kept.refl wr).drew.alloc _ _)).some c1, (((Kept.refl wr).drew.alloc _ _)).some c2, (((Kept.refl wr).drew.alloc _ _)).some c3⟩) | go_keep) (first | (go_at_call 19; (with_reducible refine (C.words M1 S1 n s _ (I1.out _ ?_)).mono ?_); ((go_light; repeat (first | (with_reducible exact Kept.refl _) | (with_reducible assumption) | (with_reducible refine Kept.alloc ?_ _ _) | (with_reducible refine Kept.drew ?_) | (with_reducible refine Kept.drewN ?_ _) | ((with_reducible refine Kept.setCell ?_ ?_ _); rotate_left; focus (first | (simp; done) | (simp; omega))) | refine Kept.trans ?_ (by assumption)))); rintro e w5 ⟨b5, c5, rfl, hb5, hb5', hw5, _, k5⟩; have K5 : Kept wr w5 := (by (go_light; repeat (first | (with_reducible exact Kept.refl _) | (with_reducible assumption) | (with_reducible refine Kept.alloc ?_ _ _) | (with_reducible refine Kept.drew ?_) | (with_reducible refine Kept.drewN ?_ _) | ((with_reducible refine Kept.setCell ?_ ?_ _); rotate_left; focus (first | (simp; done) | (simp; omega))) | refine Kept.trans ?_ (by assumption)))); have n5 : w5.heap.size ≠ b := (by have := K5.size; omega); have m5 : wr.heap.size < w5.heap.size := (by have h := k5.size; have h' := hb5; simp at h h'; omega); have hc5 := k5.cell; have hf5 := k5.froze) | (go_at_call 21; (with_reducible refine (C.count M1 S1 n s _ (I1.out _ ?_)).mono ?_); ((go_light; repeat (first | (with_reducible exact Kept.refl _) | (with_reducible assumption) | (with_reducible refine Kept.alloc ?_ _ _) | (with_reducible refine Kept.drew ?_) | (with_reducible refine Kept.drewN ?_ _) | ((with_reducible refine Kept.setCell ?_ ?_ _); rotate_left; focus (first | (simp; done) | (simp; omega))) | refine Kept.trans ?_ (by assumption)))); rintro e w6 ⟨rfl, k6⟩; have K6 : Kept wr w6 := (by (go_light; repeat (first | (with_reducible exact Kept.refl _) | (with_reducible assumption) | (with_reducible refine Kept.alloc ?_ _ _) | (with_reducible refine Kept.drew ?_) | (with_reducible refine Kept.drewN ?_ _) | ((with_reducible refine Kept.setCell ?_ ?_ _); rotate_left; focus (first | (simp; done) | (simp; omega))) | refine Kept.trans ?_ (by assumption)))); have hc6 := k6.cell; have hf6 := k6.froze))
        · go_wp2_with fail
          go_meet
          have z6 := k6.size
          have z56 := K6.size
          have y5 := hb5
          simp at z6 y5
          exact ⟨b5, c5, w6.heap.size, rfl, rfl, rfl, K6.alloc _ _, by omega, by omega, fun i hi => ((Kept.refl w6).alloc _ _).some (k6.some (hw5 i hi)), by rw [cell_new _ _ _ _ _ rfl]; rfl, by rw [cell_new _ _ _ _ _ rfl]; rfl, by rw [cell_new _ _ _ _ _ rfl]; rfl, by rw [cell_new _ _ _ _ _ rfl]; rfl⟩
        · go_wp2_with fail
          go_meet
          have z5 := k5.size
          have z6 := k6.size
          have y5 := hb5
          have z56 := K5.size
          simp at z5 z6 y5
          obtain ⟨p0, p1, p2, p3⟩ := put4 (v0 := .int .i64 a0) (v1 := .int .i64 a1) (v2 := .int .u64 a2) (v3 := .int .u64 a3) (k6.some (v := (.int .i64 0)) (b := w5.heap.size) (o := 0) (by rw [cell_new _ _ _ _ _ (by simp)]; rfl)) (k6.some (v := (.int .i64 0)) (b := w5.heap.size) (o := 1) (by rw [cell_new _ _ _ _ _ (by simp)]; rfl)) (k6.some (v := (.int .u64 0)) (b := w5.heap.size) (o := 2) (by rw [cell_new _ _ _ _ _ (by simp)]; rfl)) (k6.some (v := (.int .u64 0)) (b := w5.heap.size) (o := 3) (by rw [cell_new _ _ _ _ _ (by simp)]; rfl))
          exact ⟨b5, c5, w5.heap.size, rfl, rfl, rfl, kept4 K6 (by omega), by omega, by omega, fun i hi => far4 (by omega) (k6.some (((Kept.refl w5).alloc _ _).some (hw5 i hi))), p0, p1, p2, p3⟩
        · go_wp2_with fail
          go_meet
          have z5 := k5.size
          have z6 := k6.size
          have y5 := hb5
          have z56 := K5.size
          simp at z5 z6 y5
          obtain ⟨p0, p1, p2, p3⟩ := put4 (v0 := .int .i64 a0) (v1 := .int .i64 a1) (v2 := .int .u64 a2) (v3 := .int .u64 a3) (k6.some (v := (.int .i64 0)) (b := wr.heap.size) (o := 0) (k5.some (by simp))) (k6.some (v := (.int .i64 0)) (b := wr.heap.size) (o := 1) (k5.some (by simp))) (k6.some (v := (.int .u64 0)) (b := wr.heap.size) (o := 2) (k5.some (by simp))) (k6.some (v := (.int .u64 0)) (b := wr.heap.size) (o := 3) (k5.some (by simp)))
          exact ⟨b5, c5, wr.heap.size, rfl, rfl, rfl, kept4 K6 (by omega), by omega, by omega, fun i hi => far4 (by omega) (k6.some (hw5 i hi)), p0, p1, p2, p3⟩
      case rest =>
        obtain ⟨b5, c5, be, rfl, rfl, rfl, kx, hb5, hbe, hw5, e0, e1, e2, e3⟩ := hcut
        obtain ⟨wx, rfl⟩ : ∃ wx, wx = wc := ⟨_, rfl⟩
        have HW5 := Lib.hid hw5
        clear hw5
        have LB : Hid (¬ S1 be ∧ ¬ S1 b5) := Lib.hid ⟨fun h => by have := LO.out _ h; omega, fun h => by have := LO.out _ h; omega⟩
        have E0 := Lib.hid e0
        have E1 := Lib.hid e1
        have E2 := Lib.hid e2
        have E3 := Lib.hid e3
        have ZX := kx.size
        clear c0 c1 c2 c3 e0 e1 e2 e3
        rcases (show a0 < 1 ∨ 4 < a0 ∨ 1 ≤ a0 ∧ a0 ≤ 4 by omega) with hk1 | hk2 | ⟨hk1, hk2⟩
        · as_aux_lemma =>
            have HD : Hid (∀ w', Kept wr w' → Calls Try.prog 28 #[.pointer (some ⟨M1, 0, none⟩), .agg #[.int .i64 a0, .int .i64 a1, .int .u64 a2, .int .u64 a3]] w' (ActPost C M1 S1 n s (doesVal n s a0 a1 a2 a3) w')) := Lib.hid (fun w' h => by
              have h1 := does_any C M1 S1 n s a0 a1 a2 a3 w' (I1.out w' h) hs0 (by omega)
              have h2 := bad_kind n s a0 a1 a2 a3 (by omega)
              exact h1.mono (fun e w'' h => by unfold DoesPost at h; rw [h2] at h; exact h))
            obtain ⟨v, hv⟩ : ∃ v, v = doesVal n s a0 a1 a2 a3 := ⟨_, rfl⟩
            rw [← hv] at HD
            clear hv
            have f0 : wx.cell? ⟨be, 0, none⟩ = some (.int .i64 a0) := E0.out
            have f1 : wx.cell? ⟨be, 1, none⟩ = some (.int .i64 a1) := E1.out
            have f2 : wx.cell? ⟨be, 2, none⟩ = some (.int .u64 a2) := E2.out
            have f3 : wx.cell? ⟨be, 3, none⟩ = some (.int .u64 a3) := E3.out
            go_wp2_with fail
            refine (HD.out _ kx).mono ?_
            rintro e w7 ⟨rfl, i7, b7⟩
            clear f0 f1 f2 f3
            have I7 : Hid (∀ w', Kept w7 w' → C.Is w' M1 S1 n s) := Lib.hid (fun w' h => C.frame i7 (h.but (fun _ => False)) (fun _ _ h => h))
            have J2 : Hid (∀ w', Kept w7 w' → C.Is w' M2 S2 n r) := Lib.hid (fun w' h => C.frame (C.frame (C.frame I2.out (kx.but (fun _ => False)) (fun _ _ h => h)) b7 DJ.out.1) (h.but (fun _ => False)) (fun _ _ h => h))
            have W7 : Hid (∀ i, i < n → w7.cell? ⟨b5, i, none⟩ = some (.int .u64 (s.ws i))) := Lib.hid (fun i hi => b7.some (HW5.out i hi) LB.out.2)
            have f0 : w7.cell? ⟨be, 0, none⟩ = some (.int .i64 a0) := b7.some E0.out LB.out.1
            have f1 : w7.cell? ⟨be, 1, none⟩ = some (.int .i64 a1) := b7.some E1.out LB.out.1
            have f2 : w7.cell? ⟨be, 2, none⟩ = some (.int .u64 a2) := b7.some E2.out LB.out.1
            have f3 : w7.cell? ⟨be, 3, none⟩ = some (.int .u64 a3) := b7.some E3.out LB.out.1
            have K7 : Hid (Kept w w7) := Lib.hid (kept_past (kw.trans kx) b7 G1.out)
            have Z7 := b7.size
            clear i7 b7
            go_wp2_with fail
            refine (C.words M1 S1 n s _ (I7.out _ (Kept.refl _))).mono ?_
            rintro e w8 ⟨b8, c8, rfl, hb8, hb8', hw8, _, k8⟩
            have Q8 : Hid (∀ i, i < n → w8.cell? ⟨b8, i, none⟩ = some (.int .u64 (s.ws i))) := Lib.hid hw8
            clear hw8
            have g0 := k8.some f0
            have g1 := k8.some f1
            have g2 := k8.some f2
            have g3 := k8.some f3
            clear f0 f1 f2 f3
            go_wp2_with fail
            refine (C.last M1 S1 n s _ (I7.out _ k8)).mono ?_
            rintro e w9 ⟨rfl, k9⟩
            have f0 := k9.some g0
            have f1 := k9.some g1
            have f2 := k9.some g2
            have f3 := k9.some g3
            have lbe : be < w9.heap.size := lt_of_cell f0
            have K79 := k8.trans k9
            have Z9 := K79.size
            clear g0 g1 g2 g3
            go_wp2_with fail
            refine (C.count M1 S1 n s _ (I7.out _ (K79.alloc _ _))).mono ?_
            rintro e w10 ⟨rfl, k10⟩
            have K10 : Kept w7 w10 := (K79.alloc _ _).trans k10
            go_wp2_with fail
            refine (sameWords_yes b5 0 c5 b8 0 c8 n s.ws _ HN.out (fun i hi => by rw [Nat.zero_add]; exact K10.some (W7.out i hi)) (fun i hi => by rw [Nat.zero_add]; exact ((k9.alloc _ _).trans k10).some (Q8.out i hi))).mono ?_
            rintro e w11 ⟨rfl, k11⟩
            clear f0 f1 f2 f3
            go_wp2
            go_roundw
            case rel => exact ⟨k + 1, s, r, by omega, by go_num, hs0, by omega, hr0, by omega, HRS.out, I7.out _ (K10.trans k11), J2.out _ (K10.trans k11), K7.out.trans (K10.trans k11)⟩
            case measure => simp [intOf]; omega
        · as_aux_lemma =>
            have HD : Hid (∀ w', Kept wr w' → Calls Try.prog 28 #[.pointer (some ⟨M1, 0, none⟩), .agg #[.int .i64 a0, .int .i64 a1, .int .u64 a2, .int .u64 a3]] w' (ActPost C M1 S1 n s (doesVal n s a0 a1 a2 a3) w')) := Lib.hid (fun w' h => by
              have h1 := does_any C M1 S1 n s a0 a1 a2 a3 w' (I1.out w' h) hs0 (by omega)
              have h2 := bad_kind n s a0 a1 a2 a3 (by omega)
              exact h1.mono (fun e w'' h => by unfold DoesPost at h; rw [h2] at h; exact h))
            obtain ⟨v, hv⟩ : ∃ v, v = doesVal n s a0 a1 a2 a3 := ⟨_, rfl⟩
            rw [← hv] at HD
            clear hv
            have f0 : wx.cell? ⟨be, 0, none⟩ = some (.int .i64 a0) := E0.out
            have f1 : wx.cell? ⟨be, 1, none⟩ = some (.int .i64 a1) := E1.out
            have f2 : wx.cell? ⟨be, 2, none⟩ = some (.int .u64 a2) := E2.out
            have f3 : wx.cell? ⟨be, 3, none⟩ = some (.int .u64 a3) := E3.out
            go_wp2_with fail
            refine (HD.out _ kx).mono ?_
            rintro e w7 ⟨rfl, i7, b7⟩
            clear f0 f1 f2 f3
            have I7 : Hid (∀ w', Kept w7 w' → C.Is w' M1 S1 n s) := Lib.hid (fun w' h => C.frame i7 (h.but (fun _ => False)) (fun _ _ h => h))
            have J2 : Hid (∀ w', Kept w7 w' → C.Is w' M2 S2 n r) := Lib.hid (fun w' h => C.frame (C.frame (C.frame I2.out (kx.but (fun _ => False)) (fun _ _ h => h)) b7 DJ.out.1) (h.but (fun _ => False)) (fun _ _ h => h))
            have W7 : Hid (∀ i, i < n → w7.cell? ⟨b5, i, none⟩ = some (.int .u64 (s.ws i))) := Lib.hid (fun i hi => b7.some (HW5.out i hi) LB.out.2)
            have f0 : w7.cell? ⟨be, 0, none⟩ = some (.int .i64 a0) := b7.some E0.out LB.out.1
            have f1 : w7.cell? ⟨be, 1, none⟩ = some (.int .i64 a1) := b7.some E1.out LB.out.1
            have f2 : w7.cell? ⟨be, 2, none⟩ = some (.int .u64 a2) := b7.some E2.out LB.out.1
            have f3 : w7.cell? ⟨be, 3, none⟩ = some (.int .u64 a3) := b7.some E3.out LB.out.1
            have K7 : Hid (Kept w w7) := Lib.hid (kept_past (kw.trans kx) b7 G1.out)
            have Z7 := b7.size
            clear i7 b7
            go_wp2_with fail
            refine (C.words M1 S1 n s _ (I7.out _ (Kept.refl _))).mono ?_
            rintro e w8 ⟨b8, c8, rfl, hb8, hb8', hw8, _, k8⟩
            have Q8 : Hid (∀ i, i < n → w8.cell? ⟨b8, i, none⟩ = some (.int .u64 (s.ws i))) := Lib.hid hw8
            clear hw8
            have g0 := k8.some f0
            have g1 := k8.some f1
            have g2 := k8.some f2
            have g3 := k8.some f3
            clear f0 f1 f2 f3
            go_wp2_with fail
            refine (C.last M1 S1 n s _ (I7.out _ k8)).mono ?_
            rintro e w9 ⟨rfl, k9⟩
            have f0 := k9.some g0
            have f1 := k9.some g1
            have f2 := k9.some g2
            have f3 := k9.some g3
            have lbe : be < w9.heap.size := lt_of_cell f0
            have K79 := k8.trans k9
            have Z9 := K79.size
            clear g0 g1 g2 g3
            go_wp2_with fail
            refine (C.count M1 S1 n s _ (I7.out _ (K79.alloc _ _))).mono ?_
            rintro e w10 ⟨rfl, k10⟩
            have K10 : Kept w7 w10 := (K79.alloc _ _).trans k10
            go_wp2_with fail
            refine (sameWords_yes b5 0 c5 b8 0 c8 n s.ws _ HN.out (fun i hi => by rw [Nat.zero_add]; exact K10.some (W7.out i hi)) (fun i hi => by rw [Nat.zero_add]; exact ((k9.alloc _ _).trans k10).some (Q8.out i hi))).mono ?_
            rintro e w11 ⟨rfl, k11⟩
            clear f0 f1 f2 f3
            go_wp2
            go_roundw
            case rel => exact ⟨k + 1, s, r, by omega, by go_num, hs0, by omega, hr0, by omega, HRS.out, I7.out _ (K10.trans k11), J2.out _ (K10.trans k11), K7.out.trans (K10.trans k11)⟩
            case measure => simp [intOf]; omega
        · obtain ⟨s', v, HA, HF, HD⟩ : ∃ s' v, Hid (Acted n s s' a0 a1 v) ∧ Hid (∀ a : Nat, a1 = a → a < n → Fit a0 a2 a3 s'.old s'.new s'.held v) ∧ Hid (∀ w', Kept wr w' → Calls Try.prog 28 #[.pointer (some ⟨M1, 0, none⟩), .agg #[.int .i64 a0, .int .i64 a1, .int .u64 a2, .int .u64 a3]] w' (ActPost C M1 S1 n s' v w')) :=
            ⟨doesSt n s a0 a1 a2 a3, doesVal n s a0 a1 a2 a3, Lib.hid (acted n s a0 a1 a2 a3 (by omega) (by omega)), Lib.hid (fun a ha hn => by subst ha; exact fitted n s a0 a2 a3 a hn (by omega) (by omega)), Lib.hid (fun w' h => does_any C M1 S1 n s a0 a1 a2 a3 w' (I1.out w' h) hs0 (by omega))⟩
          have HC0 : 0 ≤ s'.cnt ∧ s'.cnt ≤ (k + 1 : Nat) := by have := HA.out.cnt; omega
          by_cases hin : 0 ≤ a1 ∧ a1 < n
          · obtain ⟨a, rfl⟩ := Int.eq_ofNat_of_zero_le hin.1
            have han : a < n := by omega
            clear hin
            cases hh : s'.held
            · as_aux_lemma =>
                have X0 := HA.out.old (by omega) (by omega)
                simp only [Int.toNat_natCast] at X0
                obtain ⟨x1, x2⟩ := X0
                have HFF := Lib.hid (HF.out a rfl (by omega))
                have x0 : s'.held = false := hh
                have X0 := Lib.hid x0
                have X1 := Lib.hid x1
                have X2 := Lib.hid x2
                clear x0 x1 x2 hh HF
                have XC := Lib.hid HA.out.cnt
                have XK := Lib.hid HA.out.kind
                have XA := Lib.hid HA.out.at_
                have HO := Lib.hid HA.out.other
                clear HA
                have f0 : wx.cell? ⟨be, 0, none⟩ = some (.int .i64 a0) := E0.out
                have f1 : wx.cell? ⟨be, 1, none⟩ = some (.int .i64 (a : Int)) := E1.out
                have f2 : wx.cell? ⟨be, 2, none⟩ = some (.int .u64 a2) := E2.out
                have f3 : wx.cell? ⟨be, 3, none⟩ = some (.int .u64 a3) := E3.out
                go_wp2_with fail
                refine (HD.out _ kx).mono ?_
                rintro e w7 ⟨rfl, i7, b7⟩
                clear f0 f1 f2 f3
                have I7 : Hid (∀ w', Kept w7 w' → C.Is w' M1 S1 n s') := Lib.hid (fun w' h => C.frame i7 (h.but (fun _ => False)) (fun _ _ h => h))
                have J2 : Hid (∀ w', Kept w7 w' → C.Is w' M2 S2 n r) := Lib.hid (fun w' h => C.frame (C.frame (C.frame I2.out (kx.but (fun _ => False)) (fun _ _ h => h)) b7 DJ.out.1) (h.but (fun _ => False)) (fun _ _ h => h))
                have W7 : Hid (∀ i, i < n → w7.cell? ⟨b5, i, none⟩ = some (.int .u64 (s.ws i))) := Lib.hid (fun i hi => b7.some (HW5.out i hi) LB.out.2)
                have f0 : w7.cell? ⟨be, 0, none⟩ = some (.int .i64 a0) := b7.some E0.out LB.out.1
                have f1 : w7.cell? ⟨be, 1, none⟩ = some (.int .i64 (a : Int)) := b7.some E1.out LB.out.1
                have f2 : w7.cell? ⟨be, 2, none⟩ = some (.int .u64 a2) := b7.some E2.out LB.out.1
                have f3 : w7.cell? ⟨be, 3, none⟩ = some (.int .u64 a3) := b7.some E3.out LB.out.1
                have K7 : Hid (Kept w w7) := Lib.hid (kept_past (kw.trans kx) b7 G1.out)
                have Z7 := b7.size
                clear i7 b7
                go_wp2_with fail
                refine (C.words M1 S1 n s' _ (I7.out _ (Kept.refl _))).mono ?_
                rintro e w8 ⟨b8, c8, rfl, hb8, hb8', hw8, _, k8⟩
                have Q8 : Hid (∀ i, i < n → w8.cell? ⟨b8, i, none⟩ = some (.int .u64 (s'.ws i))) := Lib.hid hw8
                clear hw8
                have g0 := k8.some f0
                have g1 := k8.some f1
                have g2 := k8.some f2
                have g3 := k8.some f3
                clear f0 f1 f2 f3
                go_wp2_with fail
                refine (C.last M1 S1 n s' _ (I7.out _ k8)).mono ?_
                rintro e w9 ⟨rfl, k9⟩
                have f0 := k9.some g0
                have f1 := k9.some g1
                have f2 := k9.some g2
                have f3 := k9.some g3
                have lbe : be < w9.heap.size := lt_of_cell f0
                have K79 := k8.trans k9
                have Z9 := K79.size
                clear g0 g1 g2 g3
                rw [XK.out, XA.out, X1.out, X2.out, X0.out]
                go_wp2_with fail
                refine (C.count M1 S1 n s' _ (I7.out _ (K79.alloc _ _))).mono ?_
                rintro e w10 ⟨rfl, k10⟩
                rw [XC.out]
                have x0 : w10.cell? ⟨w9.heap.size, 0, none⟩ = some (.int .i64 a0) := k10.some (by rw [cell_new _ _ _ _ _ rfl]; rfl)
                have x1 : w10.cell? ⟨w9.heap.size, 1, none⟩ = some (.int .i64 (a : Int)) := k10.some (by rw [cell_new _ _ _ _ _ rfl]; rfl)
                have x2 : w10.cell? ⟨w9.heap.size, 2, none⟩ = some (.int .u64 (s.ws a)) := k10.some (by rw [cell_new _ _ _ _ _ rfl]; rfl)
                have x3 : w10.cell? ⟨w9.heap.size, 3, none⟩ = some (.int .u64 (s'.ws a)) := k10.some (by rw [cell_new _ _ _ _ _ rfl]; rfl)
                have x4 : w10.cell? ⟨w9.heap.size, 4, none⟩ = some (.bool false) := k10.some (by rw [cell_new _ _ _ _ _ rfl]; rfl)
                have K10 : Kept w7 w10 := (K79.alloc _ _).trans k10
                have Z10 := K10.size
                have Z11 : w9.heap.size < w10.heap.size := lt_of_cell x0
                have e0 : w10.cell? ⟨be, 0, none⟩ = some (.int .i64 a0) := ((Kept.refl w9).alloc _ _ |>.trans k10).some f0
                have e1 : w10.cell? ⟨be, 1, none⟩ = some (.int .i64 (a : Int)) := ((Kept.refl w9).alloc _ _ |>.trans k10).some f1
                have e2 : w10.cell? ⟨be, 2, none⟩ = some (.int .u64 a2) := ((Kept.refl w9).alloc _ _ |>.trans k10).some f2
                have e3 : w10.cell? ⟨be, 3, none⟩ = some (.int .u64 a3) := ((Kept.refl w9).alloc _ _ |>.trans k10).some f3
                have W10 : Hid (∀ i, i < n → w10.cell? ⟨b5, i, none⟩ = some (.int .u64 (s.ws i))) := Lib.hid (fun i hi => K10.some (W7.out i hi))
                have Q10 : Hid (∀ i, i < n → w10.cell? ⟨b8, i, none⟩ = some (.int .u64 (s'.ws i))) := Lib.hid (fun i hi => ((k9.alloc _ _).trans k10).some (Q8.out i hi))
                clear f0 f1 f2 f3 W7 Q8
                have KK := Lib.hid K10
                clear K79 k8 k9 k10 K10
                go_wp2_with fail
                go_loopw [18] (fun i wy => ∃ j : Nat, j ≤ n ∧ i = .int .i64 j ∧ Kept w10 wy) (fun i _ => n - (intOf i).toNat)
                case atStart => exact ⟨0, Nat.zero_le _, rfl, by (go_light; repeat (first | (with_reducible exact Kept.refl _) | (with_reducible assumption) | (with_reducible refine Kept.alloc ?_ _ _) | (with_reducible refine Kept.drew ?_) | (with_reducible refine Kept.drewN ?_ _) | ((with_reducible refine Kept.setCell ?_ ?_ _); rotate_left; focus (first | (simp; done) | (simp; omega))) | refine Kept.trans ?_ (by assumption)))⟩
                case round =>
                  obtain ⟨j, hj, rfl, ky⟩ := hrel
                  have y0 := ky.some x0
                  have y1 := ky.some x1
                  have y2 := ky.some x2
                  have y3 := ky.some x3
                  have y4 := ky.some x4
                  have g0 := ky.some e0
                  have g1 := ky.some e1
                  have g2 := ky.some e2
                  have g3 := ky.some e3
                  clear x0 x1 x2 x3 x4 e0 e1 e2 e3
                  by_cases hjn : j < n
                  · have hwas := ky.some (W10.out j hjn)
                    have hnow := ky.some (Q10.out j hjn)
                    by_cases hq : s'.ws j = s.ws j
                    · rw [hq] at hnow
                      clear hq
                      go_wp2_with fail
                      go_quiet (fail)
                      go_wp2
                      go_roundw
                      case rel => exact ⟨j + 1, by omega, by go_num, by (go_light; repeat (first | (with_reducible exact Kept.refl _) | (with_reducible assumption) | (with_reducible refine Kept.alloc ?_ _ _) | (with_reducible refine Kept.drew ?_) | (with_reducible refine Kept.drewN ?_ _) | ((with_reducible refine Kept.setCell ?_ ?_ _); rotate_left; focus (first | (simp; done) | (simp; omega))) | refine Kept.trans ?_ (by assumption)))⟩
                      case measure => simp [intOf]; omega
                    · have := (HO.out j hq).2
                      rw [X0.out] at this
                      cases this
                  · have HE : Hid (∀ i, s'.ws i = s.ws i) := Lib.hid (fun i => by
                      apply Classical.byContradiction
                      intro h
                      have := (HO.out i h).2
                      rw [X0.out] at this
                      cases this)
                    have hwas := ky.some (W10.out a (by omega))
                    have hnow := ky.some (Q10.out a (by omega))
                    go_wp2_with fail
                    have HG : Hid (Fit a0 a2 a3 (s.ws a) (s'.ws a) false v) := Lib.hid (by have h := HFF.out; rw [X0.out, X1.out, X2.out] at h; exact h)
                    go_region_held3 (fun w' => w'.cell? ⟨w9.heap.size, 0, none⟩ = some (.int .i64 a0) ∧ w'.cell? ⟨w9.heap.size, 1, none⟩ = some (.int .i64 (a : Int)) ∧ w'.cell? ⟨w9.heap.size, 2, none⟩ = some (.int .u64 (s.ws a)) ∧ w'.cell? ⟨w9.heap.size, 3, none⟩ = some (.int .u64 (s'.ws a)) ∧ w'.cell? ⟨w9.heap.size, 4, none⟩ = some (.bool false) ∧ w'.cell? ⟨be, 0, none⟩ = some (.int .i64 a0) ∧ w'.cell? ⟨be, 1, none⟩ = some (.int .i64 (a : Int)) ∧ w'.cell? ⟨be, 2, none⟩ = some (.int .u64 a2) ∧ w'.cell? ⟨be, 3, none⟩ = some (.int .u64 a3) ∧ w'.cell? ⟨b5, a, none⟩ = some (.int .u64 (s.ws a)) ∧ w'.cell? ⟨b8, a, none⟩ = some (.int .u64 (s'.ws a))) (first | (with_reducible exact ⟨y0, y1, y2, y3, y4, g0, g1, g2, g3, hwas, hnow⟩) | (with_reducible exact ⟨k13.some y0, k13.some y1, k13.some y2, k13.some y3, k13.some y4, k13.some g0, k13.some g1, k13.some g2, k13.some g3, k13.some hwas, k13.some hnow⟩) | go_keep) (first | (go_at_call 29; (with_reducible refine (fits_yes _ _ _ _ _ _ _ _ _ _ _ HG.out).mono ?_); rintro e w13 ⟨rfl, k12⟩; have k13 : Kept wr w13 := (by (go_light; repeat (first | (with_reducible exact Kept.refl _) | (with_reducible assumption) | (with_reducible refine Kept.alloc ?_ _ _) | (with_reducible refine Kept.drew ?_) | (with_reducible refine Kept.drewN ?_ _) | ((with_reducible refine Kept.setCell ?_ ?_ _); rotate_left; focus (first | (simp; done) | (simp; omega))) | refine Kept.trans ?_ (by assumption))))))
                    have y13 := k13.some y4
                    go_wp2
                    go_roundw
                    case rel => exact ⟨k + 1, s', r, by omega, by go_num, HC0.1, HC0.2, hr0, by omega, fun i => (HRS.out i).trans (HE.out i).symm, I7.out _ (KK.out.trans (by (go_light; repeat (first | (with_reducible exact Kept.refl _) | (with_reducible assumption) | (with_reducible refine Kept.alloc ?_ _ _) | (with_reducible refine Kept.drew ?_) | (with_reducible refine Kept.drewN ?_ _) | ((with_reducible refine Kept.setCell ?_ ?_ _); rotate_left; focus (first | (simp; done) | (simp; omega))) | refine Kept.trans ?_ (by assumption))))), J2.out _ (KK.out.trans (by (go_light; repeat (first | (with_reducible exact Kept.refl _) | (with_reducible assumption) | (with_reducible refine Kept.alloc ?_ _ _) | (with_reducible refine Kept.drew ?_) | (with_reducible refine Kept.drewN ?_ _) | ((with_reducible refine Kept.setCell ?_ ?_ _); rotate_left; focus (first | (simp; done) | (simp; omega))) | refine Kept.trans ?_ (by assumption))))), K7.out.trans (KK.out.trans (by (go_light; repeat (first | (with_reducible exact Kept.refl _) | (with_reducible assumption) | (with_reducible refine Kept.alloc ?_ _ _) | (with_reducible refine Kept.drew ?_) | (with_reducible refine Kept.drewN ?_ _) | ((with_reducible refine Kept.setCell ?_ ?_ _); rotate_left; focus (first | (simp; done) | (simp; omega))) | refine Kept.trans ?_ (by assumption)))))⟩
                    case measure => simp [intOf]; omega
            · as_aux_lemma =>
                have X0 := HA.out.old (by omega) (by omega)
                simp only [Int.toNat_natCast] at X0
                obtain ⟨x1, x2⟩ := X0
                have HFF := Lib.hid (HF.out a rfl (by omega))
                have x0 : s'.held = true := hh
                have X0 := Lib.hid x0
                have X1 := Lib.hid x1
                have X2 := Lib.hid x2
                clear x0 x1 x2 hh HF
                have XC := Lib.hid HA.out.cnt
                have XK := Lib.hid HA.out.kind
                have XA := Lib.hid HA.out.at_
                have HO := Lib.hid HA.out.other
                clear HA
                have f0 : wx.cell? ⟨be, 0, none⟩ = some (.int .i64 a0) := E0.out
                have f1 : wx.cell? ⟨be, 1, none⟩ = some (.int .i64 (a : Int)) := E1.out
                have f2 : wx.cell? ⟨be, 2, none⟩ = some (.int .u64 a2) := E2.out
                have f3 : wx.cell? ⟨be, 3, none⟩ = some (.int .u64 a3) := E3.out
                go_wp2_with fail
                refine (HD.out _ kx).mono ?_
                rintro e w7 ⟨rfl, i7, b7⟩
                clear f0 f1 f2 f3
                have I7 : Hid (∀ w', Kept w7 w' → C.Is w' M1 S1 n s') := Lib.hid (fun w' h => C.frame i7 (h.but (fun _ => False)) (fun _ _ h => h))
                have J2 : Hid (∀ w', Kept w7 w' → C.Is w' M2 S2 n r) := Lib.hid (fun w' h => C.frame (C.frame (C.frame I2.out (kx.but (fun _ => False)) (fun _ _ h => h)) b7 DJ.out.1) (h.but (fun _ => False)) (fun _ _ h => h))
                have W7 : Hid (∀ i, i < n → w7.cell? ⟨b5, i, none⟩ = some (.int .u64 (s.ws i))) := Lib.hid (fun i hi => b7.some (HW5.out i hi) LB.out.2)
                have f0 : w7.cell? ⟨be, 0, none⟩ = some (.int .i64 a0) := b7.some E0.out LB.out.1
                have f1 : w7.cell? ⟨be, 1, none⟩ = some (.int .i64 (a : Int)) := b7.some E1.out LB.out.1
                have f2 : w7.cell? ⟨be, 2, none⟩ = some (.int .u64 a2) := b7.some E2.out LB.out.1
                have f3 : w7.cell? ⟨be, 3, none⟩ = some (.int .u64 a3) := b7.some E3.out LB.out.1
                have K7 : Hid (Kept w w7) := Lib.hid (kept_past (kw.trans kx) b7 G1.out)
                have Z7 := b7.size
                clear i7 b7
                go_wp2_with fail
                refine (C.words M1 S1 n s' _ (I7.out _ (Kept.refl _))).mono ?_
                rintro e w8 ⟨b8, c8, rfl, hb8, hb8', hw8, _, k8⟩
                have Q8 : Hid (∀ i, i < n → w8.cell? ⟨b8, i, none⟩ = some (.int .u64 (s'.ws i))) := Lib.hid hw8
                clear hw8
                have g0 := k8.some f0
                have g1 := k8.some f1
                have g2 := k8.some f2
                have g3 := k8.some f3
                clear f0 f1 f2 f3
                go_wp2_with fail
                refine (C.last M1 S1 n s' _ (I7.out _ k8)).mono ?_
                rintro e w9 ⟨rfl, k9⟩
                have f0 := k9.some g0
                have f1 := k9.some g1
                have f2 := k9.some g2
                have f3 := k9.some g3
                have lbe : be < w9.heap.size := lt_of_cell f0
                have K79 := k8.trans k9
                have Z9 := K79.size
                clear g0 g1 g2 g3
                rw [XK.out, XA.out, X1.out, X2.out, X0.out]
                go_wp2_with fail
                refine (C.count M1 S1 n s' _ (I7.out _ (K79.alloc _ _))).mono ?_
                rintro e w10 ⟨rfl, k10⟩
                rw [XC.out]
                have x0 : w10.cell? ⟨w9.heap.size, 0, none⟩ = some (.int .i64 a0) := k10.some (by rw [cell_new _ _ _ _ _ rfl]; rfl)
                have x1 : w10.cell? ⟨w9.heap.size, 1, none⟩ = some (.int .i64 (a : Int)) := k10.some (by rw [cell_new _ _ _ _ _ rfl]; rfl)
                have x2 : w10.cell? ⟨w9.heap.size, 2, none⟩ = some (.int .u64 (s.ws a)) := k10.some (by rw [cell_new _ _ _ _ _ rfl]; rfl)
                have x3 : w10.cell? ⟨w9.heap.size, 3, none⟩ = some (.int .u64 (s'.ws a)) := k10.some (by rw [cell_new _ _ _ _ _ rfl]; rfl)
                have x4 : w10.cell? ⟨w9.heap.size, 4, none⟩ = some (.bool true) := k10.some (by rw [cell_new _ _ _ _ _ rfl]; rfl)
                have K10 : Kept w7 w10 := (K79.alloc _ _).trans k10
                have Z10 := K10.size
                have Z11 : w9.heap.size < w10.heap.size := lt_of_cell x0
                have e0 : w10.cell? ⟨be, 0, none⟩ = some (.int .i64 a0) := ((Kept.refl w9).alloc _ _ |>.trans k10).some f0
                have e1 : w10.cell? ⟨be, 1, none⟩ = some (.int .i64 (a : Int)) := ((Kept.refl w9).alloc _ _ |>.trans k10).some f1
                have e2 : w10.cell? ⟨be, 2, none⟩ = some (.int .u64 a2) := ((Kept.refl w9).alloc _ _ |>.trans k10).some f2
                have e3 : w10.cell? ⟨be, 3, none⟩ = some (.int .u64 a3) := ((Kept.refl w9).alloc _ _ |>.trans k10).some f3
                have W10 : Hid (∀ i, i < n → w10.cell? ⟨b5, i, none⟩ = some (.int .u64 (s.ws i))) := Lib.hid (fun i hi => K10.some (W7.out i hi))
                have Q10 : Hid (∀ i, i < n → w10.cell? ⟨b8, i, none⟩ = some (.int .u64 (s'.ws i))) := Lib.hid (fun i hi => ((k9.alloc _ _).trans k10).some (Q8.out i hi))
                clear f0 f1 f2 f3 W7 Q8
                have KK := Lib.hid K10
                clear K79 k8 k9 k10 K10
                go_wp2_with fail
                go_loopw [18] (fun i wy => ∃ j : Nat, j ≤ n ∧ i = .int .i64 j ∧ Kept w10 wy) (fun i _ => n - (intOf i).toNat)
                case atStart => exact ⟨0, Nat.zero_le _, rfl, by (go_light; repeat (first | (with_reducible exact Kept.refl _) | (with_reducible assumption) | (with_reducible refine Kept.alloc ?_ _ _) | (with_reducible refine Kept.drew ?_) | (with_reducible refine Kept.drewN ?_ _) | ((with_reducible refine Kept.setCell ?_ ?_ _); rotate_left; focus (first | (simp; done) | (simp; omega))) | refine Kept.trans ?_ (by assumption)))⟩
                case round =>
                  obtain ⟨j, hj, rfl, ky⟩ := hrel
                  have y0 := ky.some x0
                  have y1 := ky.some x1
                  have y2 := ky.some x2
                  have y3 := ky.some x3
                  have y4 := ky.some x4
                  have g0 := ky.some e0
                  have g1 := ky.some e1
                  have g2 := ky.some e2
                  have g3 := ky.some e3
                  clear x0 x1 x2 x3 x4 e0 e1 e2 e3
                  by_cases hjn : j < n
                  · have hwas := ky.some (W10.out j hjn)
                    have hnow := ky.some (Q10.out j hjn)
                    by_cases hq : s'.ws j = s.ws j
                    · rw [hq] at hnow
                      clear hq
                      go_wp2_with fail
                      go_quiet (fail)
                      go_wp2
                      go_roundw
                      case rel => exact ⟨j + 1, by omega, by go_num, by (go_light; repeat (first | (with_reducible exact Kept.refl _) | (with_reducible assumption) | (with_reducible refine Kept.alloc ?_ _ _) | (with_reducible refine Kept.drew ?_) | (with_reducible refine Kept.drewN ?_ _) | ((with_reducible refine Kept.setCell ?_ ?_ _); rotate_left; focus (first | (simp; done) | (simp; omega))) | refine Kept.trans ?_ (by assumption)))⟩
                      case measure => simp [intOf]; omega
                    · have hqb : (s'.ws j != s.ws j) = true := by simp [hq]
                      have hja := (HO.out j hq).1
                      have hja' : j = a := by omega
                      subst hja'
                      clear hq hja
                      go_wp2_with fail
                      go_quiet (fail)
                      go_wp2
                      go_roundw
                      case rel => exact ⟨j + 1, by omega, by go_num, by (go_light; repeat (first | (with_reducible exact Kept.refl _) | (with_reducible assumption) | (with_reducible refine Kept.alloc ?_ _ _) | (with_reducible refine Kept.drew ?_) | (with_reducible refine Kept.drewN ?_ _) | ((with_reducible refine Kept.setCell ?_ ?_ _); rotate_left; focus (first | (simp; done) | (simp; omega))) | refine Kept.trans ?_ (by assumption)))⟩
                      case measure => simp [intOf]; omega
                  · skip
                    have hwas := ky.some (W10.out a (by omega))
                    have hnow := ky.some (Q10.out a (by omega))
                    go_wp2_with fail
                    have HG : Hid (Fit a0 a2 a3 (s.ws a) (s'.ws a) true v) := Lib.hid (by have h := HFF.out; rw [X0.out, X1.out, X2.out] at h; exact h)
                    go_region_held3 (fun w' => w'.cell? ⟨w9.heap.size, 0, none⟩ = some (.int .i64 a0) ∧ w'.cell? ⟨w9.heap.size, 1, none⟩ = some (.int .i64 (a : Int)) ∧ w'.cell? ⟨w9.heap.size, 2, none⟩ = some (.int .u64 (s.ws a)) ∧ w'.cell? ⟨w9.heap.size, 3, none⟩ = some (.int .u64 (s'.ws a)) ∧ w'.cell? ⟨w9.heap.size, 4, none⟩ = some (.bool true) ∧ w'.cell? ⟨be, 0, none⟩ = some (.int .i64 a0) ∧ w'.cell? ⟨be, 1, none⟩ = some (.int .i64 (a : Int)) ∧ w'.cell? ⟨be, 2, none⟩ = some (.int .u64 a2) ∧ w'.cell? ⟨be, 3, none⟩ = some (.int .u64 a3) ∧ w'.cell? ⟨b5, a, none⟩ = some (.int .u64 (s.ws a)) ∧ w'.cell? ⟨b8, a, none⟩ = some (.int .u64 (s'.ws a))) (first | (with_reducible exact ⟨y0, y1, y2, y3, y4, g0, g1, g2, g3, hwas, hnow⟩) | (with_reducible exact ⟨k13.some y0, k13.some y1, k13.some y2, k13.some y3, k13.some y4, k13.some g0, k13.some g1, k13.some g2, k13.some g3, k13.some hwas, k13.some hnow⟩) | go_keep) (first | (go_at_call 29; (with_reducible refine (fits_yes _ _ _ _ _ _ _ _ _ _ _ HG.out).mono ?_); rintro e w13 ⟨rfl, k12⟩; have k13 : Kept wr w13 := (by (go_light; repeat (first | (with_reducible exact Kept.refl _) | (with_reducible assumption) | (with_reducible refine Kept.alloc ?_ _ _) | (with_reducible refine Kept.drew ?_) | (with_reducible refine Kept.drewN ?_ _) | ((with_reducible refine Kept.setCell ?_ ?_ _); rotate_left; focus (first | (simp; done) | (simp; omega))) | refine Kept.trans ?_ (by assumption))))))
                    have y13 := k13.some y4
                    have y14 := k13.some y3
                    have g14 := k13.some g1
                    go_wp2_with fail
                    refine (C.store M2 S2 n r a (s'.ws a) _ (J2.out _ (KK.out.trans (by (go_light; repeat (first | (with_reducible exact Kept.refl _) | (with_reducible assumption) | (with_reducible refine Kept.alloc ?_ _ _) | (with_reducible refine Kept.drew ?_) | (with_reducible refine Kept.drewN ?_ _) | ((with_reducible refine Kept.setCell ?_ ?_ _); rotate_left; focus (first | (simp; done) | (simp; omega))) | refine Kept.trans ?_ (by assumption)))))) hr0 (by omega)).mono ?_
                    rintro e w14 ⟨rfl, i14, b14⟩
                    have K13 : Hid (Kept w10 w13) := Lib.hid (by (go_light; repeat (first | (with_reducible exact Kept.refl _) | (with_reducible assumption) | (with_reducible refine Kept.alloc ?_ _ _) | (with_reducible refine Kept.drew ?_) | (with_reducible refine Kept.drewN ?_ _) | ((with_reducible refine Kept.setCell ?_ ?_ _); rotate_left; focus (first | (simp; done) | (simp; omega))) | refine Kept.trans ?_ (by assumption))))
                    go_wp2
                    go_roundw
                    case rel => exact ⟨k + 1, s', acc n r 2 a true (s'.ws a), by omega, by go_num, HC0.1, HC0.2, by rw [acc_cnt]; omega, by rw [acc_cnt]; omega, fun i => by
                        rw [acc_write (by omega)]
                        by_cases e : i = a
                        · subst e; exact if_pos rfl
                        · refine (if_neg e).trans ((HRS.out i).trans ?_)
                          apply Classical.byContradiction
                          intro h
                          have := (HO.out i (fun e => h e.symm)).1
                          omega, C.frame (I7.out _ (KK.out.trans K13.out)) b14 DJ.out.2, i14, kept_past (K7.out.trans (KK.out.trans K13.out)) b14 G2.out⟩
                    case measure => simp [intOf]; omega
          · rcases (show a1 < 0 ∨ 0 ≤ a1 ∧ n ≤ a1 by omega) with hin1 | ⟨hin1, hin2⟩
            · clear hin
              as_aux_lemma =>
                have X0 := HA.out.out (by omega)
                obtain ⟨x0, x1, x2, rfl⟩ := X0
                have X0 := Lib.hid x0
                have X1 := Lib.hid x1
                have X2 := Lib.hid x2
                clear x0 x1 x2 HF
                have XC := Lib.hid HA.out.cnt
                have XK := Lib.hid HA.out.kind
                have XA := Lib.hid HA.out.at_
                have HO := Lib.hid HA.out.other
                clear HA
                have f0 : wx.cell? ⟨be, 0, none⟩ = some (.int .i64 a0) := E0.out
                have f1 : wx.cell? ⟨be, 1, none⟩ = some (.int .i64 a1) := E1.out
                have f2 : wx.cell? ⟨be, 2, none⟩ = some (.int .u64 a2) := E2.out
                have f3 : wx.cell? ⟨be, 3, none⟩ = some (.int .u64 a3) := E3.out
                go_wp2_with fail
                refine (HD.out _ kx).mono ?_
                rintro e w7 ⟨rfl, i7, b7⟩
                clear f0 f1 f2 f3
                have I7 : Hid (∀ w', Kept w7 w' → C.Is w' M1 S1 n s') := Lib.hid (fun w' h => C.frame i7 (h.but (fun _ => False)) (fun _ _ h => h))
                have J2 : Hid (∀ w', Kept w7 w' → C.Is w' M2 S2 n r) := Lib.hid (fun w' h => C.frame (C.frame (C.frame I2.out (kx.but (fun _ => False)) (fun _ _ h => h)) b7 DJ.out.1) (h.but (fun _ => False)) (fun _ _ h => h))
                have W7 : Hid (∀ i, i < n → w7.cell? ⟨b5, i, none⟩ = some (.int .u64 (s.ws i))) := Lib.hid (fun i hi => b7.some (HW5.out i hi) LB.out.2)
                have f0 : w7.cell? ⟨be, 0, none⟩ = some (.int .i64 a0) := b7.some E0.out LB.out.1
                have f1 : w7.cell? ⟨be, 1, none⟩ = some (.int .i64 a1) := b7.some E1.out LB.out.1
                have f2 : w7.cell? ⟨be, 2, none⟩ = some (.int .u64 a2) := b7.some E2.out LB.out.1
                have f3 : w7.cell? ⟨be, 3, none⟩ = some (.int .u64 a3) := b7.some E3.out LB.out.1
                have K7 : Hid (Kept w w7) := Lib.hid (kept_past (kw.trans kx) b7 G1.out)
                have Z7 := b7.size
                clear i7 b7
                go_wp2_with fail
                refine (C.words M1 S1 n s' _ (I7.out _ (Kept.refl _))).mono ?_
                rintro e w8 ⟨b8, c8, rfl, hb8, hb8', hw8, _, k8⟩
                have Q8 : Hid (∀ i, i < n → w8.cell? ⟨b8, i, none⟩ = some (.int .u64 (s'.ws i))) := Lib.hid hw8
                clear hw8
                have g0 := k8.some f0
                have g1 := k8.some f1
                have g2 := k8.some f2
                have g3 := k8.some f3
                clear f0 f1 f2 f3
                go_wp2_with fail
                refine (C.last M1 S1 n s' _ (I7.out _ k8)).mono ?_
                rintro e w9 ⟨rfl, k9⟩
                have f0 := k9.some g0
                have f1 := k9.some g1
                have f2 := k9.some g2
                have f3 := k9.some g3
                have lbe : be < w9.heap.size := lt_of_cell f0
                have K79 := k8.trans k9
                have Z9 := K79.size
                clear g0 g1 g2 g3
                rw [XK.out, XA.out, X1.out, X2.out, X0.out]
                go_wp2_with fail
                refine (C.count M1 S1 n s' _ (I7.out _ (K79.alloc _ _))).mono ?_
                rintro e w10 ⟨rfl, k10⟩
                rw [XC.out]
                have x0 : w10.cell? ⟨w9.heap.size, 0, none⟩ = some (.int .i64 a0) := k10.some (by rw [cell_new _ _ _ _ _ rfl]; rfl)
                have x1 : w10.cell? ⟨w9.heap.size, 1, none⟩ = some (.int .i64 a1) := k10.some (by rw [cell_new _ _ _ _ _ rfl]; rfl)
                have x2 : w10.cell? ⟨w9.heap.size, 2, none⟩ = some (.int .u64 (0)) := k10.some (by rw [cell_new _ _ _ _ _ rfl]; rfl)
                have x3 : w10.cell? ⟨w9.heap.size, 3, none⟩ = some (.int .u64 (0)) := k10.some (by rw [cell_new _ _ _ _ _ rfl]; rfl)
                have x4 : w10.cell? ⟨w9.heap.size, 4, none⟩ = some (.bool false) := k10.some (by rw [cell_new _ _ _ _ _ rfl]; rfl)
                have K10 : Kept w7 w10 := (K79.alloc _ _).trans k10
                have Z10 := K10.size
                have Z11 : w9.heap.size < w10.heap.size := lt_of_cell x0
                have e0 : w10.cell? ⟨be, 0, none⟩ = some (.int .i64 a0) := ((Kept.refl w9).alloc _ _ |>.trans k10).some f0
                have e1 : w10.cell? ⟨be, 1, none⟩ = some (.int .i64 a1) := ((Kept.refl w9).alloc _ _ |>.trans k10).some f1
                have e2 : w10.cell? ⟨be, 2, none⟩ = some (.int .u64 a2) := ((Kept.refl w9).alloc _ _ |>.trans k10).some f2
                have e3 : w10.cell? ⟨be, 3, none⟩ = some (.int .u64 a3) := ((Kept.refl w9).alloc _ _ |>.trans k10).some f3
                have W10 : Hid (∀ i, i < n → w10.cell? ⟨b5, i, none⟩ = some (.int .u64 (s.ws i))) := Lib.hid (fun i hi => K10.some (W7.out i hi))
                have Q10 : Hid (∀ i, i < n → w10.cell? ⟨b8, i, none⟩ = some (.int .u64 (s'.ws i))) := Lib.hid (fun i hi => ((k9.alloc _ _).trans k10).some (Q8.out i hi))
                clear f0 f1 f2 f3 W7 Q8
                have KK := Lib.hid K10
                clear K79 k8 k9 k10 K10
                go_wp2_with fail
                go_loopw [18] (fun i wy => ∃ j : Nat, j ≤ n ∧ i = .int .i64 j ∧ Kept w10 wy) (fun i _ => n - (intOf i).toNat)
                case atStart => exact ⟨0, Nat.zero_le _, rfl, by (go_light; repeat (first | (with_reducible exact Kept.refl _) | (with_reducible assumption) | (with_reducible refine Kept.alloc ?_ _ _) | (with_reducible refine Kept.drew ?_) | (with_reducible refine Kept.drewN ?_ _) | ((with_reducible refine Kept.setCell ?_ ?_ _); rotate_left; focus (first | (simp; done) | (simp; omega))) | refine Kept.trans ?_ (by assumption)))⟩
                case round =>
                  obtain ⟨j, hj, rfl, ky⟩ := hrel
                  have y0 := ky.some x0
                  have y1 := ky.some x1
                  have y2 := ky.some x2
                  have y3 := ky.some x3
                  have y4 := ky.some x4
                  have g0 := ky.some e0
                  have g1 := ky.some e1
                  have g2 := ky.some e2
                  have g3 := ky.some e3
                  clear x0 x1 x2 x3 x4 e0 e1 e2 e3
                  by_cases hjn : j < n
                  · have hwas := ky.some (W10.out j hjn)
                    have hnow := ky.some (Q10.out j hjn)
                    by_cases hq : s'.ws j = s.ws j
                    · rw [hq] at hnow
                      clear hq
                      go_wp2_with fail
                      go_quiet (fail)
                      go_wp2
                      go_roundw
                      case rel => exact ⟨j + 1, by omega, by go_num, by (go_light; repeat (first | (with_reducible exact Kept.refl _) | (with_reducible assumption) | (with_reducible refine Kept.alloc ?_ _ _) | (with_reducible refine Kept.drew ?_) | (with_reducible refine Kept.drewN ?_ _) | ((with_reducible refine Kept.setCell ?_ ?_ _); rotate_left; focus (first | (simp; done) | (simp; omega))) | refine Kept.trans ?_ (by assumption)))⟩
                      case measure => simp [intOf]; omega
                    · have := (HO.out j hq).2
                      rw [X0.out] at this
                      cases this
                  · have HE : Hid (∀ i, s'.ws i = s.ws i) := Lib.hid (fun i => by
                      apply Classical.byContradiction
                      intro h
                      have := (HO.out i h).2
                      rw [X0.out] at this
                      cases this)
                    go_wp2
                    go_roundw
                    case rel => exact ⟨k + 1, s', r, by omega, by go_num, HC0.1, HC0.2, hr0, by omega, fun i => (HRS.out i).trans (HE.out i).symm, I7.out _ (KK.out.trans (by (go_light; repeat (first | (with_reducible exact Kept.refl _) | (with_reducible assumption) | (with_reducible refine Kept.alloc ?_ _ _) | (with_reducible refine Kept.drew ?_) | (with_reducible refine Kept.drewN ?_ _) | ((with_reducible refine Kept.setCell ?_ ?_ _); rotate_left; focus (first | (simp; done) | (simp; omega))) | refine Kept.trans ?_ (by assumption))))), J2.out _ (KK.out.trans (by (go_light; repeat (first | (with_reducible exact Kept.refl _) | (with_reducible assumption) | (with_reducible refine Kept.alloc ?_ _ _) | (with_reducible refine Kept.drew ?_) | (with_reducible refine Kept.drewN ?_ _) | ((with_reducible refine Kept.setCell ?_ ?_ _); rotate_left; focus (first | (simp; done) | (simp; omega))) | refine Kept.trans ?_ (by assumption))))), K7.out.trans (KK.out.trans (by (go_light; repeat (first | (with_reducible exact Kept.refl _) | (with_reducible assumption) | (with_reducible refine Kept.alloc ?_ _ _) | (with_reducible refine Kept.drew ?_) | (with_reducible refine Kept.drewN ?_ _) | ((with_reducible refine Kept.setCell ?_ ?_ _); rotate_left; focus (first | (simp; done) | (simp; omega))) | refine Kept.trans ?_ (by assumption)))))⟩
                    case measure => simp [intOf]; omega
            · clear hin
              have hb2 : decide (a1 < (n : Int)) = false := by simp; omega
              as_aux_lemma =>
                have X0 := HA.out.out (by omega)
                obtain ⟨x0, x1, x2, rfl⟩ := X0
                have X0 := Lib.hid x0
                have X1 := Lib.hid x1
                have X2 := Lib.hid x2
                clear x0 x1 x2 HF
                have XC := Lib.hid HA.out.cnt
                have XK := Lib.hid HA.out.kind
                have XA := Lib.hid HA.out.at_
                have HO := Lib.hid HA.out.other
                clear HA
                have f0 : wx.cell? ⟨be, 0, none⟩ = some (.int .i64 a0) := E0.out
                have f1 : wx.cell? ⟨be, 1, none⟩ = some (.int .i64 a1) := E1.out
                have f2 : wx.cell? ⟨be, 2, none⟩ = some (.int .u64 a2) := E2.out
                have f3 : wx.cell? ⟨be, 3, none⟩ = some (.int .u64 a3) := E3.out
                go_wp2_with fail
                refine (HD.out _ kx).mono ?_
                rintro e w7 ⟨rfl, i7, b7⟩
                clear f0 f1 f2 f3
                have I7 : Hid (∀ w', Kept w7 w' → C.Is w' M1 S1 n s') := Lib.hid (fun w' h => C.frame i7 (h.but (fun _ => False)) (fun _ _ h => h))
                have J2 : Hid (∀ w', Kept w7 w' → C.Is w' M2 S2 n r) := Lib.hid (fun w' h => C.frame (C.frame (C.frame I2.out (kx.but (fun _ => False)) (fun _ _ h => h)) b7 DJ.out.1) (h.but (fun _ => False)) (fun _ _ h => h))
                have W7 : Hid (∀ i, i < n → w7.cell? ⟨b5, i, none⟩ = some (.int .u64 (s.ws i))) := Lib.hid (fun i hi => b7.some (HW5.out i hi) LB.out.2)
                have f0 : w7.cell? ⟨be, 0, none⟩ = some (.int .i64 a0) := b7.some E0.out LB.out.1
                have f1 : w7.cell? ⟨be, 1, none⟩ = some (.int .i64 a1) := b7.some E1.out LB.out.1
                have f2 : w7.cell? ⟨be, 2, none⟩ = some (.int .u64 a2) := b7.some E2.out LB.out.1
                have f3 : w7.cell? ⟨be, 3, none⟩ = some (.int .u64 a3) := b7.some E3.out LB.out.1
                have K7 : Hid (Kept w w7) := Lib.hid (kept_past (kw.trans kx) b7 G1.out)
                have Z7 := b7.size
                clear i7 b7
                go_wp2_with fail
                refine (C.words M1 S1 n s' _ (I7.out _ (Kept.refl _))).mono ?_
                rintro e w8 ⟨b8, c8, rfl, hb8, hb8', hw8, _, k8⟩
                have Q8 : Hid (∀ i, i < n → w8.cell? ⟨b8, i, none⟩ = some (.int .u64 (s'.ws i))) := Lib.hid hw8
                clear hw8
                have g0 := k8.some f0
                have g1 := k8.some f1
                have g2 := k8.some f2
                have g3 := k8.some f3
                clear f0 f1 f2 f3
                go_wp2_with fail
                refine (C.last M1 S1 n s' _ (I7.out _ k8)).mono ?_
                rintro e w9 ⟨rfl, k9⟩
                have f0 := k9.some g0
                have f1 := k9.some g1
                have f2 := k9.some g2
                have f3 := k9.some g3
                have lbe : be < w9.heap.size := lt_of_cell f0
                have K79 := k8.trans k9
                have Z9 := K79.size
                clear g0 g1 g2 g3
                rw [XK.out, XA.out, X1.out, X2.out, X0.out]
                go_wp2_with fail
                refine (C.count M1 S1 n s' _ (I7.out _ (K79.alloc _ _))).mono ?_
                rintro e w10 ⟨rfl, k10⟩
                rw [XC.out]
                have x0 : w10.cell? ⟨w9.heap.size, 0, none⟩ = some (.int .i64 a0) := k10.some (by rw [cell_new _ _ _ _ _ rfl]; rfl)
                have x1 : w10.cell? ⟨w9.heap.size, 1, none⟩ = some (.int .i64 a1) := k10.some (by rw [cell_new _ _ _ _ _ rfl]; rfl)
                have x2 : w10.cell? ⟨w9.heap.size, 2, none⟩ = some (.int .u64 (0)) := k10.some (by rw [cell_new _ _ _ _ _ rfl]; rfl)
                have x3 : w10.cell? ⟨w9.heap.size, 3, none⟩ = some (.int .u64 (0)) := k10.some (by rw [cell_new _ _ _ _ _ rfl]; rfl)
                have x4 : w10.cell? ⟨w9.heap.size, 4, none⟩ = some (.bool false) := k10.some (by rw [cell_new _ _ _ _ _ rfl]; rfl)
                have K10 : Kept w7 w10 := (K79.alloc _ _).trans k10
                have Z10 := K10.size
                have Z11 : w9.heap.size < w10.heap.size := lt_of_cell x0
                have e0 : w10.cell? ⟨be, 0, none⟩ = some (.int .i64 a0) := ((Kept.refl w9).alloc _ _ |>.trans k10).some f0
                have e1 : w10.cell? ⟨be, 1, none⟩ = some (.int .i64 a1) := ((Kept.refl w9).alloc _ _ |>.trans k10).some f1
                have e2 : w10.cell? ⟨be, 2, none⟩ = some (.int .u64 a2) := ((Kept.refl w9).alloc _ _ |>.trans k10).some f2
                have e3 : w10.cell? ⟨be, 3, none⟩ = some (.int .u64 a3) := ((Kept.refl w9).alloc _ _ |>.trans k10).some f3
                have W10 : Hid (∀ i, i < n → w10.cell? ⟨b5, i, none⟩ = some (.int .u64 (s.ws i))) := Lib.hid (fun i hi => K10.some (W7.out i hi))
                have Q10 : Hid (∀ i, i < n → w10.cell? ⟨b8, i, none⟩ = some (.int .u64 (s'.ws i))) := Lib.hid (fun i hi => ((k9.alloc _ _).trans k10).some (Q8.out i hi))
                clear f0 f1 f2 f3 W7 Q8
                have KK := Lib.hid K10
                clear K79 k8 k9 k10 K10
                go_wp2_with fail
                go_loopw [18] (fun i wy => ∃ j : Nat, j ≤ n ∧ i = .int .i64 j ∧ Kept w10 wy) (fun i _ => n - (intOf i).toNat)
                case atStart => exact ⟨0, Nat.zero_le _, rfl, by (go_light; repeat (first | (with_reducible exact Kept.refl _) | (with_reducible assumption) | (with_reducible refine Kept.alloc ?_ _ _) | (with_reducible refine Kept.drew ?_) | (with_reducible refine Kept.drewN ?_ _) | ((with_reducible refine Kept.setCell ?_ ?_ _); rotate_left; focus (first | (simp; done) | (simp; omega))) | refine Kept.trans ?_ (by assumption)))⟩
                case round =>
                  obtain ⟨j, hj, rfl, ky⟩ := hrel
                  have y0 := ky.some x0
                  have y1 := ky.some x1
                  have y2 := ky.some x2
                  have y3 := ky.some x3
                  have y4 := ky.some x4
                  have g0 := ky.some e0
                  have g1 := ky.some e1
                  have g2 := ky.some e2
                  have g3 := ky.some e3
                  clear x0 x1 x2 x3 x4 e0 e1 e2 e3
                  by_cases hjn : j < n
                  · have hwas := ky.some (W10.out j hjn)
                    have hnow := ky.some (Q10.out j hjn)
                    by_cases hq : s'.ws j = s.ws j
                    · rw [hq] at hnow
                      clear hq
                      go_wp2_with fail
                      go_quiet (fail)
                      go_wp2
                      go_roundw
                      case rel => exact ⟨j + 1, by omega, by go_num, by (go_light; repeat (first | (with_reducible exact Kept.refl _) | (with_reducible assumption) | (with_reducible refine Kept.alloc ?_ _ _) | (with_reducible refine Kept.drew ?_) | (with_reducible refine Kept.drewN ?_ _) | ((with_reducible refine Kept.setCell ?_ ?_ _); rotate_left; focus (first | (simp; done) | (simp; omega))) | refine Kept.trans ?_ (by assumption)))⟩
                      case measure => simp [intOf]; omega
                    · have := (HO.out j hq).2
                      rw [X0.out] at this
                      cases this
                  · have HE : Hid (∀ i, s'.ws i = s.ws i) := Lib.hid (fun i => by
                      apply Classical.byContradiction
                      intro h
                      have := (HO.out i h).2
                      rw [X0.out] at this
                      cases this)
                    go_wp2
                    go_roundw
                    case rel => exact ⟨k + 1, s', r, by omega, by go_num, HC0.1, HC0.2, hr0, by omega, fun i => (HRS.out i).trans (HE.out i).symm, I7.out _ (KK.out.trans (by (go_light; repeat (first | (with_reducible exact Kept.refl _) | (with_reducible assumption) | (with_reducible refine Kept.alloc ?_ _ _) | (with_reducible refine Kept.drew ?_) | (with_reducible refine Kept.drewN ?_ _) | ((with_reducible refine Kept.setCell ?_ ?_ _); rotate_left; focus (first | (simp; done) | (simp; omega))) | refine Kept.trans ?_ (by assumption))))), J2.out _ (KK.out.trans (by (go_light; repeat (first | (with_reducible exact Kept.refl _) | (with_reducible assumption) | (with_reducible refine Kept.alloc ?_ _ _) | (with_reducible refine Kept.drew ?_) | (with_reducible refine Kept.drewN ?_ _) | ((with_reducible refine Kept.setCell ?_ ?_ _); rotate_left; focus (first | (simp; done) | (simp; omega))) | refine Kept.trans ?_ (by assumption))))), K7.out.trans (KK.out.trans (by (go_light; repeat (first | (with_reducible exact Kept.refl _) | (with_reducible assumption) | (with_reducible refine Kept.alloc ?_ _ _) | (with_reducible refine Kept.drew ?_) | (with_reducible refine Kept.drewN ?_ _) | ((with_reducible refine Kept.setCell ?_ ?_ _); rotate_left; focus (first | (simp; done) | (simp; omega))) | refine Kept.trans ?_ (by assumption)))))⟩
                    case measure => simp [intOf]; omega
    · have I1 := Lib.hid i1
      have I2 := Lib.hid i2
      clear i1 i2
      go_wp2_with fail
      refine (C.words M1 S1 n s _ I1.out).mono ?_
      rintro e w4 ⟨b4, c4, rfl, _, _, hw4, _, k4⟩
      have W4 := Lib.hid hw4
      have J2 := Lib.hid (C.frame I2.out (k4.but (fun _ => False)) (fun _ _ h => h))
      clear hw4
      go_wp2_with fail
      refine (C.words M2 S2 n r _ J2.out).mono ?_
      rintro e w5 ⟨b5, c5, rfl, _, _, hw5, _, k5⟩
      have W5 := Lib.hid hw5
      clear hw5
      go_wp2_with fail
      refine (sameWords_yes b4 0 c4 b5 0 c5 n s.ws _ HN.out (fun i hi => by rw [Nat.zero_add]; exact k5.some (W4.out i hi)) (fun i hi => by rw [Nat.zero_add, ← HRS.out i]; exact W5.out i hi)).mono ?_
      rintro e w6 ⟨rfl, k6⟩
      go_wp2
      go_ret
      exact ⟨rfl, ((kw.trans k4).trans k5).trans k6⟩

set_option maxHeartbeats 1000000 in
set_option maxRecDepth 100000 in
theorem own_long (C : Cells) (x : Int) (q1 : Option Addr) (len1 cap1 : Nat) (w : World) (h : 60 < len1) :
    Calls Try.prog 6 #[.int .i64 x, .slice q1 len1 cap1] w fun e w' => e = .returned (.bool true) ∧ Kept w w' := by
  go_enter Try.func6, Try.ntmps6
  go_wp2_with fail
  refine (known_any C _).mono ?_
  rintro e w1 ⟨rfl, k1⟩
  go_wp2
  go_ret
  exact ⟨rfl, k1⟩

theorem cellsOwn_any (C : Cells) (x : Int) (q1 : Option Addr) (len1 cap1 : Nat) (w : World) (t1 : IsTable w q1 len1 cap1 4 actR) :
    Calls Try.prog 6 #[.int .i64 x, .slice q1 len1 cap1] w fun e w' => e = .returned (.bool true) ∧ Kept w w' := by
  by_cases h : len1 ≤ 60
  · obtain ⟨p, hp, HP⟩ := pick_hundred x
    exact own_walk C x p (1 + p) hp rfl HP q1 len1 cap1 w h t1
  · exact own_long C x q1 len1 cap1 w (by omega)
end Go.Proofs.Ytfndjklpjjcelaa
