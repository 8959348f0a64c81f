/- The walk of CellsCopies, over the model. -/
import Derived.Test.YtfndjklpjjcelaaAlike
import Derived.Test.YtfndjklpjjcelaaActs
import Derived.Test.YtfndjklpjjcelaaActsBase
import Derived.Deep.RegionHeld3
namespace Go.Proofs.Ytfndjklpjjcelaa
open Go.RowKit

theorem doesSt_cnt (n : Nat) (s : St) (a0 a1 a2 a3 : Int) : s.cnt ≤ (doesSt n s a0 a1 a2 a3).cnt ∧ (doesSt n s a0 a1 a2 a3).cnt ≤ s.cnt + 1 := by
  unfold doesSt
  repeat' split
  all_goals first | (rw [acc_cnt]; omega) | omega

theorem pick_hundred (x : Int) : ∃ p : Nat, p < 100 ∧ ∀ w, Hid (Calls Try.prog 27 #[.int .i64 x, .int .i64 100] w fun e w' => e = .returned (.int .i64 (p : Int)) ∧ w = w') := by
  have h0 := Int.emod_nonneg x (show (100 : Int) ≠ 0 by decide)
  have h1 := Int.emod_lt_of_pos x (show (0 : Int) < 100 by decide)
  refine ⟨(x % 100).toNat, by omega, fun w => Lib.hid ((pick_any x 100 (by decide) (by decide) w).mono fun e w' ⟨he, hw⟩ => ⟨?_, hw⟩)⟩
  rw [he, Int.toNat_of_nonneg h0]

theorem new_at (C : Cells) (p : Nat) (hp : p < 100) (w : World) : Calls Try.prog 9 #[.int .i64 (1 + (p : Int))] w (MadePost C.Is (1 + p) St.zero w) := by
  have h := C.new_yes (1 + p) w (by omega) (by omega)
  have e : (((1 + p : Nat) : Int)) = 1 + (p : Int) := by omega
  rw [e] at h
  exact h

/-- Two memories that are alike, behind some accesses of both. -/
def TwoRel (C : Cells) (w : World) (n M1 : Nat) (S1 : Nat → Prop) (M2 : Nat) (S2 : Nat → Prop) (len : Nat) (i : Value) (wr : World) : Prop :=
  ∃ (k : Nat) (s : St), k ≤ len ∧ i = .int .i64 k ∧ 0 ≤ s.cnt ∧ s.cnt ≤ k ∧ C.Is wr M1 S1 n s ∧ C.Is wr M2 S2 n s ∧ Kept w wr

/-- Two memories that are alike, and a third. -/
def ThreeRel (C : Cells) (w : World) (n M1 : Nat) (S1 : Nat → Prop) (M2 : Nat) (S2 : Nat → Prop) (M3 : Nat) (S3 : Nat → Prop) (len : Nat) (i : Value) (wr : World) : Prop :=
  ∃ (k : Nat) (s t : St), k ≤ len ∧ i = .int .i64 k ∧ 0 ≤ s.cnt ∧ s.cnt ≤ (k + 40 : Nat) ∧ 0 ≤ t.cnt ∧ t.cnt ≤ (k + 40 : Nat) ∧ C.Is wr M1 S1 n s ∧ C.Is wr M2 S2 n s ∧ C.Is wr M3 S3 n t ∧ Kept w wr

theorem kept_past {w a b : World} {S : Nat → Prop} (k : Kept w a) (h : But S a b) (hs : ∀ j, S j → w.heap.size ≤ j) : Kept w b :=
  ((k.but S).trans h (fun _ _ h => h)).kept (fun j hj h => by have := hs j h; omega)


set_option maxHeartbeats 4000000 in
set_option maxRecDepth 100000 in
theorem copies_walk (C : Cells) (x : Int) (p n : Nat) (hp : p < 100) (hn : n = 1 + p) (HP : ∀ w, Hid (Calls Try.prog 27 #[.int .i64 x, .int .i64 100] w fun e w' => e = .returned (.int .i64 (p : Int)) ∧ w = w'))
    (q1 : Option Addr) (len1 cap1 : Nat) (q2 : Option Addr) (len2 cap2 : Nat) (q3 : Option Addr) (len3 cap3 : Nat) (w : World) (h1 : len1 ≤ 40) (h2 : len2 ≤ 40) (h3 : len3 ≤ 40)
    (t1 : IsTable w q1 len1 cap1 4 actR) (t2 : IsTable w q2 len2 cap2 4 actR) (t3 : IsTable w q3 len3 cap3 4 actR) :
    Calls Try.prog 7 #[.int .i64 x, .slice q1 len1 cap1, .slice q2 len2 cap2, .slice q3 len3 cap3] w fun e w' => e = .returned (.bool true) ∧ Kept w w' := by
  have T1 := Lib.hid t1
  have T2 := Lib.hid t2
  have T3 := Lib.hid t3
  have HNW : Hid (∀ w, Calls Try.prog 9 #[.int .i64 (1 + (p : Int))] w (MadePost C.Is n St.zero w)) := Lib.hid (fun w => by rw [hn]; exact new_at C p hp w)
  have HN : Hid (n ≤ 1000000) := Lib.hid (by omega)
  clear t1 t2 t3 hn
  go_enter Try.func7, Try.ntmps7
  go_wp2_with fail
  refine (known_any C _).mono ?_
  rintro e w1 ⟨rfl, k1⟩
  go_wp2_with fail
  refine (HP _).out.mono ?_
  rintro e w2 ⟨rfl, rfl⟩
  go_wp2_with fail
  refine (HNW.out _).mono ?_
  rintro e w2 ⟨M1, S1, rfl, i1, g1, k2⟩
  go_wp2_with fail
  refine (HNW.out _).mono ?_
  rintro e w3 ⟨M2, S2, rfl, i2, g2, k3⟩
  have G1 : Hid (∀ j, S1 j → w.heap.size ≤ j) := Lib.hid (fun j h => by have := g1 j h; have := k1.size; omega)
  have G2 : Hid (∀ j, S2 j → w.heap.size ≤ j) := Lib.hid (fun j h => by have := g2 j h; have := k1.size; have := k2.size; omega)
  have DJ : Hid ((∀ j, S2 j → ¬ S1 j) ∧ (∀ j, S1 j → ¬ S2 j)) := Lib.hid ⟨fun j a b => by have := g1 j b; have := g2 j a; omega, fun j a b => by have := g1 j a; have := g2 j b; omega⟩
  have J1 : Hid (C.Is w3 M1 S1 n St.zero) := Lib.hid (C.frame i1 (k3.but (fun _ => False)) (fun _ _ h => h))
  have J2 := Lib.hid i2
  have K3 := (k1.trans k2).trans k3
  clear i1 i2 g1 g2 k1 k2 k3
  go_wp2_with fail
  go_loopw [14] (TwoRel C w n M1 S1 M2 S2 len1) (fun i _ => len1 - (intOf i).toNat)
  case atStart => exact ⟨0, St.zero, Nat.zero_le _, rfl, by decide, by decide, J1.out, J2.out, K3⟩
  case round =>
    obtain ⟨k, s, hk, rfl, hs0, hs1, i1, i2, kw⟩ := hrel
    clear J1 J2 K3
    by_cases hlt : k < len1
    · skip
      obtain ⟨b, off, rfl, _, _, hbw, hel⟩ := T1.out.at (by omega) (by decide)
      obtain ⟨a0, e0, _⟩ := (hel k hlt 0 (by decide)).2.1 rfl
      obtain ⟨a1, e1, _⟩ := (hel k hlt 1 (by decide)).2.2.1 rfl
      obtain ⟨a2, e2, _⟩ := (hel k hlt 2 (by decide)).2.2.2.1 rfl
      obtain ⟨a3, e3, _⟩ := (hel k hlt 3 (by decide)).2.2.2.2 rfl
      have c0 : wr.cell? ⟨b, off + k * 4, none⟩ = some (.int .i64 a0) := kw.some (by rw [← e0]; exact (hel k hlt 0 (by decide)).1)
      have c1 : wr.cell? ⟨b, off + k * 4 + 1, none⟩ = some (.int .i64 a1) := kw.some (by rw [← e1]; exact (hel k hlt 1 (by decide)).1)
      have c2 : wr.cell? ⟨b, off + k * 4 + 2, none⟩ = some (.int .u64 a2) := kw.some (by rw [← e2]; exact (hel k hlt 2 (by decide)).1)
      have c3 : wr.cell? ⟨b, off + k * 4 + 3, none⟩ = some (.int .u64 a3) := kw.some (by rw [← e3]; exact (hel k hlt 3 (by decide)).1)
      clear e0 e1 e2 e3 hel
      have NB : Hid (¬ S1 b ∧ ¬ S2 b) := Lib.hid ⟨fun h => by have := G1.out _ h; omega, fun h => by have := G2.out _ h; omega⟩
      have IX1 : Hid (∀ w', Kept wr w' → C.Is w' M1 S1 n s) := Lib.hid (fun w' h => C.frame i1 (h.but (fun _ => False)) (fun _ _ h => h))
      have IX2 : Hid (∀ w', Kept wr w' → C.Is w' M2 S2 n s) := Lib.hid (fun w' h => C.frame i2 (h.but (fun _ => False)) (fun _ _ h => h))
      clear i1 i2
      have HD1 : Hid (∀ w', Kept wr w' → Calls Try.prog 28 #[.pointer (some ⟨M1, 0, none⟩), .agg #[.int .i64 a0, .int .i64 a1, .int .u64 a2, .int .u64 a3]] w' (DoesPost C M1 S1 n s a0 a1 a2 a3 w')) := Lib.hid (fun w' h => does_any C M1 S1 n s a0 a1 a2 a3 w' (IX1.out w' h) hs0 (by omega))
      have HD2 : Hid (∀ w', C.Is w' M2 S2 n s → Calls Try.prog 28 #[.pointer (some ⟨M2, 0, none⟩), .agg #[.int .i64 a0, .int .i64 a1, .int .u64 a2, .int .u64 a3]] w' (DoesPost C M2 S2 n s a0 a1 a2 a3 w')) := Lib.hid (fun w' h => does_any C M2 S2 n s a0 a1 a2 a3 w' h hs0 (by omega))
      go_wp2_with fail
      go_region_held3 (fun w' => w'.cell? ⟨b, off + k * 4, none⟩ = some (.int .i64 a0) ∧ w'.cell? ⟨b, off + k * 4 + 1, none⟩ = some (.int .i64 a1) ∧ w'.cell? ⟨b, off + k * 4 + 2, none⟩ = some (.int .u64 a2) ∧ w'.cell? ⟨b, off + k * 4 + 3, none⟩ = some (.int .u64 a3)) (first | go_keep | assumption | exact ⟨hb.some (‹_ ∧ _ ∧ _ ∧ _›).1 NB.out.1, hb.some (‹_ ∧ _ ∧ _ ∧ _›).2.1 NB.out.1, hb.some (‹_ ∧ _ ∧ _ ∧ _›).2.2.1 NB.out.1, hb.some (‹_ ∧ _ ∧ _ ∧ _›).2.2.2 NB.out.1⟩ | exact ⟨hc.some (‹_ ∧ _ ∧ _ ∧ _›).1 NB.out.2, hc.some (‹_ ∧ _ ∧ _ ∧ _›).2.1 NB.out.2, hc.some (‹_ ∧ _ ∧ _ ∧ _›).2.2.1 NB.out.2, hc.some (‹_ ∧ _ ∧ _ ∧ _›).2.2.2 NB.out.2⟩) (first | (go_at_call 28; (with_reducible refine (HD1.out _ ?_).mono ?_); (exact (Kept.refl _).drew); rintro e w5 ⟨rfl, i5, hb⟩) | (go_at_call 28; (with_reducible refine (HD2.out _ ?_).mono ?_); (exact C.frame (IX2.out _ (Kept.refl _).drew) hb DJ.out.1); rintro e w6 ⟨rfl, i6, hc⟩))
      go_wp2
      go_roundw
      case rel =>
        have hd := doesSt_cnt n s a0 a1 a2 a3
        exact ⟨k + 1, doesSt n s a0 a1 a2 a3, by omega, by go_num, by omega, by omega, C.frame i5 hc DJ.out.2, i6, kept_past (kept_past kw.drew hb G1.out) hc G2.out⟩
      case measure => simp [intOf]; omega
    · have I1 := Lib.hid i1
      have I2 := Lib.hid i2
      clear i1 i2
      go_wp2_with fail
      refine (C.copy M1 S1 n s _ I1.out).mono ?_
      rintro e w4 ⟨M3, S3, rfl, i3, g3, k4⟩
      have G3 : Hid (∀ j, S3 j → w.heap.size ≤ j) := Lib.hid (fun j h => by have := g3 j h; have := kw.size; omega)
      have D3 : Hid ((∀ j, S3 j → ¬ S1 j) ∧ (∀ j, S3 j → ¬ S2 j)) := Lib.hid ⟨fun j a b => by have := g3 j a; have := C.low I1.out j b; omega, fun j a b => by have := g3 j a; have := C.low I2.out j b; omega⟩
      have J1 : Hid (∀ w', Kept w4 w' → C.Is w' M1 S1 n s) := Lib.hid (fun w' h => C.frame I1.out ((k4.trans h).but (fun _ => False)) (fun _ _ h => h))
      have J2 : Hid (∀ w', Kept w4 w' → C.Is w' M2 S2 n s) := Lib.hid (fun w' h => C.frame I2.out ((k4.trans h).but (fun _ => False)) (fun _ _ h => h))
      have J3 : Hid (∀ w', Kept w4 w' → C.Is w' M3 S3 n s) := Lib.hid (fun w' h => C.frame i3 (h.but (fun _ => False)) (fun _ _ h => h))
      have K4 := kw.trans k4
      clear i3 g3 k4 kw I1 I2
      go_wp2_with fail
      refine (alike_yes C M3 M1 S3 S1 n s _ HN.out (J3.out _ (Kept.refl _)) (J1.out _ (Kept.refl _))).mono ?_
      rintro e w5 ⟨rfl, k5⟩
      have K5 := Lib.hid k5
      clear k5
      go_wp2_with fail
      refine (alike_yes C M1 M2 S1 S2 n s _ HN.out (J1.out _ K5.out) (J2.out _ K5.out)).mono ?_
      rintro e w6 ⟨rfl, k6⟩
      have k56 := K5.out.trans k6
      have P1 := Lib.hid (J1.out _ k56)
      have P2 := Lib.hid (J2.out _ k56)
      have P3 := Lib.hid (J3.out _ k56)
      have K6 := K4.trans k56
      clear J1 J2 J3 k56 K4 K5 k6
      go_wp2_with fail
      go_loopw [16] (ThreeRel C w n M1 S1 M2 S2 M3 S3 len2) (fun i _ => len2 - (intOf i).toNat)
      case atStart => exact ⟨0, s, s, Nat.zero_le _, rfl, hs0, by omega, hs0, by omega, P1.out, P2.out, P3.out, K6⟩
      case round =>
        clear P1 P2 P3 K6
        obtain ⟨k, s, t, hk, rfl, hs0, hs1, ht0, ht1, i1, i2, i3, kw⟩ := hrel
        by_cases hlt : k < len2
        · by_cases hlo : k < len3
          · skip
            obtain ⟨b, off, rfl, _, _, hbw, hel⟩ := T2.out.at (by omega) (by decide)
            obtain ⟨a0, e0, _⟩ := (hel k hlt 0 (by decide)).2.1 rfl
            obtain ⟨a1, e1, _⟩ := (hel k hlt 1 (by decide)).2.2.1 rfl
            obtain ⟨a2, e2, _⟩ := (hel k hlt 2 (by decide)).2.2.2.1 rfl
            obtain ⟨a3, e3, _⟩ := (hel k hlt 3 (by decide)).2.2.2.2 rfl
            have c0 : wr.cell? ⟨b, off + k * 4, none⟩ = some (.int .i64 a0) := kw.some (by rw [← e0]; exact (hel k hlt 0 (by decide)).1)
            have c1 : wr.cell? ⟨b, off + k * 4 + 1, none⟩ = some (.int .i64 a1) := kw.some (by rw [← e1]; exact (hel k hlt 1 (by decide)).1)
            have c2 : wr.cell? ⟨b, off + k * 4 + 2, none⟩ = some (.int .u64 a2) := kw.some (by rw [← e2]; exact (hel k hlt 2 (by decide)).1)
            have c3 : wr.cell? ⟨b, off + k * 4 + 3, none⟩ = some (.int .u64 a3) := kw.some (by rw [← e3]; exact (hel k hlt 3 (by decide)).1)
            clear e0 e1 e2 e3 hel
            have NB : Hid (¬ S1 b ∧ ¬ S2 b ∧ ¬ S3 b) := Lib.hid ⟨fun h => by have := G1.out _ h; omega, fun h => by have := G2.out _ h; omega, fun h => by have := G3.out _ h; omega⟩
            have IX1 : Hid (∀ w', Kept wr w' → C.Is w' M1 S1 n s) := Lib.hid (fun w' h => C.frame i1 (h.but (fun _ => False)) (fun _ _ h => h))
            have IX2 : Hid (∀ w', Kept wr w' → C.Is w' M2 S2 n s) := Lib.hid (fun w' h => C.frame i2 (h.but (fun _ => False)) (fun _ _ h => h))
            have IX3 : Hid (∀ w', Kept wr w' → C.Is w' M3 S3 n t) := Lib.hid (fun w' h => C.frame i3 (h.but (fun _ => False)) (fun _ _ h => h))
            obtain ⟨b', off', rfl, _, _, hbw', hel'⟩ := T3.out.at (by omega) (by decide)
            obtain ⟨d0, f0, _⟩ := (hel' k hlo 0 (by decide)).2.1 rfl
            obtain ⟨d1, f1, _⟩ := (hel' k hlo 1 (by decide)).2.2.1 rfl
            obtain ⟨d2, f2, _⟩ := (hel' k hlo 2 (by decide)).2.2.2.1 rfl
            obtain ⟨d3, f3, _⟩ := (hel' k hlo 3 (by decide)).2.2.2.2 rfl
            have g0 : wr.cell? ⟨b', off' + k * 4, none⟩ = some (.int .i64 d0) := kw.some (by rw [← f0]; exact (hel' k hlo 0 (by decide)).1)
            have g1 : wr.cell? ⟨b', off' + k * 4 + 1, none⟩ = some (.int .i64 d1) := kw.some (by rw [← f1]; exact (hel' k hlo 1 (by decide)).1)
            have g2 : wr.cell? ⟨b', off' + k * 4 + 2, none⟩ = some (.int .u64 d2) := kw.some (by rw [← f2]; exact (hel' k hlo 2 (by decide)).1)
            have g3 : wr.cell? ⟨b', off' + k * 4 + 3, none⟩ = some (.int .u64 d3) := kw.some (by rw [← f3]; exact (hel' k hlo 3 (by decide)).1)
            clear f0 f1 f2 f3 hel'
            have NB' : Hid (¬ S1 b' ∧ ¬ S2 b') := Lib.hid ⟨fun h => by have := G1.out _ h; omega, fun h => by have := G2.out _ h; omega⟩
            have Y0 := Lib.hid g0
            have Y1 := Lib.hid g1
            have Y2 := Lib.hid g2
            have Y3 := Lib.hid g3
            clear g0 g1 g2 g3
            clear i1 i2 i3
            have HD1 : Hid (∀ w', Kept wr w' → Calls Try.prog 28 #[.pointer (some ⟨M1, 0, none⟩), .agg #[.int .i64 a0, .int .i64 a1, .int .u64 a2, .int .u64 a3]] w' (DoesPost C M1 S1 n s a0 a1 a2 a3 w')) := Lib.hid (fun w' h => does_any C M1 S1 n s a0 a1 a2 a3 w' (IX1.out w' h) hs0 (by omega))
            have HD2 : Hid (∀ w', C.Is w' M2 S2 n s → Calls Try.prog 28 #[.pointer (some ⟨M2, 0, none⟩), .agg #[.int .i64 a0, .int .i64 a1, .int .u64 a2, .int .u64 a3]] w' (DoesPost C M2 S2 n s a0 a1 a2 a3 w')) := Lib.hid (fun w' h => does_any C M2 S2 n s a0 a1 a2 a3 w' h hs0 (by omega))
            go_wp2_with fail
            go_region_held3 (fun w' => w'.cell? ⟨b, off + k * 4, none⟩ = some (.int .i64 a0) ∧ w'.cell? ⟨b, off + k * 4 + 1, none⟩ = some (.int .i64 a1) ∧ w'.cell? ⟨b, off + k * 4 + 2, none⟩ = some (.int .u64 a2) ∧ w'.cell? ⟨b, off + k * 4 + 3, none⟩ = some (.int .u64 a3)) (first | go_keep | assumption | exact ⟨hb.some (‹_ ∧ _ ∧ _ ∧ _›).1 NB.out.1, hb.some (‹_ ∧ _ ∧ _ ∧ _›).2.1 NB.out.1, hb.some (‹_ ∧ _ ∧ _ ∧ _›).2.2.1 NB.out.1, hb.some (‹_ ∧ _ ∧ _ ∧ _›).2.2.2 NB.out.1⟩ | exact ⟨hc.some (‹_ ∧ _ ∧ _ ∧ _›).1 NB.out.2.1, hc.some (‹_ ∧ _ ∧ _ ∧ _›).2.1 NB.out.2.1, hc.some (‹_ ∧ _ ∧ _ ∧ _›).2.2.1 NB.out.2.1, hc.some (‹_ ∧ _ ∧ _ ∧ _›).2.2.2 NB.out.2.1⟩) (first | (go_at_call 28; (with_reducible refine (HD1.out _ ?_).mono ?_); (exact (Kept.refl _).drew); rintro e w5 ⟨rfl, i5, hb⟩) | (go_at_call 28; (with_reducible refine (HD2.out _ ?_).mono ?_); (exact C.frame (IX2.out _ (Kept.refl _).drew) hb DJ.out.1); rintro e w6 ⟨rfl, i6, hc⟩))
            have P3 : Hid (C.Is w6 M3 S3 n t) := Lib.hid (C.frame (C.frame (IX3.out _ (Kept.refl _).drew) hb D3.out.1) hc D3.out.2)
            have P1 : Hid (C.Is w6 M1 S1 n (doesSt n s a0 a1 a2 a3)) := Lib.hid (C.frame i5 hc DJ.out.2)
            have P2 := Lib.hid i6
            have K6 : Hid (Kept w w6) := Lib.hid (kept_past (kept_past kw.drew hb G1.out) hc G2.out)
            have g0 : w6.cell? ⟨b', off' + k * 4, none⟩ = some (.int .i64 d0) := hc.some (hb.some ((Kept.refl wr).drew.some Y0.out) NB'.out.1) NB'.out.2
            have g1 : w6.cell? ⟨b', off' + k * 4 + 1, none⟩ = some (.int .i64 d1) := hc.some (hb.some ((Kept.refl wr).drew.some Y1.out) NB'.out.1) NB'.out.2
            have g2 : w6.cell? ⟨b', off' + k * 4 + 2, none⟩ = some (.int .u64 d2) := hc.some (hb.some ((Kept.refl wr).drew.some Y2.out) NB'.out.1) NB'.out.2
            have g3 : w6.cell? ⟨b', off' + k * 4 + 3, none⟩ = some (.int .u64 d3) := hc.some (hb.some ((Kept.refl wr).drew.some Y3.out) NB'.out.1) NB'.out.2
            clear i5 i6 hb hc
            go_wp2_with fail
            refine (does_any C M3 S3 n t d0 d1 d2 d3 _ P3.out ht0 (by omega)).mono ?_
            rintro e w7 ⟨rfl, i7, hd⟩
            have P7 := Lib.hid i7
            have B7 := Lib.hid hd
            clear i7 hd
            go_wp2
            go_roundw
            case rel =>
              have hd := doesSt_cnt n s a0 a1 a2 a3
              have hd' := doesSt_cnt n t d0 d1 d2 d3
              exact ⟨k + 1, doesSt n s a0 a1 a2 a3, doesSt n t d0 d1 d2 d3, by omega, by go_num, by omega, by omega, by omega, by omega, C.frame P1.out B7.out (fun j a b => D3.out.1 j b a), C.frame P2.out B7.out (fun j a b => D3.out.2 j b a), P7.out, kept_past K6.out B7.out G3.out⟩
            case measure => simp [intOf]; omega
          · skip
            obtain ⟨b, off, rfl, _, _, hbw, hel⟩ := T2.out.at (by omega) (by decide)
            obtain ⟨a0, e0, _⟩ := (hel k hlt 0 (by decide)).2.1 rfl
            obtain ⟨a1, e1, _⟩ := (hel k hlt 1 (by decide)).2.2.1 rfl
            obtain ⟨a2, e2, _⟩ := (hel k hlt 2 (by decide)).2.2.2.1 rfl
            obtain ⟨a3, e3, _⟩ := (hel k hlt 3 (by decide)).2.2.2.2 rfl
            have c0 : wr.cell? ⟨b, off + k * 4, none⟩ = some (.int .i64 a0) := kw.some (by rw [← e0]; exact (hel k hlt 0 (by decide)).1)
            have c1 : wr.cell? ⟨b, off + k * 4 + 1, none⟩ = some (.int .i64 a1) := kw.some (by rw [← e1]; exact (hel k hlt 1 (by decide)).1)
            have c2 : wr.cell? ⟨b, off + k * 4 + 2, none⟩ = some (.int .u64 a2) := kw.some (by rw [← e2]; exact (hel k hlt 2 (by decide)).1)
            have c3 : wr.cell? ⟨b, off + k * 4 + 3, none⟩ = some (.int .u64 a3) := kw.some (by rw [← e3]; exact (hel k hlt 3 (by decide)).1)
            clear e0 e1 e2 e3 hel
            have NB : Hid (¬ S1 b ∧ ¬ S2 b ∧ ¬ S3 b) := Lib.hid ⟨fun h => by have := G1.out _ h; omega, fun h => by have := G2.out _ h; omega, fun h => by have := G3.out _ h; omega⟩
            have IX1 : Hid (∀ w', Kept wr w' → C.Is w' M1 S1 n s) := Lib.hid (fun w' h => C.frame i1 (h.but (fun _ => False)) (fun _ _ h => h))
            have IX2 : Hid (∀ w', Kept wr w' → C.Is w' M2 S2 n s) := Lib.hid (fun w' h => C.frame i2 (h.but (fun _ => False)) (fun _ _ h => h))
            have IX3 : Hid (∀ w', Kept wr w' → C.Is w' M3 S3 n t) := Lib.hid (fun w' h => C.frame i3 (h.but (fun _ => False)) (fun _ _ h => h))
            clear i1 i2 i3
            have HD1 : Hid (∀ w', Kept wr w' → Calls Try.prog 28 #[.pointer (some ⟨M1, 0, none⟩), .agg #[.int .i64 a0, .int .i64 a1, .int .u64 a2, .int .u64 a3]] w' (DoesPost C M1 S1 n s a0 a1 a2 a3 w')) := Lib.hid (fun w' h => does_any C M1 S1 n s a0 a1 a2 a3 w' (IX1.out w' h) hs0 (by omega))
            have HD2 : Hid (∀ w', C.Is w' M2 S2 n s → Calls Try.prog 28 #[.pointer (some ⟨M2, 0, none⟩), .agg #[.int .i64 a0, .int .i64 a1, .int .u64 a2, .int .u64 a3]] w' (DoesPost C M2 S2 n s a0 a1 a2 a3 w')) := Lib.hid (fun w' h => does_any C M2 S2 n s a0 a1 a2 a3 w' h hs0 (by omega))
            go_wp2_with fail
            go_region_held3 (fun w' => w'.cell? ⟨b, off + k * 4, none⟩ = some (.int .i64 a0) ∧ w'.cell? ⟨b, off + k * 4 + 1, none⟩ = some (.int .i64 a1) ∧ w'.cell? ⟨b, off + k * 4 + 2, none⟩ = some (.int .u64 a2) ∧ w'.cell? ⟨b, off + k * 4 + 3, none⟩ = some (.int .u64 a3)) (first | go_keep | assumption | exact ⟨hb.some (‹_ ∧ _ ∧ _ ∧ _›).1 NB.out.1, hb.some (‹_ ∧ _ ∧ _ ∧ _›).2.1 NB.out.1, hb.some (‹_ ∧ _ ∧ _ ∧ _›).2.2.1 NB.out.1, hb.some (‹_ ∧ _ ∧ _ ∧ _›).2.2.2 NB.out.1⟩ | exact ⟨hc.some (‹_ ∧ _ ∧ _ ∧ _›).1 NB.out.2.1, hc.some (‹_ ∧ _ ∧ _ ∧ _›).2.1 NB.out.2.1, hc.some (‹_ ∧ _ ∧ _ ∧ _›).2.2.1 NB.out.2.1, hc.some (‹_ ∧ _ ∧ _ ∧ _›).2.2.2 NB.out.2.1⟩) (first | (go_at_call 28; (with_reducible refine (HD1.out _ ?_).mono ?_); (exact (Kept.refl _).drew); rintro e w5 ⟨rfl, i5, hb⟩) | (go_at_call 28; (with_reducible refine (HD2.out _ ?_).mono ?_); (exact C.frame (IX2.out _ (Kept.refl _).drew) hb DJ.out.1); rintro e w6 ⟨rfl, i6, hc⟩))
            have P3 : Hid (C.Is w6 M3 S3 n t) := Lib.hid (C.frame (C.frame (IX3.out _ (Kept.refl _).drew) hb D3.out.1) hc D3.out.2)
            have P1 : Hid (C.Is w6 M1 S1 n (doesSt n s a0 a1 a2 a3)) := Lib.hid (C.frame i5 hc DJ.out.2)
            have P2 := Lib.hid i6
            have K6 : Hid (Kept w w6) := Lib.hid (kept_past (kept_past kw.drew hb G1.out) hc G2.out)
            clear i5 i6 hb hc
            go_wp2
            go_roundw
            case rel =>
              have hd := doesSt_cnt n s a0 a1 a2 a3
              exact ⟨k + 1, doesSt n s a0 a1 a2 a3, t, by omega, by go_num, by omega, by omega, by omega, by omega, P1.out, P2.out, P3.out, K6.out⟩
            case measure => simp [intOf]; omega
        · have I1 := Lib.hid i1
          have I2 := Lib.hid i2
          clear i1 i2 i3
          go_wp2_with fail
          refine (alike_yes C M1 M2 S1 S2 n s _ HN.out I1.out I2.out).mono ?_
          rintro e w7 ⟨rfl, k7⟩
          go_wp2
          go_ret
          exact ⟨rfl, kw.trans k7⟩


set_option maxHeartbeats 1000000 in
set_option maxRecDepth 100000 in
theorem copies_long (C : Cells) (x : Int) (q1 : Option Addr) (len1 cap1 : Nat) (q2 : Option Addr) (len2 cap2 : Nat) (q3 : Option Addr) (len3 cap3 : Nat) (w : World) (h : 40 < len1 ∨ len1 ≤ 40 ∧ 40 < len2 ∨ len1 ≤ 40 ∧ len2 ≤ 40 ∧ 40 < len3) :
    Calls Try.prog 7 #[.int .i64 x, .slice q1 len1 cap1, .slice q2 len2 cap2, .slice q3 len3 cap3] w fun e w' => e = .returned (.bool true) ∧ Kept w w' := by
  rcases h with h1 | ⟨h1, h2⟩ | ⟨h1, h2, h3⟩
  all_goals
    go_enter Try.func7, Try.ntmps7
    go_wp2_with fail
    refine (known_any C _).mono ?_
    rintro e w1 ⟨rfl, k1⟩
    go_wp2
    go_ret
    exact ⟨rfl, k1⟩

theorem cellsCopies_any (C : Cells) (x : Int) (q1 : Option Addr) (len1 cap1 : Nat) (q2 : Option Addr) (len2 cap2 : Nat) (q3 : Option Addr) (len3 cap3 : Nat) (w : World)
    (t1 : IsTable w q1 len1 cap1 4 actR) (t2 : IsTable w q2 len2 cap2 4 actR) (t3 : IsTable w q3 len3 cap3 4 actR) :
    Calls Try.prog 7 #[.int .i64 x, .slice q1 len1 cap1, .slice q2 len2 cap2, .slice q3 len3 cap3] w fun e w' => e = .returned (.bool true) ∧ Kept w w' := by
  by_cases h : len1 ≤ 40 ∧ len2 ≤ 40 ∧ len3 ≤ 40
  · obtain ⟨p, hp, HP⟩ := pick_hundred x
    exact copies_walk C x p (1 + p) hp rfl HP q1 len1 cap1 q2 len2 cap2 q3 len3 cap3 w h.1 h.2.1 h.2.2 t1 t2 t3
  · exact copies_long C x q1 len1 cap1 q2 len2 cap2 q3 len3 cap3 w (by omega)
end Go.Proofs.Ytfndjklpjjcelaa
