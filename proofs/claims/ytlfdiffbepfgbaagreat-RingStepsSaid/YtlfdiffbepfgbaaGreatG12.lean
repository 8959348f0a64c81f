/- The program's rows: each makes one access, and sets the next one. Written by gen14.py. -/
import Derived.Test.YtlfdiffbepfgbaaGreatG11
set_option linter.unusedVariables false
set_option linter.unusedSimpArgs false

namespace Go.Proofs.YtlfdiffbepfgbaaGreat.Ri
set_option maxRecDepth 20000
open Go.RowKit
open Wo (St acc wordAt PMem RefIs)
open Sk (Wd p_load p_store p_cas pmem_kept pmem_lt pmem_frame)

set_option maxHeartbeats 1000000 in
theorem row_findTail (P M B n : Nat) (R : Rng) (hR : R.Ok n) (t u v : Int) (nx : Value) (er : Int) (s : St) (w : World) (ho : OpAt w P R t u v nx er) (hm : PMem w M B n s) (h0 : 0 ≤ s.cnt) (h1 : s.cnt ≤ 1000000) (hP : P ≠ M ∧ P ≠ B) (t0 : 0 ≤ t) (t1 : t < 18446744073709551616) :
    Calls Tryz.prog 215 #[.pointer (some ⟨P, 0, none⟩), .pointer (some ⟨M, 0, none⟩)] w (RowP P M B n R (wordAt n s R.T) u v (.func (.func 287) #[] #[]) er (acc n s 1 R.T false 0) w) := by
  have hPM := hP.1
  have hPB := hP.2
  have c3 := ho.c3
  have c6 := ho.c6
  have c1 := ho.c1
  have fP := ho.f
  have lP := ho.lt
  have HO := Lib.hid ho
  have HM := Lib.hid hm
  clear ho hm hP
  go_enter Tryz.func215, Tryz.ntmps215
  go_wp2_with fail
  refine (p_load M B n s R.T _ (pmem_kept HM.out (by first | exact Kept.refl _ | exact (Kept.refl _).drew | exact (Kept.refl _).drewN _)) h0 h1).mono ?_
  rintro e w1 ⟨rfl, m1, b1⟩
  have lP1 : P < w1.heap.size := Nat.lt_of_lt_of_le lP b1.size
  have c6 := b1.some c6 hPB
  have c1 := b1.some c1 hPB
  have fP : ∀ i, w1.frozen? ⟨P, i, none⟩ = false := fun i => b1.soft lP (fP i)
  go_wp2
  go_end0
  refine ⟨rfl, ((HO.out.frame b1 hPB).set6 _).set1 _, pmem_frame m1 (((But.refl (fun k => k = P) w1).here _ _).here _ _) (Ne.symm hPM) (Ne.symm hPB), (((b1.mono (fun _ _ h => .inr h)).setCell (p := ⟨P, 6, none⟩) (.inl (.inl rfl)) _).setCell (p := ⟨P, 1, none⟩) (.inl (.inl rfl)) _)⟩
set_option maxHeartbeats 1000000 in
theorem row_findHead (P M B n : Nat) (R : Rng) (hR : R.Ok n) (t u v : Int) (nx : Value) (er : Int) (s : St) (w : World) (ho : OpAt w P R t u v nx er) (hm : PMem w M B n s) (h0 : 0 ≤ s.cnt) (h1 : s.cnt ≤ 1000000) (hP : P ≠ M ∧ P ≠ B) (t0 : 0 ≤ t) (t1 : t < 18446744073709551616) :
    Calls Tryz.prog 216 #[.pointer (some ⟨P, 0, none⟩), .pointer (some ⟨M, 0, none⟩)] w (RowP P M B n R (wordAt n s R.H) u v (.func (.func 288) #[] #[]) er (acc n s 1 R.H false 0) w) := by
  have hPM := hP.1
  have hPB := hP.2
  have c2 := ho.c2
  have c6 := ho.c6
  have c1 := ho.c1
  have fP := ho.f
  have lP := ho.lt
  have HO := Lib.hid ho
  have HM := Lib.hid hm
  clear ho hm hP
  go_enter Tryz.func216, Tryz.ntmps216
  go_wp2_with fail
  refine (p_load M B n s R.H _ (pmem_kept HM.out (by first | exact Kept.refl _ | exact (Kept.refl _).drew | exact (Kept.refl _).drewN _)) h0 h1).mono ?_
  rintro e w1 ⟨rfl, m1, b1⟩
  have lP1 : P < w1.heap.size := Nat.lt_of_lt_of_le lP b1.size
  have c6 := b1.some c6 hPB
  have c1 := b1.some c1 hPB
  have fP : ∀ i, w1.frozen? ⟨P, i, none⟩ = false := fun i => b1.soft lP (fP i)
  go_wp2
  go_end0
  refine ⟨rfl, ((HO.out.frame b1 hPB).set6 _).set1 _, pmem_frame m1 (((But.refl (fun k => k = P) w1).here _ _).here _ _) (Ne.symm hPM) (Ne.symm hPB), (((b1.mono (fun _ _ h => .inr h)).setCell (p := ⟨P, 6, none⟩) (.inl (.inl rfl)) _).setCell (p := ⟨P, 1, none⟩) (.inl (.inl rfl)) _)⟩
set_option maxHeartbeats 1000000 in
theorem look_any (P M B n : Nat) (R : Rng) (hR : R.Ok n) (t u v : Int) (nx : Value) (er : Int) (s : St) (w : World) (ho : OpAt w P R t u v nx er) (hm : PMem w M B n s) (h0 : 0 ≤ s.cnt) (h1 : s.cnt ≤ 1000000) (hP : P ≠ M ∧ P ≠ B) (t0 : 0 ≤ t) (t1 : t < 18446744073709551616) :
    Calls Tryz.prog 320 #[.pointer (some ⟨P, 0, none⟩), .pointer (some ⟨M, 0, none⟩)] w (RowP P M B n R t (wordAt n s (cell R t)) v nx er (acc n s 1 (cell R t) false 0) w) := by
  have hPM := hP.1
  have hPB := hP.2
  have c7 := ho.c7
  have fP := ho.f
  have lP := ho.lt
  have HO := Lib.hid ho
  have HM := Lib.hid hm
  have SL : ∀ W, Kept w W → Hid (Calls Tryz.prog 289 #[.pointer (some ⟨P, 0, none⟩)] W fun e w' => e = .returned (.int .i64 (cell R t)) ∧ Kept W w') := fun W k => Lib.hid (slot_any P n R hR t u v nx er W (ho.kept k) t0 t1)
  clear ho hm hP
  go_enter Tryz.func320, Tryz.ntmps320
  go_wp2_with fail
  refine (SL _ (by first | exact Kept.refl _ | exact (Kept.refl _).drew | exact (Kept.refl _).drewN _)).out.mono ?_
  rintro e w0 ⟨rfl, k0⟩
  have c7 := k0.some c7
  go_wp2_with fail
  refine (p_load M B n s (cell R t) _ (pmem_kept HM.out k0) h0 h1).mono ?_
  rintro e w1 ⟨rfl, m1, b1⟩
  have lP0 : P < w0.heap.size := Nat.lt_of_lt_of_le lP k0.size
  have lP1 : P < w1.heap.size := Nat.lt_of_lt_of_le lP0 b1.size
  have c7 := b1.some c7 hPB
  have fP : ∀ i, w1.frozen? ⟨P, i, none⟩ = false := fun i => b1.soft lP0 (k0.soft lP (fP i))
  go_wp2
  go_end0
  refine ⟨rfl, ((HO.out.kept k0).frame b1 hPB).set7 _, pmem_frame m1 ((But.refl (fun k => k = P) w1).here _ _) (Ne.symm hPM) (Ne.symm hPB), ((((k0.but _).trans b1 (fun _ _ h => h)).mono (fun _ _ h => .inr h)).setCell (p := ⟨P, 7, none⟩) (.inl (.inl rfl)) _)⟩
set_option maxHeartbeats 1000000 in
theorem moveTail_any (P M B n : Nat) (R : Rng) (hR : R.Ok n) (t u v : Int) (nx : Value) (er : Int) (s : St) (w : World) (ho : OpAt w P R t u v nx er) (hm : PMem w M B n s) (h0 : 0 ≤ s.cnt) (h1 : s.cnt ≤ 1000000) (hP : P ≠ M ∧ P ≠ B) (t0 : 0 ≤ t) (t1 : t < 18446744073709551616) :
    Calls Tryz.prog 342 #[.pointer (some ⟨P, 0, none⟩), .pointer (some ⟨M, 0, none⟩)] w (RowP P M B n R t u v nx er (acc n s 3 R.T (wordAt n s R.T == t) (plus t)) w) := by
  have hPM := hP.1
  have hPB := hP.2
  have c3 := ho.c3
  have c6 := ho.c6
  have lP := ho.lt
  have HO := Lib.hid ho
  have HM := Lib.hid hm
  have HC : ∀ W, Hid (PMem W M B n s → Calls Tryz.prog 273 #[.pointer (some ⟨M, 0, none⟩), .int .i64 R.T, .int .u64 t, .int .u64 ((t + 1) % 18446744073709551616)] W fun e w' => e = .returned (.bool (wordAt n s R.T == t)) ∧ PMem w' M B n (acc n s 3 R.T (wordAt n s R.T == t) (plus t)) ∧ But (fun k => k = B) W w') := fun W => Lib.hid (fun m => p_cas M B n s R.T t (plus t) W m h0 h1 hR.T1 hR.T2)
  have wr : IntKind.u64.wrap (t + 1) = (t + 1) % 18446744073709551616 := IntKind.wrap_u64 _
  generalize (t + 1) % 18446744073709551616 = q at *
  clear ho hm hP
  go_enter Tryz.func342, Tryz.ntmps342
  go_wp2_with fail
  go_region_law (first | (go_simp; go_at_call 273; refine ((HC _).out (pmem_kept HM.out (by first | exact Kept.refl _ | exact (Kept.refl _).drew | exact (Kept.refl _).drewN _))).mono ?_; rintro e w1 ⟨rfl, m1, b1⟩) | fail)
  all_goals
    have b2 := (Kept.but (w := w) (by first | exact Kept.refl _ | exact (Kept.refl _).drew | exact (Kept.refl _).drewN _) (fun k => k = B)).trans b1 (fun _ _ h => h)
    have HH : Hid (OpAt w1 P R t u v nx er ∧ PMem w1 M B n (acc n s 3 R.T (wordAt n s R.T == t) (plus t)) ∧ But (fun k => k = P ∨ k = B) w w1) := Lib.hid ⟨HO.out.frame b2 hPB, m1, b2.mono (fun _ _ h => .inr h)⟩
    go_wp2
    go_end0
    first
      | exact ⟨rfl, HH.out⟩
      | exact ⟨rfl, HH.out.1.kept (Kept.refl _).drew, pmem_kept HH.out.2.1 (Kept.refl _).drew, HH.out.2.2.then (Kept.refl _).drew⟩
      | exact ⟨rfl, HH.out.1.kept ((Kept.refl _).drewN _), pmem_kept HH.out.2.1 ((Kept.refl _).drewN _), HH.out.2.2.then ((Kept.refl _).drewN _)⟩
set_option maxHeartbeats 1000000 in
theorem row_finish (P M B n : Nat) (R : Rng) (hR : R.Ok n) (t u v : Int) (nx : Value) (er : Int) (s : St) (w : World) (ho : OpAt w P R t u v nx er) (hm : PMem w M B n s) (h0 : 0 ≤ s.cnt) (h1 : s.cnt ≤ 1000000) (hP : P ≠ M ∧ P ≠ B) (t0 : 0 ≤ t) (t1 : t < 18446744073709551616) :
    Calls Tryz.prog 341 #[.pointer (some ⟨P, 0, none⟩), .pointer (some ⟨M, 0, none⟩)] w (RowP P M B n R t u v .nilFunc 0 (acc n s 3 R.T (wordAt n s R.T == t) (plus t)) w) := by
  have hPM := hP.1
  have hPB := hP.2
  have MT := Lib.hid (moveTail_any P M B n R hR t u v nx er s w ho hm h0 h1 hP t0 t1)
  clear ho hm hP
  go_enter Tryz.func341, Tryz.ntmps341
  go_wp2_with fail
  refine MT.out.mono ?_
  rintro e w1 ⟨rfl, o1, m1, b1⟩
  have M1 := Lib.hid m1
  have O1 := Lib.hid o1
  clear m1 o1
  go_wp2_with fail
  refine (end_any P R t u v nx er 0 _ O1.out).mono ?_
  rintro e w2 ⟨rfl, o2, b2⟩
  have HH : Hid (OpAt w2 P R t u v .nilFunc 0 ∧ PMem w2 M B n (acc n s 3 R.T (wordAt n s R.T == t) (plus t)) ∧ But (fun k => k = P ∨ k = B) w w2) := Lib.hid ⟨o2, pmem_frame M1.out b2 (Ne.symm hPM) (Ne.symm hPB), b1.trans b2 (fun _ _ h => .inl h)⟩
  clear o2 b2 b1
  go_wp2
  go_end0
  exact ⟨rfl, HH.out⟩
set_option maxHeartbeats 1000000 in
theorem row_help (P M B n : Nat) (R : Rng) (hR : R.Ok n) (t u v : Int) (nx : Value) (er : Int) (s : St) (w : World) (ho : OpAt w P R t u v nx er) (hm : PMem w M B n s) (h0 : 0 ≤ s.cnt) (h1 : s.cnt ≤ 1000000) (hP : P ≠ M ∧ P ≠ B) (t0 : 0 ≤ t) (t1 : t < 18446744073709551616) :
    Calls Tryz.prog 324 #[.pointer (some ⟨P, 0, none⟩), .pointer (some ⟨M, 0, none⟩)] w (RowP P M B n R t u v (.func (.func 215) #[] #[]) er (acc n s 3 R.T (wordAt n s R.T == t) (plus t)) w) := by
  have hPM := hP.1
  have hPB := hP.2
  have MT := Lib.hid (moveTail_any P M B n R hR t u v nx er s w ho hm h0 h1 hP t0 t1)
  clear ho hm hP
  go_enter Tryz.func324, Tryz.ntmps324
  go_wp2_with fail
  refine MT.out.mono ?_
  rintro e w1 ⟨rfl, o1, m1, b1⟩
  have c1 := o1.c1
  have fP := o1.f
  have lP := o1.lt
  have HH : Hid (OpAt (w1.setCell ⟨P, 1, none⟩ (.func (.func 215) #[] #[])) P R t u v (.func (.func 215) #[] #[]) er ∧ PMem (w1.setCell ⟨P, 1, none⟩ (.func (.func 215) #[] #[])) M B n (acc n s 3 R.T (wordAt n s R.T == t) (plus t)) ∧ But (fun k => k = P ∨ k = B) w (w1.setCell ⟨P, 1, none⟩ (.func (.func 215) #[] #[]))) := Lib.hid ⟨o1.set1 _, pmem_frame m1 ((But.refl (fun k => k = P) w1).here _ _) (Ne.symm hPM) (Ne.symm hPB), b1.setCell (p := ⟨P, 1, none⟩) (.inl (.inl rfl)) _⟩
  clear m1 o1 b1
  go_wp2
  go_end0
  exact ⟨rfl, HH.out⟩
set_option maxHeartbeats 1000000 in
theorem row_moveHead (P M B n : Nat) (R : Rng) (hR : R.Ok n) (t u v : Int) (nx : Value) (er : Int) (s : St) (w : World) (ho : OpAt w P R t u v nx er) (hm : PMem w M B n s) (h0 : 0 ≤ s.cnt) (h1 : s.cnt ≤ 1000000) (hP : P ≠ M ∧ P ≠ B) (t0 : 0 ≤ t) (t1 : t < 18446744073709551616) :
    Calls Tryz.prog 292 #[.pointer (some ⟨P, 0, none⟩), .pointer (some ⟨M, 0, none⟩)] w (RowP P M B n R t u v .nilFunc 0 (acc n s 2 R.H true (plus t)) w) := by
  have hPM := hP.1
  have hPB := hP.2
  have c2 := ho.c2
  have c6 := ho.c6
  have lP := ho.lt
  have HO := Lib.hid ho
  have HM := Lib.hid hm
  have HC : ∀ W, Hid (PMem W M B n s → Calls Tryz.prog 78 #[.pointer (some ⟨M, 0, none⟩), .int .i64 R.H, .int .u64 ((t + 1) % 18446744073709551616)] W fun e w' => e = .returned (.tuple #[]) ∧ PMem w' M B n (acc n s 2 R.H true (plus t)) ∧ But (fun k => k = B) W w') := fun W => Lib.hid (fun m => p_store M B n s R.H (plus t) W m h0 h1)
  have wr : IntKind.u64.wrap (t + 1) = (t + 1) % 18446744073709551616 := IntKind.wrap_u64 _
  generalize (t + 1) % 18446744073709551616 = q at *
  clear ho hm hP
  go_enter Tryz.func292, Tryz.ntmps292
  go_wp2_with fail
  go_region_law (first | (go_simp; go_at_call 78; refine ((HC _).out (pmem_kept HM.out (by first | exact Kept.refl _ | exact (Kept.refl _).drew | exact (Kept.refl _).drewN _))).mono ?_; rintro e w1 ⟨rfl, m1, b1⟩) | fail)
  all_goals
    have b2 := (Kept.but (w := w) (by first | exact Kept.refl _ | exact (Kept.refl _).drew | exact (Kept.refl _).drewN _) (fun k => k = B)).trans b1 (fun _ _ h => h)
    have O1 := Lib.hid (HO.out.frame b2 hPB)
    have M1 := Lib.hid m1
    have B1 := Lib.hid b2
    clear m1 b1 b2
    go_wp2_with fail
    refine (end_any P R t u v nx er 0 _ (O1.out.kept (by first | exact Kept.refl _ | exact (Kept.refl _).drew | exact (Kept.refl _).drewN _))).mono ?_
    rintro e w2 ⟨rfl, o2, b3⟩
    have b4 := (Kept.but (w := w1) (by first | exact Kept.refl _ | exact (Kept.refl _).drew | exact (Kept.refl _).drewN _) (fun k => k = P)).trans b3 (fun _ _ h => h)
    have HH : Hid (OpAt w2 P R t u v .nilFunc 0 ∧ PMem w2 M B n (acc n s 2 R.H true (plus t)) ∧ But (fun k => k = P ∨ k = B) w w2) := Lib.hid ⟨o2, pmem_frame M1.out b4 (Ne.symm hPM) (Ne.symm hPB), (B1.out.mono (fun _ _ h => .inr h)).trans b4 (fun _ _ h => .inl h)⟩
    clear o2 b3 b4
    go_wp2
    go_end0
    exact ⟨rfl, HH.out⟩
set_option maxHeartbeats 1000000 in
theorem row_empty (P M B n : Nat) (R : Rng) (hR : R.Ok n) (t u v : Int) (nx : Value) (er : Int) (s : St) (w : World) (ho : OpAt w P R t u v nx er) (hm : PMem w M B n s) (h0 : 0 ≤ s.cnt) (h1 : s.cnt ≤ 1000000) (hP : P ≠ M ∧ P ≠ B) (t0 : 0 ≤ t) (t1 : t < 18446744073709551616) :
    Calls Tryz.prog 217 #[.pointer (some ⟨P, 0, none⟩), .pointer (some ⟨M, 0, none⟩)] w (RowP P M B n R t u v (.func (.func 292) #[] #[]) er (acc n s 2 (cell R t) true ((lap R t + 1) % 4294967296 * 4294967296)) w) := by
  have hPM := hP.1
  have hPB := hP.2
  have c1 := ho.c1
  have fP := ho.f
  have lP := ho.lt
  have HO := Lib.hid ho
  have HM := Lib.hid hm
  have SL : ∀ W, Kept w W → Hid (Calls Tryz.prog 289 #[.pointer (some ⟨P, 0, none⟩)] W fun e w' => e = .returned (.int .i64 (cell R t)) ∧ Kept W w') := fun W k => Lib.hid (slot_any P n R hR t u v nx er W (ho.kept k) t0 t1)
  have VA : ∀ W, Kept w W → Hid (Calls Tryz.prog 290 #[.pointer (some ⟨P, 0, none⟩)] W fun e w' => e = .returned (.int .u64 (vac R t)) ∧ Kept W w') := fun W k => Lib.hid (ovacant_any P n R hR t u v nx er W (ho.kept k) t0 t1)
  have DR : ∀ W, Hid (Calls Tryz.prog 291 #[.int .u64 (vac R t)] W fun e w' => e = .returned (.int .u64 ((lap R t + 1) % 4294967296 * 4294967296)) ∧ Kept W w') := fun W => Lib.hid (by have := dropped_any (vac R t) W (vac_lo R t) (vac_hi R t); rwa [vac_wlap] at this)
  have HC : ∀ W, Hid (PMem W M B n s → Calls Tryz.prog 78 #[.pointer (some ⟨M, 0, none⟩), .int .i64 (cell R t), .int .u64 ((lap R t + 1) % 4294967296 * 4294967296)] W fun e w' => e = .returned (.tuple #[]) ∧ PMem w' M B n (acc n s 2 (cell R t) true ((lap R t + 1) % 4294967296 * 4294967296)) ∧ But (fun k => k = B) W w') := fun W => Lib.hid (fun m => p_store M B n s (cell R t) _ W m h0 h1)
  generalize vac R t = V at *
  generalize hq : (lap R t + 1) % 4294967296 * 4294967296 = q at *
  clear hq
  clear ho hm hP
  have KT : Kept w w := Kept.refl _
  go_enter Tryz.func217, Tryz.ntmps217
  go_wp2_with fail
  refine (SL _ KT).out.mono ?_
  rintro e wa ⟨rfl, ka⟩
  go_wp2_with fail
  refine (VA _ ka).out.mono ?_
  rintro e wb ⟨rfl, kb⟩
  go_wp2_with fail
  refine (DR _).out.mono ?_
  rintro e wc ⟨rfl, kc⟩
  have KT : Kept w wc := (ka.trans kb).trans kc
  go_wp2_with fail
  refine ((HC _).out (pmem_kept HM.out KT)).mono ?_
  rintro e w1 ⟨rfl, m1, b1⟩
  have b2 := (Kept.but KT (fun k => k = B)).trans b1 (fun _ _ h => h)
  have o1 := HO.out.frame b2 hPB
  have c1 := o1.c1
  have fP := o1.f
  have lP1 := o1.lt
  have HH : Hid (OpAt (w1.setCell ⟨P, 1, none⟩ (.func (.func 292) #[] #[])) P R t u v (.func (.func 292) #[] #[]) er ∧ PMem (w1.setCell ⟨P, 1, none⟩ (.func (.func 292) #[] #[])) M B n (acc n s 2 (cell R t) true q) ∧ But (fun k => k = P ∨ k = B) w (w1.setCell ⟨P, 1, none⟩ (.func (.func 292) #[] #[]))) := Lib.hid ⟨o1.set1 _, pmem_frame m1 ((But.refl (fun k => k = P) w1).here _ _) (Ne.symm hPM) (Ne.symm hPB), (b2.mono (fun _ _ h => .inr h)).setCell (p := ⟨P, 1, none⟩) (.inl (.inl rfl)) _⟩
  clear m1 o1 b1 b2 ka kb kc KT
  go_wp2
  go_end0
  exact ⟨rfl, HH.out⟩
set_option maxHeartbeats 2000000 in
theorem row_behind_free (P M B n : Nat) (R : Rng) (hR : R.Ok n) (t u v : Int) (nx : Value) (er : Int) (s : St) (w : World) (ho : OpAt w P R t u v nx er) (hm : PMem w M B n s) (h0 : 0 ≤ s.cnt) (h1 : s.cnt ≤ 1000000) (hP : P ≠ M ∧ P ≠ B) (t0 : 0 ≤ t) (t1 : t < 18446744073709551616) (hw : Wd n s) (hz : free R t (wordAt n s (cell R t)) = true) :
    Calls Tryz.prog 287 #[.pointer (some ⟨P, 0, none⟩), .pointer (some ⟨M, 0, none⟩)] w (RowP P M B n R t (wordAt n s (cell R t)) v (.func (.func 322) #[] #[]) er (acc n s 1 (cell R t) false 0) w) := by
  have hPM := hP.1
  have hPB := hP.2
  have W0 := (hw.word (cell R t)).1
  have W1 := (hw.word (cell R t)).2
  have LK := Lib.hid (look_any P M B n R hR t u v nx er s w ho hm h0 h1 hP t0 t1)
  obtain ⟨q, hq⟩ : ∃ q, q = wordAt n s (cell R t) := ⟨_, rfl⟩
  rw [← hq] at W0 W1 LK hz ⊢
  have HQ := Lib.hid hq
  clear ho hm hP hq hw
  go_enter Tryz.func287, Tryz.ntmps287
  go_wp2_with fail
  refine LK.out.mono ?_
  rintro e w1 ⟨rfl, o1, m1, b1⟩
  have O1 := Lib.hid o1
  have M1 := Lib.hid m1
  have B1 := Lib.hid b1
  have c7 := o1.c7
  have lP1 := o1.lt
  clear m1 o1 b1
  go_wp2_with fail
  refine (ovacant_any P n R hR t q v nx er _ O1.out t0 t1).mono ?_
  rintro e w2 ⟨rfl, k2⟩
  have c7 := k2.some c7
  have FA : ∀ W, Hid (Calls Tryz.prog 321 #[.int .u64 q, .int .u64 (vac R t)] W fun e w' => e = .returned (.bool true) ∧ Kept W w') := fun W => Lib.hid (by have := free_any q (vac R t) W W0 W1; rwa [show (!full q && wlap q * 4294967296 == vac R t) = true from hz] at this)
  go_wp2_with fail
  refine (FA _).out.mono ?_
  rintro e w3 ⟨rfl, k3⟩
  have c7 := k3.some c7
  have KT : Kept w1 w3 := k2.trans k3
  have o4 := O1.out.kept KT
  have c1 := o4.c1
  have fP := o4.f
  have lP4 := o4.lt
  have HH : Hid (OpAt (w3.setCell ⟨P, 1, none⟩ (.func (.func 322) #[] #[])) P R t q v (.func (.func 322) #[] #[]) er ∧ PMem (w3.setCell ⟨P, 1, none⟩ (.func (.func 322) #[] #[])) M B n (acc n s 1 (cell R t) false 0) ∧ But (fun k => k = P ∨ k = B) w (w3.setCell ⟨P, 1, none⟩ (.func (.func 322) #[] #[]))) := Lib.hid ⟨o4.set1 _, pmem_frame (pmem_kept M1.out KT) ((But.refl (fun k => k = P) _).here _ _) (Ne.symm hPM) (Ne.symm hPB), (B1.out.then KT).setCell (p := ⟨P, 1, none⟩) (.inl (.inl rfl)) _⟩
  clear o4 KT
  go_wp2
  go_end0
  exact ⟨rfl, HH.out⟩
set_option maxHeartbeats 2000000 in
theorem row_behind_kept (P M B n : Nat) (R : Rng) (hR : R.Ok n) (t u v : Int) (nx : Value) (er : Int) (s : St) (w : World) (ho : OpAt w P R t u v nx er) (hm : PMem w M B n s) (h0 : 0 ≤ s.cnt) (h1 : s.cnt ≤ 1000000) (hP : P ≠ M ∧ P ≠ B) (t0 : 0 ≤ t) (t1 : t < 18446744073709551616) (hw : Wd n s) (hz : free R t (wordAt n s (cell R t)) = false ∧ keptB R t (wordAt n s (cell R t)) = true) :
    Calls Tryz.prog 287 #[.pointer (some ⟨P, 0, none⟩), .pointer (some ⟨M, 0, none⟩)] w (RowP P M B n R t (wordAt n s (cell R t)) v .nilFunc 7 (acc n s 1 (cell R t) false 0) w) := by
  have hPM := hP.1
  have hPB := hP.2
  have W0 := (hw.word (cell R t)).1
  have W1 := (hw.word (cell R t)).2
  have LK := Lib.hid (look_any P M B n R hR t u v nx er s w ho hm h0 h1 hP t0 t1)
  obtain ⟨q, hq⟩ : ∃ q, q = wordAt n s (cell R t) := ⟨_, rfl⟩
  rw [← hq] at W0 W1 LK hz ⊢
  have HQ := Lib.hid hq
  clear ho hm hP hq hw
  go_enter Tryz.func287, Tryz.ntmps287
  go_wp2_with fail
  refine LK.out.mono ?_
  rintro e w1 ⟨rfl, o1, m1, b1⟩
  have O1 := Lib.hid o1
  have M1 := Lib.hid m1
  have B1 := Lib.hid b1
  have c7 := o1.c7
  have lP1 := o1.lt
  clear m1 o1 b1
  go_wp2_with fail
  refine (ovacant_any P n R hR t q v nx er _ O1.out t0 t1).mono ?_
  rintro e w2 ⟨rfl, k2⟩
  have c7 := k2.some c7
  have FA : ∀ W, Hid (Calls Tryz.prog 321 #[.int .u64 q, .int .u64 (vac R t)] W fun e w' => e = .returned (.bool false) ∧ Kept W w') := fun W => Lib.hid (by have := free_any q (vac R t) W W0 W1; rwa [show (!full q && wlap q * 4294967296 == vac R t) = false from hz.1] at this)
  go_wp2_with fail
  refine (FA _).out.mono ?_
  rintro e w3 ⟨rfl, k3⟩
  have c7 := k3.some c7
  have FK : ∀ W, Hid (Calls Tryz.prog 323 #[.int .u64 q, .int .u64 (vac R t)] W fun e w' => e = .returned (.bool true) ∧ Kept W w') := fun W => Lib.hid (by have := keptB_any q (vac R t) W W0 W1; rwa [show (full q && (wlap q + 1) % 4294967296 * 4294967296 == vac R t) = true from hz.2] at this)
  go_wp2_with fail
  refine (FK _).out.mono ?_
  rintro e w4 ⟨rfl, k4⟩
  have c7 := k4.some c7
  have KT : Kept w1 w4 := (k2.trans k3).trans k4
  go_wp2_with fail
  refine (end_any P R t q v nx er 7 _ (O1.out.kept KT)).mono ?_
  rintro e w5 ⟨rfl, o5, b5⟩
  have HH : Hid (OpAt w5 P R t q v .nilFunc 7 ∧ PMem w5 M B n (acc n s 1 (cell R t) false 0) ∧ But (fun k => k = P ∨ k = B) w w5) := Lib.hid ⟨o5, pmem_frame (pmem_kept M1.out KT) b5 (Ne.symm hPM) (Ne.symm hPB), (B1.out.then KT).trans b5 (fun _ _ h => .inl h)⟩
  clear o5 b5 KT
  go_wp2
  go_end0
  exact ⟨rfl, HH.out⟩
set_option maxHeartbeats 2000000 in
theorem row_behind_help (P M B n : Nat) (R : Rng) (hR : R.Ok n) (t u v : Int) (nx : Value) (er : Int) (s : St) (w : World) (ho : OpAt w P R t u v nx er) (hm : PMem w M B n s) (h0 : 0 ≤ s.cnt) (h1 : s.cnt ≤ 1000000) (hP : P ≠ M ∧ P ≠ B) (t0 : 0 ≤ t) (t1 : t < 18446744073709551616) (hw : Wd n s) (hz : free R t (wordAt n s (cell R t)) = false ∧ keptB R t (wordAt n s (cell R t)) = false) :
    Calls Tryz.prog 287 #[.pointer (some ⟨P, 0, none⟩), .pointer (some ⟨M, 0, none⟩)] w (RowP P M B n R t (wordAt n s (cell R t)) v (.func (.func 324) #[] #[]) er (acc n s 1 (cell R t) false 0) w) := by
  have hPM := hP.1
  have hPB := hP.2
  have W0 := (hw.word (cell R t)).1
  have W1 := (hw.word (cell R t)).2
  have LK := Lib.hid (look_any P M B n R hR t u v nx er s w ho hm h0 h1 hP t0 t1)
  obtain ⟨q, hq⟩ : ∃ q, q = wordAt n s (cell R t) := ⟨_, rfl⟩
  rw [← hq] at W0 W1 LK hz ⊢
  have HQ := Lib.hid hq
  clear ho hm hP hq hw
  go_enter Tryz.func287, Tryz.ntmps287
  go_wp2_with fail
  refine LK.out.mono ?_
  rintro e w1 ⟨rfl, o1, m1, b1⟩
  have O1 := Lib.hid o1
  have M1 := Lib.hid m1
  have B1 := Lib.hid b1
  have c7 := o1.c7
  have lP1 := o1.lt
  clear m1 o1 b1
  go_wp2_with fail
  refine (ovacant_any P n R hR t q v nx er _ O1.out t0 t1).mono ?_
  rintro e w2 ⟨rfl, k2⟩
  have c7 := k2.some c7
  have FA : ∀ W, Hid (Calls Tryz.prog 321 #[.int .u64 q, .int .u64 (vac R t)] W fun e w' => e = .returned (.bool false) ∧ Kept W w') := fun W => Lib.hid (by have := free_any q (vac R t) W W0 W1; rwa [show (!full q && wlap q * 4294967296 == vac R t) = false from hz.1] at this)
  go_wp2_with fail
  refine (FA _).out.mono ?_
  rintro e w3 ⟨rfl, k3⟩
  have c7 := k3.some c7
  have FK : ∀ W, Hid (Calls Tryz.prog 323 #[.int .u64 q, .int .u64 (vac R t)] W fun e w' => e = .returned (.bool false) ∧ Kept W w') := fun W => Lib.hid (by have := keptB_any q (vac R t) W W0 W1; rwa [show (full q && (wlap q + 1) % 4294967296 * 4294967296 == vac R t) = false from hz.2] at this)
  go_wp2_with fail
  refine (FK _).out.mono ?_
  rintro e w4 ⟨rfl, k4⟩
  have c7 := k4.some c7
  have KT : Kept w1 w4 := (k2.trans k3).trans k4
  have o4 := O1.out.kept KT
  have c1 := o4.c1
  have fP := o4.f
  have lP4 := o4.lt
  have HH : Hid (OpAt (w4.setCell ⟨P, 1, none⟩ (.func (.func 324) #[] #[])) P R t q v (.func (.func 324) #[] #[]) er ∧ PMem (w4.setCell ⟨P, 1, none⟩ (.func (.func 324) #[] #[])) M B n (acc n s 1 (cell R t) false 0) ∧ But (fun k => k = P ∨ k = B) w (w4.setCell ⟨P, 1, none⟩ (.func (.func 324) #[] #[]))) := Lib.hid ⟨o4.set1 _, pmem_frame (pmem_kept M1.out KT) ((But.refl (fun k => k = P) _).here _ _) (Ne.symm hPM) (Ne.symm hPB), (B1.out.then KT).setCell (p := ⟨P, 1, none⟩) (.inl (.inl rfl)) _⟩
  clear o4 KT
  go_wp2
  go_end0
  exact ⟨rfl, HH.out⟩
set_option maxHeartbeats 2000000 in
theorem row_ahead_none (P M B n : Nat) (R : Rng) (hR : R.Ok n) (t u v : Int) (nx : Value) (er : Int) (s : St) (w : World) (ho : OpAt w P R t u v nx er) (hm : PMem w M B n s) (h0 : 0 ≤ s.cnt) (h1 : s.cnt ≤ 1000000) (hP : P ≠ M ∧ P ≠ B) (t0 : 0 ≤ t) (t1 : t < 18446744073709551616) (hw : Wd n s) (hz : taken R t (wordAt n s (cell R t)) = false) :
    Calls Tryz.prog 288 #[.pointer (some ⟨P, 0, none⟩), .pointer (some ⟨M, 0, none⟩)] w (RowP P M B n R t (wordAt n s (cell R t)) v .nilFunc 15 (acc n s 1 (cell R t) false 0) w) := by
  have hPM := hP.1
  have hPB := hP.2
  have W0 := (hw.word (cell R t)).1
  have W1 := (hw.word (cell R t)).2
  have LK := Lib.hid (look_any P M B n R hR t u v nx er s w ho hm h0 h1 hP t0 t1)
  obtain ⟨q, hq⟩ : ∃ q, q = wordAt n s (cell R t) := ⟨_, rfl⟩
  rw [← hq] at W0 W1 LK hz ⊢
  have HQ := Lib.hid hq
  clear ho hm hP hq hw
  have FT : ∀ W, Hid (Calls Tryz.prog 224 #[.int .u64 q, .int .u64 (vac R t)] W fun e w' => e = .returned (.bool false) ∧ Kept W w') := fun W => Lib.hid (by have := taken_any q (vac R t) W W0 W1; rwa [show (full q && wlap q * 4294967296 == vac R t) = false from hz] at this)
  go_enter Tryz.func288, Tryz.ntmps288
  go_wp2_with fail
  refine LK.out.mono ?_
  rintro e w1 ⟨rfl, o1, m1, b1⟩
  have O1 := Lib.hid o1
  have M1 := Lib.hid m1
  have B1 := Lib.hid b1
  have c7 := o1.c7
  have c8 := o1.c8
  have fP := o1.f
  have lP1 := o1.lt
  clear m1 o1 b1
  have KT : Kept w1 w1 := Kept.refl _
  have VA : ∀ W, Kept w1 W → Hid (Calls Tryz.prog 290 #[.pointer (some ⟨P, 0, none⟩)] W fun e w' => e = .returned (.int .u64 (vac R t)) ∧ Kept W w') := fun W k => Lib.hid (ovacant_any P n R hR t q v nx er W (O1.out.kept k) t0 t1)
  generalize vac R t = V at *
  go_wp2_with fail
  go_region_held3 (fun w' => w'.cell? ⟨P, 7, none⟩ = some (.int .u64 q)) (first | go_keep | (exact KT.some c7)) (first
    | (go_at_call 290; refine (VA _ (by first | exact KT | exact KT.drew | exact KT.drewN _)).out.mono ?_; rintro e w2 ⟨rfl, k2⟩; have KT : Kept w1 w2 := Kept.trans (b := _) (by first | exact KT | exact KT.drew | exact KT.drewN _) k2)
    | (go_at_call 224; refine (FT _).out.mono ?_; rintro e w3 ⟨rfl, k3⟩; have KT : Kept w1 w3 := Kept.trans (b := _) (by first | exact KT | exact KT.drew | exact KT.drewN _) k3))
  go_wp2_with fail
  have KU : Kept w1 _ := (by first | exact KT | exact KT.drew | exact KT.drewN _)
  refine (end_any P R t q v nx er 15 _ (O1.out.kept (by first | exact KT | exact KT.drew | exact KT.drewN _))).mono ?_
  rintro e w5 ⟨rfl, o5, b5⟩
  have HH : Hid (OpAt w5 P R t q v .nilFunc 15 ∧ PMem w5 M B n (acc n s 1 (cell R t) false 0) ∧ But (fun k => k = P ∨ k = B) w w5) := Lib.hid ⟨o5, pmem_frame (pmem_kept M1.out (by first | exact KT | exact KT.drew | exact KT.drewN _)) b5 (Ne.symm hPM) (Ne.symm hPB), (B1.out.then (by first | exact KT | exact KT.drew | exact KT.drewN _)).trans b5 (fun _ _ h => .inl h)⟩
  clear o5 b5 KT
  go_wp2
  go_end0
  exact ⟨rfl, HH.out⟩
set_option maxHeartbeats 2000000 in
theorem row_ahead_some (P M B n : Nat) (R : Rng) (hR : R.Ok n) (t u v : Int) (nx : Value) (er : Int) (s : St) (w : World) (ho : OpAt w P R t u v nx er) (hm : PMem w M B n s) (h0 : 0 ≤ s.cnt) (h1 : s.cnt ≤ 1000000) (hP : P ≠ M ∧ P ≠ B) (t0 : 0 ≤ t) (t1 : t < 18446744073709551616) (hw : Wd n s) (hz : taken R t (wordAt n s (cell R t)) = true) :
    Calls Tryz.prog 288 #[.pointer (some ⟨P, 0, none⟩), .pointer (some ⟨M, 0, none⟩)] w (RowP P M B n R t (wordAt n s (cell R t)) (wordAt n s (cell R t) % 65536) .nilFunc 0 (acc n s 1 (cell R t) false 0) w) := by
  have hPM := hP.1
  have hPB := hP.2
  have W0 := (hw.word (cell R t)).1
  have W1 := (hw.word (cell R t)).2
  have LK := Lib.hid (look_any P M B n R hR t u v nx er s w ho hm h0 h1 hP t0 t1)
  obtain ⟨q, hq⟩ : ∃ q, q = wordAt n s (cell R t) := ⟨_, rfl⟩
  rw [← hq] at W0 W1 LK hz ⊢
  have HQ := Lib.hid hq
  clear ho hm hP hq hw
  have FT : ∀ W, Hid (Calls Tryz.prog 224 #[.int .u64 q, .int .u64 (vac R t)] W fun e w' => e = .returned (.bool true) ∧ Kept W w') := fun W => Lib.hid (by have := taken_any q (vac R t) W W0 W1; rwa [show (full q && wlap q * 4294967296 == vac R t) = true from hz] at this)
  go_enter Tryz.func288, Tryz.ntmps288
  go_wp2_with fail
  refine LK.out.mono ?_
  rintro e w1 ⟨rfl, o1, m1, b1⟩
  have O1 := Lib.hid o1
  have M1 := Lib.hid m1
  have B1 := Lib.hid b1
  have c7 := o1.c7
  have c8 := o1.c8
  have fP := o1.f
  have lP1 := o1.lt
  clear m1 o1 b1
  have KT : Kept w1 w1 := Kept.refl _
  have VA : ∀ W, Kept w1 W → Hid (Calls Tryz.prog 290 #[.pointer (some ⟨P, 0, none⟩)] W fun e w' => e = .returned (.int .u64 (vac R t)) ∧ Kept W w') := fun W k => Lib.hid (ovacant_any P n R hR t q v nx er W (O1.out.kept k) t0 t1)
  generalize vac R t = V at *
  go_wp2_with fail
  go_region_held3 (fun w' => w'.cell? ⟨P, 7, none⟩ = some (.int .u64 q)) (first | go_keep | (exact KT.some c7)) (first
    | (go_at_call 290; refine (VA _ (by first | exact KT | exact KT.drew | exact KT.drewN _)).out.mono ?_; rintro e w2 ⟨rfl, k2⟩; have KT : Kept w1 w2 := Kept.trans (b := _) (by first | exact KT | exact KT.drew | exact KT.drewN _) k2)
    | (go_at_call 224; refine (FT _).out.mono ?_; rintro e w3 ⟨rfl, k3⟩; have KT : Kept w1 w3 := Kept.trans (b := _) (by first | exact KT | exact KT.drew | exact KT.drewN _) k3))
  obtain ⟨wa, hwa⟩ : ∃ wa : World, wa = w3.drew := ⟨_, rfl⟩
  have c7 := KT.drew.some c7
  have c8 := KT.drew.some c8
  go_wp2_with fail
  refine (value_any q _ W0 W1).mono ?_
  rintro e w4 ⟨rfl, k4⟩
  have KV : Kept w1 w4 := Kept.trans (b := _) (by first | exact KT | exact KT.drew | exact KT.drewN _) k4
  have c8 := k4.some c8
  have fP : ∀ i, w4.frozen? ⟨P, i, none⟩ = false := fun i => KV.soft lP1 (fP i)
  have lP4 : P < w4.heap.size := Nat.lt_of_lt_of_le lP1 KV.size
  have O4 := Lib.hid ((O1.out.kept KV).set8 (q % 65536))
  have M4 := Lib.hid (pmem_frame (pmem_kept M1.out KV) ((But.refl (fun k => k = P) w4).here 8 (.int .i64 (q % 65536))) (Ne.symm hPM) (Ne.symm hPB))
  have B4 := Lib.hid ((B1.out.then KV).setCell (p := ⟨P, 8, none⟩) (.inl (.inl rfl)) (.int .i64 (q % 65536)))
  clear k4 KT KV
  go_wp2_with fail
  refine (end_any P R t q (q % 65536) nx er 0 _ O4.out).mono ?_
  rintro e w5 ⟨rfl, o5, b5⟩
  have HH : Hid (OpAt w5 P R t q (q % 65536) .nilFunc 0 ∧ PMem w5 M B n (acc n s 1 (cell R t) false 0) ∧ But (fun k => k = P ∨ k = B) w w5) := Lib.hid ⟨o5, pmem_frame M4.out b5 (Ne.symm hPM) (Ne.symm hPB), B4.out.trans b5 (fun _ _ h => .inl h)⟩
  clear o5 b5
  go_wp2
  go_end0
  exact ⟨rfl, HH.out⟩
set_option maxHeartbeats 4000000 in
theorem row_fill_yes (P M B n : Nat) (R : Rng) (hR : R.Ok n) (t u v : Int) (nx : Value) (er : Int) (s : St) (w : World) (ho : OpAt w P R t u v nx er) (hm : PMem w M B n s) (h0 : 0 ≤ s.cnt) (h1 : s.cnt ≤ 1000000) (hP : P ≠ M ∧ P ≠ B) (t0 : 0 ≤ t) (t1 : t < 18446744073709551616) (v0 : 0 ≤ v) (v1 : v ≤ 65535) (hz : (wordAt n s (cell R t) == u) = true) :
    Calls Tryz.prog 322 #[.pointer (some ⟨P, 0, none⟩), .pointer (some ⟨M, 0, none⟩)] w (RowP P M B n R t u v (.func (.func 341) #[] #[]) er (acc n s 3 (cell R t) true (fullW (lap R t) v)) w) := by
  have hPM := hP.1
  have hPB := hP.2
  have c1 := ho.c1
  have fP := ho.f
  have lP := ho.lt
  have a0 := (cell_in hR t).1
  have a1 := (cell_in hR t).2
  have HC : ∀ W, Hid (PMem W M B n s → Calls Tryz.prog 273 #[.pointer (some ⟨M, 0, none⟩), .int .i64 (cell R t), .int .u64 u, .int .u64 (fullW (lap R t) v)] W fun e w' => e = .returned (.bool true) ∧ PMem w' M B n (acc n s 3 (cell R t) true (fullW (lap R t) v)) ∧ But (fun k => k = B) W w') := fun W => Lib.hid (fun m => by have := p_cas M B n s (cell R t) u (fullW (lap R t) v) W m h0 h1 a0 a1; rwa [hz] at this)
  have WI : ∀ W, Hid (Calls Tryz.prog 340 #[.int .u64 (vac R t), .int .i64 v] W fun e w' => e = .returned (.int .u64 (fullW (lap R t) v)) ∧ Kept W w') := fun W => Lib.hid (by have := with_any (vac R t) v W (vac_lo R t) (vac_hi R t) ⟨v0, v1⟩; rwa [vac_wlap] at this)
  have HM := Lib.hid hm
  obtain ⟨w0, hw0⟩ : ∃ w0, w0 = w.setCell ⟨P, 1, none⟩ (.func (.func 324) #[] #[]) := ⟨_, rfl⟩
  have o0 : OpAt w0 P R t u v (.func (.func 324) #[] #[]) er := by rw [hw0]; exact ho.set1 _
  have b0 : But (fun k => k = P) w w0 := by rw [hw0]; exact (But.refl _ w).here _ _
  have m0 := Lib.hid (pmem_frame hm b0 (Ne.symm hPM) (Ne.symm hPB))
  have O0 := Lib.hid o0
  have SL : ∀ W, Kept w0 W → Hid (Calls Tryz.prog 289 #[.pointer (some ⟨P, 0, none⟩)] W fun e w' => e = .returned (.int .i64 (cell R t)) ∧ Kept W w') := fun W k => Lib.hid (slot_any P n R hR t u v _ er W (O0.out.kept k) t0 t1)
  have VA : ∀ W, Kept w0 W → Hid (Calls Tryz.prog 290 #[.pointer (some ⟨P, 0, none⟩)] W fun e w' => e = .returned (.int .u64 (vac R t)) ∧ Kept W w') := fun W k => Lib.hid (ovacant_any P n R hR t u v _ er W (O0.out.kept k) t0 t1)
  have d7 := o0.c7
  have d8 := o0.c8
  have lP0 := o0.lt
  have KT : Kept w0 w0 := Kept.refl _
  have B0 := Lib.hid b0
  generalize vac R t = V at *
  generalize fullW (lap R t) v = F at *
  clear ho hm hP o0 b0 hz
  go_enter Tryz.func322, Tryz.ntmps322
  go_upto_region 1 with fail
  rw [← hw0]
  clear hw0
  go_region_held3 (fun w' => w'.cell? ⟨P, 7, none⟩ = some (.int .u64 u) ∧ w'.cell? ⟨P, 8, none⟩ = some (.int .i64 v)) (first | go_keep | (exact ⟨KT.some d7, KT.some d8⟩) | (exact ⟨e7, e8⟩)) (first
    | (go_at_call 289; refine (SL _ (by first | exact KT | exact KT.drew | exact KT.drewN _)).out.mono ?_; rintro e w2 ⟨rfl, k2⟩; have KT : Kept w0 w2 := Kept.trans (b := _) (by first | exact KT | exact KT.drew | exact KT.drewN _) k2)
    | (go_at_call 290; refine (VA _ (by first | exact KT | exact KT.drew | exact KT.drewN _)).out.mono ?_; rintro e w3 ⟨rfl, k3⟩; have KT : Kept w0 w3 := Kept.trans (b := _) (by first | exact KT | exact KT.drew | exact KT.drewN _) k3)
    | (go_at_call 340; refine (WI _).out.mono ?_; rintro e w4 ⟨rfl, k4⟩; have KT : Kept w0 w4 := Kept.trans (b := _) (by first | exact KT | exact KT.drew | exact KT.drewN _) k4)
    | (go_at_call 273; refine ((HC _).out (pmem_kept m0.out (by first | exact KT | exact KT.drew | exact KT.drewN _))).mono ?_; rintro e w5 ⟨rfl, m5, b5⟩; have BT : But (fun k => k = B) w0 w5 := (Kept.but (w' := _) (by first | exact KT | exact KT.drew | exact KT.drewN _) _).trans b5 (fun _ _ h => h); have e7 := BT.some d7 hPB; have e8 := BT.some d8 hPB))
  have o5 := O0.out.frame BT hPB
  have B5 : Hid (But (fun k => k = P ∨ k = B) w w5) := Lib.hid ((B0.out.mono (fun _ _ h => .inl h)).trans BT (fun _ _ h => .inr h))
  have M5 := Lib.hid m5
  have O5 := Lib.hid o5
  have c1 := o5.c1
  have fP := o5.f
  have lP5 := o5.lt
  clear o5 m5 b5 BT KT e7 e8
  rename_i hcells
  clear hcells
  go_wp2
  go_end0
  first
    | exact ⟨rfl, O5.out.set1 _, pmem_frame M5.out ((But.refl (fun k => k = P) _).here _ _) (Ne.symm hPM) (Ne.symm hPB), B5.out.setCell (p := ⟨P, 1, none⟩) (.inl (.inl rfl)) _⟩
    | exact ⟨rfl, (O5.out.kept (by first | exact (Kept.refl _).drew | exact (Kept.refl _).drewN _)).set1 _, pmem_frame (pmem_kept M5.out (by first | exact (Kept.refl _).drew | exact (Kept.refl _).drewN _)) ((But.refl (fun k => k = P) _).here _ _) (Ne.symm hPM) (Ne.symm hPB), (B5.out.then (by first | exact (Kept.refl _).drew | exact (Kept.refl _).drewN _)).setCell (p := ⟨P, 1, none⟩) (.inl (.inl rfl)) _⟩
set_option maxHeartbeats 4000000 in
theorem row_fill_no (P M B n : Nat) (R : Rng) (hR : R.Ok n) (t u v : Int) (nx : Value) (er : Int) (s : St) (w : World) (ho : OpAt w P R t u v nx er) (hm : PMem w M B n s) (h0 : 0 ≤ s.cnt) (h1 : s.cnt ≤ 1000000) (hP : P ≠ M ∧ P ≠ B) (t0 : 0 ≤ t) (t1 : t < 18446744073709551616) (v0 : 0 ≤ v) (v1 : v ≤ 65535) (hz : (wordAt n s (cell R t) == u) = false) :
    Calls Tryz.prog 322 #[.pointer (some ⟨P, 0, none⟩), .pointer (some ⟨M, 0, none⟩)] w (RowP P M B n R t u v (.func (.func 324) #[] #[]) er (acc n s 3 (cell R t) false (fullW (lap R t) v)) w) := by
  have hPM := hP.1
  have hPB := hP.2
  have c1 := ho.c1
  have fP := ho.f
  have lP := ho.lt
  have a0 := (cell_in hR t).1
  have a1 := (cell_in hR t).2
  have HC : ∀ W, Hid (PMem W M B n s → Calls Tryz.prog 273 #[.pointer (some ⟨M, 0, none⟩), .int .i64 (cell R t), .int .u64 u, .int .u64 (fullW (lap R t) v)] W fun e w' => e = .returned (.bool false) ∧ PMem w' M B n (acc n s 3 (cell R t) false (fullW (lap R t) v)) ∧ But (fun k => k = B) W w') := fun W => Lib.hid (fun m => by have := p_cas M B n s (cell R t) u (fullW (lap R t) v) W m h0 h1 a0 a1; rwa [hz] at this)
  have WI : ∀ W, Hid (Calls Tryz.prog 340 #[.int .u64 (vac R t), .int .i64 v] W fun e w' => e = .returned (.int .u64 (fullW (lap R t) v)) ∧ Kept W w') := fun W => Lib.hid (by have := with_any (vac R t) v W (vac_lo R t) (vac_hi R t) ⟨v0, v1⟩; rwa [vac_wlap] at this)
  have HM := Lib.hid hm
  obtain ⟨w0, hw0⟩ : ∃ w0, w0 = w.setCell ⟨P, 1, none⟩ (.func (.func 324) #[] #[]) := ⟨_, rfl⟩
  have o0 : OpAt w0 P R t u v (.func (.func 324) #[] #[]) er := by rw [hw0]; exact ho.set1 _
  have b0 : But (fun k => k = P) w w0 := by rw [hw0]; exact (But.refl _ w).here _ _
  have m0 := Lib.hid (pmem_frame hm b0 (Ne.symm hPM) (Ne.symm hPB))
  have O0 := Lib.hid o0
  have SL : ∀ W, Kept w0 W → Hid (Calls Tryz.prog 289 #[.pointer (some ⟨P, 0, none⟩)] W fun e w' => e = .returned (.int .i64 (cell R t)) ∧ Kept W w') := fun W k => Lib.hid (slot_any P n R hR t u v _ er W (O0.out.kept k) t0 t1)
  have VA : ∀ W, Kept w0 W → Hid (Calls Tryz.prog 290 #[.pointer (some ⟨P, 0, none⟩)] W fun e w' => e = .returned (.int .u64 (vac R t)) ∧ Kept W w') := fun W k => Lib.hid (ovacant_any P n R hR t u v _ er W (O0.out.kept k) t0 t1)
  have d7 := o0.c7
  have d8 := o0.c8
  have lP0 := o0.lt
  have KT : Kept w0 w0 := Kept.refl _
  have B0 := Lib.hid b0
  generalize vac R t = V at *
  generalize fullW (lap R t) v = F at *
  clear ho hm hP o0 b0 hz
  go_enter Tryz.func322, Tryz.ntmps322
  go_upto_region 1 with fail
  rw [← hw0]
  clear hw0
  go_region_held3 (fun w' => w'.cell? ⟨P, 7, none⟩ = some (.int .u64 u) ∧ w'.cell? ⟨P, 8, none⟩ = some (.int .i64 v)) (first | go_keep | (exact ⟨KT.some d7, KT.some d8⟩) | (exact ⟨e7, e8⟩)) (first
    | (go_at_call 289; refine (SL _ (by first | exact KT | exact KT.drew | exact KT.drewN _)).out.mono ?_; rintro e w2 ⟨rfl, k2⟩; have KT : Kept w0 w2 := Kept.trans (b := _) (by first | exact KT | exact KT.drew | exact KT.drewN _) k2)
    | (go_at_call 290; refine (VA _ (by first | exact KT | exact KT.drew | exact KT.drewN _)).out.mono ?_; rintro e w3 ⟨rfl, k3⟩; have KT : Kept w0 w3 := Kept.trans (b := _) (by first | exact KT | exact KT.drew | exact KT.drewN _) k3)
    | (go_at_call 340; refine (WI _).out.mono ?_; rintro e w4 ⟨rfl, k4⟩; have KT : Kept w0 w4 := Kept.trans (b := _) (by first | exact KT | exact KT.drew | exact KT.drewN _) k4)
    | (go_at_call 273; refine ((HC _).out (pmem_kept m0.out (by first | exact KT | exact KT.drew | exact KT.drewN _))).mono ?_; rintro e w5 ⟨rfl, m5, b5⟩; have BT : But (fun k => k = B) w0 w5 := (Kept.but (w' := _) (by first | exact KT | exact KT.drew | exact KT.drewN _) _).trans b5 (fun _ _ h => h); have e7 := BT.some d7 hPB; have e8 := BT.some d8 hPB))
  have o5 := O0.out.frame BT hPB
  have B5 : Hid (But (fun k => k = P ∨ k = B) w w5) := Lib.hid ((B0.out.mono (fun _ _ h => .inl h)).trans BT (fun _ _ h => .inr h))
  have M5 := Lib.hid m5
  have O5 := Lib.hid o5
  have c1 := o5.c1
  have fP := o5.f
  have lP5 := o5.lt
  clear o5 m5 b5 BT KT e7 e8
  rename_i hcells
  clear hcells
  go_wp2
  go_end0
  first
    | exact ⟨rfl, O5.out, M5.out, B5.out⟩
    | exact ⟨rfl, O5.out.kept (by first | exact (Kept.refl _).drew | exact (Kept.refl _).drewN _), pmem_kept M5.out (by first | exact (Kept.refl _).drew | exact (Kept.refl _).drewN _), B5.out.then (by first | exact (Kept.refl _).drew | exact (Kept.refl _).drewN _)⟩
end Go.Proofs.YtlfdiffbepfgbaaGreat.Ri
