/- Operations that nobody made; operations in a memory that is none. Written by gen14q.py. -/
import Derived.Test.YtlfdiffbepfgbaaG09
import Derived.Test.YtlfdiffbepfgbaaG14
import Derived.Test.YtlfdiffbepfgbaaG10
import Derived.Test.YtlfdiffbepfgbaaG16
set_option linter.unusedVariables false
set_option linter.unusedSimpArgs false

namespace Go.Proofs.Ytlfdiffbepfgbaa.Ri
set_option maxRecDepth 20000
open Go.RowKit
open Wo (St acc wordAt PMem RefIs)
open Sk (Wd pmem_kept pmem_lt kept_of)

structure ZAt (w : World) (P : Nat) : Prop where
  c0 : w.cell? ⟨P, 0, none⟩ = some (.bool false)
  c1 : w.cell? ⟨P, 1, none⟩ = some .nilFunc
  c6 : w.cell? ⟨P, 6, none⟩ = some (.int .u64 0)
theorem ZAt.kept {w w' : World} {P : Nat} (h : ZAt w P) (k : Kept w w') : ZAt w' P := ⟨k.some h.c0, k.some h.c1, k.some h.c6⟩
set_option maxHeartbeats 400000 in
theorem outcome_z (P : Nat) (w : World) (h : ZAt w P) : Calls Try.prog 33 #[.pointer (some ⟨P, 0, none⟩)] w fun e w' => e = .returned (.int .i64 1) ∧ w = w' := by
  have c0 := h.c0
  go_enter Try.func33, Try.ntmps33
  go_wp2
  go_ret
  exact ⟨rfl, rfl⟩
theorem step_z (P : Nat) (m : Value) (w : World) (h : ZAt w P) : Calls Try.prog 34 #[.pointer (some ⟨P, 0, none⟩), m] w fun e w' => e = .returned (.bool true) ∧ w = w' := by
  have c1 := h.c1
  have q1 := neq_nil
  have q3 := eql_nil
  clear h
  go_enter Try.func34, Try.ntmps34
  go_wp2
  go_ret
  exact ⟨rfl, rfl⟩
theorem zstep_Push (P : Nat) (m : Value) (w : World) (h : ZAt w P) : Calls Try.prog 8 #[.pointer (some ⟨P, 0, none⟩), m] w fun e w' => e = .returned (.bool true) ∧ w = w' := by
  have HS := Lib.hid (step_z P m w h)
  have hl := lt_of_cell h.c0
  clear h
  go_enter Try.func8, Try.ntmps8
  go_wp2_with fail
  refine HS.out.mono ?_
  rintro e w1 ⟨rfl, rfl⟩
  go_wp2
  go_ret
  exact ⟨rfl, rfl⟩
theorem zstep_Front (P : Nat) (m : Value) (w : World) (h : ZAt w P) : Calls Try.prog 9 #[.pointer (some ⟨P, 0, none⟩), m] w fun e w' => e = .returned (.bool true) ∧ w = w' := by
  have HS := Lib.hid (step_z P m w h)
  have hl := lt_of_cell h.c0
  clear h
  go_enter Try.func9, Try.ntmps9
  go_wp2_with fail
  refine HS.out.mono ?_
  rintro e w1 ⟨rfl, rfl⟩
  go_wp2
  go_ret
  exact ⟨rfl, rfl⟩
theorem zstep_Drop (P : Nat) (m : Value) (w : World) (h : ZAt w P) : Calls Try.prog 10 #[.pointer (some ⟨P, 0, none⟩), m] w fun e w' => e = .returned (.bool true) ∧ w = w' := by
  have HS := Lib.hid (step_z P m w h)
  have hl := lt_of_cell h.c0
  clear h
  go_enter Try.func10, Try.ntmps10
  go_wp2_with fail
  refine HS.out.mono ?_
  rintro e w1 ⟨rfl, rfl⟩
  go_wp2
  go_ret
  exact ⟨rfl, rfl⟩
theorem ztold_Push (P : Nat) (w : World) (h : ZAt w P) : Calls Try.prog 12 #[.pointer (some ⟨P, 0, none⟩)] w fun e w' => e = .returned (.int .i64 1) ∧ w = w' := by
  have HO := Lib.hid (outcome_z P w h)
  have hl := lt_of_cell h.c0
  clear h
  go_enter Try.func12, Try.ntmps12
  go_wp2_with fail
  refine HO.out.mono ?_
  rintro e w1 ⟨rfl, rfl⟩
  go_wp2
  go_ret
  exact ⟨rfl, rfl⟩
theorem ztold_Drop (P : Nat) (w : World) (h : ZAt w P) : Calls Try.prog 13 #[.pointer (some ⟨P, 0, none⟩)] w fun e w' => e = .returned (.int .i64 1) ∧ w = w' := by
  have HO := Lib.hid (outcome_z P w h)
  have hl := lt_of_cell h.c0
  clear h
  go_enter Try.func13, Try.ntmps13
  go_wp2_with fail
  refine HO.out.mono ?_
  rintro e w1 ⟨rfl, rfl⟩
  go_wp2
  go_ret
  exact ⟨rfl, rfl⟩
theorem ztold_Front (P : Nat) (w : World) (h : ZAt w P) : Calls Try.prog 7 #[.pointer (some ⟨P, 0, none⟩)] w fun e w' => e = .returned (.tuple #[.int .i64 0, .int .i64 1]) ∧ w = w' := by
  have HO := Lib.hid (outcome_z P w h)
  have hl := lt_of_cell h.c0
  clear h
  go_enter Try.func7, Try.ntmps7
  go_wp2_with fail
  refine HO.out.mono ?_
  rintro e w1 ⟨rfl, rfl⟩
  go_wp2
  go_ret2
  exact ⟨rfl, rfl⟩
theorem zat_Front (P : Nat) (w : World) (h : ZAt w P) : Calls Try.prog 11 #[.pointer (some ⟨P, 0, none⟩)] w fun e w' => e = .returned (.int .u64 0) ∧ w = w' := by
  have c6 := h.c6
  have hl := lt_of_cell h.c0
  clear h
  go_enter Try.func11, Try.ntmps11
  go_wp2
  go_ret
  exact ⟨rfl, rfl⟩

theorem load_nil (i : Int) (w : World) : Calls Try.prog 24 #[.pointer none, .int .i64 i] w fun e w' => e = .returned (.int .u64 0) ∧ Kept w w' := (Wo.no_load_nil i w).mono fun _ _ ⟨x, k⟩ => ⟨x, kept_of k⟩
theorem store_nil (i x : Int) (w : World) : Calls Try.prog 40 #[.pointer none, .int .i64 i, .int .u64 x] w fun e w' => e = .returned (.tuple #[]) ∧ Kept w w' := (Wo.no_store_nil i x w).mono fun _ _ ⟨x, k⟩ => ⟨x, kept_of k⟩
theorem gives_nil (f : Nat → Int) (w : World) : GivesWords (.pointer none) 0 f w := fun W _ => (Wo.no_words_nil W).mono fun _ _ ⟨a, k⟩ => ⟨_, a, .inl ⟨rfl, rfl⟩, fun g hg => by simp [Value.ownBlock] at hg, k ▸ Kept.refl _⟩
theorem all_nil (R : Rng) (w : World) (N1 : 1 ≤ R.N) (N2 : R.N ≤ 4096) : Calls Try.prog 19 #[ringV R, .pointer none] w fun e w' => ∃ a c, e = .returned (.slice a 0 c) ∧ Kept w w' := by
  have h0 : allL 0 (fun _ => 0) R = [] := by
    have hw : ∀ t, wd 0 (fun _ => 0) R t = 0 := fun t => by unfold wd hv; split <;> rfl
    have ht : tkB 0 (fun _ => 0) R (hv 0 (fun _ => 0) R.H) 0 = false := by unfold tkB taken; rw [hw]; rfl
    rw [allL_eq (k := 0) (Nat.zero_le _) (fun i h => absurd h (Nat.not_lt_zero _)) (.inl ht)]
    rfl
  refine (all_any R (.pointer none) 0 (fun _ => 0) (fun i h => absurd h (Nat.not_lt_zero _)) (by decide) w (gives_nil _ w) N1 N2).mono ?_
  rintro e w' ⟨a, c, rfl, k, _⟩
  rw [h0]
  exact ⟨a, c, rfl, k⟩
set_option maxHeartbeats 1000000 in
theorem all_bad (R : Rng) (m : Value) (w : World) (nn : R.N < 1 ∨ 4096 < R.N) : Calls Try.prog 19 #[ringV R, m] w fun e w' => e = .returned (.slice none 0 0) ∧ Kept w w' := by
  have SZ : ∀ W, Hid (Calls Try.prog 39 #[ringV R] W fun e w' => e = .returned (.bool false) ∧ Kept W w') := fun W => Lib.hid (by have := sized_any R W; rwa [show decide (1 ≤ R.N ∧ R.N ≤ 4096) = false from by simp; omega] at this)
  clear nn
  go_enter Try.func19, Try.ntmps19
  go_wp2_with fail
  refine (SZ _).out.mono ?_
  rintro e w1 ⟨rfl, k1⟩
  go_wp2
  go_ret
  exact ⟨rfl, by (go_light; repeat (first | (with_reducible exact Kept.refl _) | (with_reducible assumption) | (with_reducible refine Kept.alloc ?_ _ _) | (with_reducible refine Kept.drew ?_) | (with_reducible refine Kept.drewN ?_ _) | ((with_reducible refine Kept.setCell ?_ ?_ _); rotate_left; focus (first | (simp; done) | (simp; omega))) | refine Kept.trans ?_ (by assumption)))⟩
set_option maxHeartbeats 1000000 in
theorem fill_bad (R : Rng) (m : Value) (w : World) (nn : R.N < 1 ∨ 4096 < R.N) : Calls Try.prog 18 #[ringV R, m] w fun e w' => e = .returned (.tuple #[]) ∧ Kept w w' := by
  have SZ : ∀ W, Hid (Calls Try.prog 39 #[ringV R] W fun e w' => e = .returned (.bool false) ∧ Kept W w') := fun W => Lib.hid (by have := sized_any R W; rwa [show decide (1 ≤ R.N ∧ R.N ≤ 4096) = false from by simp; omega] at this)
  clear nn
  go_enter Try.func18, Try.ntmps18
  go_wp2_with fail
  refine (SZ _).out.mono ?_
  rintro e w1 ⟨rfl, k1⟩
  go_wp2
  refine bodyPost_ret (v := .tuple #[]) (by simp [results, Try.results18, go_sem]) rfl ⟨rfl, by (go_light; repeat (first | (with_reducible exact Kept.refl _) | (with_reducible assumption) | (with_reducible refine Kept.alloc ?_ _ _) | (with_reducible refine Kept.drew ?_) | (with_reducible refine Kept.drewN ?_ _) | ((with_reducible refine Kept.setCell ?_ ?_ _); rotate_left; focus (first | (simp; done) | (simp; omega))) | refine Kept.trans ?_ (by assumption)))⟩
set_option maxHeartbeats 2000000 in
theorem fill_nil (R : Rng) (w : World) (N1 : 1 ≤ R.N) (N2 : R.N ≤ 4096) : Calls Try.prog 18 #[ringV R, .pointer none] w fun e w' => e = .returned (.tuple #[]) ∧ Kept w w' := by
  have SZ : ∀ W, Hid (Calls Try.prog 39 #[ringV R] W fun e w' => e = .returned (.bool true) ∧ Kept W w') := fun W => Lib.hid (by have := sized_any R W; rwa [show decide (1 ≤ R.N ∧ R.N ≤ 4096) = true from by simp; omega] at this)
  go_enter Try.func18, Try.ntmps18
  go_wp2_with fail
  refine (SZ _).out.mono ?_
  rintro e w1 ⟨rfl, k1⟩
  have a0 : w1.cell? ⟨w.heap.size, 0, none⟩ = some (.int .i64 R.H) := k1.some (by simp)
  have a1 : w1.cell? ⟨w.heap.size, 1, none⟩ = some (.int .i64 R.T) := k1.some (by simp)
  have a2 : w1.cell? ⟨w.heap.size, 2, none⟩ = some (.int .i64 R.K) := k1.some (by simp)
  have a3 : w1.cell? ⟨w.heap.size, 3, none⟩ = some (.int .i64 R.N) := k1.some (by simp)
  have KT : Hid (Kept w w1) := Lib.hid (((Kept.refl w).alloc _ _).trans k1)
  clear k1
  go_wp2_with fail
  refine (store_nil _ _ _).mono ?_
  rintro e w2 ⟨rfl, k2⟩
  have a0 := k2.some a0
  have a1 := k2.some a1
  have a2 := k2.some a2
  have a3 := k2.some a3
  have KT := Lib.hid (KT.out.trans k2)
  clear k2
  go_wp2_with fail
  refine (store_nil _ _ _).mono ?_
  rintro e w3 ⟨rfl, k3⟩
  have a0 := k3.some a0
  have a1 := k3.some a1
  have a2 := k3.some a2
  have a3 := k3.some a3
  have KT := Lib.hid (KT.out.trans k3)
  obtain ⟨m, hmm⟩ : ∃ m : Nat, (m : Int) = R.N := ⟨R.N.toNat, by omega⟩
  have HMM := Lib.hid hmm
  clear k3 hmm
  go_wp2_with fail
  go_loopw [18, 4] (fun i _ wr => ∃ k : Nat, k ≤ m ∧ i = .int .i64 k ∧ Kept w3 wr) (fun i _ _ => m - (intOf i).toNat)
  case atStart => exact ⟨0, Nat.zero_le _, rfl, Kept.refl _⟩
  case round =>
    obtain ⟨k, hk, rfl, kr⟩ := hrel
    have e0 := kr.some a0
    have e1 := kr.some a1
    have e2 := kr.some a2
    have e3 := kr.some a3
    have hmm := HMM.out
    have KR := Lib.hid kr
    clear kr a0 a1 a2 a3
    by_cases hlt : k < m
    · have hl : (k : Int) < R.N := by omega
      have ST := fun (x : Int) (W : World) => Lib.hid (store_nil x 0 W)
      clear hmm
      go_wp2_with fail
      refine (ST _ _).out.mono ?_
      rintro e w7 ⟨rfl, k7⟩
      have K7 := Lib.hid (KR.out.trans k7)
      clear k7
      go_wp2
      go_roundw
      case rel => exact ⟨k + 1, by omega, by go_num, K7.out⟩
      case measure => simp [intOf]; omega
    · have hl : R.N ≤ (k : Int) := by omega
      clear hmm
      go_wp2
      go_end0
      exact ⟨rfl, KT.out.trans KR.out⟩
def RowN (P : Nat) (R : Rng) (t u v : Int) (nx : Value) (er : Int) (w : World) (e : Ending) (w' : World) : Prop :=
  e = .returned (.tuple #[]) ∧ OpAt w' P R t u v nx er ∧ But (fun k => k = P) w w'
set_option maxHeartbeats 1000000 in
theorem nrow_findHead (P : Nat) (R : Rng) (t u v : Int) (nx : Value) (er : Int) (w : World) (ho : OpAt w P R t u v nx er) :
    Calls Try.prog 37 #[.pointer (some ⟨P, 0, none⟩), .pointer none] w (RowN P R 0 u v (.func (.func 57) #[] #[]) er w) := by
  have c2 := ho.c2
  have c6 := ho.c6
  have c1 := ho.c1
  have fP := ho.f
  have lP := ho.lt
  have HO := Lib.hid ho
  clear ho
  go_enter Try.func37, Try.ntmps37
  go_wp2_with fail
  refine (load_nil _ _).mono ?_
  rintro e w1 ⟨rfl, k1⟩
  have lP1 : P < w1.heap.size := Nat.lt_of_lt_of_le lP k1.size
  have c6 := k1.some c6
  have c1 := k1.some c1
  have fP : ∀ i, w1.frozen? ⟨P, i, none⟩ = false := fun i => k1.soft lP (fP i)
  go_wp2
  go_end0
  exact ⟨rfl, ((HO.out.kept k1).set6 _).set1 _, ((k1.but _).here _ _).here _ _⟩
set_option maxHeartbeats 1000000 in
theorem nslot_any (P : Nat) (R : Rng) (n1 : 1 ≤ R.N) (n2 : R.N ≤ 4096) (t u v : Int) (nx : Value) (er : Int) (w : World) (h : OpAt w P R t u v nx er) (t0 : 0 ≤ t) (t1 : t < 18446744073709551616) :
    Calls Try.prog 58 #[.pointer (some ⟨P, 0, none⟩)] w fun e w' => e = .returned (.int .i64 (wrap64 (cell R t))) ∧ Kept w w' := by
  have HC : ∀ W, Hid (Calls Try.prog 44 #[ringV R, .int .u64 t] W fun e w' => e = .returned (.int .i64 (wrap64 (cell R t))) ∧ Kept W w') := fun W => Lib.hid (cell_wrap R t W n1 n2 t0 t1)
  obtain ⟨c0, c1, c2, c3, c4, c5, c6, c7, c8, c9, f⟩ := h
  generalize wrap64 (cell R t) = q at *
  go_enter Try.func58, Try.ntmps58
  go_wp2_with fail
  go_region_held3 (fun w' => w'.cell? ⟨P, 2, none⟩ = some (.int .i64 R.H) ∧ w'.cell? ⟨P, 3, none⟩ = some (.int .i64 R.T) ∧ w'.cell? ⟨P, 4, none⟩ = some (.int .i64 R.K) ∧ w'.cell? ⟨P, 5, none⟩ = some (.int .i64 R.N) ∧ w'.cell? ⟨P, 6, none⟩ = some (.int .u64 t)) (first | go_keep | (exact ⟨k1.some c2, k1.some c3, k1.some c4, k1.some c5, k1.some c6⟩)) (first | (go_at_call 44; refine (HC _).out.mono ?_; rintro e w1 ⟨rfl, k1⟩))
  go_wp2
  go_ret
  exact ⟨rfl, by (go_light; repeat (first | (with_reducible exact Kept.refl _) | (with_reducible assumption) | (with_reducible refine Kept.alloc ?_ _ _) | (with_reducible refine Kept.drew ?_) | (with_reducible refine Kept.drewN ?_ _) | ((with_reducible refine Kept.setCell ?_ ?_ _); rotate_left; focus (first | (simp; done) | (simp; omega))) | refine Kept.trans ?_ (by assumption)))⟩
set_option maxHeartbeats 1000000 in
theorem nvacant_any (P : Nat) (R : Rng) (n1 : 1 ≤ R.N) (n2 : R.N ≤ 4096) (t u v : Int) (nx : Value) (er : Int) (w : World) (h : OpAt w P R t u v nx er) (t0 : 0 ≤ t) (t1 : t < 18446744073709551616) :
    Calls Try.prog 59 #[.pointer (some ⟨P, 0, none⟩)] w fun e w' => e = .returned (.int .u64 (vac R t)) ∧ Kept w w' := by
  have HC : ∀ W, Hid (Calls Try.prog 66 #[ringV R, .int .u64 t] W fun e w' => e = .returned (.int .u64 (vac R t)) ∧ Kept W w') := fun W => Lib.hid (vacant_any R t W n1 n2 t0 t1)
  obtain ⟨c0, c1, c2, c3, c4, c5, c6, c7, c8, c9, f⟩ := h
  go_enter Try.func59, Try.ntmps59
  go_wp2_with fail
  go_region_held3 (fun w' => w'.cell? ⟨P, 2, none⟩ = some (.int .i64 R.H) ∧ w'.cell? ⟨P, 3, none⟩ = some (.int .i64 R.T) ∧ w'.cell? ⟨P, 4, none⟩ = some (.int .i64 R.K) ∧ w'.cell? ⟨P, 5, none⟩ = some (.int .i64 R.N) ∧ w'.cell? ⟨P, 6, none⟩ = some (.int .u64 t)) (first | go_keep | (exact ⟨k1.some c2, k1.some c3, k1.some c4, k1.some c5, k1.some c6⟩)) (first | (go_at_call 66; refine (HC _).out.mono ?_; rintro e w1 ⟨rfl, k1⟩))
  go_wp2
  go_ret
  exact ⟨rfl, by (go_light; repeat (first | (with_reducible exact Kept.refl _) | (with_reducible assumption) | (with_reducible refine Kept.alloc ?_ _ _) | (with_reducible refine Kept.drew ?_) | (with_reducible refine Kept.drewN ?_ _) | ((with_reducible refine Kept.setCell ?_ ?_ _); rotate_left; focus (first | (simp; done) | (simp; omega))) | refine Kept.trans ?_ (by assumption)))⟩
set_option maxHeartbeats 1000000 in
theorem nlook_any (P : Nat) (R : Rng) (n1 : 1 ≤ R.N) (n2 : R.N ≤ 4096) (t u v : Int) (nx : Value) (er : Int) (w : World) (ho : OpAt w P R t u v nx er) (t0 : 0 ≤ t) (t1 : t < 18446744073709551616) :
    Calls Try.prog 72 #[.pointer (some ⟨P, 0, none⟩), .pointer none] w (RowN P R t 0 v nx er w) := by
  have c7 := ho.c7
  have fP := ho.f
  have lP := ho.lt
  have HO := Lib.hid ho
  have SL := Lib.hid (nslot_any P R n1 n2 t u v nx er w ho t0 t1)
  clear ho
  go_enter Try.func72, Try.ntmps72
  go_wp2_with fail
  refine SL.out.mono ?_
  rintro e w0 ⟨rfl, k0⟩
  have c7 := k0.some c7
  go_wp2_with fail
  refine (load_nil _ _).mono ?_
  rintro e w1 ⟨rfl, k1⟩
  have lP0 : P < w0.heap.size := Nat.lt_of_lt_of_le lP k0.size
  have lP1 : P < w1.heap.size := Nat.lt_of_lt_of_le lP0 k1.size
  have c7 := k1.some c7
  have fP : ∀ i, w1.frozen? ⟨P, i, none⟩ = false := fun i => k1.soft lP0 (k0.soft lP (fP i))
  go_wp2
  go_end0
  exact ⟨rfl, ((HO.out.kept k0).kept k1).set7 _, ((k0.trans k1).but _).here _ _⟩
set_option maxHeartbeats 2000000 in
theorem nrow_ahead (P : Nat) (R : Rng) (n1 : 1 ≤ R.N) (n2 : R.N ≤ 4096) (t u v : Int) (nx : Value) (er : Int) (w : World) (ho : OpAt w P R t u v nx er) (t0 : 0 ≤ t) (t1 : t < 18446744073709551616) :
    Calls Try.prog 57 #[.pointer (some ⟨P, 0, none⟩), .pointer none] w (RowN P R t 0 v .nilFunc 15 w) := by
  have LK := Lib.hid (nlook_any P R n1 n2 t u v nx er w ho t0 t1)
  have FT : ∀ W, Hid (Calls Try.prog 65 #[.int .u64 0, .int .u64 (vac R t)] W fun e w' => e = .returned (.bool false) ∧ Kept W w') := fun W => Lib.hid (by have := taken_any 0 (vac R t) W (by decide) (by decide); rwa [show (full 0 && wlap 0 * 4294967296 == vac R t) = false from rfl] at this)
  clear ho
  go_enter Try.func57, Try.ntmps57
  go_wp2_with fail
  refine LK.out.mono ?_
  rintro e w1 ⟨rfl, o1, b1⟩
  have O1 := Lib.hid o1
  have B1 := Lib.hid b1
  have c7 := o1.c7
  clear o1 b1
  have KT : Kept w1 w1 := Kept.refl _
  have VA : ∀ W, Kept w1 W → Hid (Calls Try.prog 59 #[.pointer (some ⟨P, 0, none⟩)] W fun e w' => e = .returned (.int .u64 (vac R t)) ∧ Kept W w') := fun W k => Lib.hid (nvacant_any P R n1 n2 t 0 v nx er W (O1.out.kept k) t0 t1)
  generalize vac R t = V at *
  go_wp2_with fail
  go_region_held3 (fun w' => w'.cell? ⟨P, 7, none⟩ = some (.int .u64 0)) (first | go_keep | (exact KT.some c7)) (first
    | (go_at_call 59; refine (VA _ (by first | exact KT | exact KT.drew | exact KT.drewN _)).out.mono ?_; rintro e w2 ⟨rfl, k2⟩; have KT : Kept w1 w2 := Kept.trans (b := _) (by first | exact KT | exact KT.drew | exact KT.drewN _) k2)
    | (go_at_call 65; refine (FT _).out.mono ?_; rintro e w3 ⟨rfl, k3⟩; have KT : Kept w1 w3 := Kept.trans (b := _) (by first | exact KT | exact KT.drew | exact KT.drewN _) k3))
  go_wp2_with fail
  refine (end_any P R t 0 v nx er 15 _ (O1.out.kept (by first | exact KT | exact KT.drew | exact KT.drewN _))).mono ?_
  rintro e w5 ⟨rfl, o5, b5⟩
  have HH : Hid (OpAt w5 P R t 0 v .nilFunc 15 ∧ But (fun k => k = P) w w5) := Lib.hid ⟨o5, (B1.out.then (by first | exact KT | exact KT.drew | exact KT.drewN _)).trans b5 (fun _ _ h => h)⟩
  clear o5 b5 KT
  go_wp2
  go_end0
  exact ⟨rfl, HH.out⟩
set_option maxHeartbeats 1000000 in
theorem nstep_6_7 (P : Nat) (R : Rng) (t u v er t' u' v' er' : Int) (w : World) (ho : OpAt w P R t u v (.func (.func 37) #[] #[]) er)
    (HC : Hid (Calls Try.prog 37 #[.pointer (some ⟨P, 0, none⟩), .pointer none] w (RowN P R t' u' v' (.func (.func 57) #[] #[]) er' w))) :
    Calls Try.prog 34 #[.pointer (some ⟨P, 0, none⟩), .pointer none] w fun e w' => e = .returned (.bool false) ∧ OpAt w' P R t' u' v' (.func (.func 57) #[] #[]) er' ∧ But (fun k => k = P) w w' := by
  have c1 := ho.c1
  have q1 := neq_nil
  have q2 := neq_func
  have q3 := eql_nil
  have q4 := eql_func
  clear ho
  go_enter Try.func34, Try.ntmps34
  go_wp2_with fail
  refine HC.out.mono ?_
  rintro e u1 ⟨rfl, h⟩
  have d1 := h.1.c1
  have H := Lib.hid h
  clear h c1
  go_wp2
  go_ret
  exact ⟨rfl, H.out⟩
theorem nfront_6 (P : Nat) (R : Rng) (t u v er t' u' v' er' : Int) (w : World) (ho : OpAt w P R t u v (.func (.func 37) #[] #[]) er)
    (HC : Hid (Calls Try.prog 37 #[.pointer (some ⟨P, 0, none⟩), .pointer none] w (RowN P R t' u' v' (.func (.func 57) #[] #[]) er' w))) :
    Calls Try.prog 9 #[.pointer (some ⟨P, 0, none⟩), .pointer none] w fun e w' => e = .returned (.bool false) ∧ OpAt w' P R t' u' v' (.func (.func 57) #[] #[]) er' ∧ But (fun k => k = P) w w' := by
  have HS := Lib.hid (nstep_6_7 P R t u v er t' u' v' er' w ho HC)
  have hl := ho.lt
  clear ho HC
  go_enter Try.func9, Try.ntmps9
  go_wp2_with fail
  refine HS.out.mono ?_
  rintro e w1 ⟨rfl, h⟩
  have H := Lib.hid h
  clear h
  go_wp2
  go_ret
  exact ⟨rfl, H.out⟩
set_option maxHeartbeats 1000000 in
theorem nstep_7_0 (P : Nat) (R : Rng) (t u v er t' u' v' er' : Int) (w : World) (ho : OpAt w P R t u v (.func (.func 57) #[] #[]) er)
    (HC : Hid (Calls Try.prog 57 #[.pointer (some ⟨P, 0, none⟩), .pointer none] w (RowN P R t' u' v' .nilFunc er' w))) :
    Calls Try.prog 34 #[.pointer (some ⟨P, 0, none⟩), .pointer none] w fun e w' => e = .returned (.bool true) ∧ OpAt w' P R t' u' v' .nilFunc er' ∧ But (fun k => k = P) w w' := by
  have c1 := ho.c1
  have q1 := neq_nil
  have q2 := neq_func
  have q3 := eql_nil
  have q4 := eql_func
  clear ho
  go_enter Try.func34, Try.ntmps34
  go_wp2_with fail
  refine HC.out.mono ?_
  rintro e u1 ⟨rfl, h⟩
  have d1 := h.1.c1
  have H := Lib.hid h
  clear h c1
  go_wp2
  go_ret
  exact ⟨rfl, H.out⟩
theorem nfront_7 (P : Nat) (R : Rng) (t u v er t' u' v' er' : Int) (w : World) (ho : OpAt w P R t u v (.func (.func 57) #[] #[]) er)
    (HC : Hid (Calls Try.prog 57 #[.pointer (some ⟨P, 0, none⟩), .pointer none] w (RowN P R t' u' v' .nilFunc er' w))) :
    Calls Try.prog 9 #[.pointer (some ⟨P, 0, none⟩), .pointer none] w fun e w' => e = .returned (.bool true) ∧ OpAt w' P R t' u' v' .nilFunc er' ∧ But (fun k => k = P) w w' := by
  have HS := Lib.hid (nstep_7_0 P R t u v er t' u' v' er' w ho HC)
  have hl := ho.lt
  clear ho HC
  go_enter Try.func9, Try.ntmps9
  go_wp2_with fail
  refine HS.out.mono ?_
  rintro e w1 ⟨rfl, h⟩
  have H := Lib.hid h
  clear h
  go_wp2
  go_ret
  exact ⟨rfl, H.out⟩
end Go.Proofs.Ytlfdiffbepfgbaa.Ri
