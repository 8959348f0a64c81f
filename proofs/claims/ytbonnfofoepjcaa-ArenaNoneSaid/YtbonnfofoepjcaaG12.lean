/- The chapter's examples: a memory of 12 cells, three nodes; 'awake'. Written by gen11k.py. -/
import Derived.Test.YtbonnfofoepjcaaG08
import Derived.Test.YtbonnfofoepjcaaG09
import Derived.Test.YtbonnfofoepjcaaG10
import Derived.Test.YtbonnfofoepjcaaG11
set_option linter.unusedVariables false
set_option linter.unusedSimpArgs false

namespace Go.Proofs.Ytbonnfofoepjcaa.Sk
set_option maxRecDepth 20000
open Go.RowKit
open Wo (St acc wordAt PMem RefIs)

theorem pmem_eq {w : World} {M B n : Nat} {s s' : St} (hm : PMem w M B n s) (h : ∀ i, i < n → s'.ws i = s.ws i) (h1 : s'.kind = s.kind) (h2 : s'.at_ = s.at_) (h3 : s'.old = s.old) (h4 : s'.new = s.new) (h5 : s'.held = s.held) (h6 : s'.cnt = s.cnt) : PMem w M B n s' :=
  ⟨hm.p, fun i hi => by obtain ⟨x, a, b⟩ := hm.words i hi; exact ⟨x, a, fun hin => (b hin).trans (h i hin).symm⟩, hm.size, by rw [h1]; exact hm.c0, by rw [h2]; exact hm.c1, by rw [h3]; exact hm.c2, by rw [h4]; exact hm.c3, by rw [h5]; exact hm.c4, by rw [h6]; exact hm.cnt, hm.fB, hm.ne, hm.hn⟩
def litS (s : St) (l : List Int) : St := ⟨fun i => l.getD i 0, s.kind, s.at_, s.old, s.new, s.held, s.cnt⟩
theorem pmem_lit {w : World} {M B n : Nat} {s : St} {l : List Int} (hm : PMem w M B n s) (h : (List.range n).map s.ws = l) : PMem w M B n (litS s l) :=
  pmem_eq hm (fun i hi => by subst h; simp [litS, hi]) rfl rfl rfl rfl rfl rfl
theorem wd_lit {s : St} {n : Nat} {l : List Int} (h : ∀ x ∈ l, 0 ≤ x ∧ x < 18446744073709551616) : Wd n (litS s l) := by
  refine ⟨fun i => ?_, fun i => ?_⟩
  · show 0 ≤ l.getD i 0
    rw [List.getD_eq_getElem?_getD]
    cases hg : l[i]? with
    | none => simp
    | some x => have := h x (List.mem_of_getElem? hg); simp; omega
  · show l.getD i 0 < 18446744073709551616
    rw [List.getD_eq_getElem?_getD]
    cases hg : l[i]? with
    | none => simp
    | some x => have := h x (List.mem_of_getElem? hg); simp; omega

def A3 : Arn := ⟨⟨0, 1, 3⟩, 4, 7, 2⟩
theorem okA3 : A3.Ok 12 := ⟨⟨by decide, by decide, by decide, by decide, by decide, by decide, by decide, by decide, by decide⟩, by decide, by decide, by decide, by decide, by decide, by decide⟩
set_option maxHeartbeats 1000000 in
theorem athree_any (w : World) : Calls Try.prog 26 #[] w fun e w' => e = .returned (.agg #[.int .i64 0, .int .i64 1, .int .i64 3, .int .i64 4, .int .i64 7, .int .i64 2]) ∧ Kept w w' := by
  go_enter Try.func26, Try.ntmps26
  go_wp2
  refine bodyPost_ret (v := .agg #[.int .i64 0, .int .i64 1, .int .i64 3, .int .i64 4, .int .i64 7, .int .i64 2]) (by simp [results, Try.results26, go_sem]) rfl ⟨rfl, ?_⟩
  (go_light; repeat (first | (with_reducible exact Kept.refl _) | (with_reducible assumption) | (with_reducible refine Kept.alloc ?_ _ _) | (with_reducible refine Kept.drew ?_) | (with_reducible refine Kept.drewN ?_ _) | ((with_reducible refine Kept.setCell ?_ ?_ _); rotate_left; focus (first | (simp; done) | (simp; omega))) | refine Kept.trans ?_ (by assumption)))

set_option maxHeartbeats 2000000 in
theorem tells_alloc (M B K : Nat) (s : St) (r er : Int) (w : World) (hm : PMem w M B 12 s) (hs : Wd 12 s) (h0 : 0 ≤ s.cnt) (h1 : s.cnt ≤ 900000) (hK : 1 ≤ K) (hK2 : K ≤ 100)
    (hb : ∀ k, k < K → ((alPl 12 A3 s k).2.line == 9) = false) (he : ((alPl 12 A3 s K).2.line == 9) = true) (hr : (alPl 12 A3 s K).2.r = r) (her : (alPl 12 A3 s K).2.er = er) :
    Calls Try.prog 28 #[.pointer (some ⟨M, 0, none⟩), .int .i64 K, .int .u64 r, .int .i64 er] w fun e w' => e = .returned (.bool true) ∧ PMem w' M B 12 (alPl 12 A3 s K).1 ∧ But (fun k => k = B) w w' := by
  have hMB := pmem_lt hm
  have HG := fun k => Lib.hid (alPl_good (A := A3) hs k)
  have HB := Lib.hid hb
  have HE := Lib.hid he
  have HR := Lib.hid hr
  have HER := Lib.hid her
  have HM := Lib.hid hm
  clear hm hs hb he hr her
  go_enter Try.func28, Try.ntmps28
  go_wp2_with fail
  refine (athree_any _).mono ?_
  rintro e w1 ⟨rfl, k1⟩
  have K1 := Lib.hid k1
  clear k1
  go_wp2_with fail
  refine (newAlloc_any A3 _).mono ?_
  rintro e w2 ⟨P, rfl, hP1, hP2, a2, k2⟩
  have A2 := Lib.hid a2
  have K2 := Lib.hid (K1.out.trans k2)
  have hz := K1.out.size
  have hPM : P ≠ M := by omega
  have hPB : P ≠ B := by omega
  clear a2 k2
  obtain ⟨m, hmK⟩ : ∃ m : Nat, K = m + 1 := ⟨K - 1, by omega⟩
  subst hmK
  have M2 := Lib.hid (pmem_kept HM.out K2.out)
  have HS : ∀ k W, k ≤ m → PMem W M B 12 (alPl 12 A3 s k).1 → AllocAt W P A3 (alPl 12 A3 s k).2 → Hid (Calls Try.prog 6 #[.pointer (some ⟨P, 0, none⟩), .pointer (some ⟨M, 0, none⟩)] W (Went (fun w' => AllocAt w' P A3 (alPl 12 A3 s (k + 1)).2) M B 12 (alPl 12 A3 s (k + 1)).1 P 18 ((alPl 12 A3 s (k + 1)).2.line == 9) W)) := fun k W hk m a => Lib.hid (by
    have g := (HG k).out
    exact alloc_step P M B 12 A3 _ _ W a m (by omega) (by omega) hPM hPB g.1 okA3 g.2.1)
  go_wp2_with fail
  go_loopw [10] (fun i wr => ∃ k : Nat, k ≤ m ∧ i = .int .i64 (k + 1) ∧ PMem wr M B 12 (alPl 12 A3 s k).1 ∧ AllocAt wr P A3 (alPl 12 A3 s k).2 ∧ But (fun k => k = P ∨ k = B) w2 wr) (fun i _ => m + 1 - (intOf i).toNat)
  case atStart => exact ⟨0, Nat.zero_le _, rfl, M2.out, A2.out, But.refl _ _⟩
  case round =>
    obtain ⟨k, hk, rfl, mr, ar, br⟩ := hrel
    have HS1 := HS k _ hk mr ar
    have BR := Lib.hid br
    clear mr ar br
    by_cases hlt : k < m
    · have hl : (k : Int) + 1 < m + 1 := by omega
      have hb1 := HB.out (k + 1) (by omega)
      rw [hb1] at HS1
      go_wp2_with fail
      refine HS1.out.mono ?_
      rintro e w4 ⟨rfl, a4, m4, g4⟩
      have M4 := Lib.hid m4
      have A4 := Lib.hid a4
      have B4 := Lib.hid (BR.out.trans g4.but (fun _ _ h => h))
      clear m4 a4 g4 HS1
      go_wp2
      go_roundw
      case rel => exact ⟨k + 1, by omega, by go_num, M4.out, A4.out, B4.out⟩
      case measure => simp [intOf]; omega
    · have hl : ¬ (k : Int) + 1 < m + 1 := by omega
      obtain rfl : k = m := by omega
      rw [HE.out] at HS1
      go_wp2_with fail
      refine HS1.out.mono ?_
      rintro e w4 ⟨rfl, a4, m4, g4⟩
      have M4 := Lib.hid m4
      have A4 := Lib.hid a4
      have B4 := Lib.hid (BR.out.trans g4.but (fun _ _ h => h))
      have HT : Hid (Calls Try.prog 5 #[.pointer (some ⟨P, 0, none⟩)] w4 fun e w' => e = .returned (.tuple #[.int .u64 r, .int .i64 er]) ∧ Kept w4 w') := Lib.hid (by have := alloc_told P A3 _ w4 a4; rwa [HR.out, HER.out] at this)
      clear m4 a4 g4 HS1
      go_wp2_with fail
      refine HT.out.mono ?_
      rintro e w5 ⟨rfl, k5⟩
      have K5 := Lib.hid k5
      clear k5
      go_wp2
      go_ret
      refine ⟨rfl, pmem_kept M4.out K5.out, ?_⟩
      have hz2 := K2.out.size
      exact (((K2.out.but (fun k => k = B)).trans ((B4.out.then K5.out).mono (T := fun k => k = P ∨ k = B) (fun _ _ h => h)) (fun k hk h => by rcases h with h | h <;> omega)))
set_option maxHeartbeats 2000000 in
theorem tells_free (M B K : Nat) (i : Int) (s : St) (w : World) (hm : PMem w M B 12 s) (hs : Wd 12 s) (h0 : 0 ≤ s.cnt) (h1 : s.cnt ≤ 900000) (hK : 1 ≤ K) (hK2 : K ≤ 100) (i0 : 0 ≤ i) (i1 : i < 3)
    (hb : ∀ k, k < K → ((frPl 12 A3 i s k).2.line == 9) = false) (he : ((frPl 12 A3 i s K).2.line == 9) = true) (her : (frPl 12 A3 i s K).2.er = 0) :
    Calls Try.prog 29 #[.pointer (some ⟨M, 0, none⟩), .int .i64 i, .int .i64 K] w fun e w' => e = .returned (.bool true) ∧ PMem w' M B 12 (frPl 12 A3 i s K).1 ∧ But (fun k => k = B) w w' := by
  have hMB := pmem_lt hm
  have HG := fun k => Lib.hid (frPl_good (A := A3) (i := i) hs i0 i1 (by decide) k)
  have HB := Lib.hid hb
  have HE := Lib.hid he
  have HER := Lib.hid her
  have HM := Lib.hid hm
  have HN := fun W => Lib.hid (newFree_in A3 i i0 i1 (by omega) W)
  clear hm hs hb he her
  go_enter Try.func29, Try.ntmps29
  go_wp2_with fail
  refine (athree_any _).mono ?_
  rintro e w1 ⟨rfl, k1⟩
  have K1 := Lib.hid k1
  clear k1
  go_wp2_with fail
  refine (HN _).out.mono ?_
  rintro e w2 ⟨P, rfl, hP1, hP2, a2, k2⟩
  have A2 := Lib.hid a2
  have K2 := Lib.hid (K1.out.trans k2)
  have hz := K1.out.size
  have hPM : P ≠ M := by omega
  have hPB : P ≠ B := by omega
  clear a2 k2 HN
  obtain ⟨m, hmK⟩ : ∃ m : Nat, K = m + 1 := ⟨K - 1, by omega⟩
  subst hmK
  have M2 := Lib.hid (pmem_kept HM.out K2.out)
  have HS : ∀ k W, k ≤ m → PMem W M B 12 (frPl 12 A3 i s k).1 → FreeAt W P A3 i (frPl 12 A3 i s k).2 → Hid (Calls Try.prog 7 #[.pointer (some ⟨P, 0, none⟩), .pointer (some ⟨M, 0, none⟩)] W (Went (fun w' => FreeAt w' P A3 i (frPl 12 A3 i s (k + 1)).2) M B 12 (frPl 12 A3 i s (k + 1)).1 P 20 ((frPl 12 A3 i s (k + 1)).2.line == 9) W)) := fun k W hk m a => Lib.hid (by
    have g := (HG k).out
    exact free_step P M B 12 A3 i _ _ W a m (by omega) (by omega) hPM hPB g.1 okA3 g.2.1)
  have HT : ∀ k W, FreeAt W P A3 i (frPl 12 A3 i s k).2 → k < m + 1 → Hid (Calls Try.prog 8 #[.pointer (some ⟨P, 0, none⟩)] W fun e w' => e = .returned (.int .i64 14) ∧ W = w') := fun k W a hk => Lib.hid (by
    have g := (HG k).out.1.c
    have hb := HB.out k hk
    have he : (frPl 12 A3 i s k).2.er = 14 := by
      rcases g with ⟨_, _, h, _⟩ | ⟨h, _⟩
      · exact h
      · rw [h] at hb; exact absurd hb (by decide)
    have := free_told P A3 i _ W a
    rwa [he] at this)
  go_wp2_with fail
  go_loopw [8] (fun i' wr => ∃ k : Nat, k ≤ m ∧ i' = .int .i64 (k + 1) ∧ PMem wr M B 12 (frPl 12 A3 i s k).1 ∧ FreeAt wr P A3 i (frPl 12 A3 i s k).2 ∧ But (fun k => k = P ∨ k = B) w2 wr) (fun i _ => m + 1 - (intOf i).toNat)
  case atStart => exact ⟨0, Nat.zero_le _, rfl, M2.out, A2.out, But.refl _ _⟩
  case round =>
    obtain ⟨k, hk, rfl, mr, ar, br⟩ := hrel
    have HS1 := HS k _ hk mr ar
    have BR := Lib.hid br
    clear mr ar br
    by_cases hlt : k < m
    · have hl : (k : Int) + 1 < m + 1 := by omega
      have hb1 := HB.out (k + 1) (by omega)
      rw [hb1] at HS1
      go_wp2_with fail
      refine HS1.out.mono ?_
      rintro e w4 ⟨rfl, a4, m4, g4⟩
      have M4 := Lib.hid m4
      have A4 := Lib.hid a4
      have B4 := Lib.hid (BR.out.trans g4.but (fun _ _ h => h))
      have HT4 := HT (k + 1) _ a4 (by omega)
      clear m4 a4 g4 HS1
      go_wp2_with fail
      refine HT4.out.mono ?_
      rintro e w5 ⟨rfl, rfl⟩
      go_wp2
      go_roundw
      case rel => exact ⟨k + 1, by omega, by go_num, M4.out, A4.out, B4.out⟩
      case measure => simp [intOf]; omega
    · have hl : ¬ (k : Int) + 1 < m + 1 := by omega
      obtain rfl : k = m := by omega
      rw [HE.out] at HS1
      go_wp2_with fail
      refine HS1.out.mono ?_
      rintro e w4 ⟨rfl, a4, m4, g4⟩
      have M4 := Lib.hid m4
      have A4 := Lib.hid a4
      have B4 := Lib.hid (BR.out.trans g4.but (fun _ _ h => h))
      have HT4 : Hid (Calls Try.prog 8 #[.pointer (some ⟨P, 0, none⟩)] w4 fun e w' => e = .returned (.int .i64 0) ∧ w4 = w') := Lib.hid (by have := free_told P A3 i _ w4 a4; rwa [HER.out] at this)
      clear m4 a4 g4 HS1
      go_wp2_with fail
      refine HT4.out.mono ?_
      rintro e w5 ⟨rfl, rfl⟩
      go_wp2
      go_ret
      refine ⟨rfl, M4.out, ?_⟩
      have hz2 := K2.out.size
      exact (((K2.out.but (fun k => k = B)).trans (B4.out.mono (T := fun k => k = P ∨ k = B) (fun _ _ h => h)) (fun k hk h => by rcases h with h | h <;> omega)))

def aS0 : St := litS (afillSt 12 A3 Wo.St.zero) [1, 2, 3, 0, 1, 1, 1, 0, 0, 0, 0, 0]
theorem aF0 : (List.range 12).map (afillSt 12 A3 Wo.St.zero).ws = [1, 2, 3, 0, 1, 1, 1, 0, 0, 0, 0, 0] := by decide +kernel
def aS1 : St := litS (alPl 12 A3 aS0 4).1 [65538, 2, 3, 0, 1, 1, 1, 0, 0, 0, 0, 0]
theorem aF1 : (List.range 12).map (alPl 12 A3 aS0 4).1.ws = [65538, 2, 3, 0, 1, 1, 1, 0, 0, 0, 0, 0] := by decide +kernel
theorem aB1 : ∀ k, k < 4 → ((alPl 12 A3 aS0 k).2.line == 9) = false := by decide +kernel
theorem aE1 : ((alPl 12 A3 aS0 4).2.line == 9) = true ∧ (alPl 12 A3 aS0 4).2.r = 65537 ∧ (alPl 12 A3 aS0 4).2.er = 0 := by decide +kernel
def aS2 : St := litS (alPl 12 A3 aS1 4).1 [131075, 2, 3, 0, 1, 1, 1, 0, 0, 0, 0, 0]
theorem aF2 : (List.range 12).map (alPl 12 A3 aS1 4).1.ws = [131075, 2, 3, 0, 1, 1, 1, 0, 0, 0, 0, 0] := by decide +kernel
theorem aB2 : ∀ k, k < 4 → ((alPl 12 A3 aS1 k).2.line == 9) = false := by decide +kernel
theorem aE2 : ((alPl 12 A3 aS1 4).2.line == 9) = true ∧ (alPl 12 A3 aS1 4).2.r = 65538 ∧ (alPl 12 A3 aS1 4).2.er = 0 := by decide +kernel
def aS3 : St := litS (alPl 12 A3 aS2 4).1 [196608, 2, 3, 0, 1, 1, 1, 0, 0, 0, 0, 0]
theorem aF3 : (List.range 12).map (alPl 12 A3 aS2 4).1.ws = [196608, 2, 3, 0, 1, 1, 1, 0, 0, 0, 0, 0] := by decide +kernel
theorem aB3 : ∀ k, k < 4 → ((alPl 12 A3 aS2 k).2.line == 9) = false := by decide +kernel
theorem aE3 : ((alPl 12 A3 aS2 4).2.line == 9) = true ∧ (alPl 12 A3 aS2 4).2.r = 65539 ∧ (alPl 12 A3 aS2 4).2.er = 0 := by decide +kernel
def aS4 : St := litS (alPl 12 A3 aS3 2).1 [196608, 2, 3, 0, 1, 1, 1, 0, 0, 0, 0, 0]
theorem aF4 : (List.range 12).map (alPl 12 A3 aS3 2).1.ws = [196608, 2, 3, 0, 1, 1, 1, 0, 0, 0, 0, 0] := by decide +kernel
theorem aB4 : ∀ k, k < 2 → ((alPl 12 A3 aS3 k).2.line == 9) = false := by decide +kernel
theorem aE4 : ((alPl 12 A3 aS3 2).2.line == 9) = true ∧ (alPl 12 A3 aS3 2).2.r = 0 ∧ (alPl 12 A3 aS3 2).2.er = 7 := by decide +kernel
def aS5 : St := litS (frPl 12 A3 0 aS4 5).1 [262145, 0, 3, 0, 2, 1, 1, 0, 0, 0, 0, 0]
theorem aF5 : (List.range 12).map (frPl 12 A3 0 aS4 5).1.ws = [262145, 0, 3, 0, 2, 1, 1, 0, 0, 0, 0, 0] := by decide +kernel
theorem aB5 : ∀ k, k < 5 → ((frPl 12 A3 0 aS4 k).2.line == 9) = false := by decide +kernel
theorem aE5 : ((frPl 12 A3 0 aS4 5).2.line == 9) = true ∧ (frPl 12 A3 0 aS4 5).2.er = 0 := by decide +kernel
def aS6 : St := litS (alPl 12 A3 aS5 4).1 [327680, 0, 3, 0, 2, 1, 1, 0, 0, 0, 0, 0]
theorem aF6 : (List.range 12).map (alPl 12 A3 aS5 4).1.ws = [327680, 0, 3, 0, 2, 1, 1, 0, 0, 0, 0, 0] := by decide +kernel
theorem aB6 : ∀ k, k < 4 → ((alPl 12 A3 aS5 k).2.line == 9) = false := by decide +kernel
theorem aE6 : ((alPl 12 A3 aS5 4).2.line == 9) = true ∧ (alPl 12 A3 aS5 4).2.r = 131073 ∧ (alPl 12 A3 aS5 4).2.er = 0 := by decide +kernel
def aS7 : St := litS (frPl 12 A3 0 aS6 2).1 [327680, 0, 3, 0, 2, 1, 1, 1, 0, 0, 0, 0]
theorem aF7 : (List.range 12).map (frPl 12 A3 0 aS6 2).1.ws = [327680, 0, 3, 0, 2, 1, 1, 1, 0, 0, 0, 0] := by decide +kernel
theorem aB7 : ∀ k, k < 2 → ((frPl 12 A3 0 aS6 k).2.line == 9) = false := by decide +kernel
theorem aE7 : ((frPl 12 A3 0 aS6 2).2.line == 9) = true ∧ (frPl 12 A3 0 aS6 2).2.er = 0 := by decide +kernel
theorem aW0 : Wd 12 aS0 := wd_lit (by decide)
theorem aC0 : 0 ≤ aS0.cnt ∧ aS0.cnt ≤ 100 := by show 0 ≤ (afillSt 12 A3 Wo.St.zero).cnt ∧ (afillSt 12 A3 Wo.St.zero).cnt ≤ _; rw [afillSt_cnt (by decide)]; decide
theorem aW1 : Wd 12 aS1 := wd_lit (by decide)
theorem aC1 : 0 ≤ aS1.cnt ∧ aS1.cnt ≤ 110 := by have h := alPl_good (A := A3) aW0 4; have g := aC0; exact ⟨by show 0 ≤ (alPl 12 A3 aS0 4).1.cnt; omega, by show (alPl 12 A3 aS0 4).1.cnt ≤ _; omega⟩
theorem aW2 : Wd 12 aS2 := wd_lit (by decide)
theorem aC2 : 0 ≤ aS2.cnt ∧ aS2.cnt ≤ 120 := by have h := alPl_good (A := A3) aW1 4; have g := aC1; exact ⟨by show 0 ≤ (alPl 12 A3 aS1 4).1.cnt; omega, by show (alPl 12 A3 aS1 4).1.cnt ≤ _; omega⟩
theorem aW3 : Wd 12 aS3 := wd_lit (by decide)
theorem aC3 : 0 ≤ aS3.cnt ∧ aS3.cnt ≤ 130 := by have h := alPl_good (A := A3) aW2 4; have g := aC2; exact ⟨by show 0 ≤ (alPl 12 A3 aS2 4).1.cnt; omega, by show (alPl 12 A3 aS2 4).1.cnt ≤ _; omega⟩
theorem aW4 : Wd 12 aS4 := wd_lit (by decide)
theorem aC4 : 0 ≤ aS4.cnt ∧ aS4.cnt ≤ 140 := by have h := alPl_good (A := A3) aW3 2; have g := aC3; exact ⟨by show 0 ≤ (alPl 12 A3 aS3 2).1.cnt; omega, by show (alPl 12 A3 aS3 2).1.cnt ≤ _; omega⟩
theorem aW5 : Wd 12 aS5 := wd_lit (by decide)
theorem aC5 : 0 ≤ aS5.cnt ∧ aS5.cnt ≤ 150 := by have h := frPl_good (A := A3) (i := 0) aW4 (by decide) (by decide) (by decide) 5; have g := aC4; exact ⟨by show 0 ≤ (frPl 12 A3 0 aS4 5).1.cnt; omega, by show (frPl 12 A3 0 aS4 5).1.cnt ≤ _; omega⟩
theorem aW6 : Wd 12 aS6 := wd_lit (by decide)
theorem aC6 : 0 ≤ aS6.cnt ∧ aS6.cnt ≤ 160 := by have h := alPl_good (A := A3) aW5 4; have g := aC5; exact ⟨by show 0 ≤ (alPl 12 A3 aS5 4).1.cnt; omega, by show (alPl 12 A3 aS5 4).1.cnt ≤ _; omega⟩
theorem aW7 : Wd 12 aS7 := wd_lit (by decide)
theorem aC7 : 0 ≤ aS7.cnt ∧ aS7.cnt ≤ 170 := by have h := frPl_good (A := A3) (i := 0) aW6 (by decide) (by decide) (by decide) 2; have g := aC6; exact ⟨by show 0 ≤ (frPl 12 A3 0 aS6 2).1.cnt; omega, by show (frPl 12 A3 0 aS6 2).1.cnt ≤ _; omega⟩
end Go.Proofs.Ytbonnfofoepjcaa.Sk

namespace Go.Proofs.Ytbonnfofoepjcaa.Sk
set_option maxRecDepth 20000
open Go.RowKit
open Wo (St acc wordAt PMem RefIs)
theorem p_new12 (w : World) : Calls Try.prog 4 #[.int .i64 12] w
    fun e w' => e = .returned (.tuple #[.pointer (some ⟨w.heap.size + 1, 0, none⟩), .int .i64 0]) ∧ PMem w' (w.heap.size + 1) w.heap.size 12 Wo.St.zero ∧ w'.heap.size = w.heap.size + 2 ∧ Kept w w' := p_new 12 (by decide) (by decide) w
theorem azero_wd (n : Nat) : Wd n Wo.St.zero := ⟨fun _ => by show (0 : Int) ≤ 0; decide, fun _ => by show (0 : Int) < 18446744073709551616; decide⟩
theorem word7 : wordAt 12 aS7 7 = 1 := by decide +kernel
theorem plays1 (M B : Nat) (w : World) (hm : PMem w M B 12 aS0) : Calls Try.prog 28 #[.pointer (some ⟨M, 0, none⟩), .int .i64 4, .int .u64 65537, .int .i64 0] w fun e w' => e = .returned (.bool true) ∧ PMem w' M B 12 aS1 ∧ But (fun k => k = B) w w' :=
  (tells_alloc M B 4 aS0 65537 0 w hm aW0 aC0.1 (by have := aC0; omega) (by decide) (by decide) aB1 aE1.1 aE1.2.1 aE1.2.2).mono fun _ _ ⟨x, y, z⟩ => ⟨x, pmem_lit y aF1, z⟩
theorem plays2 (M B : Nat) (w : World) (hm : PMem w M B 12 aS1) : Calls Try.prog 28 #[.pointer (some ⟨M, 0, none⟩), .int .i64 4, .int .u64 65538, .int .i64 0] w fun e w' => e = .returned (.bool true) ∧ PMem w' M B 12 aS2 ∧ But (fun k => k = B) w w' :=
  (tells_alloc M B 4 aS1 65538 0 w hm aW1 aC1.1 (by have := aC1; omega) (by decide) (by decide) aB2 aE2.1 aE2.2.1 aE2.2.2).mono fun _ _ ⟨x, y, z⟩ => ⟨x, pmem_lit y aF2, z⟩
theorem plays3 (M B : Nat) (w : World) (hm : PMem w M B 12 aS2) : Calls Try.prog 28 #[.pointer (some ⟨M, 0, none⟩), .int .i64 4, .int .u64 65539, .int .i64 0] w fun e w' => e = .returned (.bool true) ∧ PMem w' M B 12 aS3 ∧ But (fun k => k = B) w w' :=
  (tells_alloc M B 4 aS2 65539 0 w hm aW2 aC2.1 (by have := aC2; omega) (by decide) (by decide) aB3 aE3.1 aE3.2.1 aE3.2.2).mono fun _ _ ⟨x, y, z⟩ => ⟨x, pmem_lit y aF3, z⟩
theorem plays4 (M B : Nat) (w : World) (hm : PMem w M B 12 aS3) : Calls Try.prog 28 #[.pointer (some ⟨M, 0, none⟩), .int .i64 2, .int .u64 0, .int .i64 7] w fun e w' => e = .returned (.bool true) ∧ PMem w' M B 12 aS4 ∧ But (fun k => k = B) w w' :=
  (tells_alloc M B 2 aS3 0 7 w hm aW3 aC3.1 (by have := aC3; omega) (by decide) (by decide) aB4 aE4.1 aE4.2.1 aE4.2.2).mono fun _ _ ⟨x, y, z⟩ => ⟨x, pmem_lit y aF4, z⟩
theorem plays5 (M B : Nat) (w : World) (hm : PMem w M B 12 aS4) : Calls Try.prog 29 #[.pointer (some ⟨M, 0, none⟩), .int .i64 0, .int .i64 5] w fun e w' => e = .returned (.bool true) ∧ PMem w' M B 12 aS5 ∧ But (fun k => k = B) w w' :=
  (tells_free M B 5 0 aS4 w hm aW4 aC4.1 (by have := aC4; omega) (by decide) (by decide) (by decide) (by decide) aB5 aE5.1 aE5.2).mono fun _ _ ⟨x, y, z⟩ => ⟨x, pmem_lit y aF5, z⟩
theorem plays6 (M B : Nat) (w : World) (hm : PMem w M B 12 aS5) : Calls Try.prog 28 #[.pointer (some ⟨M, 0, none⟩), .int .i64 4, .int .u64 131073, .int .i64 0] w fun e w' => e = .returned (.bool true) ∧ PMem w' M B 12 aS6 ∧ But (fun k => k = B) w w' :=
  (tells_alloc M B 4 aS5 131073 0 w hm aW5 aC5.1 (by have := aC5; omega) (by decide) (by decide) aB6 aE6.1 aE6.2.1 aE6.2.2).mono fun _ _ ⟨x, y, z⟩ => ⟨x, pmem_lit y aF6, z⟩
theorem plays7 (M B : Nat) (w : World) (hm : PMem w M B 12 aS6) : Calls Try.prog 29 #[.pointer (some ⟨M, 0, none⟩), .int .i64 0, .int .i64 2] w fun e w' => e = .returned (.bool true) ∧ PMem w' M B 12 aS7 ∧ But (fun k => k = B) w w' :=
  (tells_free M B 2 0 aS6 w hm aW6 aC6.1 (by have := aC6; omega) (by decide) (by decide) (by decide) (by decide) aB7 aE7.1 aE7.2).mono fun _ _ ⟨x, y, z⟩ => ⟨x, pmem_lit y aF7, z⟩

set_option maxHeartbeats 4000000 in
theorem aawake_any (w : World) : Calls Try.prog 12 #[] w fun e w' => e = .returned (.bool true) ∧ Kept w w' := by
  go_enter Try.func12, Try.ntmps12
  go_wp2_with fail
  refine (p_new12 _).mono ?_
  rintro e w1 ⟨rfl, m1, z1, k1⟩
  have M1 := Lib.hid m1
  have K1 := Lib.hid k1
  have Z1 := Lib.hid z1
  clear m1 k1 z1
  go_wp2_with fail
  refine (athree_any _).mono ?_
  rintro e w2 ⟨rfl, k2⟩
  have K2 := Lib.hid (K1.out.trans k2)
  have M2 := Lib.hid (pmem_kept M1.out k2)
  clear k2
  go_wp2_with fail
  refine (p_afill _ _ 12 A3 Wo.St.zero _ M2.out (by decide) (by decide) okA3).mono ?_
  rintro e w3 ⟨rfl, m3, b3⟩
  have M3 : Hid (PMem w3 (w.heap.size + 1) w.heap.size 12 aS0) := Lib.hid (pmem_lit m3 aF0)
  have K3 : Hid (But (fun k => k = w.heap.size) w w3) := Lib.hid ((K2.out.but _).trans b3 (fun _ _ h => h))
  clear m3 b3
  go_wp2_with fail
  refine (athree_any _).mono ?_
  rintro e w4 ⟨rfl, k4⟩
  have K4 := Lib.hid (K3.out.then k4)
  have M4 := Lib.hid (pmem_kept M3.out k4)
  clear k4
  go_wp2_with fail
  refine (newAlloc_any A3 _).mono ?_
  rintro e w5 ⟨P, rfl, hP1, hP2, a5, k5⟩
  have K5 := Lib.hid (K4.out.then k5)
  have M5 := Lib.hid (pmem_kept M4.out k5)
  have HT : Hid (Calls Try.prog 5 #[.pointer (some ⟨P, 0, none⟩)] w5 fun e w' => e = .returned (.tuple #[.int .u64 0, .int .i64 14]) ∧ Kept w5 w') := Lib.hid (alloc_told P A3 AOp.new w5 a5)
  clear k5 a5
  go_wp2_with fail
  refine HT.out.mono ?_
  rintro e w6 ⟨rfl, k6⟩
  have K6 := Lib.hid (K5.out.then k6)
  have M6 := Lib.hid (pmem_kept M5.out k6)
  clear k6 HT
  go_wp2_with fail
  refine (plays1 _ _ _ M6.out).mono ?_
  rintro e w7 ⟨rfl, m7, b7⟩
  have M7 := Lib.hid m7
  have K7 := Lib.hid (K6.out.trans b7 (fun _ _ h => h))
  clear m7 b7
  go_wp2_with fail
  refine (plays2 _ _ _ M7.out).mono ?_
  rintro e w8 ⟨rfl, m8, b8⟩
  have M8 := Lib.hid m8
  have K8 := Lib.hid (K7.out.trans b8 (fun _ _ h => h))
  clear m8 b8
  go_wp2_with fail
  refine (plays3 _ _ _ M8.out).mono ?_
  rintro e w9 ⟨rfl, m9, b9⟩
  have M9 := Lib.hid m9
  have K9 := Lib.hid (K8.out.trans b9 (fun _ _ h => h))
  clear m9 b9
  go_wp2_with fail
  refine (plays4 _ _ _ M9.out).mono ?_
  rintro e w10 ⟨rfl, m10, b10⟩
  have M10 := Lib.hid m10
  have K10 := Lib.hid (K9.out.trans b10 (fun _ _ h => h))
  clear m10 b10
  go_wp2_with fail
  refine (plays5 _ _ _ M10.out).mono ?_
  rintro e w11 ⟨rfl, m11, b11⟩
  have M11 := Lib.hid m11
  have K11 := Lib.hid (K10.out.trans b11 (fun _ _ h => h))
  clear m11 b11
  go_wp2_with fail
  refine (plays6 _ _ _ M11.out).mono ?_
  rintro e w12 ⟨rfl, m12, b12⟩
  have M12 := Lib.hid m12
  have K12 := Lib.hid (K11.out.trans b12 (fun _ _ h => h))
  clear m12 b12
  go_wp2_with fail
  refine (plays7 _ _ _ M12.out).mono ?_
  rintro e w13 ⟨rfl, m13, b13⟩
  have M13 := Lib.hid m13
  have K13 := Lib.hid (K12.out.trans b13 (fun _ _ h => h))
  clear m13 b13
  have HL : Hid (Calls Try.prog 30 #[.pointer (some ⟨w.heap.size + 1, 0, none⟩), .int .i64 7] w13 fun e w' => e = .returned (.int .u64 1) ∧ But (fun k => k = w.heap.size) w13 w') := Lib.hid ((p_load _ _ 12 aS7 7 _ M13.out aC7.1 (by have := aC7; omega)).mono fun _ _ ⟨x, _, z⟩ => ⟨by rw [x, word7], z⟩)
  go_wp2_with fail
  refine HL.out.mono ?_
  rintro e w14 ⟨rfl, b14⟩
  have K14 := Lib.hid (K13.out.trans b14 (fun _ _ h => h))
  clear b14 HL
  go_wp2
  go_ret
  exact ⟨rfl, K14.out.kept (fun k hk h => by omega)⟩
end Go.Proofs.Ytbonnfofoepjcaa.Sk

namespace Go.Proofs.Ytbonnfofoepjcaa.Sk
set_option maxRecDepth 20000
open Go.RowKit
open Wo (St acc wordAt PMem RefIs)

theorem pasta3 {w : World} {b o : Nat} {v : Value} (h : w.cell? ⟨b, o, none⟩ = some v) (c : Array Value) (t : TypeId) : (w.alloc (.cells c t)).cell? ⟨b, o, none⟩ = some v := ((Kept.refl w).alloc c t).some h
theorem anone_step (P : Nat) (V : Value) (w : World) (c8 : w.cell? ⟨P, 8, none⟩ = some (.bool false)) :
    Calls Try.prog 6 #[.pointer (some ⟨P, 0, none⟩), V] w fun e w' => e = .returned (.bool true) ∧ w = w' := by
  have HO := Lib.hid (outcome_Alloc_none P w c8)
  have HE : Hid (Calls Try.prog 14 #[.pointer (some ⟨P, 8, none⟩)] w fun e w' => e = .returned (.bool true) ∧ w = w') := Lib.hid (by
    clear c8
    go_enter Try.func14, Try.ntmps14
    go_wp2_with fail
    refine HO.out.mono ?_
    rintro e w1 ⟨rfl, rfl⟩
    go_wp2
    go_ret
    exact ⟨rfl, rfl⟩)
  clear c8 HO
  go_enter Try.func6, Try.ntmps6
  go_wp2_with fail
  refine HE.out.mono ?_
  rintro e u1 ⟨rfl, rfl⟩
  go_wp2
  go_ret
  exact ⟨rfl, rfl⟩
theorem fnone_step (P : Nat) (V : Value) (w : World) (c9 : w.cell? ⟨P, 9, none⟩ = some (.bool false)) :
    Calls Try.prog 7 #[.pointer (some ⟨P, 0, none⟩), V] w fun e w' => e = .returned (.bool true) ∧ w = w' := by
  have HO := Lib.hid (outcome_Free_none P w c9)
  have HE : Hid (Calls Try.prog 17 #[.pointer (some ⟨P, 9, none⟩)] w fun e w' => e = .returned (.bool true) ∧ w = w') := Lib.hid (by
    clear c9
    go_enter Try.func17, Try.ntmps17
    go_wp2_with fail
    refine HO.out.mono ?_
    rintro e w1 ⟨rfl, rfl⟩
    go_wp2
    go_ret
    exact ⟨rfl, rfl⟩)
  clear c9 HO
  go_enter Try.func7, Try.ntmps7
  go_wp2_with fail
  refine HE.out.mono ?_
  rintro e u1 ⟨rfl, rfl⟩
  go_wp2
  go_ret
  exact ⟨rfl, rfl⟩
theorem anone_told (P : Nat) (w : World) (c8 : w.cell? ⟨P, 8, none⟩ = some (.bool false)) (c17 : w.cell? ⟨P, 17, none⟩ = some (.int .u64 0)) :
    Calls Try.prog 5 #[.pointer (some ⟨P, 0, none⟩)] w fun e w' => e = .returned (.tuple #[.int .u64 0, .int .i64 1]) ∧ Kept w w' := by
  have HO : ∀ W, Kept w W → Hid (Calls Try.prog 13 #[.pointer (some ⟨P, 8, none⟩)] W fun e w' => e = .returned (.int .i64 1) ∧ W = w') := fun W k => Lib.hid (outcome_Alloc_none P W (k.some c8))
  have hP := lt_of_cell c8
  clear c8
  go_enter Try.func5, Try.ntmps5
  go_wp2_with fail
  go_region_held3 (fun w' => w'.cell? ⟨P, 17, none⟩ = some (.int .u64 0)) (first | go_keep | assumption) (first | (go_at_call 13; refine (HO _ (by first | exact Kept.refl _ | exact (Kept.refl _).drew | exact (Kept.refl _).drewN _)).out.mono ?_; rintro e w' ⟨rfl, rfl⟩))
  go_wp2
  go_ret2
  exact ⟨rfl, by (go_light; repeat (first | (with_reducible exact Kept.refl _) | (with_reducible assumption) | (with_reducible refine Kept.alloc ?_ _ _) | (with_reducible refine Kept.drew ?_) | (with_reducible refine Kept.drewN ?_ _) | ((with_reducible refine Kept.setCell ?_ ?_ _); rotate_left; focus (first | (simp; done) | (simp; omega))) | refine Kept.trans ?_ (by assumption)))⟩
theorem fnone_told (P : Nat) (w : World) (c9 : w.cell? ⟨P, 9, none⟩ = some (.bool false)) :
    Calls Try.prog 8 #[.pointer (some ⟨P, 0, none⟩)] w fun e w' => e = .returned (.int .i64 1) ∧ w = w' := by
  have HO := Lib.hid (outcome_Free_none P w c9)
  clear c9
  go_enter Try.func8, Try.ntmps8
  go_wp2_with fail
  refine HO.out.mono ?_
  rintro e w' ⟨rfl, rfl⟩
  go_wp2
  go_ret
  exact ⟨rfl, rfl⟩
theorem p_new9 (w : World) : Calls Try.prog 4 #[.int .i64 9] w
    fun e w' => e = .returned (.tuple #[.pointer (some ⟨w.heap.size + 1, 0, none⟩), .int .i64 0]) ∧ PMem w' (w.heap.size + 1) w.heap.size 9 Wo.St.zero ∧ w'.heap.size = w.heap.size + 2 ∧ Kept w w' := p_new 9 (by decide) (by decide) w
set_option maxHeartbeats 2000000 in
theorem anone_any (i : Int) (w : World) : Calls Try.prog 3 #[.int .i64 i] w fun e w' => e = .returned (.bool true) ∧ Kept w w' := by
  go_enter Try.func3, Try.ntmps3
  go_wp2_with fail
  refine (p_new9 _).mono ?_
  rintro e w1 ⟨rfl, m1, z1, k1⟩
  have M1 := Lib.hid m1
  have K1 := Lib.hid k1
  have Z1 := Lib.hid z1
  clear m1 k1 z1
  go_wp2_with fail
  obtain ⟨v0, hv0⟩ : ∃ v0, v0 = (((w1.alloc (.cells #[.bool false, .int .i64 0, .int .i64 0, .int .i64 0, .int .u64 0, .int .u64 0, .nilFunc, .int .i64 0, .bool false, .int .i64 0, .int .i64 0, .int .i64 0, .int .i64 0, .int .i64 0, .int .i64 0, .nilFunc, .int .i64 0, .int .u64 0] 43)).alloc (.cells #[.pointer none, .pointer (some ⟨w1.heap.size, 0, none⟩)] 26)).alloc (.cells #[.bool false, .int .i64 0, .int .i64 0, .int .i64 0, .int .u64 0, .int .u64 0, .nilFunc, .int .i64 0, .int .i64 0, .bool false, .int .i64 0, .int .i64 0, .int .i64 0, .int .i64 0, .int .i64 0, .int .i64 0, .nilFunc, .int .i64 0, .int .i64 0, .int .u64 0] 57)).alloc (.cells #[.pointer none, .pointer (some ⟨w1.heap.size + 1 + 1, 0, none⟩)] 45) := ⟨_, rfl⟩
  rw [← hv0]
  have a8 : v0.cell? ⟨w1.heap.size, 8, none⟩ = some (.bool false) := by rw [hv0]; exact pasta3 (pasta3 (pasta3 (cell_new _ _ _ _ _ rfl) _ _) _ _) _ _
  have a17 : v0.cell? ⟨w1.heap.size, 17, none⟩ = some (.int .u64 0) := by rw [hv0]; exact pasta3 (pasta3 (pasta3 (cell_new _ _ _ _ _ rfl) _ _) _ _) _ _
  have s0 : v0.cell? ⟨w1.heap.size + 1, 0, none⟩ = some (.pointer none) := by rw [hv0]; refine pasta3 (pasta3 ?_ _ _) _ _; rw [cell_new _ _ _ _ _ (by simp)]; rfl
  have s1 : v0.cell? ⟨w1.heap.size + 1, 1, none⟩ = some (.pointer (some ⟨w1.heap.size, 0, none⟩)) := by rw [hv0]; refine pasta3 (pasta3 ?_ _ _) _ _; rw [cell_new _ _ _ _ _ (by simp)]; rfl
  have f9 : v0.cell? ⟨w1.heap.size + 1 + 1, 9, none⟩ = some (.bool false) := by rw [hv0]; refine pasta3 ?_ _ _; rw [cell_new _ _ _ _ _ (by simp)]; rfl
  have r0 : v0.cell? ⟨w1.heap.size + 1 + 1 + 1, 0, none⟩ = some (.pointer none) := by rw [hv0, cell_new _ _ _ _ _ (by simp)]; rfl
  have r1 : v0.cell? ⟨w1.heap.size + 1 + 1 + 1, 1, none⟩ = some (.pointer (some ⟨w1.heap.size + 1 + 1, 0, none⟩)) := by rw [hv0, cell_new _ _ _ _ _ (by simp)]; rfl
  have K0 : Hid (Kept w1 v0) := Lib.hid (by rw [hv0]; exact ((((Kept.refl w1).alloc _ _).alloc _ _).alloc _ _).alloc _ _)
  clear hv0
  have z3 : w1.heap.size + 1 + 1 + 1 < v0.heap.size := lt_of_cell r0
  refine wp_loop_rounds 3 ?_
  rw [rounds_succ]
  go_wp2_with fail
  refine (alloc_told_nil _).mono ?_
  rintro e u1 ⟨rfl, rfl⟩
  go_wp2_with fail
  refine (aStep_nil _ _).mono ?_
  rintro e u2 ⟨rfl, rfl⟩
  go_wp2_with fail
  refine (fStep_nil _ _).mono ?_
  rintro e u3 ⟨rfl, rfl⟩
  go_wp2_with fail
  refine (free_told_nil _).mono ?_
  rintro e u4 ⟨rfl, rfl⟩
  go_wp2_with fail
  rw [rounds_succ]
  go_wp2_with fail
  refine (anone_told _ _ a8 a17).mono ?_
  rintro e u5 ⟨rfl, k5⟩
  have a8 := k5.some a8
  have s1 := k5.some s1
  have f9 := k5.some f9
  have r1 := k5.some r1
  have K5 := Lib.hid (K1.out.trans (K0.out.trans k5))
  have M5 := Lib.hid (pmem_kept M1.out (K0.out.trans k5))
  clear k5 a17 s0 r0
  go_wp2_with fail
  refine (anone_step _ _ _ a8).mono ?_
  rintro e u6 ⟨rfl, rfl⟩
  go_wp2_with fail
  refine (fnone_step _ _ _ f9).mono ?_
  rintro e u7 ⟨rfl, rfl⟩
  go_wp2_with fail
  refine (fnone_told _ _ f9).mono ?_
  rintro e u8 ⟨rfl, rfl⟩
  go_wp2_with fail
  rw [rounds_succ]
  have HPK : ∀ W, Hid (Calls Try.prog 10 #[.int .i64 i, .int .i64 9] W fun e w' => e = .returned (.int .i64 (i % 9)) ∧ W = w') := fun W => Lib.hid (Wo.pick_any i 9 (by decide) (by decide) W)
  have q0 : 0 ≤ i % 9 := by omega
  have q1 : i % 9 < 9 := by omega
  generalize i % 9 = q at *
  clear a8 s1 f9 r1
  go_wp2_with fail
  refine (HPK _).out.mono ?_
  rintro e u9 ⟨rfl, rfl⟩
  go_wp2_with fail
  have HNF : ∀ W, Hid (Calls Try.prog 9 #[.agg #[.int .i64 0, .int .i64 0, .int .i64 3, .int .i64 0, .int .i64 0, .int .i64 0], .int .i64 (-1 - q)] W (Made (fun w P => FreeAt w P ⟨⟨0, 0, 3⟩, 0, 0, 0⟩ (-1 - q) FOp.bad) W)) := fun W => Lib.hid (newFree_out ⟨⟨0, 0, 3⟩, 0, 0, 0⟩ (-1 - q) (Or.inl (by omega)) W)
  refine (HNF _).out.mono ?_
  rintro e w2 ⟨P, rfl, hP1, hP2, a2, k2⟩
  have K6 := Lib.hid (K5.out.trans k2)
  have M6 := Lib.hid (pmem_kept M5.out k2)
  have HST : Hid (Calls Try.prog 7 #[.pointer (some ⟨P, 0, none⟩), .pointer (some ⟨w.heap.size + 1, 0, none⟩)] w2 fun e w' => e = .returned (.bool true) ∧ w2 = w') := Lib.hid (by obtain ⟨v, e0, ha, _⟩ := a2; exact fStep_over P _ _ _ e0 _ v 3 0 w2 ha (by decide))
  have HER : Hid (Calls Try.prog 8 #[.pointer (some ⟨P, 0, none⟩)] w2 fun e w' => e = .returned (.int .i64 3) ∧ w2 = w') := Lib.hid (free_told P _ _ FOp.bad w2 a2)
  have HCO := Lib.hid (p_count _ _ 9 Wo.St.zero w2 M6.out)
  clear k2 a2 HNF HPK
  go_wp2_with fail
  refine HST.out.mono ?_
  rintro e u10 ⟨rfl, rfl⟩
  go_wp2_with fail
  refine HER.out.mono ?_
  rintro e u11 ⟨rfl, rfl⟩
  go_wp2_with fail
  refine HCO.out.mono ?_
  rintro e u12 ⟨rfl, rfl⟩
  go_wp2_with fail
  refine (aawake_any _).mono ?_
  rintro e u13 ⟨rfl, k13⟩
  go_wp2
  go_ret
  exact ⟨rfl, K6.out.trans k13⟩
end Go.Proofs.Ytbonnfofoepjcaa.Sk
