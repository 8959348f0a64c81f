/- HeapFull. -/
import Derived.Test.YteomggjkdaddhaaHeLawN
namespace Go.Proofs.Yteomggjkdaddhaa
open Go.RowKit

def mkI (k : Nat) : List It := (List.range k).map fun (i : Nat) => ⟨2 * (i : Int) + 1, (i : Int)⟩
theorem mkI_length (k : Nat) : (mkI k).length = k := by simp [mkI]
theorem mkI_snoc (k : Nat) : mkI (k + 1) = mkI k ++ [⟨2 * (k : Int) + 1, k⟩] := by simp [mkI, List.range_succ]
def FuRel (w : World) (N : Nat) (v i : Value) (wr : World) : Prop := ∃ (k : Nat) (a : Option Addr) (c : Nat), k ≤ N ∧ i = .int .i64 k ∧ v = .slice a k c ∧ Kept w wr ∧ wr.ownsRow w.heap.size 45 2 (.slice a k c) k (flatI (mkI k))

set_option maxRecDepth 100000 in
set_option maxHeartbeats 8000000 in
theorem heapFull_any {w : World} (x key : Int) : Calls Try.prog 5 #[.int .i64 x, .int .u64 key] w fun e w' => e = .returned (.bool true) ∧ Kept w w' := by
  obtain ⟨i0, hi0, hz0, hz1, hz2⟩ := info_parts infoI
  obtain ⟨r0, hr0⟩ : ∃ r0 : Nat, x % 11 = r0 := Int.eq_ofNat_of_zero_le (Int.emod_nonneg x (by decide))
  have hr1 : r0 ≤ 10 := by have := Int.emod_lt_of_pos x (show (0 : Int) < 11 by decide); omega
  have PK := Lib.hid (fun W => kitPick_at x 11 r0 (by decide) (by decide) hr0 W)
  obtain ⟨N, hN⟩ : ∃ N, N = 1018 + r0 := ⟨_, rfl⟩
  have hN2 : N ≤ 1028 := by omega
  have HM := Lib.hid (show ∀ k, k ≤ 5001 → k ≤ maxLen from fun k h => by unfold maxLen; omega)
  clear hr0
  go_enter Try.func5, Try.ntmps5
  go_wp2
  go_loopw [5, 6] (fun v i wr => FuRel w N v i wr) (fun _ i _ => N - (intOf i).toNat)
  case atStart => exact ⟨0, none, 0, Nat.zero_le _, rfl, rfl, Kept.refl _, World.ownsRow_nil _ _ _ _⟩
  case round =>
    obtain ⟨k, a, c, hk, rfl, rfl, hkept, hown⟩ := hrel
    have KE := Lib.hid hkept
    have OW := Lib.hid hown
    clear hkept hown
    by_cases hlt : k < N
    · have hlt' : (k : Int) < 1018 + (r0 : Int) := by omega
      have HN := Lib.hid hN
      clear hN
      go_wp2_with fail; refine (PK.out _).mono ?_; rintro e v1 ⟨rfl, rfl⟩
      go_wp2_with (at_builtin; refine wpList_append_lay _ rfl _ _ _ rfl w.heap.size 45 i0 _ 2 16 Try.underlying22 hi0 hz0 hz1 hz2 (by rfl) (by decide) (.slice a k c) k (flatI (mkI k)) (by simp [Act.eval]) (own_kept OW.out ((Kept.refl _).alloc _ _)) (.slice (some ⟨wr.heap.size, 0, none⟩) 1 1) 1 (flatI [⟨2 * (k : Int) + 1, k⟩]) (by simp [Act.eval]) (by rfl) (lay_new (heap_alloc_new _ _) (by decide)) (flatI_one _) (HM.out _ (by omega)) (by omega) (by have := KE.out.size; simp; omega) ?_; rintro a2 c2 w2 own2 but2 at2)
      have K2 := Lib.hid (show Kept w w2 from (KE.out.alloc _ _).wrote but2 (fun g hg => (OW.out.lt g hg).1))
      have O2 := Lib.hid own2
      clear own2 but2 at2
      go_wp2
      go_roundw
      case rel => exact ⟨k + 1, a2, c2, by omega, by go_num, rfl, K2.out, by rw [mkI_snoc, flatI_append]; exact O2.out⟩
      case measure => simp [intOf]; omega
    · obtain rfl : k = N := by omega
      have hlt' : ¬ (k : Int) < 1018 + (r0 : Int) := by omega
      obtain ⟨l, hl⟩ : ∃ l, mkI k = l := ⟨_, rfl⟩
      have LY := Lib.hid (show Lay wr (.slice a k c) k (flatI l) by rw [← hl]; exact (own_lies OW.out).lay)
      have HL := Lib.hid (show k = l.length by rw [← hl, mkI_length])
      clear hl hN OW
      obtain ⟨W1, hW1⟩ : ∃ W1, wr.alloc (.cells #[.int .i64 4, .int .i64 5, .int .i64 0, .int .u64 key] 25) = W1 := ⟨_, rfl⟩
      obtain ⟨b1, hb1⟩ : ∃ b1, wr.heap.size = b1 := ⟨_, rfl⟩
      have OB := Lib.hid (show OpBox W1 b1 ⟨4, 5, 0, key⟩ by rw [← hW1]; exact OpBox.new wr ⟨4, 5, 0, key⟩ _ _ hb1.symm)
      have k1 : Kept wr W1 := by rw [← hW1]; exact (Kept.refl wr).alloc _ _
      have HW := Lib.hid hW1
      have HB := Lib.hid hb1
      have K1 := Lib.hid (KE.out.trans k1)
      have L1 := Lib.hid (LY.out.kept k1)
      clear hW1 hb1 k1
      obtain ⟨z, hz⟩ : ∃ z, chk l = z := ⟨_, rfl⟩
      have C1 := Lib.hid (fun W (k : Kept W1 W) => next_any ⟨4, 5, 0, key⟩ ⟨0, 0, 0⟩ (L1.out.kept k) HL.out)
      have C2 := Lib.hid (fun W (k : Kept W1 W) => refNext_any ⟨4, 5, 0, key⟩ ⟨0, 0, 0⟩ (L1.out.kept k) HL.out)
      have C3 := Lib.hid (fun W (k : Kept W1 W) => (answer_any ⟨4, 5, 0, key⟩ (L1.out.kept k) HL.out).mono fun _ _ hh => hh.unf)
      have C4 := Lib.hid (fun W (k : Kept W1 W) => (refAnswer_any ⟨4, 5, 0, key⟩ (L1.out.kept k) HL.out).mono fun _ _ hh => hh.unf)
      have C5 := Lib.hid (fun W (k : Kept W1 W) => chk_at (L1.out.kept k) HL.out hz)
      have C6 := Lib.hid (fun W (k : Kept W1 W) => refChk_at (L1.out.kept k) HL.out hz)
      have nx := next_getD l ⟨4, 5, 0, key⟩ ⟨0, 0, 0⟩
      obtain ⟨p, hp⟩ : ∃ p, nextS l ⟨4, 5, 0, key⟩ ⟨0, 0, 0⟩ = p := ⟨_, rfl⟩
      rw [hp] at C1 C2 nx
      obtain ⟨t, ht⟩ : ∃ t, (tellS l ⟨4, 5, 0, key⟩).getD noAnn = t := ⟨_, rfl⟩
      obtain ⟨s, hs⟩ : ∃ s, (tellS l ⟨4, 5, 0, key⟩).isSome = s := ⟨_, rfl⟩
      rw [ht, hs] at C3 C4
      obtain ⟨m, hm⟩ : ∃ m, (p.getD []).length = m := ⟨_, rfl⟩
      obtain ⟨y, hy⟩ : ∃ y, p.isSome = y := ⟨_, rfl⟩
      unfold RetN OwnI at C1 C2
      rw [hm, hy] at C1 C2
      rw [hm] at nx
      have HMM := Lib.hid hm.symm
      have TT := eq_ann t
      clear hz hp ht hs hm hy
      go_wp2_with fail; refine (PK.out _).mono ?_; rintro e v1 ⟨rfl, rfl⟩
      go_upto_region 7 with fail
      rw [HW.out, HB.out]
      obtain ⟨o0, o1, o2, o3⟩ := OB.out
      go_wp2_with fail; refine (C1.out _ (Kept.refl _)).mono ?_; rintro ed w2 ⟨a2, c2, rfl, k2, own2⟩
      have K2 := Lib.hid k2
      have Y2 := Lib.hid (own_lies own2).lay
      clear k2 own2 o0 o1 o2 o3
      obtain ⟨o0, o1, o2, o3⟩ := OB.out.kept K2.out
      go_wp2_with fail; refine (C2.out _ K2.out).mono ?_; rintro ed w3 ⟨a3, c3, rfl, k3, own3⟩
      have K3 := Lib.hid (K2.out.trans k3)
      have Y3 := Lib.hid (Y2.out.kept k3)
      have Z3 := Lib.hid (own_lies own3).lay
      clear k3 own3 o0 o1 o2 o3
      obtain ⟨o0, o1, o2, o3⟩ := OB.out.kept K3.out
      go_wp2_with fail; refine (C3.out _ K3.out).mono ?_; rintro ed w4 ⟨rfl, k4⟩
      obtain ⟨W4, hW4⟩ : ∃ W4, w4.alloc (.cells #[.int .i64 t.e, .int .i64 t.n, .int .u64 t.v] 28) = W4 := ⟨_, rfl⟩
      have k4' : Kept w3 W4 := by rw [← hW4]; exact k4.alloc _ _
      obtain ⟨g4, hg4⟩ : ∃ g4, w4.heap.size = g4 := ⟨_, rfl⟩
      have A4 := Lib.hid (show AnBox W4 g4 t by rw [← hW4]; exact AnBox.new w4 t _ _ hg4.symm)
      have K4 := Lib.hid (K3.out.trans k4')
      have Y4 := Lib.hid (Y3.out.kept k4')
      have Z4 := Lib.hid (Z3.out.kept k4')
      have HW4 := Lib.hid hW4
      have HG4 := Lib.hid hg4
      clear k4 k4' hW4 hg4 o0 o1 o2 o3
      go_upto_region 10 with fail
      rw [HW4.out, HG4.out]
      obtain ⟨o0, o1, o2, o3⟩ := OB.out.kept K4.out
      go_wp2_with fail; refine (C4.out _ K4.out).mono ?_; rintro ed w5 ⟨rfl, k5⟩
      obtain ⟨W5, hW5⟩ : ∃ W5, w5.alloc (.cells #[.int .i64 t.e, .int .i64 t.n, .int .u64 t.v] 28) = W5 := ⟨_, rfl⟩
      have k5' : Kept W4 W5 := by rw [← hW5]; exact k5.alloc _ _
      obtain ⟨g5, hg5⟩ : ∃ g5, w5.heap.size = g5 := ⟨_, rfl⟩
      have A5 := Lib.hid (A4.out.kept k5')
      have B5 := Lib.hid (show AnBox W5 g5 t by rw [← hW5]; exact AnBox.new w5 t _ _ hg5.symm)
      have K5 := Lib.hid (K4.out.trans k5')
      have Y5 := Lib.hid (Y4.out.kept k5')
      have Z5 := Lib.hid (Z4.out.kept k5')
      have HW5 := Lib.hid hW5
      have HG5 := Lib.hid hg5
      clear k5 k5' hW5 hg5 o0 o1 o2 o3
      go_upto_region 11 with fail
      rw [HW5.out, HG5.out]
      go_wp2_with fail; refine (same_n Y5.out Z5.out HMM.out HMM.out (by omega)).mono ?_; rintro ed w6 ⟨rfl, k6⟩
      have K6 := Lib.hid (K5.out.trans k6)
      obtain ⟨p0, p1, p2, _⟩ := A5.out.kept k6
      obtain ⟨q0, q1, q2, _⟩ := B5.out.kept k6
      clear k6
      go_wp2_with fail; refine (C5.out _ K6.out).mono ?_; rintro ed w7 ⟨rfl, k7⟩
      have K7 := Lib.hid (K6.out.trans k7)
      clear k7
      go_wp2_with fail; refine (C6.out _ K7.out).mono ?_; rintro ed w8 ⟨rfl, k8⟩
      have K8 := Lib.hid (K7.out.trans k8)
      clear k8
      go_wp2_with fail; refine (awake_any _).mono ?_; rintro ed w9 ⟨rfl, k9⟩
      go_wp2
      go_ret
      exact ⟨rfl, (K1.out.trans K8.out).trans k9⟩
end Go.Proofs.Yteomggjkdaddhaa
