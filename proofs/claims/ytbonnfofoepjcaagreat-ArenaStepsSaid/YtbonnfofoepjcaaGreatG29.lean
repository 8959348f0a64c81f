/- The document's Cells of an arena, and its Fits. -/
import Derived.Test.YtbonnfofoepjcaaGreatG28
set_option linter.unusedVariables false
set_option linter.unusedSimpArgs false

namespace Go.Proofs.YtbonnfofoepjcaaGreat.Sk
set_option maxRecDepth 20000
open Go.RowKit
open Wo (St acc wordAt PMem RefIs)

def fC (A : Arn) (i : Nat) : Int := if i = 0 then A.F.T else if i = 1 then A.V else if i % 2 = 0 then A.F.K + ((i - 2) / 2 : Nat) else wrap64 (A.G + ((i - 2) / 2 : Nat))
def cL (A : Arn) : Nat → List Int
  | 0 => [A.F.T, A.V]
  | k + 1 => cL A k ++ [A.F.K + k, wrap64 (A.G + k)]
theorem cL_length (A : Arn) : ∀ k, (cL A k).length = 2 + 2 * k
  | 0 => rfl
  | k + 1 => by show (cL A k ++ [A.F.K + k, wrap64 (A.G + k)]).length = _; rw [List.length_append, cL_length A k]; simp; omega
theorem cL_get (A : Arn) : ∀ k i, i < 2 + 2 * k → (cL A k)[i]? = some (fC A i)
  | 0, i, h => by
    have : i = 0 ∨ i = 1 := by omega
    rcases this with rfl | rfl <;> rfl
  | k + 1, i, h => by
    show (cL A k ++ [A.F.K + k, wrap64 (A.G + k)])[i]? = _
    by_cases hi : i < 2 + 2 * k
    · rw [List.getElem?_append_left (by rw [cL_length]; exact hi)]
      exact cL_get A k i hi
    · rw [List.getElem?_append_right (by rw [cL_length]; omega), cL_length]
      have : i = 2 + 2 * k ∨ i = 2 + 2 * k + 1 := by omega
      rcases this with rfl | rfl
      · rw [show 2 + 2 * k - (2 + 2 * k) = 0 by omega]
        unfold fC
        rw [if_neg (by omega), if_neg (by omega), if_pos (by omega), show (2 + 2 * k - 2) / 2 = k by omega]
        rfl
      · rw [show 2 + 2 * k + 1 - (2 + 2 * k) = 1 by omega]
        unfold fC
        rw [if_neg (by omega), if_neg (by omega), if_neg (by omega), show (2 + 2 * k + 1 - 2) / 2 = k by omega]
        rfl

theorem fits_apart (A : Arn) (n : Int) (hS : A.F.Ok n.toNat) (n0 : 1 ≤ n) (n1 : n ≤ 4096) (hG : -9223372036854775808 ≤ A.G ∧ A.G ≤ 9223372036854775807) (hV : -9223372036854775808 ≤ A.V ∧ A.V ≤ 9223372036854775807) (L1 : 1 ≤ A.L) (L2 : A.L ≤ 4294967295) :
    apB (fC A) n (2 + 2 * A.F.N.toNat) = true ↔ ¬ badA A n := by
  rw [apB_iff]
  obtain ⟨_, _, N1, N2, T1, T2, K1, K2, ap⟩ := hS
  have e0 : fC A 0 = A.F.T := rfl
  have e1 : fC A 1 = A.V := rfl
  have eK : ∀ i : Nat, fC A (2 + 2 * i) = A.F.K + i := fun i => by
    unfold fC; rw [if_neg (by omega), if_neg (by omega), if_pos (by omega), show (2 + 2 * i - 2) / 2 = i by omega]
  have eG : ∀ i : Nat, fC A (3 + 2 * i) = wrap64 (A.G + i) := fun i => by
    unfold fC; rw [if_neg (by omega), if_neg (by omega), if_neg (by omega), show (3 + 2 * i - 2) / 2 = i by omega]
  generalize hN : A.F.N.toNat = N at *
  have hN' : A.F.N = N := by omega
  constructor
  · rintro ⟨h1, h2⟩ hb
    have g0 := h1 3 (by omega)
    have g0' : 0 ≤ wrap64 A.G ∧ wrap64 A.G < n := by have := eG 0; rw [show 3 + 2 * 0 = 3 by rfl] at this; rw [this] at g0; simpa using g0
    have hG0 : 0 ≤ A.G ∧ A.G < n := by
      have : wrap64 A.G = A.G := by unfold wrap64; omega
      rw [this] at g0'; exact g0'
    have eG' : ∀ i : Nat, i < N → fC A (3 + 2 * i) = A.G + i := fun i hi => by rw [eG i]; unfold wrap64; omega
    have gN := h1 (3 + 2 * (N - 1)) (by omega)
    rw [eG' (N - 1) (by omega)] at gN
    have v := h1 1 (by omega)
    rw [e1] at v
    have dGK : ∀ i j : Nat, i < N → j < N → A.G + i ≠ A.F.K + j := fun i j hi hj => by
      rcases Nat.lt_or_ge (3 + 2 * i) (2 + 2 * j) with h | h
      · have := h2 (2 + 2 * j) (3 + 2 * i) h (by omega)
        rw [eG' i hi, eK j] at this; exact this
      · have := h2 (3 + 2 * i) (2 + 2 * j) (by omega) (by omega)
        rw [eG' i hi, eK j] at this; exact fun e => this e.symm
    have dGT : ∀ i : Nat, i < N → A.G + i ≠ A.F.T := fun i hi => by
      have := h2 (3 + 2 * i) 0 (by omega) (by omega)
      rw [eG' i hi, e0] at this; exact fun e => this e.symm
    have dGV : ∀ i : Nat, i < N → A.G + i ≠ A.V := fun i hi => by
      have := h2 (3 + 2 * i) 1 (by omega) (by omega)
      rw [eG' i hi, e1] at this; exact fun e => this e.symm
    have dKV : ∀ i : Nat, i < N → A.F.K + i ≠ A.V := fun i hi => by
      have := h2 (2 + 2 * i) 1 (by omega) (by omega)
      rw [eK i, e1] at this; exact fun e => this e.symm
    have dTV : A.F.T ≠ A.V := by
      have := h2 1 0 (by omega) (by omega)
      rwa [e0, e1] at this
    unfold badA Meet at hb
    rcases hb with h | h | h | h | h | h | h | h | h | h | h
    · omega
    · omega
    · omega
    · omega
    · omega
    · omega
    · by_cases hle : A.G ≤ A.F.K
      · exact dGK (A.F.K - A.G).toNat 0 (by omega) (by omega) (by omega)
      · exact dGK 0 (A.G - A.F.K).toNat (by omega) (by omega) (by omega)
    · exact dGT (A.F.T - A.G).toNat (by omega) (by omega)
    · exact dGV (A.V - A.G).toNat (by omega) (by omega)
    · exact dKV (A.V - A.F.K).toNat (by omega) (by omega)
    · omega
  · intro hb
    unfold badA Meet at hb
    have eG' : ∀ i : Nat, i < N → fC A (3 + 2 * i) = A.G + i := fun i hi => by rw [eG i]; unfold wrap64; omega
    have ix : ∀ i, i < 2 + 2 * N → (i = 0 ∧ fC A i = A.F.T) ∨ (i = 1 ∧ fC A i = A.V) ∨ (∃ j : Nat, j < N ∧ i = 2 + 2 * j ∧ fC A i = A.F.K + j) ∨ (∃ j : Nat, j < N ∧ i = 3 + 2 * j ∧ fC A i = A.G + j) := fun i hi => by
      by_cases h0 : i = 0
      · subst h0; exact Or.inl ⟨rfl, rfl⟩
      by_cases h1 : i = 1
      · subst h1; exact Or.inr (Or.inl ⟨rfl, rfl⟩)
      by_cases h2 : i % 2 = 0
      · obtain ⟨j, rfl⟩ : ∃ j, i = 2 + 2 * j := ⟨(i - 2) / 2, by omega⟩
        exact Or.inr (Or.inr (Or.inl ⟨j, by omega, rfl, eK j⟩))
      · obtain ⟨j, rfl⟩ : ∃ j, i = 3 + 2 * j := ⟨(i - 3) / 2, by omega⟩
        exact Or.inr (Or.inr (Or.inr ⟨j, by omega, rfl, eG' j (by omega)⟩))
    refine ⟨fun i hi => ?_, fun i j hji hi => ?_⟩
    · rcases ix i hi with ⟨_, h⟩ | ⟨_, h⟩ | ⟨j, hj, _, h⟩ | ⟨j, hj, _, h⟩ <;> rw [h] <;> omega
    · rcases ix i hi with ⟨a, h⟩ | ⟨a, h⟩ | ⟨p, hp, a, h⟩ | ⟨p, hp, a, h⟩ <;> rcases ix j (by omega) with ⟨b, k⟩ | ⟨b, k⟩ | ⟨q, hq, b, k⟩ | ⟨q, hq, b, k⟩ <;> rw [h, k] <;> omega

def CellsP (A : Arn) (w : World) (e : Ending) (w' : World) : Prop :=
  ∃ g c, e = .returned (.slice (some ⟨g, 0, none⟩) (2 + 2 * A.F.N.toNat) c) ∧ 2 + 2 * A.F.N.toNat ≤ c ∧ (∀ i, i < 2 + 2 * A.F.N.toNat → w'.cell? ⟨g, i, none⟩ = some (.int .i64 (fC A i))) ∧ Kept w w'
theorem lies_int2 {w : World} {g : Nat} {x y : Int} {t : TypeId} {fr : Nat × Nat} (h : w.heap[g]? = some (.cells #[.int .i64 x, .int .i64 y] t fr)) : Lies w (.slice (some ⟨g, 0, none⟩) 2 2) 2 (ints [x, y]) := by
  refine Or.inr ⟨g, 0, 2, rfl, by omega, by unfold maxLen; omega, fun j u hj => ?_⟩
  have : j = 0 ∨ j = 1 := by
    have := (List.getElem?_eq_some_iff.1 hj).1
    simp [ints] at this; omega
  rcases this with rfl | rfl
  · simp [ints] at hj; subst hj; simp [World.cell?, h]
  · simp [ints] at hj; subst hj; simp [World.cell?, h]
set_option maxHeartbeats 2000000 in
theorem cellsOf_any (A : Arn) (w : World) (N1 : 1 ≤ A.F.N) (N2 : A.F.N ≤ 4096) (K1 : 0 ≤ A.F.K) (K2 : A.F.K ≤ 4096) :
    Calls Tryz.prog 59 #[.agg #[.int .i64 A.F.T, .int .i64 A.F.K, .int .i64 A.F.N, .int .i64 A.G, .int .i64 A.V, .int .i64 A.L]] w (CellsP A w) := by
  obtain ⟨i0, hi0, hz0, hz1, hz2⟩ : ∃ i0, Tryz.prog.info? 3 = some i0 ∧ i0.zero = some (.int .i64 0) ∧ i0.size = 1 ∧ i0.bytes = 8 := by
    have := infoInt
    cases hh : Tryz.prog.info? 3 with
    | none => rw [hh] at this; simp at this
    | some i => rw [hh] at this; simp at this; exact ⟨i, rfl, this.1, this.2.1, this.2.2⟩
  go_enter Tryz.func59, Tryz.ntmps59
  go_wp2_with fail
  have hv : Hid (Kept w ((w.alloc (.cells #[.int .i64 A.F.T, .int .i64 A.F.K, .int .i64 A.F.N, .int .i64 A.G, .int .i64 A.V, .int .i64 A.L] 25)).alloc (.cells #[.int .i64 A.F.T, .int .i64 A.V] 3))) := Lib.hid (((Kept.refl w).alloc _ _).alloc _ _)
  have z : ∀ j, j < 6 → ((w.alloc (.cells #[.int .i64 A.F.T, .int .i64 A.F.K, .int .i64 A.F.N, .int .i64 A.G, .int .i64 A.V, .int .i64 A.L] 25)).alloc (.cells #[.int .i64 A.F.T, .int .i64 A.V] 3)).cell? ⟨w.heap.size, j, none⟩ = #[.int .i64 A.F.T, .int .i64 A.F.K, .int .i64 A.F.N, .int .i64 A.G, .int .i64 A.V, .int .i64 A.L][j]? := fun j hj => by
    rw [((Kept.refl (w.alloc (.cells #[.int .i64 A.F.T, .int .i64 A.F.K, .int .i64 A.F.N, .int .i64 A.G, .int .i64 A.V, .int .i64 A.L] 25))).alloc _ _).cell w.heap.size j (by simp), cell_new _ _ _ _ _ rfl]
  have z1 := z 1 (by omega)
  have z2 := z 2 (by omega)
  have z3 := z 3 (by omega)
  simp only [List.getElem?_toArray, List.getElem?_cons_zero, List.getElem?_cons_succ] at z1 z2 z3
  have own0 : ((w.alloc (.cells #[.int .i64 A.F.T, .int .i64 A.F.K, .int .i64 A.F.N, .int .i64 A.G, .int .i64 A.V, .int .i64 A.L] 25)).alloc (.cells #[.int .i64 A.F.T, .int .i64 A.V] 3)).ownsRow (w.heap.size + 1) 3 1 (.slice (some ⟨w.heap.size + 1, 0, none⟩) 2 2) 2 (ints (cL A 0)) := by
    have := World.ownsRow_lit (base := w.heap.size + 1) (e := 3) (size := 1) (w.alloc (.cells #[.int .i64 A.F.T, .int .i64 A.F.K, .int .i64 A.F.N, .int .i64 A.G, .int .i64 A.V, .int .i64 A.L] 25)) #[.int .i64 A.F.T, .int .i64 A.V] 2 (by simp) (by unfold maxLen; omega) rfl
    simpa [ints, cL] using this
  have hz9 : w.heap.size + 1 ≤ ((w.alloc (.cells #[.int .i64 A.F.T, .int .i64 A.F.K, .int .i64 A.F.N, .int .i64 A.G, .int .i64 A.V, .int .i64 A.L] 25)).alloc (.cells #[.int .i64 A.F.T, .int .i64 A.V] 3)).heap.size := by simp
  generalize (w.alloc (.cells #[.int .i64 A.F.T, .int .i64 A.F.K, .int .i64 A.F.N, .int .i64 A.G, .int .i64 A.V, .int .i64 A.L] 25)).alloc (.cells #[.int .i64 A.F.T, .int .i64 A.V] 3) = v0 at *
  obtain ⟨m, hmm⟩ : ∃ m : Nat, (m : Int) = A.F.N := ⟨A.F.N.toNat, by omega⟩
  have HMM := Lib.hid hmm
  have OW0 := Lib.hid own0
  have Z9 := Lib.hid hz9
  clear z hmm own0 hz9
  go_loopw [3, 4] (fun o i wr => ∃ k : Nat, k ≤ m ∧ i = .int .i64 k ∧ ∃ a2 c2, o = .slice a2 (2 + 2 * k) c2 ∧ wr.ownsRow (w.heap.size + 1) 3 1 (.slice a2 (2 + 2 * k) c2) (2 + 2 * k) (ints (cL A k)) ∧ But (fun b => w.heap.size + 1 ≤ b) v0 wr) (fun _ i _ => m - (intOf i).toNat)
  case atStart => exact ⟨0, Nat.zero_le _, rfl, some ⟨w.heap.size + 1, 0, none⟩, 2, rfl, OW0.out, But.refl _ _⟩
  case round =>
    obtain ⟨k, hk, rfl, a2, c2, rfl, own2, br⟩ := hrel
    have e1 := br.some z1 (by omega)
    have e2 := br.some z2 (by omega)
    have e3 := br.some z3 (by omega)
    have OW := Lib.hid own2
    have BR := Lib.hid br
    have hmm := HMM.out
    have hzr : Hid (w.heap.size + 1 ≤ _) := Lib.hid (Nat.le_trans Z9.out br.size)
    clear own2 br z1 z2 z3
    by_cases hlt : k < m
    · have hl : (k : Int) < A.F.N := by omega
      have hk2 : k ≤ 4096 := by omega
      clear hmm
      go_wp2_with (at_builtin; refine wpList_append_any _ rfl _ _ _ rfl (w.heap.size + 1) 3 i0 _ 1 8 Tryz.underlying59 hi0 hz0 hz1 hz2 (by rfl) (by decide) (.slice a2 (2 + 2 * k) c2) (2 + 2 * k) (ints (cL A k)) (by simp [Act.eval, Act.put]) (own_same OW.out (fun g hg => ((Kept.refl _).alloc _ _).below.block g (OW.out.lt g hg).2)) _ 2 (ints [A.F.K + k, wrap64 (A.G + k)]) (by simp [Act.eval, Act.put]) (by rfl) (lies_int2 (heap_alloc_new _ _)) (ints_one _) (by unfold maxLen; omega) (by omega) (by have := hzr.out; simp; omega) ?_; intro a4 c4 w4 own4 but4 at4)
      go_roundw
      case rel =>
        refine ⟨k + 1, by omega, by go_num, a4, c4, by rw [show 2 + 2 * (k + 1) = 2 + 2 * k + 2 by omega], ?_, ?_⟩
        · rw [show 2 + 2 * (k + 1) = 2 + 2 * k + 2 by omega]
          show World.ownsRow _ _ _ _ _ _ (ints (cL A k ++ [A.F.K + k, wrap64 (A.G + k)]))
          rw [ints_append]
          exact own4
        · exact (BR.out.then ((Kept.refl _).alloc _ _)).trans but4 (fun b hb e => (OW.out.lt b e).1)
      case measure => simp [intOf]; omega
    · have hkm : k = m := by omega
      have hl : A.F.N ≤ (k : Int) := by omega
      have HK := Lib.hid hkm
      clear hmm hkm
      go_wp2
      go_ret
      have hm2 := HMM.out
      have hk2 : k = A.F.N.toNat := by rw [HK.out]; omega
      rcases OW.out.2 with ⟨h1, h2⟩ | ⟨g', cap, cur, h1, _, _, hcc, _⟩
      · omega
      · cases h1
        rcases own_lies OW.out with ⟨h1, h2, _⟩ | ⟨g, o, c', h1, h2, h3, h4⟩
        · omega
        · cases h1
          refine ⟨g', c2, by rw [← hk2]; rfl, by rw [← hk2]; omega, fun i hi => ?_, ((hv.out.but (fun b => w.heap.size + 1 ≤ b)).trans BR.out (fun _ _ h => h)).kept (fun k hk h => by omega)⟩
          have := h4 i _ (ints_get _ _ _ (cL_get A k i (by rw [hk2]; exact hi)))
          simpa using this
end Go.Proofs.YtbonnfofoepjcaaGreat.Sk

namespace Go.Proofs.YtbonnfofoepjcaaGreat.Sk
set_option maxRecDepth 20000
open Go.RowKit
open Wo (St acc wordAt PMem RefIs)
set_option maxHeartbeats 1000000 in
theorem rA_n1 (A : Arn) (n : Int) (w : World) (h0 : n < 1) : Calls Tryz.prog 12 #[.agg #[.int .i64 A.F.T, .int .i64 A.F.K, .int .i64 A.F.N, .int .i64 A.G, .int .i64 A.V, .int .i64 A.L], .int .i64 n] w fun e w' => e = .returned (.int .i64 3) ∧ Kept w w' := by
  go_enter Tryz.func12, Tryz.ntmps12
  go_wp2
  go_ret
  exact ⟨rfl, by (go_light; repeat (first | (with_reducible exact Kept.refl _) | (with_reducible assumption) | (with_reducible refine Kept.alloc ?_ _ _) | (with_reducible refine Kept.drew ?_) | (with_reducible refine Kept.drewN ?_ _) | ((with_reducible refine Kept.setCell ?_ ?_ _); rotate_left; focus (first | (simp; done) | (simp; omega))) | refine Kept.trans ?_ (by assumption)))⟩
set_option maxHeartbeats 1000000 in
theorem rA_n2 (A : Arn) (n : Int) (w : World) (h0 : 1 ≤ n) (h1 : 4096 < n) : Calls Tryz.prog 12 #[.agg #[.int .i64 A.F.T, .int .i64 A.F.K, .int .i64 A.F.N, .int .i64 A.G, .int .i64 A.V, .int .i64 A.L], .int .i64 n] w fun e w' => e = .returned (.int .i64 3) ∧ Kept w w' := by
  go_enter Tryz.func12, Tryz.ntmps12
  go_wp2
  go_ret
  exact ⟨rfl, by (go_light; repeat (first | (with_reducible exact Kept.refl _) | (with_reducible assumption) | (with_reducible refine Kept.alloc ?_ _ _) | (with_reducible refine Kept.drew ?_) | (with_reducible refine Kept.drewN ?_ _) | ((with_reducible refine Kept.setCell ?_ ?_ _); rotate_left; focus (first | (simp; done) | (simp; omega))) | refine Kept.trans ?_ (by assumption)))⟩
set_option maxHeartbeats 1000000 in
theorem rA_err (A : Arn) (n : Int) (w : World) (h0 : 1 ≤ n) (h1 : n ≤ 4096) (x : Int) (hx : fitsE A.F n = x) (hb : (x != 0) = true) : Calls Tryz.prog 12 #[.agg #[.int .i64 A.F.T, .int .i64 A.F.K, .int .i64 A.F.N, .int .i64 A.G, .int .i64 A.V, .int .i64 A.L], .int .i64 n] w fun e w' => e = .returned (.int .i64 2) ∧ Kept w w' := by
  have HF : ∀ W, Hid (Calls Tryz.prog 57 #[.agg #[.int .i64 A.F.T, .int .i64 A.F.K, .int .i64 A.F.N], .int .i64 n] W fun e w' => e = .returned (.int .i64 x) ∧ Kept W w') := fun W => Lib.hid (by rw [← hx]; exact rfits_any A.F n W)
  clear hx
  go_enter Tryz.func12, Tryz.ntmps12
  go_wp2_with fail
  refine (HF _).out.mono ?_
  rintro e w1 ⟨rfl, k1⟩
  have K1 : Kept w w1 := Kept.trans (b := _) (by (go_light; repeat (first | (with_reducible exact Kept.refl _) | (with_reducible assumption) | (with_reducible refine Kept.alloc ?_ _ _) | (with_reducible refine Kept.drew ?_) | (with_reducible refine Kept.drewN ?_ _) | ((with_reducible refine Kept.setCell ?_ ?_ _); rotate_left; focus (first | (simp; done) | (simp; omega))) | refine Kept.trans ?_ (by assumption)))) k1
  have c0 := k1.some (cell_new w #[.int .i64 A.F.T, .int .i64 A.F.K, .int .i64 A.F.N, .int .i64 A.G, .int .i64 A.V, .int .i64 A.L] 25 w.heap.size 0 rfl)
  have c1 := k1.some (cell_new w #[.int .i64 A.F.T, .int .i64 A.F.K, .int .i64 A.F.N, .int .i64 A.G, .int .i64 A.V, .int .i64 A.L] 25 w.heap.size 1 rfl)
  have c2 := k1.some (cell_new w #[.int .i64 A.F.T, .int .i64 A.F.K, .int .i64 A.F.N, .int .i64 A.G, .int .i64 A.V, .int .i64 A.L] 25 w.heap.size 2 rfl)
  have c3 := k1.some (cell_new w #[.int .i64 A.F.T, .int .i64 A.F.K, .int .i64 A.F.N, .int .i64 A.G, .int .i64 A.V, .int .i64 A.L] 25 w.heap.size 3 rfl)
  have c4 := k1.some (cell_new w #[.int .i64 A.F.T, .int .i64 A.F.K, .int .i64 A.F.N, .int .i64 A.G, .int .i64 A.V, .int .i64 A.L] 25 w.heap.size 4 rfl)
  have c5 := k1.some (cell_new w #[.int .i64 A.F.T, .int .i64 A.F.K, .int .i64 A.F.N, .int .i64 A.G, .int .i64 A.V, .int .i64 A.L] 25 w.heap.size 5 rfl)
  go_wp2
  go_ret
  exact ⟨rfl, by (go_light; repeat (first | (with_reducible exact Kept.refl _) | (with_reducible assumption) | (with_reducible refine Kept.alloc ?_ _ _) | (with_reducible refine Kept.drew ?_) | (with_reducible refine Kept.drewN ?_ _) | ((with_reducible refine Kept.setCell ?_ ?_ _); rotate_left; focus (first | (simp; done) | (simp; omega))) | refine Kept.trans ?_ (by assumption)))⟩
set_option maxHeartbeats 1000000 in
theorem rA_L1 (A : Arn) (n : Int) (w : World) (h0 : 1 ≤ n) (h1 : n ≤ 4096) (hx : fitsE A.F n = 0) (hL : A.L < 1) : Calls Tryz.prog 12 #[.agg #[.int .i64 A.F.T, .int .i64 A.F.K, .int .i64 A.F.N, .int .i64 A.G, .int .i64 A.V, .int .i64 A.L], .int .i64 n] w fun e w' => e = .returned (.int .i64 2) ∧ Kept w w' := by
  have HF : ∀ W, Hid (Calls Tryz.prog 57 #[.agg #[.int .i64 A.F.T, .int .i64 A.F.K, .int .i64 A.F.N], .int .i64 n] W fun e w' => e = .returned (.int .i64 0) ∧ Kept W w') := fun W => Lib.hid (by rw [← hx]; exact rfits_any A.F n W)
  clear hx
  go_enter Tryz.func12, Tryz.ntmps12
  go_wp2_with fail
  refine (HF _).out.mono ?_
  rintro e w1 ⟨rfl, k1⟩
  have K1 : Kept w w1 := Kept.trans (b := _) (by (go_light; repeat (first | (with_reducible exact Kept.refl _) | (with_reducible assumption) | (with_reducible refine Kept.alloc ?_ _ _) | (with_reducible refine Kept.drew ?_) | (with_reducible refine Kept.drewN ?_ _) | ((with_reducible refine Kept.setCell ?_ ?_ _); rotate_left; focus (first | (simp; done) | (simp; omega))) | refine Kept.trans ?_ (by assumption)))) k1
  have c0 := k1.some (cell_new w #[.int .i64 A.F.T, .int .i64 A.F.K, .int .i64 A.F.N, .int .i64 A.G, .int .i64 A.V, .int .i64 A.L] 25 w.heap.size 0 rfl)
  have c1 := k1.some (cell_new w #[.int .i64 A.F.T, .int .i64 A.F.K, .int .i64 A.F.N, .int .i64 A.G, .int .i64 A.V, .int .i64 A.L] 25 w.heap.size 1 rfl)
  have c2 := k1.some (cell_new w #[.int .i64 A.F.T, .int .i64 A.F.K, .int .i64 A.F.N, .int .i64 A.G, .int .i64 A.V, .int .i64 A.L] 25 w.heap.size 2 rfl)
  have c3 := k1.some (cell_new w #[.int .i64 A.F.T, .int .i64 A.F.K, .int .i64 A.F.N, .int .i64 A.G, .int .i64 A.V, .int .i64 A.L] 25 w.heap.size 3 rfl)
  have c4 := k1.some (cell_new w #[.int .i64 A.F.T, .int .i64 A.F.K, .int .i64 A.F.N, .int .i64 A.G, .int .i64 A.V, .int .i64 A.L] 25 w.heap.size 4 rfl)
  have c5 := k1.some (cell_new w #[.int .i64 A.F.T, .int .i64 A.F.K, .int .i64 A.F.N, .int .i64 A.G, .int .i64 A.V, .int .i64 A.L] 25 w.heap.size 5 rfl)
  go_wp2
  go_ret
  exact ⟨rfl, by (go_light; repeat (first | (with_reducible exact Kept.refl _) | (with_reducible assumption) | (with_reducible refine Kept.alloc ?_ _ _) | (with_reducible refine Kept.drew ?_) | (with_reducible refine Kept.drewN ?_ _) | ((with_reducible refine Kept.setCell ?_ ?_ _); rotate_left; focus (first | (simp; done) | (simp; omega))) | refine Kept.trans ?_ (by assumption)))⟩
set_option maxHeartbeats 1000000 in
theorem rA_L2 (A : Arn) (n : Int) (w : World) (h0 : 1 ≤ n) (h1 : n ≤ 4096) (hx : fitsE A.F n = 0) (hL0 : 1 ≤ A.L) (hL : 4294967295 < A.L) : Calls Tryz.prog 12 #[.agg #[.int .i64 A.F.T, .int .i64 A.F.K, .int .i64 A.F.N, .int .i64 A.G, .int .i64 A.V, .int .i64 A.L], .int .i64 n] w fun e w' => e = .returned (.int .i64 2) ∧ Kept w w' := by
  have HF : ∀ W, Hid (Calls Tryz.prog 57 #[.agg #[.int .i64 A.F.T, .int .i64 A.F.K, .int .i64 A.F.N], .int .i64 n] W fun e w' => e = .returned (.int .i64 0) ∧ Kept W w') := fun W => Lib.hid (by rw [← hx]; exact rfits_any A.F n W)
  clear hx
  go_enter Tryz.func12, Tryz.ntmps12
  go_wp2_with fail
  refine (HF _).out.mono ?_
  rintro e w1 ⟨rfl, k1⟩
  have K1 : Kept w w1 := Kept.trans (b := _) (by (go_light; repeat (first | (with_reducible exact Kept.refl _) | (with_reducible assumption) | (with_reducible refine Kept.alloc ?_ _ _) | (with_reducible refine Kept.drew ?_) | (with_reducible refine Kept.drewN ?_ _) | ((with_reducible refine Kept.setCell ?_ ?_ _); rotate_left; focus (first | (simp; done) | (simp; omega))) | refine Kept.trans ?_ (by assumption)))) k1
  have c0 := k1.some (cell_new w #[.int .i64 A.F.T, .int .i64 A.F.K, .int .i64 A.F.N, .int .i64 A.G, .int .i64 A.V, .int .i64 A.L] 25 w.heap.size 0 rfl)
  have c1 := k1.some (cell_new w #[.int .i64 A.F.T, .int .i64 A.F.K, .int .i64 A.F.N, .int .i64 A.G, .int .i64 A.V, .int .i64 A.L] 25 w.heap.size 1 rfl)
  have c2 := k1.some (cell_new w #[.int .i64 A.F.T, .int .i64 A.F.K, .int .i64 A.F.N, .int .i64 A.G, .int .i64 A.V, .int .i64 A.L] 25 w.heap.size 2 rfl)
  have c3 := k1.some (cell_new w #[.int .i64 A.F.T, .int .i64 A.F.K, .int .i64 A.F.N, .int .i64 A.G, .int .i64 A.V, .int .i64 A.L] 25 w.heap.size 3 rfl)
  have c4 := k1.some (cell_new w #[.int .i64 A.F.T, .int .i64 A.F.K, .int .i64 A.F.N, .int .i64 A.G, .int .i64 A.V, .int .i64 A.L] 25 w.heap.size 4 rfl)
  have c5 := k1.some (cell_new w #[.int .i64 A.F.T, .int .i64 A.F.K, .int .i64 A.F.N, .int .i64 A.G, .int .i64 A.V, .int .i64 A.L] 25 w.heap.size 5 rfl)
  go_wp2
  go_ret
  exact ⟨rfl, by (go_light; repeat (first | (with_reducible exact Kept.refl _) | (with_reducible assumption) | (with_reducible refine Kept.alloc ?_ _ _) | (with_reducible refine Kept.drew ?_) | (with_reducible refine Kept.drewN ?_ _) | ((with_reducible refine Kept.setCell ?_ ?_ _); rotate_left; focus (first | (simp; done) | (simp; omega))) | refine Kept.trans ?_ (by assumption)))⟩
set_option maxHeartbeats 1000000 in
theorem rA_no (A : Arn) (n : Int) (w : World) (h0 : 1 ≤ n) (h1 : n ≤ 4096) (hx : fitsE A.F n = 0) (L1 : 1 ≤ A.L) (L2 : A.L ≤ 4294967295) (hb : apB (fC A) n (2 + 2 * A.F.N.toNat) = false) : Calls Tryz.prog 12 #[.agg #[.int .i64 A.F.T, .int .i64 A.F.K, .int .i64 A.F.N, .int .i64 A.G, .int .i64 A.V, .int .i64 A.L], .int .i64 n] w fun e w' => e = .returned (.int .i64 2) ∧ Kept w w' := by
  obtain ⟨hS, _, _⟩ := fitsE_ok hx
  have N1 := hS.N1
  have N2 := hS.N2
  have K1 := hS.K1
  have K2 := hS.K2
  have hn2 := hS.n2
  have HF : ∀ W, Hid (Calls Tryz.prog 57 #[.agg #[.int .i64 A.F.T, .int .i64 A.F.K, .int .i64 A.F.N], .int .i64 n] W fun e w' => e = .returned (.int .i64 0) ∧ Kept W w') := fun W => Lib.hid (by rw [← hx]; exact rfits_any A.F n W)
  have HC : ∀ W, Hid (Calls Tryz.prog 59 #[.agg #[.int .i64 A.F.T, .int .i64 A.F.K, .int .i64 A.F.N, .int .i64 A.G, .int .i64 A.V, .int .i64 A.L]] W (CellsP A W)) := fun W => Lib.hid (cellsOf_any A W N1 N2 K1 (by omega))
  have HP : ∀ W g c, 2 + 2 * A.F.N.toNat ≤ c → (∀ i, i < 2 + 2 * A.F.N.toNat → W.cell? ⟨g, i, none⟩ = some (.int .i64 (fC A i))) → Hid (Calls Tryz.prog 58 #[.slice (some ⟨g, 0, none⟩) (2 + 2 * A.F.N.toNat) c, .int .i64 n] W fun e w' => e = .returned (.bool false) ∧ Kept W w') := fun W g c h1 h2 => Lib.hid (by rw [← hb]; exact apartAt g c _ (fC A) n W (by omega) h1 h2)
  clear hx hS hb N1 N2 K1 K2 hn2
  go_enter Tryz.func12, Tryz.ntmps12
  go_wp2_with fail
  refine (HF _).out.mono ?_
  rintro e w1 ⟨rfl, k1⟩
  have K1 := Lib.hid (Kept.trans (b := _) (show Kept w _ by (go_light; repeat (first | (with_reducible exact Kept.refl _) | (with_reducible assumption) | (with_reducible refine Kept.alloc ?_ _ _) | (with_reducible refine Kept.drew ?_) | (with_reducible refine Kept.drewN ?_ _) | ((with_reducible refine Kept.setCell ?_ ?_ _); rotate_left; focus (first | (simp; done) | (simp; omega))) | refine Kept.trans ?_ (by assumption)))) k1)
  have c0 := k1.some (cell_new w #[.int .i64 A.F.T, .int .i64 A.F.K, .int .i64 A.F.N, .int .i64 A.G, .int .i64 A.V, .int .i64 A.L] 25 w.heap.size 0 rfl)
  have c1 := k1.some (cell_new w #[.int .i64 A.F.T, .int .i64 A.F.K, .int .i64 A.F.N, .int .i64 A.G, .int .i64 A.V, .int .i64 A.L] 25 w.heap.size 1 rfl)
  have c2 := k1.some (cell_new w #[.int .i64 A.F.T, .int .i64 A.F.K, .int .i64 A.F.N, .int .i64 A.G, .int .i64 A.V, .int .i64 A.L] 25 w.heap.size 2 rfl)
  have c3 := k1.some (cell_new w #[.int .i64 A.F.T, .int .i64 A.F.K, .int .i64 A.F.N, .int .i64 A.G, .int .i64 A.V, .int .i64 A.L] 25 w.heap.size 3 rfl)
  have c4 := k1.some (cell_new w #[.int .i64 A.F.T, .int .i64 A.F.K, .int .i64 A.F.N, .int .i64 A.G, .int .i64 A.V, .int .i64 A.L] 25 w.heap.size 4 rfl)
  have c5 := k1.some (cell_new w #[.int .i64 A.F.T, .int .i64 A.F.K, .int .i64 A.F.N, .int .i64 A.G, .int .i64 A.V, .int .i64 A.L] 25 w.heap.size 5 rfl)
  clear k1
  go_wp2_with fail
  refine (HC _).out.mono ?_
  rintro e w2 ⟨g, c, rfl, hgc, hg, k2⟩
  have HP2 := HP _ g c hgc hg
  have K2 := Lib.hid (K1.out.trans k2)
  have d0 := k2.some c0
  have d1 := k2.some c1
  have d2 := k2.some c2
  have d3 := k2.some c3
  have d4 := k2.some c4
  have d5 := k2.some c5
  clear k2 hg HP
  go_wp2_with fail
  refine HP2.out.mono ?_
  rintro e w3 ⟨rfl, k3⟩
  have K3 : Kept w w3 := K2.out.trans k3
  go_wp2
  go_ret
  exact ⟨rfl, by (go_light; repeat (first | (with_reducible exact Kept.refl _) | (with_reducible assumption) | (with_reducible refine Kept.alloc ?_ _ _) | (with_reducible refine Kept.drew ?_) | (with_reducible refine Kept.drewN ?_ _) | ((with_reducible refine Kept.setCell ?_ ?_ _); rotate_left; focus (first | (simp; done) | (simp; omega))) | refine Kept.trans ?_ (by assumption)))⟩
set_option maxHeartbeats 1000000 in
theorem rA_ok (A : Arn) (n : Int) (w : World) (h0 : 1 ≤ n) (h1 : n ≤ 4096) (hx : fitsE A.F n = 0) (L1 : 1 ≤ A.L) (L2 : A.L ≤ 4294967295) (hb : apB (fC A) n (2 + 2 * A.F.N.toNat) = true) : Calls Tryz.prog 12 #[.agg #[.int .i64 A.F.T, .int .i64 A.F.K, .int .i64 A.F.N, .int .i64 A.G, .int .i64 A.V, .int .i64 A.L], .int .i64 n] w fun e w' => e = .returned (.int .i64 0) ∧ Kept w w' := by
  obtain ⟨hS, _, _⟩ := fitsE_ok hx
  have N1 := hS.N1
  have N2 := hS.N2
  have K1 := hS.K1
  have K2 := hS.K2
  have hn2 := hS.n2
  have HF : ∀ W, Hid (Calls Tryz.prog 57 #[.agg #[.int .i64 A.F.T, .int .i64 A.F.K, .int .i64 A.F.N], .int .i64 n] W fun e w' => e = .returned (.int .i64 0) ∧ Kept W w') := fun W => Lib.hid (by rw [← hx]; exact rfits_any A.F n W)
  have HC : ∀ W, Hid (Calls Tryz.prog 59 #[.agg #[.int .i64 A.F.T, .int .i64 A.F.K, .int .i64 A.F.N, .int .i64 A.G, .int .i64 A.V, .int .i64 A.L]] W (CellsP A W)) := fun W => Lib.hid (cellsOf_any A W N1 N2 K1 (by omega))
  have HP : ∀ W g c, 2 + 2 * A.F.N.toNat ≤ c → (∀ i, i < 2 + 2 * A.F.N.toNat → W.cell? ⟨g, i, none⟩ = some (.int .i64 (fC A i))) → Hid (Calls Tryz.prog 58 #[.slice (some ⟨g, 0, none⟩) (2 + 2 * A.F.N.toNat) c, .int .i64 n] W fun e w' => e = .returned (.bool true) ∧ Kept W w') := fun W g c h1 h2 => Lib.hid (by rw [← hb]; exact apartAt g c _ (fC A) n W (by omega) h1 h2)
  clear hx hS hb N1 N2 K1 K2 hn2
  go_enter Tryz.func12, Tryz.ntmps12
  go_wp2_with fail
  refine (HF _).out.mono ?_
  rintro e w1 ⟨rfl, k1⟩
  have K1 := Lib.hid (Kept.trans (b := _) (show Kept w _ by (go_light; repeat (first | (with_reducible exact Kept.refl _) | (with_reducible assumption) | (with_reducible refine Kept.alloc ?_ _ _) | (with_reducible refine Kept.drew ?_) | (with_reducible refine Kept.drewN ?_ _) | ((with_reducible refine Kept.setCell ?_ ?_ _); rotate_left; focus (first | (simp; done) | (simp; omega))) | refine Kept.trans ?_ (by assumption)))) k1)
  have c0 := k1.some (cell_new w #[.int .i64 A.F.T, .int .i64 A.F.K, .int .i64 A.F.N, .int .i64 A.G, .int .i64 A.V, .int .i64 A.L] 25 w.heap.size 0 rfl)
  have c1 := k1.some (cell_new w #[.int .i64 A.F.T, .int .i64 A.F.K, .int .i64 A.F.N, .int .i64 A.G, .int .i64 A.V, .int .i64 A.L] 25 w.heap.size 1 rfl)
  have c2 := k1.some (cell_new w #[.int .i64 A.F.T, .int .i64 A.F.K, .int .i64 A.F.N, .int .i64 A.G, .int .i64 A.V, .int .i64 A.L] 25 w.heap.size 2 rfl)
  have c3 := k1.some (cell_new w #[.int .i64 A.F.T, .int .i64 A.F.K, .int .i64 A.F.N, .int .i64 A.G, .int .i64 A.V, .int .i64 A.L] 25 w.heap.size 3 rfl)
  have c4 := k1.some (cell_new w #[.int .i64 A.F.T, .int .i64 A.F.K, .int .i64 A.F.N, .int .i64 A.G, .int .i64 A.V, .int .i64 A.L] 25 w.heap.size 4 rfl)
  have c5 := k1.some (cell_new w #[.int .i64 A.F.T, .int .i64 A.F.K, .int .i64 A.F.N, .int .i64 A.G, .int .i64 A.V, .int .i64 A.L] 25 w.heap.size 5 rfl)
  clear k1
  go_wp2_with fail
  refine (HC _).out.mono ?_
  rintro e w2 ⟨g, c, rfl, hgc, hg, k2⟩
  have HP2 := HP _ g c hgc hg
  have K2 := Lib.hid (K1.out.trans k2)
  have d0 := k2.some c0
  have d1 := k2.some c1
  have d2 := k2.some c2
  have d3 := k2.some c3
  have d4 := k2.some c4
  have d5 := k2.some c5
  clear k2 hg HP
  go_wp2_with fail
  refine HP2.out.mono ?_
  rintro e w3 ⟨rfl, k3⟩
  have K3 : Kept w w3 := K2.out.trans k3
  go_wp2
  go_ret
  exact ⟨rfl, by (go_light; repeat (first | (with_reducible exact Kept.refl _) | (with_reducible assumption) | (with_reducible refine Kept.alloc ?_ _ _) | (with_reducible refine Kept.drew ?_) | (with_reducible refine Kept.drewN ?_ _) | ((with_reducible refine Kept.setCell ?_ ?_ _); rotate_left; focus (first | (simp; done) | (simp; omega))) | refine Kept.trans ?_ (by assumption)))⟩

theorem rfitsA_any (A : Arn) (n : Int) (w : World) (hG : -9223372036854775808 ≤ A.G ∧ A.G ≤ 9223372036854775807) (hV : -9223372036854775808 ≤ A.V ∧ A.V ≤ 9223372036854775807) : Calls Tryz.prog 12 #[.agg #[.int .i64 A.F.T, .int .i64 A.F.K, .int .i64 A.F.N, .int .i64 A.G, .int .i64 A.V, .int .i64 A.L], .int .i64 n] w fun e w' => e = .returned (.int .i64 (fitsA A n)) ∧ Kept w w' := by
  by_cases h0 : n < 1
  · have e : fitsA A n = 3 := by
      have : fitsE A.F n = 3 := by unfold fitsE; rw [if_pos (by omega)]
      unfold fitsA; rw [if_pos (by omega), this]
    rw [e]; exact rA_n1 A n w h0
  by_cases h1 : 4096 < n
  · have e : fitsA A n = 3 := by
      have : fitsE A.F n = 3 := by unfold fitsE; rw [if_pos (by omega)]
      unfold fitsA; rw [if_pos (by omega), this]
    rw [e]; exact rA_n2 A n w (by omega) h1
  by_cases h : fitsE A.F n = 0
  · have e0 : ∀ {v : Int}, (badA A n → v = 2) → (¬ badA A n → v = 0) → fitsA A n = v := fun {v} h1 h2 => by
      unfold fitsA
      rw [if_neg (by omega)]
      by_cases hb : badA A n
      · rw [if_pos hb, h1 hb]
      · rw [if_neg hb, h2 hb]
    have E2 : badA A n → fitsA A n = 2 := fun hb => e0 (fun _ => rfl) (fun h => absurd hb h)
    have E0 : ¬ badA A n → fitsA A n = 0 := fun hb => e0 (fun h => absurd h hb) (fun _ => rfl)
    by_cases l1 : A.L < 1
    · rw [E2 (by unfold badA; omega)]; exact rA_L1 A n w (by omega) (by omega) h l1
    by_cases l2 : 4294967295 < A.L
    · rw [E2 (by unfold badA; omega)]; exact rA_L2 A n w (by omega) (by omega) h (by omega) l2
    obtain ⟨hS, _, _⟩ := fitsE_ok h
    have ha := fits_apart A n hS (by omega) (by omega) hG hV (by omega) (by omega)
    by_cases hb : badA A n
    · rw [E2 hb]
      exact rA_no A n w (by omega) (by omega) h (by omega) (by omega) (by rw [← Bool.not_eq_true, ha]; exact fun k => k hb)
    · rw [E0 hb]
      exact rA_ok A n w (by omega) (by omega) h (by omega) (by omega) (ha.2 hb)
  · have e : fitsA A n = fitsE A.F n := by unfold fitsA; rw [if_pos h]
    have e2 : fitsE A.F n = 2 := by
      have := fitsE_is A.F n
      have h3 : fitsE A.F n ≠ 3 := by
        unfold fitsE
        rw [if_neg (by omega)]
        split <;> decide
      omega
    rw [e, e2]
    exact rA_err A n w (by omega) (by omega) _ rfl (by simpa using h)
end Go.Proofs.YtbonnfofoepjcaaGreat.Sk
