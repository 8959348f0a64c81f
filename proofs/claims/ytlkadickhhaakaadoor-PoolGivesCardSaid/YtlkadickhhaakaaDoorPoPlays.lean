/- PoolPlays. -/
import Derived.Test.YtlkadickhhaakaaDoorPoAwake
namespace Go.Proofs.YtlkadickhhaakaaDoor
open Go.RowKit

/-- Answers and ints never lie in one block. -/
theorem own_apart {W : World} {b1 b2 : Nat} {v1 v2 : Value} {n1 n2 : Nat} {x1 x2 : List Value} (h1 : W.ownsRow b1 28 3 v1 n1 x1) (h2 : W.ownsRow b2 3 1 v2 n2 x2) (g : Nat) (hg : v2.ownBlock = some g) : ¬ v1.ownBlock = some g := by
  intro hg'
  rcases h2.2 with ⟨hv, _⟩ | ⟨g1, cap, cur, hv, _, hh, _⟩
  · rw [hv] at hg; cases hg
  · rcases h1.2 with ⟨hv', _⟩ | ⟨g2, cap', cur', hv', _, hh', _⟩
    · rw [hv'] at hg'; cases hg'
    · rw [hv] at hg; rw [hv'] at hg'
      have e1 : g1 = g := by simpa [Value.ownBlock] using hg
      have e2 : g2 = g := by simpa [Value.ownBlock] using hg'
      subst e1; subst e2
      rw [hh] at hh'
      simp at hh'
theorem plA_len (z : Int) (l : List Opn) : (plA z l).length ≤ l.length := by
  unfold plA; split
  · simp
  · rw [playA_length]; exact Nat.le_refl _
theorem plQ_len (z : Int) (l : List Opn) : (plQ z l).length ≤ 1024 := by
  unfold plQ; split
  · simp
  · exact memI_len _
theorem sameO_n {w : World} {a b : Option Addr} {c d n m : Nat} {l : List Opn} (h : Lay w (.slice a n c) n (flatO l)) (h' : Lay w (.slice b m d) m (flatO l)) (hn : n = l.length) (hm : m = l.length) (hl : n ≤ 100000) :
    Calls Tryd.prog 25 #[.slice a n c, .slice b m d] w fun e w' => e = .returned (.bool true) ∧ Kept w w' := by
  subst hn; subst hm; exact sameOps_yes h h' (by omega)

set_option maxRecDepth 100000 in
set_option maxHeartbeats 8000000 in
theorem plays_any {w : World} {a : Option Addr} {n c : Nat} (z : Int) (h : ∃ l : List Opn, l.length = n ∧ Lay w (.slice a n c) n (flatO l)) (hT : Tab w) :
    Calls Tryd.prog 4 #[.int .i64 z, .slice a n c] w fun e w' => e = .returned (.bool true) ∧ Kept w w' := by
  obtain ⟨l, hn, hl⟩ := h
  have hn := hn.symm
  have T := Lib.hid hT
  by_cases hlong : 60 < n
  · have i1 : (n : Int) > 60 := by omega
    clear hl hn hT hlong
    go_enter Tryd.func4, Tryd.ntmps4
    go_wp2_with fail; refine (awake_any _ T.out).mono ?_; rintro e v1 ⟨rfl, k1⟩
    go_wp2
    go_ret
    exact ⟨rfl, k1⟩
  · have i1 : ¬ ((n : Int) > 60) := by omega
    have HL := Lib.hid hl
    have HN := Lib.hid hn
    have CO := Lib.hid (show Calls Tryd.prog 22 #[.slice a n c] w fun e w' => ∃ a c, e = .returned (.slice a n c) ∧ Kept w w' ∧ Lay w' (.slice a n c) n (flatO l) ∧ (∀ g, (Value.slice a n c).ownBlock = some g → g < w'.heap.size) by
      subst hn
      exact (copyOps_any hl (by omega)).mono fun e w' hh => by
        obtain ⟨a, c, h1, h2, h3⟩ := hh
        exact ⟨a, c, h1, h2, (own_lies h3).lay, fun g hg => (h3.lt g hg).2⟩)
    have lA := Lib.hid (plA_len z l)
    have lQ := Lib.hid (plQ_len z l)
    have hn60 : n ≤ 60 := by omega
    clear hl hn hT hlong
    go_enter Tryd.func4, Tryd.ntmps4
    go_wp2_with fail; refine CO.out.mono ?_; rintro e v1 ⟨a1, c1, rfl, k1, l1, b1⟩
    have K1 := Lib.hid k1
    have L1 := Lib.hid l1
    have B1 := Lib.hid b1
    clear k1 l1 b1
    go_wp2_with fail; refine (play_S L1.out HN.out (by omega) (T.out.kept K1.out) z).mono ?_; rintro e v2 ⟨a2, c2, b2, d2, rfl, k2, oa2, oi2⟩
    have K2 := Lib.hid k2
    have OA2 := Lib.hid oa2
    have OI2 := Lib.hid oi2
    clear k2 oa2 oi2
    go_wp2_with fail; refine (refPlay_S (HL.out.kept (K1.out.trans K2.out)) HN.out (by omega) z).mono ?_; rintro e v3 ⟨a3, c3, b3, d3, rfl, k3, oa3, oi3⟩
    have K3 := Lib.hid k3
    have OA3 := Lib.hid oa3
    have OI3 := Lib.hid oi3
    clear k3 oa3 oi3
    go_wp2_with fail; refine (sameA_n ((own_lies OA2.out).lay.kept K3.out) (own_lies OA3.out).lay rfl rfl (by have := lA.out; have := HN.out; omega)).mono ?_; rintro e v4 ⟨rfl, k4⟩
    have K4 := Lib.hid (K3.out.trans k4)
    have L4 := Lib.hid ((own_lies OI3.out).lay.kept k4)
    clear k4
    go_wp2_with fail; refine (same_n ((own_lies OI2.out).lay.kept K4.out) L4.out rfl rfl (by have := lQ.out; omega)).mono ?_; rintro e v5 ⟨rfl, k5⟩
    have K5 := Lib.hid (K4.out.trans k5)
    have OA5 := Lib.hid (own_kept OA2.out (K4.out.trans k5))
    have OI5 := Lib.hid (own_kept OI2.out (K4.out.trans k5))
    clear k5 L4
    go_wp2_with fail; refine (overAnswers_any OA5.out (by have := lA.out; have := HN.out; omega)).mono ?_; rintro e v6 ⟨rfl, b6⟩
    have OI6 := Lib.hid (own_but OI5.out b6 (own_apart OA5.out OI5.out))
    have B6 := Lib.hid b6
    clear b6
    go_wp2_with fail; refine (overInts_any OI6.out (by have := lQ.out; omega)).mono ?_; rintro e v7 ⟨rfl, b7⟩
    have B7 := Lib.hid b7
    clear b7
    have K7 := Lib.hid (show Kept v1 v7 from ((K2.out.trans K5.out).wrote B6.out (fun j hj => (OA5.out.lt j hj).1)).wrote B7.out (fun j hj => (OI6.out.lt j hj).1))
    go_wp2_with fail; refine (sameO_n (L1.out.kept K7.out) (HL.out.kept (K1.out.trans K7.out)) HN.out HN.out (by omega)).mono ?_; rintro e v8 ⟨rfl, k8⟩
    have K8 := Lib.hid ((K1.out.trans K7.out).trans k8)
    clear k8
    go_wp2_with fail; refine (awake_any _ (T.out.kept K8.out)).mono ?_; rintro e v9 ⟨rfl, k9⟩
    go_wp2
    go_ret
    exact ⟨rfl, K8.out.trans k9⟩
end Go.Proofs.YtlkadickhhaakaaDoor
