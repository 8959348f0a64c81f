/- The chapter's examples: alloc, free, next, one, awake. -/
import Derived.Test.YtlkadickhhaakaaDoorPoRefC
import Derived.WalkSpells
namespace Go.Proofs.YtlkadickhhaakaaDoor
open Go.RowKit

/-- The chapter's pool. -/
def exL : List Int := [1, 4, 5]
set_option maxHeartbeats 1000000 in
theorem allocOp_any (w : World) : Calls Tryd.prog 27 #[] w fun e w' => e = .returned (.agg #[.int .i64 7, .int .i64 0, .int .i64 0, .int .u64 0]) ∧ Kept w w' := by
  go_enter Tryd.func27, Tryd.ntmps27
  go_wp2
  exact bodyPost_ret (v := .agg #[.int .i64 7, .int .i64 0, .int .i64 0, .int .u64 0]) (by simp [results, Tryd.results27, go_sem]) rfl ⟨rfl, by (go_light; repeat (first | (with_reducible exact Kept.refl _) | (with_reducible assumption) | (with_reducible refine Kept.alloc ?_ _ _) | (with_reducible refine Kept.drew ?_) | (with_reducible refine Kept.drewN ?_ _) | ((with_reducible refine Kept.setCell ?_ ?_ _); rotate_left; focus (first | (simp; done) | (simp; omega))) | refine Kept.trans ?_ (by assumption)))⟩
set_option maxHeartbeats 1000000 in
theorem freeOp_any (i : Int) (w : World) : Calls Tryd.prog 28 #[.int .i64 i] w fun e w' => e = .returned (.agg #[.int .i64 8, .int .i64 i, .int .i64 0, .int .u64 0]) ∧ Kept w w' := by
  go_enter Tryd.func28, Tryd.ntmps28
  go_wp2
  exact bodyPost_ret (v := .agg #[.int .i64 8, .int .i64 i, .int .i64 0, .int .u64 0]) (by simp [results, Tryd.results28, go_sem]) rfl ⟨rfl, by (go_light; repeat (first | (with_reducible exact Kept.refl _) | (with_reducible assumption) | (with_reducible refine Kept.alloc ?_ _ _) | (with_reducible refine Kept.drew ?_) | (with_reducible refine Kept.drewN ?_ _) | ((with_reducible refine Kept.setCell ?_ ?_ _); rotate_left; focus (first | (simp; done) | (simp; omega))) | refine Kept.trans ?_ (by assumption)))⟩
theorem same_n {w : World} {a b : Option Addr} {c d n m : Nat} {l : List Int} (h : Lay w (.slice a n c) n (ints l)) (h' : Lay w (.slice b m d) m (ints l)) (hn : n = l.length) (hm : m = l.length) (hl : n ≤ 100000) :
    Calls Tryd.prog 16 #[.slice a n c, .slice b m d] w fun e w' => e = .returned (.bool true) ∧ Kept w w' := by
  subst hn; subst hm; exact sameInts_yes h h' (by omega)
theorem sameA_n {w : World} {a b : Option Addr} {c d n m : Nat} {l : List Ann} (h : Lay w (.slice a n c) n (flatA l)) (h' : Lay w (.slice b m d) m (flatA l)) (hn : n = l.length) (hm : m = l.length) (hl : n ≤ 100000) :
    Calls Tryd.prog 17 #[.slice a n c, .slice b m d] w fun e w' => e = .returned (.bool true) ∧ Kept w w' := by
  subst hn; subst hm; exact sameAnswers_yes h h' (by omega)

set_option maxRecDepth 100000 in
set_option maxHeartbeats 4000000 in
theorem nexts_at {w : World} {a : Option Addr} {n c : Nat} (k x y u e i : Int) (may : Bool) (want : List Int) (hp : nextL exL ⟨k, x, y, u⟩ ⟨e, i, 0⟩ = want) (hm : decide (⟨e, i, 0⟩ ∈ allS exL ⟨k, x, y, u⟩) = may)
    (hw : Lay w (.slice a n c) n (ints want)) (hn : n = want.length) (hs : n ≤ 100) (hT : Tab w) :
    Calls Tryd.prog 26 #[.agg #[.int .i64 k, .int .i64 x, .int .i64 y, .int .u64 u], .int .i64 e, .int .i64 i, .bool may, .slice a n c] w fun e w' => e = .returned (.bool true) ∧ Kept w w' := by
  have kk : Kept w ((w.alloc (.cells #[.int .i64 k, .int .i64 x, .int .i64 y, .int .u64 u] 25)).alloc (.cells #[.int .i64 1, .int .i64 4, .int .i64 5] 3)) := ((Kept.refl w).alloc _ _).alloc _ _
  have NX := Lib.hid (next_S (w := ((w.alloc (.cells #[.int .i64 k, .int .i64 x, .int .i64 y, .int .u64 u] 25)).alloc (.cells #[.int .i64 1, .int .i64 4, .int .i64 5] 3))) (a := some ⟨w.heap.size + 1, 0, none⟩) (n := 3) (c := 3) (s := exL)
    (lay_new (g := w.heap.size + 1) (by have := heap_alloc_new (w.alloc (.cells #[.int .i64 k, .int .i64 x, .int .i64 y, .int .u64 u] 25)) (.cells #[.int .i64 1, .int .i64 4, .int .i64 5] 3); rw [World.size_alloc] at this; exact this) (by decide)) rfl (hT.kept kk) ⟨k, x, y, u⟩ ⟨e, i, 0⟩)
  rw [hp, hm] at NX
  have KK := Lib.hid kk
  have SW := Lib.hid (fun W a' c' m (kq : Kept w W) (h : Lay W (.slice a' m c') m (ints want)) (h' : m = want.length) => same_n h (hw.kept kq) h' hn (by omega))
  clear hp hm hw hT kk
  have hself : (may == may) = true := by simp
  subst hn
  go_enter Tryd.func26, Tryd.ntmps26
  go_wp2_with fail; refine NX.out.mono ?_; rintro e1 w1 ⟨a1, c1, rfl, k1, own1⟩
  have L1 := Lib.hid (own_lies own1).lay
  have K1 := Lib.hid (KK.out.trans k1)
  clear own1 k1
  go_wp2_with fail; refine (SW.out _ _ _ _ K1.out L1.out rfl).mono ?_; rintro e2 w2 ⟨rfl, k2⟩
  go_wp2
  go_ret
  exact ⟨rfl, K1.out.trans k2⟩

set_option maxRecDepth 100000 in
set_option maxHeartbeats 4000000 in
theorem one_at {w : World} (k x y u e : Int) (hp : allS exL ⟨k, x, y, u⟩ = [⟨e, 0, 0⟩]) (hT : Tab w) :
    Calls Tryd.prog 29 #[.agg #[.int .i64 k, .int .i64 x, .int .i64 y, .int .u64 u], .int .i64 e] w fun e w' => e = .returned (.bool true) ∧ Kept w w' := by
  have kk : Kept w ((w.alloc (.cells #[.int .i64 k, .int .i64 x, .int .i64 y, .int .u64 u] 25)).alloc (.cells #[.int .i64 1, .int .i64 4, .int .i64 5] 3)) := ((Kept.refl w).alloc _ _).alloc _ _
  have NX := Lib.hid (all_S (w := ((w.alloc (.cells #[.int .i64 k, .int .i64 x, .int .i64 y, .int .u64 u] 25)).alloc (.cells #[.int .i64 1, .int .i64 4, .int .i64 5] 3))) (a := some ⟨w.heap.size + 1, 0, none⟩) (n := 3) (c := 3) (s := exL)
    (lay_new (g := w.heap.size + 1) (by have := heap_alloc_new (w.alloc (.cells #[.int .i64 k, .int .i64 x, .int .i64 y, .int .u64 u] 25)) (.cells #[.int .i64 1, .int .i64 4, .int .i64 5] 3); rw [World.size_alloc] at this; exact this) (by decide)) rfl (hT.kept kk) ⟨k, x, y, u⟩)
  rw [hp] at NX
  have KK := Lib.hid kk
  clear hp hT kk
  go_enter Tryd.func29, Tryd.ntmps29
  go_wp2_with fail; refine NX.out.mono ?_; rintro e1 w1 ⟨a1, c1, rfl, k1, own1⟩
  have L1 := Lib.hid (own_lies own1).lay
  have K1 := Lib.hid (KK.out.trans k1)
  clear own1 k1
  go_wp2_with fail; refine (sameA_n (l := [⟨e, 0, 0⟩]) (L1.out.kept ((Kept.refl _).alloc _ _)) (lay_new (heap_alloc_new _ _) (by simp)) rfl rfl (by simp)).mono ?_; rintro e2 w2 ⟨rfl, k2⟩
  go_wp2
  go_ret
  exact ⟨rfl, (K1.out.alloc _ _).trans k2⟩

theorem lay_nothing (W : World) : Lay W (.slice none 0 0) 0 (ints []) := .inl (.inl ⟨rfl, rfl, rfl⟩)
theorem ex1 : nextL exL ⟨7, 0, 0, 0⟩ ⟨0, 4, 0⟩ = [1, 5] := by decide +kernel
theorem ex2 : nextL exL ⟨7, 0, 0, 0⟩ ⟨0, 2, 0⟩ = [] := by decide +kernel
theorem ex3 : nextL exL ⟨8, 2, 0, 0⟩ ⟨0, 0, 0⟩ = [1, 2, 4, 5] := by decide +kernel
theorem ex4 : allS exL ⟨8, 1024, 0, 0⟩ = [⟨3, 0, 0⟩] := by decide +kernel
theorem ex5 : memI (restM exL 6) = [0, 2, 3] := by decide +kernel
theorem ex6 : chk [4, 1] = 9 := by decide +kernel
theorem em1 : decide ((⟨0, 4, 0⟩ : Ann) ∈ allS exL ⟨7, 0, 0, 0⟩) = true := by decide +kernel
theorem em2 : decide ((⟨0, 2, 0⟩ : Ann) ∈ allS exL ⟨7, 0, 0, 0⟩) = false := by decide +kernel
theorem em3 : decide ((⟨0, 0, 0⟩ : Ann) ∈ allS exL ⟨8, 2, 0, 0⟩) = true := by decide +kernel

set_option maxRecDepth 100000 in
set_option maxHeartbeats 8000000 in
theorem awake_any (w : World) (hT : Tab w) : Calls Tryd.prog 8 #[] w fun e w' => e = .returned (.bool true) ∧ Kept w w' := by
  have T := Lib.hid hT
  clear hT
  go_enter Tryd.func8, Tryd.ntmps8
  go_wp2_with fail; refine (allocOp_any _).mono ?_; rintro e v1 ⟨rfl, k1⟩
  have K1 := Lib.hid k1
  clear k1
  go_wp2_with fail; refine (nexts_at 7 0 0 0 0 4 true [1, 5] ex1 em1 (lay_new (heap_alloc_new _ _) (by decide)) rfl (by decide) (T.out.kept (K1.out.alloc _ _))).mono ?_; rintro e v2 ⟨rfl, k2⟩
  have K2 := Lib.hid ((K1.out.alloc _ _).trans k2)
  clear k2
  go_wp2_with fail; refine (allocOp_any _).mono ?_; rintro e v3 ⟨rfl, k3⟩
  have K3 := Lib.hid (K2.out.trans k3)
  clear k3
  go_wp2_with fail; refine (nexts_at 7 0 0 0 0 2 false [] ex2 em2 (lay_nothing _) rfl (by decide) (T.out.kept K3.out)).mono ?_; rintro e v4 ⟨rfl, k4⟩
  have K4 := Lib.hid (K3.out.trans k4)
  clear k4
  go_wp2_with fail; refine (freeOp_any 2 _).mono ?_; rintro e v5 ⟨rfl, k5⟩
  have K5 := Lib.hid (K4.out.trans k5)
  clear k5
  go_wp2_with fail; refine (nexts_at 8 2 0 0 0 0 true [1, 2, 4, 5] ex3 em3 (lay_new (heap_alloc_new _ _) (by decide)) rfl (by decide) (T.out.kept (K5.out.alloc _ _))).mono ?_; rintro e v6 ⟨rfl, k6⟩
  have K6 := Lib.hid ((K5.out.alloc _ _).trans k6)
  clear k6
  go_wp2_with fail; refine (freeOp_any 1024 _).mono ?_; rintro e v7 ⟨rfl, k7⟩
  have K7 := Lib.hid (K6.out.trans k7)
  clear k7
  go_wp2_with fail; refine (one_at 8 1024 0 0 3 ex4 (T.out.kept K7.out)).mono ?_; rintro e v8 ⟨rfl, k8⟩
  have K8 := Lib.hid (K7.out.trans k8)
  clear k8
  go_wp2_with fail; refine (rest_S (s := exL) (lay_new (heap_alloc_new _ _) (by decide)) rfl (T.out.kept (K8.out.alloc _ _)) 6).mono ?_; rintro e v9 ⟨a9, c9, hr, k9, own9⟩
  rw [show restN 6 = 6 from rfl, ex5] at hr own9
  subst hr
  have K9 := Lib.hid ((K8.out.alloc _ _).trans k9)
  have L9 := Lib.hid (own_lies own9).lay
  clear k9 own9
  go_wp2_with fail; refine (same_n (l := [0, 2, 3]) (L9.out.kept ((Kept.refl _).alloc _ _)) (lay_new (heap_alloc_new _ _) (by decide)) rfl rfl (by decide)).mono ?_; rintro e v10 ⟨rfl, k10⟩
  have K10 := Lib.hid ((K9.out.alloc _ _).trans k10)
  clear k10
  go_wp2_with fail; refine (check_any (s := [4, 1]) (lay_new (heap_alloc_new _ _) (by decide)) rfl).mono ?_; rintro e v11 ⟨rfl, k11⟩
  rw [ex6]
  have K11 := Lib.hid ((K10.out.alloc _ _).trans k11)
  clear k11
  go_wp2
  go_ret
  exact ⟨rfl, K11.out⟩
end Go.Proofs.YtlkadickhhaakaaDoor
