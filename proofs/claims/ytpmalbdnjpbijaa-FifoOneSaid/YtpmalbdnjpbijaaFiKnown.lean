/- The chapter's examples: FifoKnown. -/
import Derived.Test.YtpmalbdnjpbijaaFiAwake
namespace Go.Proofs.Ytpmalbdnjpbijaa
open Go.RowKit

theorem play_at {w : World} {a : Option Addr} {c n m k : Nat} {l : List Opn} {A : List Ann} {Q : List Int} (hl : Lay w (.slice a n c) n (flatO l)) (hn : n = l.length) (hA : playA 2 l = A) (hQ : playQ 2 l = Q) (hm : m = A.length) (hk : k = Q.length) (hlen : l.length ≤ 1000 := by decide) :
    Calls Try.prog 19 #[.int .i64 2, .slice a n c] w fun e w' => ∃ a' c' b d, e = .returned (.tuple #[.slice a' m c', .slice b k d, .int .i64 0]) ∧ Kept w w' ∧ Lay w' (.slice a' m c') m (flatA A) ∧ Lay w' (.slice b k d) k (words Q) := by
  subst hn hm hk hA hQ
  refine (play_ok (r := 2) hl hlen (by decide) (by decide)).mono ?_
  rintro e w' ⟨a', c', b, d, rfl, k, oa, ow, _⟩
  exact ⟨a', c', b, d, rfl, k, (own_lies oa).lay, (own_lies ow).lay⟩
theorem sameWords_n {w : World} {v v' : Value} {q : List Int} {n : Nat} (h : Lay w v n (words q)) (h' : Lay w v' n (words q)) (hn : n = q.length) (hl : q.length ≤ 1000000) :
    Calls Try.prog 14 #[v, v'] w fun e w' => e = .returned (.bool true) ∧ Kept w w' := by subst hn; exact sameWords_yes h h' hl
theorem sameAnswers_n {w : World} {v v' : Value} {l : List Ann} {n : Nat} (h : Lay w v n (flatA l)) (h' : Lay w v' n (flatA l)) (hn : n = l.length) (hl : l.length ≤ 1000000) :
    Calls Try.prog 21 #[v, v'] w fun e w' => e = .returned (.bool true) ∧ Kept w w' := by subst hn; exact sameAnswers_yes h h' hl
def sevenOps : List Opn := [⟨1, 0, 0, 1⟩, ⟨1, 0, 0, 2⟩, ⟨1, 0, 0, 3⟩, ⟨2, 0, 0, 0⟩, ⟨3, 0, 0, 0⟩, ⟨1, 0, 0, 3⟩, ⟨3, 0, 0, 0⟩]
def sevenAns : List Ann := [⟨0, 0, 0⟩, ⟨0, 0, 0⟩, ⟨7, 0, 0⟩, ⟨0, 0, 1⟩, ⟨0, 0, 0⟩, ⟨0, 0, 0⟩, ⟨0, 0, 0⟩]

set_option maxRecDepth 100000 in
set_option maxHeartbeats 8000000 in
theorem known_any (w : World) : Calls Try.prog 5 #[] w fun e w' => e = .returned (.bool true) ∧ Kept w w' := by
  go_enter Try.func5, Try.ntmps5
  go_wp2_with fail; refine (op_at 4 1 _).mono ?_; rintro e v1 ⟨rfl, k1⟩
  have K1 := Lib.hid (((Kept.refl w).alloc _ _).trans k1)
  have L1 := Lib.hid (show Lay v1 _ 2 (words [5, 7]) from (lay_new (heap_alloc_new _ _) (by decide)).kept k1)
  clear k1
  go_wp2_with fail; refine (answer_at (o := ⟨4, 0, 0, 1⟩) (p := none) L1.out rfl (by decide)).mono ?_; rintro e v2 ⟨rfl, k2⟩
  have K2 := Lib.hid (K1.out.trans k2)
  clear k2
  obtain ⟨V2, hV2⟩ : ∃ V2, v2.alloc (.cells #[.int .i64 noAnn.e, .int .i64 noAnn.n, .int .u64 noAnn.v] 28) = V2 := ⟨_, rfl⟩
  have KX := Lib.hid (show Kept w V2 by rw [← hV2]; exact K2.out.alloc _ _)
  have HV2 := Lib.hid hV2
  clear hV2
  go_upto_region 2 with fail
  rw [HV2.out]
  go_wp2_with fail; refine (op_at 3 0 _).mono ?_; rintro e v3 ⟨rfl, k3⟩
  have K3 := Lib.hid ((KX.out.alloc _ _).trans k3)
  have L3 := Lib.hid (show Lay v3 _ 2 (words [5, 7]) from (lay_new (heap_alloc_new _ _) (by decide)).kept k3)
  clear k3
  go_wp2_with fail; refine (answers_at [5, 7] 3 0 0 0 (q' := [7]) L3.out rfl (by decide)).mono ?_; rintro e v4 ⟨rfl, k4⟩
  have K4 := Lib.hid (K3.out.trans k4)
  clear k4
  go_wp2_with fail; refine (op_at 1 9 _).mono ?_; rintro e v5 ⟨rfl, k5⟩
  have K5 := Lib.hid ((K4.out.alloc _ _).trans k5)
  have L5 := Lib.hid (show Lay v5 _ 1 (words [5]) from (lay_new (heap_alloc_new _ _) (by decide)).kept k5)
  clear k5
  go_wp2_with fail; refine (nexts_at [5] 1 9 7 0 (none) false L5.out rfl (by decide) rfl (by decide) (.inl (.inl ⟨rfl, rfl, rfl⟩)) rfl).mono ?_; rintro e v6 ⟨rfl, k6⟩
  have K6 := Lib.hid (K5.out.trans k6)
  clear k6
  go_wp2_with fail; refine (op_at 2 0 _).mono ?_; rintro e v7 ⟨rfl, k7⟩
  have K7 := Lib.hid ((K6.out.alloc _ _).trans k7)
  have L7 := Lib.hid (show Lay v7 _ 1 (words [5]) from (lay_new (heap_alloc_new _ _) (by decide)).kept k7)
  clear k7
  go_wp2_with fail; refine (nexts_at [5] 2 0 0 5 (some [5]) true (L7.out.kept ((Kept.refl _).alloc _ _)) rfl (by decide) rfl (by decide) (lay_new (heap_alloc_new _ _) (by decide)) rfl).mono ?_; rintro e v8 ⟨rfl, k8⟩
  have K8 := Lib.hid ((K7.out.alloc _ _).trans k8)
  clear k8
  go_wp2_with fail; refine (op_at 2 0 _).mono ?_; rintro e v9 ⟨rfl, k9⟩
  have K9 := Lib.hid ((K8.out.alloc _ _).trans k9)
  have L9 := Lib.hid (show Lay v9 _ 1 (words [5]) from (lay_new (heap_alloc_new _ _) (by decide)).kept k9)
  clear k9
  go_wp2_with fail; refine (nexts_at [5] 2 0 0 6 (none) false L9.out rfl (by decide) rfl (by decide) (.inl (.inl ⟨rfl, rfl, rfl⟩)) rfl).mono ?_; rintro e v10 ⟨rfl, k10⟩
  have K10 := Lib.hid (K9.out.trans k10)
  clear k10
  go_wp2_with fail; refine (op_at 3 0 _).mono ?_; rintro e v11 ⟨rfl, k11⟩
  have K11 := Lib.hid ((K10.out.alloc _ _).trans k11)
  have L11 := Lib.hid (show Lay v11 _ 1 (words [5]) from (lay_new (heap_alloc_new _ _) (by decide)).kept k11)
  clear k11
  go_wp2_with fail; refine (nexts_at [5] 3 0 0 0 (some []) true L11.out rfl (by decide) rfl (by decide) (.inl (.inl ⟨rfl, rfl, rfl⟩)) rfl).mono ?_; rintro e v12 ⟨rfl, k12⟩
  have K12 := Lib.hid (K11.out.trans k12)
  clear k12
  go_wp2_with fail; refine (op_at 3 0 _).mono ?_; rintro e v13 ⟨rfl, k13⟩
  have K13 := Lib.hid ((K12.out).trans k13)
  clear k13
  go_wp2_with fail; refine (nexts_at [] 3 0 15 0 (some []) true (.inl (.inl ⟨rfl, rfl, rfl⟩)) rfl (by decide) rfl (by decide) (.inl (.inl ⟨rfl, rfl, rfl⟩)) rfl).mono ?_; rintro e v14 ⟨rfl, k14⟩
  have K14 := Lib.hid (K13.out.trans k14)
  clear k14
  go_wp2_with fail; refine (check_at (x := 3) (by decide)).mono ?_; rintro e v15 ⟨rfl, rfl⟩
  have K15 := Lib.hid (K14.out)
  go_wp2_with fail; refine (check_at (x := 7) (by decide)).mono ?_; rintro e v16 ⟨rfl, rfl⟩
  have K16 := Lib.hid (K15.out.alloc #[.int .u64 5, .int .u64 7] 23)
  go_wp2_with fail; refine (op_at 1 1 _).mono ?_; rintro e v17 ⟨rfl, k17⟩
  have K17 := Lib.hid ((K16.out).trans k17)
  clear k17
  go_wp2_with fail; refine (op_at 1 2 _).mono ?_; rintro e v18 ⟨rfl, k18⟩
  have K18 := Lib.hid ((K17.out).trans k18)
  clear k18
  go_wp2_with fail; refine (op_at 1 3 _).mono ?_; rintro e v19 ⟨rfl, k19⟩
  have K19 := Lib.hid ((K18.out).trans k19)
  clear k19
  go_wp2_with fail; refine (op_at 2 0 _).mono ?_; rintro e v20 ⟨rfl, k20⟩
  have K20 := Lib.hid ((K19.out).trans k20)
  clear k20
  go_wp2_with fail; refine (op_at 3 0 _).mono ?_; rintro e v21 ⟨rfl, k21⟩
  have K21 := Lib.hid ((K20.out).trans k21)
  clear k21
  go_wp2_with fail; refine (op_at 1 3 _).mono ?_; rintro e v22 ⟨rfl, k22⟩
  have K22 := Lib.hid ((K21.out).trans k22)
  clear k22
  go_wp2_with fail; refine (op_at 3 0 _).mono ?_; rintro e v23 ⟨rfl, k23⟩
  have K23 := Lib.hid ((K22.out).trans k23)
  clear k23
  go_wp2_with fail; refine (play_at (l := sevenOps) (A := sevenAns) (Q := [3]) (n := 7) (m := 7) (k := 1) (lay_new (heap_alloc_new _ _) (by decide)) rfl (by decide) (by decide) rfl rfl).mono ?_; rintro e v24 ⟨a1, c1, b1, d1, rfl, k24, LA, LQ⟩
  have K24 := Lib.hid ((K23.out.alloc _ _).trans k24)
  have LA1 := Lib.hid LA
  have LQ1 := Lib.hid LQ
  clear LA LQ
  clear k24
  go_wp2_with fail; refine (awake_any _).mono ?_; rintro e v25 ⟨rfl, k25⟩
  have K25 := Lib.hid (K24.out.trans k25)
  have LQ2 := Lib.hid (LQ1.out.kept k25)
  have LA2 := Lib.hid (LA1.out.kept k25)
  clear k25
  go_wp2_with fail; refine (sameWords_n (q := [3]) (LQ2.out.kept ((Kept.refl _).alloc _ _)) (lay_new (heap_alloc_new _ _) (by decide)) rfl (by decide)).mono ?_; rintro e v26 ⟨rfl, k26⟩
  have K26 := Lib.hid ((K25.out.alloc _ _).trans k26)
  have LA3 := Lib.hid ((LA2.out.kept ((Kept.refl _).alloc #[.int .u64 3] 23)).kept k26)
  clear k26
  go_wp2_with fail; refine (sameAnswers_n (l := sevenAns) (LA3.out.kept ((Kept.refl _).alloc _ _)) (lay_new (heap_alloc_new _ _) (by decide)) rfl (by decide)).mono ?_; rintro e v27 ⟨rfl, k27⟩
  have K27 := Lib.hid ((K26.out.alloc _ _).trans k27)
  clear k27
  go_wp2
  go_ret
  exact ⟨rfl, K27.out⟩
end Go.Proofs.Ytpmalbdnjpbijaa
