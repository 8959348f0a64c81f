/- PoolKnown. -/
import Derived.Test.YtlkadickhhaakaaDoorPoAwake
namespace Go.Proofs.YtlkadickhhaakaaDoor
open Go.RowKit

theorem all_p {w : World} {a : Option Addr} {n c : Nat} {s : List Int} {L : List Ann} (o : Opn) (h : Lay w (.slice a n c) n (ints s)) (hn : n = s.length) (hT : Tab w) (hp : allS s o = L) :
    Calls Tryd.prog 12 #[.slice a n c, .agg #[.int .i64 o.k, .int .i64 o.a, .int .i64 o.b, .int .u64 o.u]] w (RetA w L) := by
  subst hp; exact all_S h hn hT o
theorem rest_p {w : World} {a : Option Addr} {n c : Nat} {s q : List Int} {z : Int} (h : Lay w (.slice a n c) n (ints s)) (hn : n = s.length) (hT : Tab w) (hp : memI (restM s (restN z)) = q) :
    Calls Tryd.prog 14 #[.slice a n c, .int .i64 z] w (RetI w q) := by
  subst hp; exact rest_S h hn hT z
theorem check_p {w : World} {a : Option Addr} {n c : Nat} {s : List Int} {v : Int} (h : Lay w (.slice a n c) n (ints s)) (hn : n = s.length) (hp : chk s = v) :
    Calls Tryd.prog 18 #[.slice a n c] w fun e w' => e = .returned (.int .i64 v) ∧ Kept w w' := by
  subst hp; exact check_any h hn
theorem play_p {w : World} {a : Option Addr} {n c : Nat} {l : List Opn} {z v : Int} {A : List Ann} {q : List Int} (h : Lay w (.slice a n c) n (flatO l)) (hn : n = l.length) (hlen : n ≤ 1000) (hT : Tab w) (h1 : plA z l = A) (h2 : plQ z l = q) (h3 : plE z = v) :
    Calls Tryd.prog 23 #[.int .i64 z, .slice a n c] w (RetPl w A q v) := by
  subst h1; subst h2; subst h3; exact play_S h hn hlen hT z
theorem one_p {w : World} (k x y u e : Int) (hp : allS exL ⟨k, x, y, u⟩ = [⟨e, 0, 0⟩]) (hT : Tab w) :
    Calls Tryd.prog 29 #[.agg #[.int .i64 k, .int .i64 x, .int .i64 y, .int .u64 u], .int .i64 e] w fun e w' => e = .returned (.bool true) ∧ Kept w w' := one_at k x y u e hp hT
def knOps : List Opn := [⟨7, 0, 0, 0⟩, ⟨7, 0, 0, 0⟩, ⟨7, 0, 0, 0⟩, ⟨8, 0, 0, 0⟩, ⟨8, 0, 0, 0⟩, ⟨1, 0, 0, 0⟩, ⟨7, 0, 0, 0⟩]
def knAns : List Ann := [⟨0, 0, 0⟩, ⟨0, 1, 0⟩, ⟨7, 0, 0⟩, ⟨0, 0, 0⟩, ⟨8, 0, 0⟩, ⟨0, 0, 0⟩, ⟨0, 0, 0⟩]
theorem kn1 : nextL exL ⟨7, 0, 0, 0⟩ ⟨7, 0, 0⟩ = [1, 4, 5] := by decide +kernel
theorem km1 : decide ((⟨7, 0, 0⟩ : Ann) ∈ allS exL ⟨7, 0, 0, 0⟩) = true := by decide +kernel
theorem kn2 : nextL exL ⟨8, 4, 0, 0⟩ ⟨8, 0, 0⟩ = [1, 4, 5] := by decide +kernel
theorem km2 : decide ((⟨8, 0, 0⟩ : Ann) ∈ allS exL ⟨8, 4, 0, 0⟩) = true := by decide +kernel
theorem kn3 : nextL exL ⟨8, 4, 0, 0⟩ ⟨0, 0, 0⟩ = [] := by decide +kernel
theorem km3 : decide ((⟨0, 0, 0⟩ : Ann) ∈ allS exL ⟨8, 4, 0, 0⟩) = false := by decide +kernel
theorem kn4 : allS exL ⟨8, 4, 0, 0⟩ = [⟨8, 0, 0⟩] := by decide +kernel
theorem kn5 : allS exL ⟨8, 0, 0, 0⟩ = [⟨0, 0, 0⟩] := by decide +kernel
theorem kn6 : allS exL ⟨7, 0, 0, 0⟩ = [⟨0, 1, 0⟩, ⟨0, 4, 0⟩, ⟨0, 5, 0⟩, ⟨7, 0, 0⟩, ⟨12, 0, 0⟩] := by decide +kernel
theorem kn7 : allS exL ⟨1, 0, 0, 0⟩ = [] := by decide +kernel
theorem kn8 : memI (restM exL (restN (-1))) = [] := by decide +kernel
theorem kn9 : chk [1, 1] = 9 := by decide +kernel
theorem kn10 : chk [-1] = 3 := by decide +kernel
theorem kn11 : chk [4, 1, 1024] = 3 := by decide +kernel
theorem kn12 : plA 2 knOps = knAns := by decide +kernel
theorem kn13 : plQ 2 knOps = [] := by decide +kernel
theorem kn14 : plE 2 = 0 := by decide +kernel
theorem kn15 : plE 1025 = 3 := by decide +kernel

set_option maxRecDepth 100000 in
set_option maxHeartbeats 16000000 in
theorem known_any (w : World) (hT : Tab w) : Calls Tryd.prog 5 #[] w fun e w' => e = .returned (.bool true) ∧ Kept w w' := by
  have T := Lib.hid hT
  clear hT
  go_enter Tryd.func5, Tryd.ntmps5
  go_wp2_with fail; refine (allocOp_any _).mono ?_; rintro e v1 ⟨rfl, k1⟩
  have K1 := Lib.hid k1
  clear k1
  go_wp2_with fail; refine (nexts_at 7 0 0 0 7 0 true [1, 4, 5] kn1 km1 (lay_new (heap_alloc_new _ _) (by decide)) rfl (by decide) (T.out.kept (K1.out.alloc _ _))).mono ?_; rintro e v2 ⟨rfl, k2⟩
  have K2 := Lib.hid ((K1.out.alloc _ _).trans k2)
  clear k2
  go_wp2_with fail; refine (freeOp_any 4 _).mono ?_; rintro e v3 ⟨rfl, k3⟩
  have K3 := Lib.hid (K2.out.trans k3)
  clear k3
  go_wp2_with fail; refine (nexts_at 8 4 0 0 8 0 true [1, 4, 5] kn2 km2 (lay_new (heap_alloc_new _ _) (by decide)) rfl (by decide) (T.out.kept (K3.out.alloc _ _))).mono ?_; rintro e v4 ⟨rfl, k4⟩
  have K4 := Lib.hid ((K3.out.alloc _ _).trans k4)
  clear k4
  go_wp2_with fail; refine (freeOp_any 4 _).mono ?_; rintro e v5 ⟨rfl, k5⟩
  have K5 := Lib.hid (K4.out.trans k5)
  clear k5
  go_wp2_with fail; refine (nexts_at 8 4 0 0 0 0 false [] kn3 km3 (lay_nothing _) rfl (by decide) (T.out.kept K5.out)).mono ?_; rintro e v6 ⟨rfl, k6⟩
  have K6 := Lib.hid (K5.out.trans k6)
  clear k6
  go_wp2_with fail; refine (freeOp_any 4 _).mono ?_; rintro e v7 ⟨rfl, k7⟩
  have K7 := Lib.hid (K6.out.trans k7)
  clear k7
  go_wp2_with fail; refine (one_p 8 4 0 0 8 kn4 (T.out.kept K7.out)).mono ?_; rintro e v8 ⟨rfl, k8⟩
  have K8 := Lib.hid (K7.out.trans k8)
  clear k8
  go_wp2_with fail; refine (freeOp_any 0 _).mono ?_; rintro e v9 ⟨rfl, k9⟩
  have K9 := Lib.hid (K8.out.trans k9)
  clear k9
  go_wp2_with fail; refine (one_p 8 0 0 0 0 kn5 (T.out.kept K9.out)).mono ?_; rintro e v10 ⟨rfl, k10⟩
  have K10 := Lib.hid (K9.out.trans k10)
  clear k10
  go_wp2_with fail; refine (allocOp_any _).mono ?_; rintro e v11 ⟨rfl, k11⟩
  have L11 := Lib.hid (show Lay v11 (.slice (some ⟨v10.heap.size, 0, none⟩) 3 3) 3 (ints exL) from (lay_new (heap_alloc_new _ _) (by decide)).kept k11)
  have K11 := Lib.hid ((K10.out.alloc _ _).trans k11)
  clear k11
  go_wp2_with fail; refine (all_p ⟨7, 0, 0, 0⟩ L11.out rfl (T.out.kept K11.out) kn6).mono ?_; rintro e v12 ⟨a12, c12, rfl, k12, own12⟩
  have L12 := Lib.hid (own_lies own12).lay
  have K12 := Lib.hid (K11.out.trans k12)
  clear k12 own12
  go_wp2_with fail; refine (sameA_n (L12.out.kept ((Kept.refl _).alloc _ _)) (lay_new (heap_alloc_new _ _) (by decide)) rfl rfl (by decide)).mono ?_; rintro e v13 ⟨rfl, k13⟩
  have K13 := Lib.hid ((K12.out.alloc _ _).trans k13)
  clear k13
  go_wp2_with fail; refine (all_p (s := exL) ⟨1, 0, 0, 0⟩ (lay_new (heap_alloc_new _ _) (by decide)) rfl (T.out.kept (K13.out.alloc _ _)) kn7).mono ?_; rintro e v14 ⟨a14, c14, rfl, k14, own14⟩
  have K14 := Lib.hid ((K13.out.alloc _ _).trans k14)
  clear k14 own14
  go_wp2_with fail; refine (rest_p (s := exL) (lay_new (heap_alloc_new _ _) (by decide)) rfl (T.out.kept (K14.out.alloc _ _)) kn8).mono ?_; rintro e v15 ⟨a15, c15, rfl, k15, own15⟩
  have K15 := Lib.hid ((K14.out.alloc _ _).trans k15)
  clear k15 own15
  go_wp2_with fail; refine (check_p (lay_new (heap_alloc_new _ _) (by decide)) rfl kn9).mono ?_; rintro e v16 ⟨rfl, k16⟩
  have K16 := Lib.hid ((K15.out.alloc _ _).trans k16)
  clear k16
  go_wp2_with fail; refine (check_p (lay_new (heap_alloc_new _ _) (by decide)) rfl kn10).mono ?_; rintro e v17 ⟨rfl, k17⟩
  have K17 := Lib.hid ((K16.out.alloc _ _).trans k17)
  clear k17
  go_wp2_with fail; refine (check_p (lay_new (heap_alloc_new _ _) (by decide)) rfl kn11).mono ?_; rintro e v18 ⟨rfl, k18⟩
  have K18 := Lib.hid ((K17.out.alloc _ _).trans k18)
  clear k18
  go_wp2_with fail; refine (allocOp_any _).mono ?_; rintro e v19 ⟨rfl, k19⟩
  have K19 := Lib.hid (K18.out.trans k19)
  clear k19
  go_wp2_with fail; refine (allocOp_any _).mono ?_; rintro e v20 ⟨rfl, k20⟩
  have K20 := Lib.hid (K19.out.trans k20)
  clear k20
  go_wp2_with fail; refine (allocOp_any _).mono ?_; rintro e v21 ⟨rfl, k21⟩
  have K21 := Lib.hid (K20.out.trans k21)
  clear k21
  go_wp2_with fail; refine (freeOp_any 0 _).mono ?_; rintro e v22 ⟨rfl, k22⟩
  have K22 := Lib.hid (K21.out.trans k22)
  clear k22
  go_wp2_with fail; refine (freeOp_any 0 _).mono ?_; rintro e v23 ⟨rfl, k23⟩
  have K23 := Lib.hid (K22.out.trans k23)
  clear k23
  go_wp2_with fail; refine (allocOp_any _).mono ?_; rintro e v24 ⟨rfl, k24⟩
  have K24 := Lib.hid (K23.out.trans k24)
  clear k24
  go_wp2_with fail; refine (play_p (l := knOps) (lay_new (heap_alloc_new _ _) (by decide)) rfl (by decide) (T.out.kept (K24.out.alloc _ _)) kn12 kn13 kn14).mono ?_; rintro e v25 ⟨a25, c25, b25, d25, rfl, k25, own25, _⟩
  have L25 := Lib.hid (own_lies own25).lay
  have K25 := Lib.hid ((K24.out.alloc _ _).trans k25)
  clear k25 own25
  go_wp2_with fail; refine (play_p (l := []) (A := []) (q := []) (.inl (.inl ⟨rfl, rfl, rfl⟩)) rfl (by decide) (T.out.kept K25.out) rfl rfl kn15).mono ?_; rintro e v26 ⟨a26, c26, b26, d26, rfl, k26, _, _⟩
  have L26 := Lib.hid (L25.out.kept k26)
  have K26 := Lib.hid (K25.out.trans k26)
  clear k26
  go_wp2_with fail; refine (awake_any _ (T.out.kept K26.out)).mono ?_; rintro e v27 ⟨rfl, k27⟩
  have L27 := Lib.hid (L26.out.kept k27)
  have K27 := Lib.hid (K26.out.trans k27)
  clear k27
  go_wp2_with fail; refine (sameA_n (l := knAns) (L27.out.kept ((Kept.refl _).alloc _ _)) (lay_new (heap_alloc_new _ _) (by decide)) rfl rfl (by decide)).mono ?_; rintro e v28 ⟨rfl, k28⟩
  have K28 := Lib.hid ((K27.out.alloc _ _).trans k28)
  clear k28
  go_wp2
  go_ret
  exact ⟨rfl, K28.out⟩
end Go.Proofs.YtlkadickhhaakaaDoor
