/- The chapter's examples: op, answers, next, awake. -/
import Derived.Test.YtpmalbdnjpbijaaFiRef3
namespace Go.Proofs.Ytpmalbdnjpbijaa
open Go.RowKit

set_option maxHeartbeats 1000000 in
theorem op_at (k u : Int) (w : World) : Calls Try.prog 24 #[.int .i64 k, .int .u64 u] w fun e w' => e = .returned (.agg #[.int .i64 k, .int .i64 0, .int .i64 0, .int .u64 u]) ∧ Kept w w' := by
  go_enter Try.func24, Try.ntmps24
  go_wp2
  exact bodyPost_ret (v := .agg #[.int .i64 k, .int .i64 0, .int .i64 0, .int .u64 u]) (by simp [results, Try.results24, go_sem]) rfl ⟨rfl, by (go_light; repeat (first | (with_reducible exact Kept.refl _) | (with_reducible assumption) | (with_reducible refine Kept.alloc ?_ _ _) | (with_reducible refine Kept.drew ?_) | (with_reducible refine Kept.drewN ?_ _) | ((with_reducible refine Kept.setCell ?_ ?_ _); rotate_left; focus (first | (simp; done) | (simp; omega))) | refine Kept.trans ?_ (by assumption)))⟩

theorem answer_at {w : World} {a : Option Addr} {c n : Nat} {q : List Int} {r : Int} {o : Opn} {p : Option (Ann × List Int)} (hl : Lay w (.slice a n c) n (words q)) (hn : n = q.length) (hp : actI r q o = p) :
    Calls Try.prog 10 #[.int .i64 r, .slice a n c, .agg #[.int .i64 o.k, .int .i64 o.a, .int .i64 o.b, .int .u64 o.u]] w
      fun e w' => e = .returned (.tuple #[.agg #[.int .i64 (p.elim noAnn (·.1)).e, .int .i64 (p.elim noAnn (·.1)).n, .int .u64 (p.elim noAnn (·.1)).v], .bool p.isSome]) ∧ Kept w w' := by
  subst hn; subst hp; exact answer_any r o hl
theorem next_at {w : World} {a : Option Addr} {c n : Nat} {q : List Int} {r : Int} {o : Opn} {x : Ann} {p : Option (List Int)} (hl : Lay w (.slice a n c) n (words q)) (hn : n = q.length) (hp : nextI r q o x = p) :
    Calls Try.prog 12 #[.int .i64 r, .slice a n c, .agg #[.int .i64 o.k, .int .i64 o.a, .int .i64 o.b, .int .u64 o.u], .agg #[.int .i64 x.e, .int .i64 x.n, .int .u64 x.v]] w (RetN w p) := by
  subst hn; subst hp; exact next_any r o x hl

set_option maxRecDepth 100000 in
set_option maxHeartbeats 1000000 in
theorem answers_at {w : World} {a : Option Addr} {c n : Nat} (q : List Int) (k u err v : Int) {q' : List Int} (hl : Lay w (.slice a n c) n (words q)) (hn : n = q.length) (hp : actI 2 q ⟨k, 0, 0, u⟩ = some (⟨err, 0, v⟩, q')) :
    Calls Try.prog 25 #[.slice a n c, .agg #[.int .i64 k, .int .i64 0, .int .i64 0, .int .u64 u], .int .i64 err, .int .u64 v] w fun e w' => e = .returned (.bool true) ∧ Kept w w' := by
  have K0 := Lib.hid ((Kept.refl w).alloc #[.int .i64 k, .int .i64 0, .int .i64 0, .int .u64 u] 25)
  have AN := Lib.hid (answer_at (hl.kept K0.out) hn hp)
  have NE : ∀ W, (binOp .eql 28 (.agg #[.int .i64 err, .int .i64 0, .int .u64 v]) (.agg #[.int .i64 err, .int .i64 0, .int .u64 v])).run Try.prog W = .ok (.bool true) W := fun W => by
    have := ann_eql ⟨err, 0, v⟩ ⟨err, 0, v⟩ W
    simpa using this
  clear hl hn hp
  go_enter Try.func25, Try.ntmps25
  go_wp2_with fail
  refine AN.out.mono ?_
  rintro e w1 ⟨rfl, k1⟩
  have K1 := Lib.hid (K0.out.trans k1)
  clear k1
  go_wp2
  go_ret
  exact ⟨rfl, K1.out.alloc _ _⟩

set_option maxRecDepth 100000 in
set_option maxHeartbeats 1000000 in
theorem nexts_at {w : World} {a b : Option Addr} {c d n m : Nat} (q : List Int) (k u err v : Int) (p : Option (List Int)) (may : Bool) (hl : Lay w (.slice a n c) n (words q)) (hn : n = q.length) (hp : nextI 2 q ⟨k, 0, 0, u⟩ ⟨err, 0, v⟩ = p) (hm : p.isSome = may) (hs : (p.getD []).length ≤ 10)
    (hw : Lay w (.slice b m d) m (words (p.getD []))) (hmm : m = (p.getD []).length) :
    Calls Try.prog 26 #[.slice a n c, .agg #[.int .i64 k, .int .i64 0, .int .i64 0, .int .u64 u], .int .i64 err, .int .u64 v, .bool may, .slice b m d] w fun e w' => e = .returned (.bool true) ∧ Kept w w' := by
  have K0 := Lib.hid ((Kept.refl w).alloc #[.int .i64 k, .int .i64 0, .int .i64 0, .int .u64 u] 25)
  have NX := Lib.hid (next_at (hl.kept K0.out) hn hp)
  have HW := Lib.hid hw
  subst hm hmm
  have SW := Lib.hid (fun W a c (k : Kept w W) (h : Lay W (.slice a (p.getD []).length c) (p.getD []).length (words (p.getD []))) => sameWords_yes h (HW.out.kept k) (by omega))
  obtain ⟨x, hx⟩ : ∃ x, p.isSome = x := ⟨_, rfl⟩
  unfold RetN at NX
  rw [hx] at NX ⊢
  obtain ⟨l, hl'⟩ : ∃ l, p.getD [] = l := ⟨_, rfl⟩
  rw [hl'] at NX SW ⊢
  clear hl hn hp hw hs hx hl' HW
  go_enter Try.func26, Try.ntmps26
  go_wp2_with fail
  refine NX.out.mono ?_
  rintro e w1 ⟨a1, c1, rfl, k1, own1⟩
  have K1 := Lib.hid (K0.out.trans k1)
  have L1 := Lib.hid (own_lies own1).lay
  clear k1 own1
  go_wp2_with fail
  refine (SW.out _ _ _ K1.out L1.out).mono ?_
  rintro e w2 ⟨rfl, k2⟩
  go_wp2
  go_ret
  exact ⟨rfl, K1.out.trans k2⟩
/-- awake -/
def awakeWalked := ()
set_option maxRecDepth 100000 in
set_option maxHeartbeats 4000000 in
theorem awake_any (w : World) : Calls Try.prog 8 #[] w fun e w' => e = .returned (.bool true) ∧ Kept w w' := by
  go_enter Try.func8, Try.ntmps8
  go_wp2_with fail; refine (op_at 1 9 _).mono ?_; rintro e v1 ⟨rfl, k1⟩
  have K1 := Lib.hid (((Kept.refl w).alloc _ _).trans k1)
  have L1 := Lib.hid (show Lay v1 _ 2 (words [5, 7]) from (lay_new (heap_alloc_new _ _) (by decide)).kept k1)
  clear k1
  go_wp2_with fail; refine (answers_at [5, 7] 1 9 7 0 (q' := [5, 7]) L1.out rfl (by decide)).mono ?_; rintro e v2 ⟨rfl, k2⟩
  have K2 := Lib.hid (K1.out.trans k2)
  clear k2
  go_wp2_with fail; refine (op_at 2 0 _).mono ?_; rintro e v3 ⟨rfl, k3⟩
  have K3 := Lib.hid ((K2.out.alloc _ _).trans k3)
  have L3 := Lib.hid (show Lay v3 _ 2 (words [5, 7]) from (lay_new (heap_alloc_new _ _) (by decide)).kept k3)
  clear k3
  go_wp2_with fail; refine (answers_at [5, 7] 2 0 0 5 (q' := [5, 7]) L3.out rfl (by decide)).mono ?_; rintro e v4 ⟨rfl, k4⟩
  have K4 := Lib.hid (K3.out.trans k4)
  clear k4
  go_wp2_with fail; refine (op_at 1 9 _).mono ?_; rintro e v5 ⟨rfl, k5⟩
  have K5 := Lib.hid ((K4.out.alloc _ _).trans k5)
  have L5 := Lib.hid (show Lay v5 _ 1 (words [5]) from (lay_new (heap_alloc_new _ _) (by decide)).kept k5)
  clear k5
  go_wp2_with fail; refine (nexts_at [5] 1 9 0 0 (some [5, 9]) true (L5.out.kept ((Kept.refl _).alloc _ _)) rfl (by decide) rfl (by decide) (lay_new (heap_alloc_new _ _) (by decide)) rfl).mono ?_; rintro e v6 ⟨rfl, k6⟩
  have K6 := Lib.hid ((K5.out.alloc _ _).trans k6)
  clear k6
  go_wp2_with fail; refine (check_at (x := 3) (by decide)).mono ?_; rintro e v7 ⟨rfl, rfl⟩
  have K7 := Lib.hid (K6.out)
  go_wp2
  go_ret
  exact ⟨rfl, K7.out⟩
end Go.Proofs.Ytpmalbdnjpbijaa
