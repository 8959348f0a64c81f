/- A stack in numbers: which index a word is read as, what tops come next, what each step of each operation does. Plain mathematics. -/
import Derived.Test.YtfcompikbeebaaaG00
import Derived.Test.YtfcompikbeebaaaProg
import Derived.Deep.RegionHeld3
import Derived.Lib.Hide
import Derived.Deep.Light
import Derived.WalkLawsBesides
set_option linter.unusedVariables false
set_option linter.unusedSimpArgs false

namespace Go.Proofs.Ytfcompikbeebaaa.Sk
open Wo (St acc wordAt)

structure Stk where
  T : Int
  K : Int
  N : Int

def idx (N w : Int) : Int := if w % 65536 - 1 < N then w % 65536 - 1 else -1
def topW (i w : Int) : Int := i + 1 + (w / 65536 + 1) % 281474976710656 * 65536

structure Op where
  line : Nat
  W : Int
  L : Int

def Op.new : Op := ⟨1, 0, 0⟩
def Op.over : Op := ⟨9, 0, 0⟩

def casSt (n : Nat) (S : Stk) (s : St) (x : Op) (v : Int) : St := acc n s 3 S.T (wordAt n s S.T == x.W) v

def popSt (n : Nat) (S : Stk) (s : St) (x : Op) : St :=
  if x.line = 1 then acc n s 1 S.T false 0
  else if x.line = 2 then acc n s 1 (S.K + idx S.N x.W) false 0
  else if x.line = 3 then casSt n S s x (topW (idx S.N x.L) x.W)
  else s
def popOp (n : Nat) (S : Stk) (s : St) (x : Op) : Op :=
  if x.line = 1 then ⟨if idx S.N (wordAt n s S.T) < 0 then 9 else 2, wordAt n s S.T, x.L⟩
  else if x.line = 2 then ⟨3, x.W, wordAt n s (S.K + idx S.N x.W)⟩
  else if x.line = 3 then ⟨if wordAt n s S.T = x.W then 9 else 1, x.W, x.L⟩
  else x
def pushSt (n : Nat) (S : Stk) (i : Int) (s : St) (x : Op) : St :=
  if x.line = 1 then acc n s 1 S.T false 0
  else if x.line = 2 then acc n s 2 (S.K + i) true (idx S.N x.W + 1)
  else if x.line = 3 then casSt n S s x (topW i x.W)
  else s
def pushOp (n : Nat) (S : Stk) (s : St) (x : Op) : Op :=
  if x.line = 1 then ⟨2, wordAt n s S.T, x.L⟩
  else if x.line = 2 then ⟨3, x.W, x.L⟩
  else if x.line = 3 then ⟨if wordAt n s S.T = x.W then 9 else 1, x.W, x.L⟩
  else x
def allSt (n : Nat) (S : Stk) (s : St) (x : Op) : St :=
  if x.line = 1 then acc n s 1 S.T false 0
  else if x.line = 2 then casSt n S s x (topW (-1) x.W)
  else s
def allOp (n : Nat) (S : Stk) (s : St) (x : Op) : Op :=
  if x.line = 1 then ⟨if idx S.N (wordAt n s S.T) < 0 then 9 else 2, wordAt n s S.T, x.L⟩
  else if x.line = 2 then ⟨if wordAt n s S.T = x.W then 9 else 1, x.W, x.L⟩
  else x

def tookI (S : Stk) (x : Op) : Int := if x.line = 9 ∧ 0 ≤ idx S.N x.W then idx S.N x.W else 0
def tookE (S : Stk) (x : Op) : Int := if x.line = 9 then (if idx S.N x.W < 0 then 15 else 0) else 14
def laidE (e : Int) (x : Op) : Int := if x.line = 9 then e else 14

structure Stk.Ok (S : Stk) (n : Nat) : Prop where
  n1 : 1 ≤ n
  n2 : n ≤ 4096
  N1 : 1 ≤ S.N
  N2 : S.N ≤ 4096
  T1 : 0 ≤ S.T
  T2 : S.T < n
  K1 : 0 ≤ S.K
  K2 : S.K + S.N ≤ n
  ap : S.T < S.K ∨ S.K + S.N ≤ S.T

structure Wd (n : Nat) (s : St) : Prop where
  lo : ∀ i, 0 ≤ s.ws i
  hi : ∀ i, s.ws i < 18446744073709551616

theorem idx_lo (N w : Int) : -1 ≤ idx N w := by unfold idx; split <;> omega
theorem idx_hi (N w : Int) (h : 0 ≤ N) : idx N w < N := by unfold idx; split <;> omega
theorem idx_le (N w : Int) : idx N w ≤ 65534 := by unfold idx; split <;> omega
theorem idx_cases (N w : Int) (h : 0 ≤ N) : idx N w = -1 ∨ (0 ≤ idx N w ∧ idx N w < N) := by
  have := idx_lo N w
  have := idx_hi N w h
  omega
theorem topW_lo (i w : Int) (hi : -1 ≤ i) : 0 ≤ topW i w := by unfold topW; omega
theorem topW_hi (i w : Int) (hi : i ≤ 65534) : topW i w < 18446744073709551616 := by unfold topW; omega
theorem idx_topW (N i w : Int) (hi : -1 ≤ i) (hN : i < N) (hi' : i ≤ 65534) : idx N (topW i w) = i := by
  unfold idx topW
  have e : (i + 1 + (w / 65536 + 1) % 281474976710656 * 65536) % 65536 = i + 1 := by omega
  rw [e]
  split <;> omega
theorem idx_small (N i : Int) (hi : -1 ≤ i) (hN : i < N) (hi' : i ≤ 65534) : idx N (i + 1) = i := by
  unfold idx
  have e : (i + 1) % 65536 = i + 1 := by omega
  rw [e]
  split <;> omega
theorem tag_topW (i w : Int) (hi : -1 ≤ i) (hi' : i ≤ 65534) : topW i w / 65536 = (w / 65536 + 1) % 281474976710656 := by
  unfold topW; omega

theorem Wd.word {n : Nat} {s : St} (h : Wd n s) (a : Int) : 0 ≤ wordAt n s a ∧ wordAt n s a < 18446744073709551616 := by
  unfold wordAt
  split
  · exact ⟨h.lo _, h.hi _⟩
  · omega
theorem Wd.acc {n : Nat} {s : St} (h : Wd n s) (k a : Int) (wr : Bool) (v : Int) (h0 : 0 ≤ v) (h1 : v < 18446744073709551616) : Wd n (acc n s k a wr v) := by
  unfold Wo.acc
  split
  · cases wr
    · exact ⟨h.lo, h.hi⟩
    · refine ⟨fun i => ?_, fun i => ?_⟩
      · show 0 ≤ if i = a.toNat then v else s.ws i
        split
        · exact h0
        · exact h.lo i
      · show (if i = a.toNat then v else s.ws i) < _
        split
        · exact h1
        · exact h.hi i
  · exact ⟨h.lo, h.hi⟩
theorem acc_cnt (n : Nat) (s : St) (k a : Int) (wr : Bool) (v : Int) : (acc n s k a wr v).cnt = s.cnt + 1 := by
  unfold Wo.acc
  split
  · cases wr <;> rfl
  · rfl
theorem acc_new (n : Nat) (s : St) (k a v : Int) : (acc n s k a false v).new = wordAt n s a := by
  unfold Wo.acc wordAt
  split
  · rfl
  · rfl
theorem acc_held (n : Nat) (s : St) (k a v : Int) (b : Bool) (h0 : 0 ≤ a) (h1 : a < n) : (acc n s k a b v).held = b := by
  unfold Wo.acc
  rw [if_pos ⟨h0, h1⟩]
  cases b <;> rfl
theorem acc_kind (n : Nat) (s : St) (k a v : Int) (b : Bool) : (acc n s k a b v).kind = k := by
  unfold Wo.acc
  split
  · cases b <;> rfl
  · rfl
end Go.Proofs.Ytfcompikbeebaaa.Sk

namespace Go.Proofs.Ytfcompikbeebaaa.Wo
set_option maxRecDepth 20000
open Go.RowKit

theorem exists_nil (w : World) : Calls Try.prog 70 #[.pointer none] w fun e w' => e = .returned (.bool false) ∧ w = w' := by
  go_enter Try.func70, Try.ntmps70
  go_wp2
  go_ret
  exact ⟨rfl, rfl⟩
theorem exists_at (a : Addr) (w : World) : Calls Try.prog 70 #[.pointer (some a)] w fun e w' => e = .returned (.bool true) ∧ w = w' := by
  go_enter Try.func70, Try.ntmps70
  go_wp2
  go_ret
  exact ⟨rfl, rfl⟩
theorem word_nil (w : World) : Calls Try.prog 52 #[.pointer none] w fun e w' => e = .returned (.int .u64 0) ∧ w = w' := by
  go_enter Try.func52, Try.ntmps52
  go_wp2_with fail
  refine (exists_nil _).mono ?_
  rintro e w' ⟨rfl, rfl⟩
  go_wp2
  go_ret
  exact ⟨rfl, rfl⟩
theorem word_at (b o : Nat) (x : Int) (w : World) (hc : w.cell? ⟨b, o, none⟩ = some (.int .u64 x)) : Calls Try.prog 52 #[.pointer (some ⟨b, o, none⟩)] w fun e w' => e = .returned (.int .u64 x) ∧ w = w' := by
  go_enter Try.func52, Try.ntmps52
  go_wp2_with fail
  refine (exists_at _ _).mono ?_
  rintro e w' ⟨rfl, rfl⟩
  go_wp2
  go_ret
  exact ⟨rfl, rfl⟩

set_option maxHeartbeats 1000000 in
theorem keep_nil (o n : Int) (w : World) : Calls Try.prog 91 #[.agg #[.pointer none, .int .u64 o, .int .u64 n]] w fun e w' => e = .returned (.agg #[.int .i64 0, .int .i64 0, .int .u64 (0), .int .u64 (0), .bool false]) ∧ Kept w w' := by
  go_enter Try.func91, Try.ntmps91
  go_wp2_with fail
  refine (word_nil _).mono ?_
  rintro e w' ⟨rfl, rfl⟩
  go_wp2
  refine bodyPost_ret (v := (.agg #[.int .i64 0, .int .i64 0, .int .u64 (0), .int .u64 (0), .bool false])) (by simp [results, Try.results91, go_sem]) rfl ⟨rfl, ?_⟩
  (go_light; repeat (first | (with_reducible exact Kept.refl _) | (with_reducible assumption) | (with_reducible refine Kept.alloc ?_ _ _) | (with_reducible refine Kept.drew ?_) | (with_reducible refine Kept.drewN ?_ _) | ((with_reducible refine Kept.setCell ?_ ?_ _); rotate_left; focus (first | (simp; done) | (simp; omega))) | refine Kept.trans ?_ (by assumption)))
set_option maxHeartbeats 1000000 in
theorem keep_at (b i : Nat) (x o n : Int) (w : World) (hc : w.cell? ⟨b, i, none⟩ = some (.int .u64 x)) : Calls Try.prog 91 #[.agg #[.pointer (some ⟨b, i, none⟩), .int .u64 o, .int .u64 n]] w fun e w' => e = .returned (.agg #[.int .i64 0, .int .i64 0, .int .u64 (x), .int .u64 (x), .bool false]) ∧ Kept w w' := by
  have hb := lt_of_cell hc
  go_enter Try.func91, Try.ntmps91
  go_wp2_with fail
  refine (word_at b i x _ ?_).mono ?_
  · exact Kept.some (w := w) (by (go_light; repeat (first | (with_reducible exact Kept.refl _) | (with_reducible assumption) | (with_reducible refine Kept.alloc ?_ _ _) | (with_reducible refine Kept.drew ?_) | (with_reducible refine Kept.drewN ?_ _) | ((with_reducible refine Kept.setCell ?_ ?_ _); rotate_left; focus (first | (simp; done) | (simp; omega))) | refine Kept.trans ?_ (by assumption)))) hc
  rintro e w' ⟨rfl, rfl⟩
  go_wp2
  refine bodyPost_ret (v := (.agg #[.int .i64 0, .int .i64 0, .int .u64 (x), .int .u64 (x), .bool false])) (by simp [results, Try.results91, go_sem]) rfl ⟨rfl, ?_⟩
  (go_light; repeat (first | (with_reducible exact Kept.refl _) | (with_reducible assumption) | (with_reducible refine Kept.alloc ?_ _ _) | (with_reducible refine Kept.drew ?_) | (with_reducible refine Kept.drewN ?_ _) | ((with_reducible refine Kept.setCell ?_ ?_ _); rotate_left; focus (first | (simp; done) | (simp; omega))) | refine Kept.trans ?_ (by assumption)))

structure Wrote (b i : Nat) (v : Int) (w w' : World) : Prop where
  but : But (fun k => k = b) w w'
  cell : ∀ j, w'.cell? ⟨b, j, none⟩ = if j = i then some (.int .u64 v) else w.cell? ⟨b, j, none⟩

theorem Wrote.after {b i : Nat} {v : Int} {a w w' : World} (h : Wrote b i v w w') (k : Kept a w) (hb : b < a.heap.size) : Wrote b i v a w' :=
  ⟨(k.but _).trans h.but (fun _ _ h => h), fun j => by rw [h.cell, k.cell b j hb]⟩
theorem Wrote.then {b i : Nat} {v : Int} {w w' c : World} (h : Wrote b i v w w') (k : Kept w' c) (hb : b < w.heap.size) : Wrote b i v w c :=
  ⟨h.but.then k, fun j => by rw [k.cell b j (Nat.lt_of_lt_of_le hb h.but.size), h.cell]⟩
theorem Wrote.set {b i : Nat} {v : Int} {w w' : World} (h : Wrote b i v w w') (hb : b < w.heap.size) {p : Addr} (hp : w.heap.size ≤ p.block) (x : Value) : Wrote b i v w (w'.setCell p x) :=
  ⟨h.but.setCell (Or.inr hp) x, fun j => by rw [World.cell?_setCell_other _ _ _ _ (by intro e; subst e; exact absurd hp (by simp; omega)), h.cell]⟩
theorem Wrote.mk' {b i : Nat} {x v : Int} {w : World} (hc : w.cell? ⟨b, i, none⟩ = some (.int .u64 x)) : Wrote b i v w (w.setCell ⟨b, i, none⟩ (.int .u64 v)) :=
  ⟨(But.refl (fun k => k = b) w).setCell (p := ⟨b, i, none⟩) (Or.inl rfl) _, fun j => by
    rw [cell_set]
    by_cases h : i = j
    · subst h; rw [if_pos rfl, if_pos rfl, hc]; rfl
    · rw [if_neg h, if_neg (fun e => h e.symm)]⟩

set_option maxHeartbeats 1000000 in
theorem write_nil (o n v : Int) (w : World) : Calls Try.prog 77 #[.agg #[.pointer none, .int .u64 o, .int .u64 n], .int .u64 v] w fun e w' => e = .returned (.agg #[.int .i64 0, .int .i64 0, .int .u64 (0), .int .u64 (0), .bool false]) ∧ Kept w w' := by
  go_enter Try.func77, Try.ntmps77
  go_wp2_with fail
  refine (exists_nil _).mono ?_
  rintro e w' ⟨rfl, rfl⟩
  go_wp2_with fail
  refine (keep_nil _ _ _).mono ?_
  rintro e w' ⟨rfl, k⟩
  have hc := k.cell
  have hfr := k.froze
  have hz := k.size
  simp at hz
  have hz1 : w.heap.size < w'.heap.size := by omega
  have hz2 : w.heap.size + 1 < w'.heap.size := by omega
  clear hz
  go_wp2
  refine bodyPost_ret (v := (.agg #[.int .i64 0, .int .i64 0, .int .u64 (0), .int .u64 (0), .bool false])) (by simp [results, Try.results77, go_sem, hc]) rfl ⟨rfl, ?_⟩
  (go_light; repeat (first | (with_reducible exact Kept.refl _) | (with_reducible assumption) | (with_reducible refine Kept.alloc ?_ _ _) | (with_reducible refine Kept.drew ?_) | (with_reducible refine Kept.drewN ?_ _) | ((with_reducible refine Kept.setCell ?_ ?_ _); rotate_left; focus (first | (simp; done) | (simp; omega))) | refine Kept.trans ?_ (by assumption)))
set_option maxHeartbeats 1000000 in
theorem write_at (b i : Nat) (x o n v : Int) (w : World) (hc : w.cell? ⟨b, i, none⟩ = some (.int .u64 x)) (hf : w.frozen? ⟨b, i, none⟩ = false) : Calls Try.prog 77 #[.agg #[.pointer (some ⟨b, i, none⟩), .int .u64 o, .int .u64 n], .int .u64 v] w fun e w' => e = .returned (.agg #[.int .i64 0, .int .i64 0, .int .u64 (x), .int .u64 (v), .bool true]) ∧ Wrote b i v w w' := by
  have hb := lt_of_cell hc
  go_enter Try.func77, Try.ntmps77
  go_wp2_with fail
  refine (exists_at _ _).mono ?_
  rintro e w' ⟨rfl, rfl⟩
  go_wp2_with fail
  refine (word_at b i x _ ?_).mono ?_
  · exact Kept.some (w := w) (by (go_light; repeat (first | (with_reducible exact Kept.refl _) | (with_reducible assumption) | (with_reducible refine Kept.alloc ?_ _ _) | (with_reducible refine Kept.drew ?_) | (with_reducible refine Kept.drewN ?_ _) | ((with_reducible refine Kept.setCell ?_ ?_ _); rotate_left; focus (first | (simp; done) | (simp; omega))) | refine Kept.trans ?_ (by assumption)))) hc
  rintro e w' ⟨rfl, rfl⟩
  go_wp2
  refine bodyPost_ret (v := (.agg #[.int .i64 0, .int .i64 0, .int .u64 (x), .int .u64 (v), .bool true])) (by simp [results, Try.results77, go_sem]) rfl ⟨rfl, ?_⟩
  go_light
  refine Wrote.then (Wrote.mk' hc) ?_ hb
  (go_light; repeat (first | (with_reducible exact Kept.refl _) | (with_reducible assumption) | (with_reducible refine Kept.alloc ?_ _ _) | (with_reducible refine Kept.drew ?_) | (with_reducible refine Kept.drewN ?_ _) | ((with_reducible refine Kept.setCell ?_ ?_ _); rotate_left; focus (first | (simp; done) | (simp; omega))) | refine Kept.trans ?_ (by assumption)))
set_option maxHeartbeats 1000000 in
theorem load_nil (o n : Int) (w : World) : Calls Try.prog 89 #[.agg #[.pointer none, .int .u64 o, .int .u64 n]] w fun e w' => e = .returned (.agg #[.int .i64 0, .int .i64 0, .int .u64 (0), .int .u64 (0), .bool false]) ∧ Kept w w' := by
  go_enter Try.func89, Try.ntmps89
  go_wp2_with fail
  refine (keep_nil _ _ _).mono ?_
  rintro e w' ⟨rfl, k⟩
  have k1 := k
  have hcc := k.cell
  have hfr := k.froze
  have hz := k.size
  simp at hz
  have hz1 : w.heap.size < w'.heap.size := by omega
  have hz2 : w.heap.size + 1 < w'.heap.size := by omega
  clear hz k
  go_wp2
  refine bodyPost_ret (v := (.agg #[.int .i64 0, .int .i64 0, .int .u64 (0), .int .u64 (0), .bool false])) (by simp [results, Try.results89, go_sem, hcc]) rfl ⟨rfl, ?_⟩
  (go_light; repeat (first | (with_reducible exact Kept.refl _) | (with_reducible assumption) | (with_reducible refine Kept.alloc ?_ _ _) | (with_reducible refine Kept.drew ?_) | (with_reducible refine Kept.drewN ?_ _) | ((with_reducible refine Kept.setCell ?_ ?_ _); rotate_left; focus (first | (simp; done) | (simp; omega))) | refine Kept.trans ?_ (by assumption)))
set_option maxHeartbeats 1000000 in
theorem load_at (b i : Nat) (x o n : Int) (w : World) (hc : w.cell? ⟨b, i, none⟩ = some (.int .u64 x)) : Calls Try.prog 89 #[.agg #[.pointer (some ⟨b, i, none⟩), .int .u64 o, .int .u64 n]] w fun e w' => e = .returned (.agg #[.int .i64 0, .int .i64 0, .int .u64 (x), .int .u64 (x), .bool false]) ∧ Kept w w' := by
  go_enter Try.func89, Try.ntmps89
  go_wp2_with fail
  refine (keep_at b i x _ _ _ ?_).mono ?_
  · exact Kept.some (w := w) (by (go_light; repeat (first | (with_reducible exact Kept.refl _) | (with_reducible assumption) | (with_reducible refine Kept.alloc ?_ _ _) | (with_reducible refine Kept.drew ?_) | (with_reducible refine Kept.drewN ?_ _) | ((with_reducible refine Kept.setCell ?_ ?_ _); rotate_left; focus (first | (simp; done) | (simp; omega))) | refine Kept.trans ?_ (by assumption)))) hc
  rintro e w' ⟨rfl, k⟩
  have k1 := k
  have hcc := k.cell
  have hfr := k.froze
  have hz := k.size
  simp at hz
  have hz1 : w.heap.size < w'.heap.size := by omega
  have hz2 : w.heap.size + 1 < w'.heap.size := by omega
  clear hz k
  go_wp2
  refine bodyPost_ret (v := (.agg #[.int .i64 0, .int .i64 0, .int .u64 (x), .int .u64 (x), .bool false])) (by simp [results, Try.results89, go_sem, hcc]) rfl ⟨rfl, ?_⟩
  (go_light; repeat (first | (with_reducible exact Kept.refl _) | (with_reducible assumption) | (with_reducible refine Kept.alloc ?_ _ _) | (with_reducible refine Kept.drew ?_) | (with_reducible refine Kept.drewN ?_ _) | ((with_reducible refine Kept.setCell ?_ ?_ _); rotate_left; focus (first | (simp; done) | (simp; omega))) | refine Kept.trans ?_ (by assumption)))
set_option maxHeartbeats 1000000 in
theorem store_nil (o n : Int) (w : World) : Calls Try.prog 63 #[.agg #[.pointer none, .int .u64 o, .int .u64 n]] w fun e w' => e = .returned (.agg #[.int .i64 0, .int .i64 0, .int .u64 (0), .int .u64 (0), .bool false]) ∧ Kept w w' := by
  go_enter Try.func63, Try.ntmps63
  go_wp2_with fail
  refine (write_nil _ _ _ _).mono ?_
  rintro e w' ⟨rfl, k⟩
  have c0 : w'.cell? ⟨w.heap.size + 1, 0, none⟩ = some (.int .i64 0) := k.some (by simp)
  have c1 : w'.cell? ⟨w.heap.size + 1, 1, none⟩ = some (.int .i64 0) := k.some (by simp)
  have c2 : w'.cell? ⟨w.heap.size + 1, 2, none⟩ = some (.int .u64 0) := k.some (by simp)
  have c3 : w'.cell? ⟨w.heap.size + 1, 3, none⟩ = some (.int .u64 0) := k.some (by simp)
  have c4 : w'.cell? ⟨w.heap.size + 1, 4, none⟩ = some (.bool false) := k.some (by simp)
  have f0 : ∀ i, w'.frozen? ⟨w.heap.size + 1, i, none⟩ = false := fun i => by rw [k.froze]; simp
  have K := Lib.hid k
  clear k
  go_wp2
  refine bodyPost_ret (v := (.agg #[.int .i64 0, .int .i64 0, .int .u64 (0), .int .u64 (0), .bool false])) (by simp [results, Try.results63, go_sem, cell_set, *]) rfl ⟨rfl, ?_⟩
  have k := K.out
  (go_light; repeat (first | (with_reducible exact Kept.refl _) | (with_reducible assumption) | (with_reducible refine Kept.alloc ?_ _ _) | (with_reducible refine Kept.drew ?_) | (with_reducible refine Kept.drewN ?_ _) | ((with_reducible refine Kept.setCell ?_ ?_ _); rotate_left; focus (first | (simp; done) | (simp; omega))) | refine Kept.trans ?_ (by assumption)))
set_option maxHeartbeats 1000000 in
theorem store_at (b i : Nat) (x o n : Int) (w : World) (hc : w.cell? ⟨b, i, none⟩ = some (.int .u64 x)) (hf : w.frozen? ⟨b, i, none⟩ = false) : Calls Try.prog 63 #[.agg #[.pointer (some ⟨b, i, none⟩), .int .u64 o, .int .u64 n]] w fun e w' => e = .returned (.agg #[.int .i64 0, .int .i64 0, .int .u64 (x), .int .u64 (n), .bool true]) ∧ Wrote b i n w w' := by
  have hb := lt_of_cell hc
  go_enter Try.func63, Try.ntmps63
  go_wp2_with fail
  refine (write_at b i x _ _ _ _ ?_ ?_).mono ?_
  · exact Kept.some (w := w) (by (go_light; repeat (first | (with_reducible exact Kept.refl _) | (with_reducible assumption) | (with_reducible refine Kept.alloc ?_ _ _) | (with_reducible refine Kept.drew ?_) | (with_reducible refine Kept.drewN ?_ _) | ((with_reducible refine Kept.setCell ?_ ?_ _); rotate_left; focus (first | (simp; done) | (simp; omega))) | refine Kept.trans ?_ (by assumption)))) hc
  · rw [Kept.froze (w := w) (by (go_light; repeat (first | (with_reducible exact Kept.refl _) | (with_reducible assumption) | (with_reducible refine Kept.alloc ?_ _ _) | (with_reducible refine Kept.drew ?_) | (with_reducible refine Kept.drewN ?_ _) | ((with_reducible refine Kept.setCell ?_ ?_ _); rotate_left; focus (first | (simp; done) | (simp; omega))) | refine Kept.trans ?_ (by assumption))))]; exact hf
  rintro e w' ⟨rfl, k⟩
  have c0 : w'.cell? ⟨w.heap.size + 1, 0, none⟩ = some (.int .i64 0) := k.but.some (by simp) (by omega)
  have c1 : w'.cell? ⟨w.heap.size + 1, 1, none⟩ = some (.int .i64 0) := k.but.some (by simp) (by omega)
  have c2 : w'.cell? ⟨w.heap.size + 1, 2, none⟩ = some (.int .u64 0) := k.but.some (by simp) (by omega)
  have c3 : w'.cell? ⟨w.heap.size + 1, 3, none⟩ = some (.int .u64 0) := k.but.some (by simp) (by omega)
  have c4 : w'.cell? ⟨w.heap.size + 1, 4, none⟩ = some (.bool false) := k.but.some (by simp) (by omega)
  have f0 : ∀ i, w'.frozen? ⟨w.heap.size + 1, i, none⟩ = false := fun i => by rw [k.but.froze]; simp
  have K := Lib.hid k
  clear k
  go_wp2
  refine bodyPost_ret (v := (.agg #[.int .i64 0, .int .i64 0, .int .u64 (x), .int .u64 (n), .bool true])) (by simp [results, Try.results63, go_sem, cell_set, *]) rfl ⟨rfl, ?_⟩
  have k := K.out
  go_light
  repeat ((with_reducible refine Wrote.set ?_ hb ?_ _); rotate_left; focus (simp; done))
  refine Wrote.after k ?_ hb
  (go_light; repeat (first | (with_reducible exact Kept.refl _) | (with_reducible assumption) | (with_reducible refine Kept.alloc ?_ _ _) | (with_reducible refine Kept.drew ?_) | (with_reducible refine Kept.drewN ?_ _) | ((with_reducible refine Kept.setCell ?_ ?_ _); rotate_left; focus (first | (simp; done) | (simp; omega))) | refine Kept.trans ?_ (by assumption)))
set_option maxHeartbeats 1000000 in
theorem swap_nil (o n : Int) (w : World) : Calls Try.prog 99 #[.agg #[.pointer none, .int .u64 o, .int .u64 n]] w fun e w' => e = .returned (.agg #[.int .i64 0, .int .i64 0, .int .u64 (0), .int .u64 (0), .bool false]) ∧ Kept w w' := by
  by_cases ho : o = 0
  · subst ho
    go_enter Try.func99, Try.ntmps99
    go_wp2_with fail
    go_region_held3 (fun w' => w'.cell? ⟨w.heap.size, 0, none⟩ = some (.pointer none) ∧ w'.cell? ⟨w.heap.size, 1, none⟩ = some (.int .u64 0) ∧ w'.cell? ⟨w.heap.size, 2, none⟩ = some (.int .u64 n)) (first | go_keep | assumption) (first | (go_at_call 52; refine (word_nil _).mono ?_; rintro e w' ⟨rfl, rfl⟩))
    go_wp2_with fail
    refine (write_nil _ _ _ _).mono ?_
    rintro e w' ⟨rfl, k⟩
    have c0 : w'.cell? ⟨w.heap.size + 1, 0, none⟩ = some (.int .i64 0) := k.some (by simp)
    have c1 : w'.cell? ⟨w.heap.size + 1, 1, none⟩ = some (.int .i64 0) := k.some (by simp)
    have c2 : w'.cell? ⟨w.heap.size + 1, 2, none⟩ = some (.int .u64 0) := k.some (by simp)
    have c3 : w'.cell? ⟨w.heap.size + 1, 3, none⟩ = some (.int .u64 0) := k.some (by simp)
    have c4 : w'.cell? ⟨w.heap.size + 1, 4, none⟩ = some (.bool false) := k.some (by simp)
    have f0 : ∀ i, w'.frozen? ⟨w.heap.size + 1, i, none⟩ = false := fun i => by rw [k.froze]; simp
    have K := Lib.hid k
    clear k
    go_wp2
    refine bodyPost_ret (v := (.agg #[.int .i64 0, .int .i64 0, .int .u64 (0), .int .u64 (0), .bool false])) (by simp [results, Try.results99, go_sem, cell_set, *]) rfl ⟨rfl, ?_⟩
    have k := K.out
    (go_light; repeat (first | (with_reducible exact Kept.refl _) | (with_reducible assumption) | (with_reducible refine Kept.alloc ?_ _ _) | (with_reducible refine Kept.drew ?_) | (with_reducible refine Kept.drewN ?_ _) | ((with_reducible refine Kept.setCell ?_ ?_ _); rotate_left; focus (first | (simp; done) | (simp; omega))) | refine Kept.trans ?_ (by assumption)))
  · have hq : ((0 : Int) != o) = true := by simp; omega
    go_enter Try.func99, Try.ntmps99
    go_wp2_with fail
    go_region_held3 (fun w' => w'.cell? ⟨w.heap.size, 0, none⟩ = some (.pointer none) ∧ w'.cell? ⟨w.heap.size, 1, none⟩ = some (.int .u64 o) ∧ w'.cell? ⟨w.heap.size, 2, none⟩ = some (.int .u64 n)) (first | go_keep | assumption) (first | (go_at_call 52; refine (word_nil _).mono ?_; rintro e w' ⟨rfl, rfl⟩))
    go_wp2_with fail
    refine (keep_nil _ _ _).mono ?_
    rintro e w' ⟨rfl, k⟩
    have c0 : w'.cell? ⟨w.heap.size + 1, 0, none⟩ = some (.int .i64 0) := k.some (by simp)
    have c1 : w'.cell? ⟨w.heap.size + 1, 1, none⟩ = some (.int .i64 0) := k.some (by simp)
    have c2 : w'.cell? ⟨w.heap.size + 1, 2, none⟩ = some (.int .u64 0) := k.some (by simp)
    have c3 : w'.cell? ⟨w.heap.size + 1, 3, none⟩ = some (.int .u64 0) := k.some (by simp)
    have c4 : w'.cell? ⟨w.heap.size + 1, 4, none⟩ = some (.bool false) := k.some (by simp)
    have f0 : ∀ i, w'.frozen? ⟨w.heap.size + 1, i, none⟩ = false := fun i => by rw [k.froze]; simp
    have K := Lib.hid k
    clear k
    go_wp2
    refine bodyPost_ret (v := (.agg #[.int .i64 0, .int .i64 0, .int .u64 (0), .int .u64 (0), .bool false])) (by simp [results, Try.results99, go_sem, cell_set, *]) rfl ⟨rfl, ?_⟩
    have k := K.out
    (go_light; repeat (first | (with_reducible exact Kept.refl _) | (with_reducible assumption) | (with_reducible refine Kept.alloc ?_ _ _) | (with_reducible refine Kept.drew ?_) | (with_reducible refine Kept.drewN ?_ _) | ((with_reducible refine Kept.setCell ?_ ?_ _); rotate_left; focus (first | (simp; done) | (simp; omega))) | refine Kept.trans ?_ (by assumption)))
set_option maxHeartbeats 1000000 in
theorem swap_no (b i : Nat) (x o n : Int) (w : World) (hc : w.cell? ⟨b, i, none⟩ = some (.int .u64 x)) (hq : (x != o) = true) : Calls Try.prog 99 #[.agg #[.pointer (some ⟨b, i, none⟩), .int .u64 o, .int .u64 n]] w fun e w' => e = .returned (.agg #[.int .i64 0, .int .i64 0, .int .u64 (x), .int .u64 (x), .bool false]) ∧ Kept w w' := by
  have hb := lt_of_cell hc
  go_enter Try.func99, Try.ntmps99
  go_wp2_with fail
  go_region_held3 (fun w' => w'.cell? ⟨w.heap.size, 0, none⟩ = some (.pointer (some ⟨b, i, none⟩)) ∧ w'.cell? ⟨w.heap.size, 1, none⟩ = some (.int .u64 o) ∧ w'.cell? ⟨w.heap.size, 2, none⟩ = some (.int .u64 n)) (first | go_keep | assumption) (first | (go_at_call 52; refine (word_at b i x _ (Kept.some (w := w) (by (go_light; repeat (first | (with_reducible exact Kept.refl _) | (with_reducible assumption) | (with_reducible refine Kept.alloc ?_ _ _) | (with_reducible refine Kept.drew ?_) | (with_reducible refine Kept.drewN ?_ _) | ((with_reducible refine Kept.setCell ?_ ?_ _); rotate_left; focus (first | (simp; done) | (simp; omega))) | refine Kept.trans ?_ (by assumption)))) hc)).mono ?_; rintro e w' ⟨rfl, rfl⟩))
  go_wp2_with fail
  refine (keep_at b i x _ _ _ ?_).mono ?_
  · exact Kept.some (w := w) (by (go_light; repeat (first | (with_reducible exact Kept.refl _) | (with_reducible assumption) | (with_reducible refine Kept.alloc ?_ _ _) | (with_reducible refine Kept.drew ?_) | (with_reducible refine Kept.drewN ?_ _) | ((with_reducible refine Kept.setCell ?_ ?_ _); rotate_left; focus (first | (simp; done) | (simp; omega))) | refine Kept.trans ?_ (by assumption)))) hc
  rintro e w' ⟨rfl, k⟩
  have c0 : w'.cell? ⟨w.heap.size + 1, 0, none⟩ = some (.int .i64 0) := k.some (by simp)
  have c1 : w'.cell? ⟨w.heap.size + 1, 1, none⟩ = some (.int .i64 0) := k.some (by simp)
  have c2 : w'.cell? ⟨w.heap.size + 1, 2, none⟩ = some (.int .u64 0) := k.some (by simp)
  have c3 : w'.cell? ⟨w.heap.size + 1, 3, none⟩ = some (.int .u64 0) := k.some (by simp)
  have c4 : w'.cell? ⟨w.heap.size + 1, 4, none⟩ = some (.bool false) := k.some (by simp)
  have f0 : ∀ i, w'.frozen? ⟨w.heap.size + 1, i, none⟩ = false := fun i => by rw [k.froze]; simp
  have K := Lib.hid k
  clear k
  go_wp2
  refine bodyPost_ret (v := (.agg #[.int .i64 0, .int .i64 0, .int .u64 (x), .int .u64 (x), .bool false])) (by simp [results, Try.results99, go_sem, cell_set, *]) rfl ⟨rfl, ?_⟩
  have k := K.out
  (go_light; repeat (first | (with_reducible exact Kept.refl _) | (with_reducible assumption) | (with_reducible refine Kept.alloc ?_ _ _) | (with_reducible refine Kept.drew ?_) | (with_reducible refine Kept.drewN ?_ _) | ((with_reducible refine Kept.setCell ?_ ?_ _); rotate_left; focus (first | (simp; done) | (simp; omega))) | refine Kept.trans ?_ (by assumption)))
set_option maxHeartbeats 1000000 in
theorem swap_yes (b i : Nat) (x n : Int) (w : World) (hc : w.cell? ⟨b, i, none⟩ = some (.int .u64 x)) (hf : w.frozen? ⟨b, i, none⟩ = false) : Calls Try.prog 99 #[.agg #[.pointer (some ⟨b, i, none⟩), .int .u64 x, .int .u64 n]] w fun e w' => e = .returned (.agg #[.int .i64 0, .int .i64 0, .int .u64 (x), .int .u64 (n), .bool true]) ∧ Wrote b i n w w' := by
  have hb := lt_of_cell hc
  go_enter Try.func99, Try.ntmps99
  go_wp2_with fail
  go_region_held3 (fun w' => w'.cell? ⟨w.heap.size, 0, none⟩ = some (.pointer (some ⟨b, i, none⟩)) ∧ w'.cell? ⟨w.heap.size, 1, none⟩ = some (.int .u64 x) ∧ w'.cell? ⟨w.heap.size, 2, none⟩ = some (.int .u64 n)) (first | go_keep | assumption) (first | (go_at_call 52; refine (word_at b i x _ (Kept.some (w := w) (by (go_light; repeat (first | (with_reducible exact Kept.refl _) | (with_reducible assumption) | (with_reducible refine Kept.alloc ?_ _ _) | (with_reducible refine Kept.drew ?_) | (with_reducible refine Kept.drewN ?_ _) | ((with_reducible refine Kept.setCell ?_ ?_ _); rotate_left; focus (first | (simp; done) | (simp; omega))) | refine Kept.trans ?_ (by assumption)))) hc)).mono ?_; rintro e w' ⟨rfl, rfl⟩))
  go_wp2_with fail
  refine (write_at b i x _ _ _ _ ?_ ?_).mono ?_
  · exact Kept.some (w := w) (by (go_light; repeat (first | (with_reducible exact Kept.refl _) | (with_reducible assumption) | (with_reducible refine Kept.alloc ?_ _ _) | (with_reducible refine Kept.drew ?_) | (with_reducible refine Kept.drewN ?_ _) | ((with_reducible refine Kept.setCell ?_ ?_ _); rotate_left; focus (first | (simp; done) | (simp; omega))) | refine Kept.trans ?_ (by assumption)))) hc
  · rw [Kept.froze (w := w) (by (go_light; repeat (first | (with_reducible exact Kept.refl _) | (with_reducible assumption) | (with_reducible refine Kept.alloc ?_ _ _) | (with_reducible refine Kept.drew ?_) | (with_reducible refine Kept.drewN ?_ _) | ((with_reducible refine Kept.setCell ?_ ?_ _); rotate_left; focus (first | (simp; done) | (simp; omega))) | refine Kept.trans ?_ (by assumption))))]; exact hf
  rintro e w' ⟨rfl, k⟩
  have c0 : w'.cell? ⟨w.heap.size + 1, 0, none⟩ = some (.int .i64 0) := k.but.some (by simp) (by omega)
  have c1 : w'.cell? ⟨w.heap.size + 1, 1, none⟩ = some (.int .i64 0) := k.but.some (by simp) (by omega)
  have c2 : w'.cell? ⟨w.heap.size + 1, 2, none⟩ = some (.int .u64 0) := k.but.some (by simp) (by omega)
  have c3 : w'.cell? ⟨w.heap.size + 1, 3, none⟩ = some (.int .u64 0) := k.but.some (by simp) (by omega)
  have c4 : w'.cell? ⟨w.heap.size + 1, 4, none⟩ = some (.bool false) := k.but.some (by simp) (by omega)
  have f0 : ∀ i, w'.frozen? ⟨w.heap.size + 1, i, none⟩ = false := fun i => by rw [k.but.froze]; simp
  have K := Lib.hid k
  clear k
  go_wp2
  refine bodyPost_ret (v := (.agg #[.int .i64 0, .int .i64 0, .int .u64 (x), .int .u64 (n), .bool true])) (by simp [results, Try.results99, go_sem, cell_set, *]) rfl ⟨rfl, ?_⟩
  have k := K.out
  go_light
  repeat ((with_reducible refine Wrote.set ?_ hb ?_ _); rotate_left; focus (simp; done))
  refine Wrote.after k ?_ hb
  (go_light; repeat (first | (with_reducible exact Kept.refl _) | (with_reducible assumption) | (with_reducible refine Kept.alloc ?_ _ _) | (with_reducible refine Kept.drew ?_) | (with_reducible refine Kept.drewN ?_ _) | ((with_reducible refine Kept.setCell ?_ ?_ _); rotate_left; focus (first | (simp; done) | (simp; omega))) | refine Kept.trans ?_ (by assumption)))
end Go.Proofs.Ytfcompikbeebaaa.Wo

namespace Go.Proofs.Ytfcompikbeebaaa.Wo
set_option maxRecDepth 20000
open Go.RowKit

theorem infoWord : (Try.prog.info? 30).map (fun i => (i.zero, i.size, i.bytes)) = some (some (.int .u64 0), 1, 8) := by kernel_rfl

theorem make_words (n : Nat) (hn : n ≤ 1000000) : ∃ Z : Array Value, (∀ i, i < n → Z[i]? = some (.int .u64 0)) ∧
    ∀ w : World, (Instr.makeSlice 69 (.int .i64 (n : Int)) (.int .i64 (n : Int))).run Try.prog w = .ok (.slice (some ⟨w.heap.size, 0, none⟩) n n) (w.alloc (.cells Z 30)) := by
  obtain ⟨i0, hi, hz0, hz1, hz2⟩ := info_parts infoWord
  refine ⟨madeCells #[.int .u64 0] n, fun i h => ?_, fun w => ?_⟩
  · have e : (madeCells #[.int .u64 0] n)[i]? = (madeCells #[.int .u64 0] n).toList[i]? := by simp
    rw [e, toList_madeCells_one]
    simp [h]
  · have h := run_makeSlice (P := Try.prog) w 69 30 i0 (.int .u64 0) Try.underlying69 hi hz0 .i64 .i64 (n : Int) (n : Int) (by omega) (Int.le_refl _) (by rw [hz1]; omega) (by rw [hz2]; omega) (by omega)
    rw [h, hz1]
    simp [Value.cells]
end Go.Proofs.Ytfcompikbeebaaa.Wo

namespace Go.Proofs.Ytfcompikbeebaaa.Wo
set_option maxRecDepth 20000
open Go.RowKit

def St.zero : St := { ws := fun _ => 0, kind := 0, at_ := 0, old := 0, new := 0, held := false, cnt := 0 }

def NewPost (n : Nat) (w : World) (e : Ending) (w' : World) : Prop :=
  ∃ M B, e = .returned (.tuple #[.pointer (some ⟨M, 0, none⟩), .int .i64 0]) ∧ RefIs w' M B n St.zero ∧ w.heap.size ≤ M ∧ w.heap.size ≤ B ∧ M < w'.heap.size ∧ B < w'.heap.size ∧ Kept w w'

end Go.Proofs.Ytfcompikbeebaaa.Wo

namespace Go.Proofs.Ytfcompikbeebaaa.Wo
set_option maxRecDepth 20000
open Go.RowKit

theorem RefMem.frame {w w' : World} {M B n : Nat} {ws : Nat → Int} {k a o v c : Int} {h : Bool} (hm : RefMem w M B n ws k a o v h c) {T : Nat → Prop} (hb : But T w w') (hM : ¬ T M) (hB : ¬ T B) : RefMem w' M B n ws k a o v h c :=
  ⟨hb.some hm.c0 hM, hb.some hm.c1 hM, hb.some hm.c2 hM, hb.some hm.c3 hM, hb.some hm.c4 hM, hb.some hm.c5 hM, hb.some hm.c6 hM,
   fun i hi => hb.some (hm.words i hi) hB, fun i => (hb.froze _).trans (hm.fM i), fun i => (hb.froze _).trans (hm.fB i), hm.ne⟩
theorem RefIs.frame {w w' : World} {M B n : Nat} {s : St} (hm : RefIs w M B n s) {T : Nat → Prop} (hb : But T w w') (hM : ¬ T M) (hB : ¬ T B) : RefIs w' M B n s := RefMem.frame hm hb hM hB

def WordsPost (n : Nat) (s : St) (w : World) (e : Ending) (w' : World) : Prop :=
  ∃ b c, e = .returned (.slice (some ⟨b, 0, none⟩) n c) ∧ w.heap.size ≤ b ∧ b < w'.heap.size ∧ (∀ i, i < n → w'.cell? ⟨b, i, none⟩ = some (.int .u64 (s.ws i))) ∧ (∀ i, w'.frozen? ⟨b, i, none⟩ = false) ∧ Kept w w'

def MadePost (Is : World → Nat → (Nat → Prop) → Nat → St → Prop) (n : Nat) (s : St) (w : World) (e : Ending) (w' : World) : Prop :=
  ∃ M S, e = .returned (.tuple #[.pointer (some ⟨M, 0, none⟩), .int .i64 0]) ∧ Is w' M S n s ∧ (∀ k, S k → w.heap.size ≤ k ∧ k < w'.heap.size) ∧ Kept w w'

end Go.Proofs.Ytfcompikbeebaaa.Wo
