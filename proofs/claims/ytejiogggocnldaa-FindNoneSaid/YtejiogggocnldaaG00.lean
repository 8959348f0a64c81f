/- Kept w w': the world w' is w with new blocks laid behind it; what was there is as it was. For contracts that only answer a value. -/
import Derived.WalkKit
import Derived.WalkSpells
import Derived.Deep.Draws
import Derived.Test.YtejiogggocnldaaProg
import Derived.WalkLawsBesides
import Derived.Deep.QuietTactic
import Derived.BigQuiet
import Derived.Lib.Hide
import Derived.Deep.Light
set_option linter.unusedVariables false
set_option linter.unusedSimpArgs false

namespace Go.Proofs.Ytejiogggocnldaa.Wo
set_option maxRecDepth 20000
open Go.RowKit

structure Kept (w w' : World) : Prop where
  below : Below w.heap.size w w'
  froze : ∀ a, w'.frozen? a = w.frozen? a

theorem Kept.refl (w : World) : Kept w w := ⟨Below.refl _ _, fun _ => rfl⟩
theorem Kept.trans {a b c : World} (h : Kept a b) (k : Kept b c) : Kept a c :=
  ⟨h.below.trans (k.below.mono h.below.size), fun x => (k.froze x).trans (h.froze x)⟩
theorem Kept.alloc {a w : World} (h : Kept a w) (c : Array Value) (t : TypeId) : Kept a (w.alloc (.cells c t)) :=
  ⟨h.below.alloc h.below.size _, fun x => (frozen?_alloc_cells _ _ _ x).trans (h.froze x)⟩
theorem Kept.drew {a w : World} (h : Kept a w) : Kept a w.drew := ⟨h.below.drew, h.froze⟩
theorem Kept.drewN {a w : World} (h : Kept a w) (n : Nat) : Kept a (w.drewN n) := ⟨h.below.trans ⟨rfl, rfl, rfl, Nat.le_refl _, fun _ _ => rfl⟩, h.froze⟩
theorem Kept.setCell {a w : World} (h : Kept a w) {p : Addr} (hp : a.heap.size ≤ p.block) (v : Value) : Kept a (w.setCell p v) :=
  ⟨h.below.setCell hp v, fun x => (World.frozen?_setCell _ _ _ _).trans (h.froze x)⟩
theorem Kept.cell {w w' : World} (h : Kept w w') (b o : Nat) (hb : b < w.heap.size) : w'.cell? ⟨b, o, none⟩ = w.cell? ⟨b, o, none⟩ := h.below.cell (p := ⟨b, o, none⟩) hb
theorem Kept.size {w w' : World} (h : Kept w w') : w.heap.size ≤ w'.heap.size := h.below.size
theorem Kept.grown {w w' : World} (h : Kept w w') : Grown w w' := ⟨h.below.frame _, h.froze, h.below.size⟩
theorem lt_of_cell {w : World} {b o : Nat} {v : Value} (h : w.cell? ⟨b, o, none⟩ = some v) : b < w.heap.size := World.block_lt_of_cell? w ⟨b, o, none⟩ h
theorem Kept.some {w w' : World} (h : Kept w w') {b o : Nat} {v : Value} (hc : w.cell? ⟨b, o, none⟩ = some v) : w'.cell? ⟨b, o, none⟩ = some v := by
  rw [h.cell b o (lt_of_cell hc)]; exact hc
theorem Kept.past {w w' : World} {x : Obj} (h : Kept (w.alloc x) w') {b o : Nat} {v : Value} (hc : w.cell? ⟨b, o, none⟩ = Option.some v) : w'.cell? ⟨b, o, none⟩ = Option.some v :=
  h.some (by rw [World.cell?_alloc_past _ _ _ (lt_of_cell hc)]; exact hc)
end Go.Proofs.Ytejiogggocnldaa.Wo

namespace Go.Proofs.Ytejiogggocnldaa.Wo
set_option maxRecDepth 20000
open Go.RowKit

structure But (S : Nat → Prop) (w w' : World) : Prop where
  os : w'.os = w.os
  tape : w'.tape = w.tape
  output : w'.output = w.output
  size : w.heap.size ≤ w'.heap.size
  block : ∀ k, k < w.heap.size → ¬ S k → w'.heap[k]? = w.heap[k]?
  froze : ∀ a, w'.frozen? a = w.frozen? a

theorem Kept.but {w w' : World} (h : Kept w w') (S : Nat → Prop) : But S w w' :=
  ⟨h.below.os, h.below.tape, h.below.output, h.below.size, fun k hk _ => h.below.block k hk, h.froze⟩
theorem But.refl (S : Nat → Prop) (w : World) : But S w w := (Kept.refl w).but S
theorem But.mono {S T : Nat → Prop} {w w' : World} (h : But S w w') (hST : ∀ k, k < w.heap.size → S k → T k) : But T w w' :=
  ⟨h.os, h.tape, h.output, h.size, fun k hk hT => h.block k hk (fun hS => hT (hST k hk hS)), h.froze⟩
theorem But.trans {S T : Nat → Prop} {a b c : World} (h : But S a b) (k : But T b c) (hT : ∀ i, i < a.heap.size → T i → S i) : But S a c :=
  ⟨k.os.trans h.os, k.tape.trans h.tape, k.output.trans h.output, Nat.le_trans h.size k.size,
   fun i hi hS => (k.block i (Nat.lt_of_lt_of_le hi h.size) (fun ht => hS (hT i hi ht))).trans (h.block i hi hS), fun x => (k.froze x).trans (h.froze x)⟩
theorem But.then {S : Nat → Prop} {a b c : World} (h : But S a b) (k : Kept b c) : But S a c := h.trans (k.but S) (fun _ _ h => h)
theorem But.alloc {S : Nat → Prop} {a w : World} (h : But S a w) (c : Array Value) (t : TypeId) : But S a (w.alloc (.cells c t)) := h.then ((Kept.refl w).alloc c t)
theorem But.drew {S : Nat → Prop} {a w : World} (h : But S a w) : But S a w.drew := h.then (Kept.refl w).drew
theorem But.drewN {S : Nat → Prop} {a w : World} (h : But S a w) (n : Nat) : But S a (w.drewN n) := h.then ((Kept.refl w).drewN n)
theorem But.setCell {S : Nat → Prop} {a w : World} (h : But S a w) {p : Addr} (hp : S p.block ∨ a.heap.size ≤ p.block) (v : Value) : But S a (w.setCell p v) :=
  ⟨h.os, h.tape, h.output, by simpa using h.size, fun k hk hS => by
    rw [Below.heap_setCell _ _ _ _ (by
      rcases hp with hp | hp
      · intro e; subst e; exact hS hp
      · omega)]
    exact h.block k hk hS, fun x => (World.frozen?_setCell _ _ _ _).trans (h.froze x)⟩
theorem But.cell {S : Nat → Prop} {w w' : World} (h : But S w w') (b o : Nat) (hb : b < w.heap.size) (hS : ¬ S b) : w'.cell? ⟨b, o, none⟩ = w.cell? ⟨b, o, none⟩ :=
  World.cell?_of_block (w := w) (h.block b hb hS)
theorem But.some {S : Nat → Prop} {w w' : World} (h : But S w w') {b o : Nat} {v : Value} (hc : w.cell? ⟨b, o, none⟩ = Option.some v) (hS : ¬ S b) : w'.cell? ⟨b, o, none⟩ = Option.some v := by
  rw [h.cell b o (lt_of_cell hc) hS]; exact hc
theorem But.kept {S : Nat → Prop} {w w' : World} (h : But S w w') (hS : ∀ k, k < w.heap.size → ¬ S k) : Kept w w' :=
  ⟨⟨h.os, h.tape, h.output, h.size, fun k hk => h.block k hk (hS k hk)⟩, h.froze⟩

theorem cell_set (w : World) (b o o' : Nat) (v : Value) : (w.setCell ⟨b, o, none⟩ v).cell? ⟨b, o', none⟩ = if o = o' then (w.cell? ⟨b, o', none⟩).map (fun _ => v) else w.cell? ⟨b, o', none⟩ := by
  by_cases h : o = o'
  · subst h
    rw [if_pos rfl]
    cases hc : w.cell? ⟨b, o, none⟩ with
    | some u => exact World.cell?_setCell_same _ _ _ hc
    | none =>
      simp only [World.cell?, World.setCell, Array.getElem?_modify] at *
      cases hh : w.heap[b]? with
      | none => simp
      | some x =>
        cases x <;> simp_all
  · rw [if_neg h]
    exact World.cell?_setCell_other _ _ _ _ (by intro e; injection e; contradiction)
theorem cell_set_far (w : World) (b b' o o' : Nat) (v : Value) (h : b ≠ b') : (w.setCell ⟨b, o, none⟩ v).cell? ⟨b', o', none⟩ = w.cell? ⟨b', o', none⟩ :=
  World.cell?_setCell_other _ _ _ _ (by intro e; injection e; contradiction)
theorem cell_set_far' (w : World) (b b' o o' : Nat) (v : Value) (h : b' ≠ b) : (w.setCell ⟨b, o, none⟩ v).cell? ⟨b', o', none⟩ = w.cell? ⟨b', o', none⟩ :=
  cell_set_far _ _ _ _ _ _ (Ne.symm h)
theorem But.here {b : Nat} {a w : World} (h : But (fun k => k = b) a w) (o : Nat) (v : Value) : But (fun k => k = b) a (w.setCell ⟨b, o, none⟩ v) := h.setCell (p := ⟨b, o, none⟩) (Or.inl rfl) v
theorem cell_new (w : World) (C : Array Value) (t : TypeId) (n i : Nat) (h : n = w.heap.size) : (w.alloc (.cells C t)).cell? ⟨n, i, none⟩ = C[i]? := by
  subst h; simp
end Go.Proofs.Ytejiogggocnldaa.Wo

namespace Go.Proofs.Ytejiogggocnldaa.Wo
set_option maxRecDepth 20000
open Go.RowKit

set_option maxHeartbeats 1000000 in
theorem sameWords_yes (b o c b' o' c' n : Nat) (f : Nat → Int) (w : World) (hn : n ≤ 9223372036854775807)
    (hc : ∀ i, i < n → w.cell? ⟨b, o + i, none⟩ = some (.int .u64 (f i))) (hc' : ∀ i, i < n → w.cell? ⟨b', o' + i, none⟩ = some (.int .u64 (f i))) :
    Calls Try.prog 23 #[.slice (some ⟨b, o, none⟩) n c, .slice (some ⟨b', o', none⟩) n c'] w fun e w' => e = .returned (.bool true) ∧ Kept w w' := by
  have HC := Lib.hid hc
  have HC' := Lib.hid hc'
  clear hc hc'
  go_enter Try.func23, Try.ntmps23
  go_wp2
  go_loopw [5, 6] (fun s i wr => ∃ k : Nat, k ≤ n ∧ s = .bool true ∧ i = .int .i64 k ∧ (∃ q, wr = w.drewN q)) (fun _ i _ => n - (intOf i).toNat)
  case atStart => exact ⟨0, Nat.zero_le _, rfl, rfl, 0, rfl⟩
  case round =>
    obtain ⟨k, hk, rfl, rfl, q, rfl⟩ := hrel
    by_cases hlt : k < n
    · have h1 := HC.out k hlt
      have h2 := HC'.out k hlt
      go_wp2
      go_quiet (fail)
      go_wp2
      go_roundw
      case rel => exact ⟨k + 1, by omega, rfl, by go_num, q + nq, rfl⟩
      case measure => simp [intOf]; omega
    · go_wp2
      go_ret
      exact ⟨rfl, (Kept.refl _).drewN _⟩

theorem tmod_up (x n : Int) (hn : 0 < n) (hn' : n ≤ 1000000) (h : x.tmod n < 0) : wrap64 (x.tmod n + n) = x % n := by
  have e := Int.tmod_eq_emod (a := x) (b := n)
  have h1 := Int.emod_nonneg x (show n ≠ 0 by omega)
  have h2 := Int.emod_lt_of_pos x hn
  unfold wrap64
  split at e <;> omega
theorem tmod_at (x n : Int) (hn : 0 < n) (h : 0 ≤ x.tmod n) : x.tmod n = x % n := by
  have e := Int.tmod_eq_emod (a := x) (b := n)
  have h1 := Int.emod_nonneg x (show n ≠ 0 by omega)
  have h2 := Int.emod_lt_of_pos x hn
  split at e <;> omega

set_option maxHeartbeats 400000 in
theorem pick_any (x n : Int) (hn : 1 ≤ n) (hn' : n ≤ 1000000) (w : World) :
    Calls Try.prog 8 #[.int .i64 x, .int .i64 n] w fun e w' => e = .returned (.int .i64 (x % n)) ∧ w = w' := by
  go_enter Try.func8, Try.ntmps8
  go_wp2
  · rename_i _ h
    go_ret
    exact ⟨by show Ending.returned (.int .i64 (wrap64 (x.tmod n + n))) = _; rw [tmod_up x n (by omega) hn' h], rfl⟩
  · rename_i _ h
    go_ret
    exact ⟨by show Ending.returned (.int .i64 (x.tmod n)) = _; rw [tmod_at x n (by omega) h], rfl⟩

end Go.Proofs.Ytejiogggocnldaa.Wo

namespace Go.Proofs.Ytejiogggocnldaa.Wo
set_option maxRecDepth 20000
open Go.RowKit

structure RefMem (w : World) (M B n : Nat) (ws : Nat → Int) (kind at_ old new : Int) (held : Bool) (cnt : Int) : Prop where
  c0 : w.cell? ⟨M, 0, none⟩ = some (.slice (some ⟨B, 0, none⟩) n n)
  c1 : w.cell? ⟨M, 1, none⟩ = some (.int .i64 kind)
  c2 : w.cell? ⟨M, 2, none⟩ = some (.int .i64 at_)
  c3 : w.cell? ⟨M, 3, none⟩ = some (.int .u64 old)
  c4 : w.cell? ⟨M, 4, none⟩ = some (.int .u64 new)
  c5 : w.cell? ⟨M, 5, none⟩ = some (.bool held)
  c6 : w.cell? ⟨M, 6, none⟩ = some (.int .i64 cnt)
  words : ∀ i, i < n → w.cell? ⟨B, i, none⟩ = some (.int .u64 (ws i))
  fM : ∀ i, w.frozen? ⟨M, i, none⟩ = false
  fB : ∀ i, w.frozen? ⟨B, i, none⟩ = false
  ne : M ≠ B

end Go.Proofs.Ytejiogggocnldaa.Wo

namespace Go.Proofs.Ytejiogggocnldaa.Wo
set_option maxRecDepth 20000
open Go.RowKit

structure St where
  ws : Nat → Int
  kind : Int
  at_ : Int
  old : Int
  new : Int
  held : Bool
  cnt : Int

def acc (n : Nat) (s : St) (kind at_ : Int) (wr : Bool) (v : Int) : St :=
  if 0 ≤ at_ ∧ at_ < n then
    (if wr then { ws := fun i => if i = at_.toNat then v else s.ws i, kind := kind, at_ := at_, old := s.ws at_.toNat, new := v, held := true, cnt := s.cnt + 1 }
     else { ws := s.ws, kind := kind, at_ := at_, old := s.ws at_.toNat, new := s.ws at_.toNat, held := false, cnt := s.cnt + 1 })
  else { ws := s.ws, kind := kind, at_ := at_, old := 0, new := 0, held := false, cnt := s.cnt + 1 }
def wordAt (n : Nat) (s : St) (at_ : Int) : Int := if 0 ≤ at_ ∧ at_ < n then s.ws at_.toNat else 0

def RefIs (w : World) (M B n : Nat) (s : St) : Prop := RefMem w M B n s.ws s.kind s.at_ s.old s.new s.held s.cnt

end Go.Proofs.Ytejiogggocnldaa.Wo

namespace Go.Proofs.Ytejiogggocnldaa.Sk
open Wo (St acc wordAt)

structure Stk where
  T : Int
  K : Int
  N : Int

def idx (N w : Int) : Int := if w % 65536 - 1 < N then w % 65536 - 1 else -1
def topW (i w : Int) : Int := i + 1 + (w / 65536 + 1) % 281474976710656 * 65536

structure Op where
  line : Nat
  W : Int
  L : Int

def Op.new : Op := ⟨1, 0, 0⟩
def Op.over : Op := ⟨9, 0, 0⟩

def casSt (n : Nat) (S : Stk) (s : St) (x : Op) (v : Int) : St := acc n s 3 S.T (wordAt n s S.T == x.W) v

def popSt (n : Nat) (S : Stk) (s : St) (x : Op) : St :=
  if x.line = 1 then acc n s 1 S.T false 0
  else if x.line = 2 then acc n s 1 (S.K + idx S.N x.W) false 0
  else if x.line = 3 then casSt n S s x (topW (idx S.N x.L) x.W)
  else s
def popOp (n : Nat) (S : Stk) (s : St) (x : Op) : Op :=
  if x.line = 1 then ⟨if idx S.N (wordAt n s S.T) < 0 then 9 else 2, wordAt n s S.T, x.L⟩
  else if x.line = 2 then ⟨3, x.W, wordAt n s (S.K + idx S.N x.W)⟩
  else if x.line = 3 then ⟨if wordAt n s S.T = x.W then 9 else 1, x.W, x.L⟩
  else x
def pushSt (n : Nat) (S : Stk) (i : Int) (s : St) (x : Op) : St :=
  if x.line = 1 then acc n s 1 S.T false 0
  else if x.line = 2 then acc n s 2 (S.K + i) true (idx S.N x.W + 1)
  else if x.line = 3 then casSt n S s x (topW i x.W)
  else s
def pushOp (n : Nat) (S : Stk) (s : St) (x : Op) : Op :=
  if x.line = 1 then ⟨2, wordAt n s S.T, x.L⟩
  else if x.line = 2 then ⟨3, x.W, x.L⟩
  else if x.line = 3 then ⟨if wordAt n s S.T = x.W then 9 else 1, x.W, x.L⟩
  else x
def allSt (n : Nat) (S : Stk) (s : St) (x : Op) : St :=
  if x.line = 1 then acc n s 1 S.T false 0
  else if x.line = 2 then casSt n S s x (topW (-1) x.W)
  else s
def allOp (n : Nat) (S : Stk) (s : St) (x : Op) : Op :=
  if x.line = 1 then ⟨if idx S.N (wordAt n s S.T) < 0 then 9 else 2, wordAt n s S.T, x.L⟩
  else if x.line = 2 then ⟨if wordAt n s S.T = x.W then 9 else 1, x.W, x.L⟩
  else x

def tookI (S : Stk) (x : Op) : Int := if x.line = 9 ∧ 0 ≤ idx S.N x.W then idx S.N x.W else 0
def tookE (S : Stk) (x : Op) : Int := if x.line = 9 then (if idx S.N x.W < 0 then 15 else 0) else 14
def laidE (e : Int) (x : Op) : Int := if x.line = 9 then e else 14

structure Stk.Ok (S : Stk) (n : Nat) : Prop where
  n1 : 1 ≤ n
  n2 : n ≤ 4096
  N1 : 1 ≤ S.N
  N2 : S.N ≤ 4096
  T1 : 0 ≤ S.T
  T2 : S.T < n
  K1 : 0 ≤ S.K
  K2 : S.K + S.N ≤ n
  ap : S.T < S.K ∨ S.K + S.N ≤ S.T

structure Wd (n : Nat) (s : St) : Prop where
  lo : ∀ i, 0 ≤ s.ws i
  hi : ∀ i, s.ws i < 18446744073709551616

theorem idx_lo (N w : Int) : -1 ≤ idx N w := by unfold idx; split <;> omega
theorem idx_hi (N w : Int) (h : 0 ≤ N) : idx N w < N := by unfold idx; split <;> omega
theorem idx_le (N w : Int) : idx N w ≤ 65534 := by unfold idx; split <;> omega
theorem idx_cases (N w : Int) (h : 0 ≤ N) : idx N w = -1 ∨ (0 ≤ idx N w ∧ idx N w < N) := by
  have := idx_lo N w
  have := idx_hi N w h
  omega
theorem topW_lo (i w : Int) (hi : -1 ≤ i) : 0 ≤ topW i w := by unfold topW; omega
theorem topW_hi (i w : Int) (hi : i ≤ 65534) : topW i w < 18446744073709551616 := by unfold topW; omega
theorem idx_topW (N i w : Int) (hi : -1 ≤ i) (hN : i < N) (hi' : i ≤ 65534) : idx N (topW i w) = i := by
  unfold idx topW
  have e : (i + 1 + (w / 65536 + 1) % 281474976710656 * 65536) % 65536 = i + 1 := by omega
  rw [e]
  split <;> omega
theorem idx_small (N i : Int) (hi : -1 ≤ i) (hN : i < N) (hi' : i ≤ 65534) : idx N (i + 1) = i := by
  unfold idx
  have e : (i + 1) % 65536 = i + 1 := by omega
  rw [e]
  split <;> omega
theorem tag_topW (i w : Int) (hi : -1 ≤ i) (hi' : i ≤ 65534) : topW i w / 65536 = (w / 65536 + 1) % 281474976710656 := by
  unfold topW; omega

theorem Wd.word {n : Nat} {s : St} (h : Wd n s) (a : Int) : 0 ≤ wordAt n s a ∧ wordAt n s a < 18446744073709551616 := by
  unfold wordAt
  split
  · exact ⟨h.lo _, h.hi _⟩
  · omega
theorem Wd.acc {n : Nat} {s : St} (h : Wd n s) (k a : Int) (wr : Bool) (v : Int) (h0 : 0 ≤ v) (h1 : v < 18446744073709551616) : Wd n (acc n s k a wr v) := by
  unfold Wo.acc
  split
  · cases wr
    · exact ⟨h.lo, h.hi⟩
    · refine ⟨fun i => ?_, fun i => ?_⟩
      · show 0 ≤ if i = a.toNat then v else s.ws i
        split
        · exact h0
        · exact h.lo i
      · show (if i = a.toNat then v else s.ws i) < _
        split
        · exact h1
        · exact h.hi i
  · exact ⟨h.lo, h.hi⟩
theorem acc_cnt (n : Nat) (s : St) (k a : Int) (wr : Bool) (v : Int) : (acc n s k a wr v).cnt = s.cnt + 1 := by
  unfold Wo.acc
  split
  · cases wr <;> rfl
  · rfl
theorem acc_new (n : Nat) (s : St) (k a v : Int) : (acc n s k a false v).new = wordAt n s a := by
  unfold Wo.acc wordAt
  split
  · rfl
  · rfl
theorem acc_held (n : Nat) (s : St) (k a v : Int) (b : Bool) (h0 : 0 ≤ a) (h1 : a < n) : (acc n s k a b v).held = b := by
  unfold Wo.acc
  rw [if_pos ⟨h0, h1⟩]
  cases b <;> rfl
theorem acc_kind (n : Nat) (s : St) (k a v : Int) (b : Bool) : (acc n s k a b v).kind = k := by
  unfold Wo.acc
  split
  · cases b <;> rfl
  · rfl
end Go.Proofs.Ytejiogggocnldaa.Sk

namespace Go.Proofs.Ytejiogggocnldaa
open Go.RowKit

structure Kept (w w' : World) : Prop where
  below : Below w.heap.size w w'

theorem Kept.refl (w : World) : Kept w w := ⟨Below.refl _ _⟩
theorem Kept.trans {a b c : World} (h : Kept a b) (k : Kept b c) : Kept a c :=
  ⟨h.below.trans (k.below.mono h.below.size)⟩
theorem Kept.alloc {a w : World} (h : Kept a w) (c : Array Value) (t : TypeId) : Kept a (w.alloc (.cells c t)) :=
  ⟨h.below.alloc h.below.size _⟩
theorem Kept.drew {a w : World} (h : Kept a w) : Kept a w.drew := ⟨h.below.drew⟩
theorem Kept.drewN {a w : World} (h : Kept a w) (n : Nat) : Kept a (w.drewN n) := ⟨h.below.trans ⟨rfl, rfl, rfl, Nat.le_refl _, fun _ _ => rfl⟩⟩
theorem Kept.setCell {a w : World} (h : Kept a w) {p : Addr} (hp : a.heap.size ≤ p.block) (v : Value) : Kept a (w.setCell p v) :=
  ⟨h.below.setCell hp v⟩
theorem Kept.froze {w w' : World} (h : Kept w w') (a : Addr) (ha : a.block < w.heap.size) : w'.frozen? a = w.frozen? a := World.frozen?_of_block (h.below.block _ ha)
theorem Kept.soft {w w' : World} (h : Kept w w') {b i : Nat} (hb : b < w.heap.size) (hf : w.frozen? ⟨b, i, none⟩ = false) : w'.frozen? ⟨b, i, none⟩ = false := (h.froze ⟨b, i, none⟩ hb).trans hf
theorem Kept.cell {w w' : World} (h : Kept w w') (b o : Nat) (hb : b < w.heap.size) : w'.cell? ⟨b, o, none⟩ = w.cell? ⟨b, o, none⟩ := h.below.cell (p := ⟨b, o, none⟩) hb
theorem Kept.size {w w' : World} (h : Kept w w') : w.heap.size ≤ w'.heap.size := h.below.size
theorem lt_of_cell {w : World} {b o : Nat} {v : Value} (h : w.cell? ⟨b, o, none⟩ = some v) : b < w.heap.size := World.block_lt_of_cell? w ⟨b, o, none⟩ h
theorem Kept.some {w w' : World} (h : Kept w w') {b o : Nat} {v : Value} (hc : w.cell? ⟨b, o, none⟩ = some v) : w'.cell? ⟨b, o, none⟩ = some v := by
  rw [h.cell b o (lt_of_cell hc)]; exact hc
theorem Kept.past {w w' : World} {x : Obj} (h : Kept (w.alloc x) w') {b o : Nat} {v : Value} (hc : w.cell? ⟨b, o, none⟩ = Option.some v) : w'.cell? ⟨b, o, none⟩ = Option.some v :=
  h.some (by rw [World.cell?_alloc_past _ _ _ (lt_of_cell hc)]; exact hc)
end Go.Proofs.Ytejiogggocnldaa

namespace Go.Proofs.Ytejiogggocnldaa
open Go.RowKit

structure But (S : Nat → Prop) (w w' : World) : Prop where
  os : w'.os = w.os
  tape : w'.tape = w.tape
  output : w'.output = w.output
  size : w.heap.size ≤ w'.heap.size
  block : ∀ k, k < w.heap.size → ¬ S k → w'.heap[k]? = w.heap[k]?
  froze : ∀ a, a.block < w.heap.size → w'.frozen? a = w.frozen? a

theorem Kept.but {w w' : World} (h : Kept w w') (S : Nat → Prop) : But S w w' :=
  ⟨h.below.os, h.below.tape, h.below.output, h.below.size, fun k hk _ => h.below.block k hk, h.froze⟩
theorem But.refl (S : Nat → Prop) (w : World) : But S w w := (Kept.refl w).but S
theorem But.mono {S T : Nat → Prop} {w w' : World} (h : But S w w') (hST : ∀ k, k < w.heap.size → S k → T k) : But T w w' :=
  ⟨h.os, h.tape, h.output, h.size, fun k hk hT => h.block k hk (fun hS => hT (hST k hk hS)), h.froze⟩
theorem But.trans {S T : Nat → Prop} {a b c : World} (h : But S a b) (k : But T b c) (hT : ∀ i, i < a.heap.size → T i → S i) : But S a c :=
  ⟨k.os.trans h.os, k.tape.trans h.tape, k.output.trans h.output, Nat.le_trans h.size k.size,
   fun i hi hS => (k.block i (Nat.lt_of_lt_of_le hi h.size) (fun ht => hS (hT i hi ht))).trans (h.block i hi hS), fun x hx => (k.froze x (Nat.lt_of_lt_of_le hx h.size)).trans (h.froze x hx)⟩
theorem But.then {S : Nat → Prop} {a b c : World} (h : But S a b) (k : Kept b c) : But S a c := h.trans (k.but S) (fun _ _ h => h)
theorem But.alloc {S : Nat → Prop} {a w : World} (h : But S a w) (c : Array Value) (t : TypeId) : But S a (w.alloc (.cells c t)) := h.then ((Kept.refl w).alloc c t)
theorem But.drew {S : Nat → Prop} {a w : World} (h : But S a w) : But S a w.drew := h.then (Kept.refl w).drew
theorem But.drewN {S : Nat → Prop} {a w : World} (h : But S a w) (n : Nat) : But S a (w.drewN n) := h.then ((Kept.refl w).drewN n)
theorem But.setCell {S : Nat → Prop} {a w : World} (h : But S a w) {p : Addr} (hp : S p.block ∨ a.heap.size ≤ p.block) (v : Value) : But S a (w.setCell p v) :=
  ⟨h.os, h.tape, h.output, by simpa using h.size, fun k hk hS => by
    rw [Below.heap_setCell _ _ _ _ (by
      rcases hp with hp | hp
      · intro e; subst e; exact hS hp
      · omega)]
    exact h.block k hk hS, fun x hx => (World.frozen?_setCell _ _ _ _).trans (h.froze x hx)⟩
theorem But.cell {S : Nat → Prop} {w w' : World} (h : But S w w') (b o : Nat) (hb : b < w.heap.size) (hS : ¬ S b) : w'.cell? ⟨b, o, none⟩ = w.cell? ⟨b, o, none⟩ :=
  World.cell?_of_block (w := w) (h.block b hb hS)
theorem But.some {S : Nat → Prop} {w w' : World} (h : But S w w') {b o : Nat} {v : Value} (hc : w.cell? ⟨b, o, none⟩ = Option.some v) (hS : ¬ S b) : w'.cell? ⟨b, o, none⟩ = Option.some v := by
  rw [h.cell b o (lt_of_cell hc) hS]; exact hc
theorem But.soft {S : Nat → Prop} {w w' : World} (h : But S w w') {b i : Nat} (hb : b < w.heap.size) (hf : w.frozen? ⟨b, i, none⟩ = false) : w'.frozen? ⟨b, i, none⟩ = false := (h.froze ⟨b, i, none⟩ hb).trans hf
theorem But.kept {S : Nat → Prop} {w w' : World} (h : But S w w') (hS : ∀ k, k < w.heap.size → ¬ S k) : Kept w w' :=
  ⟨⟨h.os, h.tape, h.output, h.size, fun k hk => h.block k hk (hS k hk)⟩⟩

theorem cell_set (w : World) (b o o' : Nat) (v : Value) : (w.setCell ⟨b, o, none⟩ v).cell? ⟨b, o', none⟩ = if o = o' then (w.cell? ⟨b, o', none⟩).map (fun _ => v) else w.cell? ⟨b, o', none⟩ := by
  by_cases h : o = o'
  · subst h
    rw [if_pos rfl]
    cases hc : w.cell? ⟨b, o, none⟩ with
    | some u => exact World.cell?_setCell_same _ _ _ hc
    | none =>
      simp only [World.cell?, World.setCell, Array.getElem?_modify] at *
      cases hh : w.heap[b]? with
      | none => simp
      | some x =>
        cases x <;> simp_all
  · rw [if_neg h]
    exact World.cell?_setCell_other _ _ _ _ (by intro e; injection e; contradiction)
theorem cell_set_far (w : World) (b b' o o' : Nat) (v : Value) (h : b ≠ b') : (w.setCell ⟨b, o, none⟩ v).cell? ⟨b', o', none⟩ = w.cell? ⟨b', o', none⟩ :=
  World.cell?_setCell_other _ _ _ _ (by intro e; injection e; contradiction)
theorem cell_set_far' (w : World) (b b' o o' : Nat) (v : Value) (h : b' ≠ b) : (w.setCell ⟨b, o, none⟩ v).cell? ⟨b', o', none⟩ = w.cell? ⟨b', o', none⟩ :=
  cell_set_far _ _ _ _ _ _ (Ne.symm h)
theorem But.here {b : Nat} {a w : World} (h : But (fun k => k = b) a w) (o : Nat) (v : Value) : But (fun k => k = b) a (w.setCell ⟨b, o, none⟩ v) := h.setCell (p := ⟨b, o, none⟩) (Or.inl rfl) v
theorem cell_new (w : World) (C : Array Value) (t : TypeId) (n i : Nat) (h : n = w.heap.size) : (w.alloc (.cells C t)).cell? ⟨n, i, none⟩ = C[i]? := by
  subst h; simp
end Go.Proofs.Ytejiogggocnldaa
