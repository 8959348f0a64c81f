/- Kept w w': the world w' is w with new blocks laid behind it; what was there is as it was. For contracts that only answer a value. -/
import Derived.WalkKit
import Derived.WalkSpells
import Derived.Deep.Draws
import Derived.Test.YtejiogggocnldaaGreatProg
import Derived.WalkLawsBesides
import Derived.Deep.QuietTactic
import Derived.BigQuiet
import Derived.Lib.Hide
import Derived.Deep.Light
set_option linter.unusedVariables false
set_option linter.unusedSimpArgs false

namespace Go.Proofs.YtejiogggocnldaaGreat.Wo
set_option maxRecDepth 20000
open Go.RowKit

structure Kept (w w' : World) : Prop where
  below : Below w.heap.size w w'
  froze : ∀ a, w'.frozen? a = w.frozen? a

theorem Kept.refl (w : World) : Kept w w := ⟨Below.refl _ _, fun _ => rfl⟩
theorem Kept.trans {a b c : World} (h : Kept a b) (k : Kept b c) : Kept a c :=
  ⟨h.below.trans (k.below.mono h.below.size), fun x => (k.froze x).trans (h.froze x)⟩
theorem Kept.alloc {a w : World} (h : Kept a w) (c : Array Value) (t : TypeId) : Kept a (w.alloc (.cells c t)) :=
  ⟨h.below.alloc h.below.size _, fun x => (frozen?_alloc_cells _ _ _ x).trans (h.froze x)⟩
theorem Kept.drew {a w : World} (h : Kept a w) : Kept a w.drew := ⟨h.below.drew, h.froze⟩
theorem Kept.drewN {a w : World} (h : Kept a w) (n : Nat) : Kept a (w.drewN n) := ⟨h.below.trans ⟨rfl, rfl, rfl, Nat.le_refl _, fun _ _ => rfl⟩, h.froze⟩
theorem Kept.setCell {a w : World} (h : Kept a w) {p : Addr} (hp : a.heap.size ≤ p.block) (v : Value) : Kept a (w.setCell p v) :=
  ⟨h.below.setCell hp v, fun x => (World.frozen?_setCell _ _ _ _).trans (h.froze x)⟩
theorem Kept.cell {w w' : World} (h : Kept w w') (b o : Nat) (hb : b < w.heap.size) : w'.cell? ⟨b, o, none⟩ = w.cell? ⟨b, o, none⟩ := h.below.cell (p := ⟨b, o, none⟩) hb
theorem Kept.size {w w' : World} (h : Kept w w') : w.heap.size ≤ w'.heap.size := h.below.size
theorem Kept.grown {w w' : World} (h : Kept w w') : Grown w w' := ⟨h.below.frame _, h.froze, h.below.size⟩
theorem lt_of_cell {w : World} {b o : Nat} {v : Value} (h : w.cell? ⟨b, o, none⟩ = some v) : b < w.heap.size := World.block_lt_of_cell? w ⟨b, o, none⟩ h
theorem Kept.some {w w' : World} (h : Kept w w') {b o : Nat} {v : Value} (hc : w.cell? ⟨b, o, none⟩ = some v) : w'.cell? ⟨b, o, none⟩ = some v := by
  rw [h.cell b o (lt_of_cell hc)]; exact hc
theorem Kept.past {w w' : World} {x : Obj} (h : Kept (w.alloc x) w') {b o : Nat} {v : Value} (hc : w.cell? ⟨b, o, none⟩ = Option.some v) : w'.cell? ⟨b, o, none⟩ = Option.some v :=
  h.some (by rw [World.cell?_alloc_past _ _ _ (lt_of_cell hc)]; exact hc)
end Go.Proofs.YtejiogggocnldaaGreat.Wo

namespace Go.Proofs.YtejiogggocnldaaGreat.Wo
set_option maxRecDepth 20000
open Go.RowKit

structure But (S : Nat → Prop) (w w' : World) : Prop where
  os : w'.os = w.os
  tape : w'.tape = w.tape
  output : w'.output = w.output
  size : w.heap.size ≤ w'.heap.size
  block : ∀ k, k < w.heap.size → ¬ S k → w'.heap[k]? = w.heap[k]?
  froze : ∀ a, w'.frozen? a = w.frozen? a

theorem Kept.but {w w' : World} (h : Kept w w') (S : Nat → Prop) : But S w w' :=
  ⟨h.below.os, h.below.tape, h.below.output, h.below.size, fun k hk _ => h.below.block k hk, h.froze⟩
theorem But.refl (S : Nat → Prop) (w : World) : But S w w := (Kept.refl w).but S
theorem But.mono {S T : Nat → Prop} {w w' : World} (h : But S w w') (hST : ∀ k, k < w.heap.size → S k → T k) : But T w w' :=
  ⟨h.os, h.tape, h.output, h.size, fun k hk hT => h.block k hk (fun hS => hT (hST k hk hS)), h.froze⟩
theorem But.trans {S T : Nat → Prop} {a b c : World} (h : But S a b) (k : But T b c) (hT : ∀ i, i < a.heap.size → T i → S i) : But S a c :=
  ⟨k.os.trans h.os, k.tape.trans h.tape, k.output.trans h.output, Nat.le_trans h.size k.size,
   fun i hi hS => (k.block i (Nat.lt_of_lt_of_le hi h.size) (fun ht => hS (hT i hi ht))).trans (h.block i hi hS), fun x => (k.froze x).trans (h.froze x)⟩
theorem But.then {S : Nat → Prop} {a b c : World} (h : But S a b) (k : Kept b c) : But S a c := h.trans (k.but S) (fun _ _ h => h)
theorem But.alloc {S : Nat → Prop} {a w : World} (h : But S a w) (c : Array Value) (t : TypeId) : But S a (w.alloc (.cells c t)) := h.then ((Kept.refl w).alloc c t)
theorem But.drew {S : Nat → Prop} {a w : World} (h : But S a w) : But S a w.drew := h.then (Kept.refl w).drew
theorem But.drewN {S : Nat → Prop} {a w : World} (h : But S a w) (n : Nat) : But S a (w.drewN n) := h.then ((Kept.refl w).drewN n)
theorem But.setCell {S : Nat → Prop} {a w : World} (h : But S a w) {p : Addr} (hp : S p.block ∨ a.heap.size ≤ p.block) (v : Value) : But S a (w.setCell p v) :=
  ⟨h.os, h.tape, h.output, by simpa using h.size, fun k hk hS => by
    rw [Below.heap_setCell _ _ _ _ (by
      rcases hp with hp | hp
      · intro e; subst e; exact hS hp
      · omega)]
    exact h.block k hk hS, fun x => (World.frozen?_setCell _ _ _ _).trans (h.froze x)⟩
theorem But.cell {S : Nat → Prop} {w w' : World} (h : But S w w') (b o : Nat) (hb : b < w.heap.size) (hS : ¬ S b) : w'.cell? ⟨b, o, none⟩ = w.cell? ⟨b, o, none⟩ :=
  World.cell?_of_block (w := w) (h.block b hb hS)
theorem But.some {S : Nat → Prop} {w w' : World} (h : But S w w') {b o : Nat} {v : Value} (hc : w.cell? ⟨b, o, none⟩ = Option.some v) (hS : ¬ S b) : w'.cell? ⟨b, o, none⟩ = Option.some v := by
  rw [h.cell b o (lt_of_cell hc) hS]; exact hc
theorem But.kept {S : Nat → Prop} {w w' : World} (h : But S w w') (hS : ∀ k, k < w.heap.size → ¬ S k) : Kept w w' :=
  ⟨⟨h.os, h.tape, h.output, h.size, fun k hk => h.block k hk (hS k hk)⟩, h.froze⟩

theorem cell_set (w : World) (b o o' : Nat) (v : Value) : (w.setCell ⟨b, o, none⟩ v).cell? ⟨b, o', none⟩ = if o = o' then (w.cell? ⟨b, o', none⟩).map (fun _ => v) else w.cell? ⟨b, o', none⟩ := by
  by_cases h : o = o'
  · subst h
    rw [if_pos rfl]
    cases hc : w.cell? ⟨b, o, none⟩ with
    | some u => exact World.cell?_setCell_same _ _ _ hc
    | none =>
      simp only [World.cell?, World.setCell, Array.getElem?_modify] at *
      cases hh : w.heap[b]? with
      | none => simp
      | some x =>
        cases x <;> simp_all
  · rw [if_neg h]
    exact World.cell?_setCell_other _ _ _ _ (by intro e; injection e; contradiction)
theorem cell_set_far (w : World) (b b' o o' : Nat) (v : Value) (h : b ≠ b') : (w.setCell ⟨b, o, none⟩ v).cell? ⟨b', o', none⟩ = w.cell? ⟨b', o', none⟩ :=
  World.cell?_setCell_other _ _ _ _ (by intro e; injection e; contradiction)
theorem cell_set_far' (w : World) (b b' o o' : Nat) (v : Value) (h : b' ≠ b) : (w.setCell ⟨b, o, none⟩ v).cell? ⟨b', o', none⟩ = w.cell? ⟨b', o', none⟩ :=
  cell_set_far _ _ _ _ _ _ (Ne.symm h)
theorem But.here {b : Nat} {a w : World} (h : But (fun k => k = b) a w) (o : Nat) (v : Value) : But (fun k => k = b) a (w.setCell ⟨b, o, none⟩ v) := h.setCell (p := ⟨b, o, none⟩) (Or.inl rfl) v
theorem cell_new (w : World) (C : Array Value) (t : TypeId) (n i : Nat) (h : n = w.heap.size) : (w.alloc (.cells C t)).cell? ⟨n, i, none⟩ = C[i]? := by
  subst h; simp
end Go.Proofs.YtejiogggocnldaaGreat.Wo

namespace Go.Proofs.YtejiogggocnldaaGreat.Wo
set_option maxRecDepth 20000
open Go.RowKit

set_option maxHeartbeats 1000000 in
theorem sameWords_yes (b o c b' o' c' n : Nat) (f : Nat → Int) (w : World) (hn : n ≤ 9223372036854775807)
    (hc : ∀ i, i < n → w.cell? ⟨b, o + i, none⟩ = some (.int .u64 (f i))) (hc' : ∀ i, i < n → w.cell? ⟨b', o' + i, none⟩ = some (.int .u64 (f i))) :
    Calls Tryz.prog 28 #[.slice (some ⟨b, o, none⟩) n c, .slice (some ⟨b', o', none⟩) n c'] w fun e w' => e = .returned (.bool true) ∧ Kept w w' := by
  have HC := Lib.hid hc
  have HC' := Lib.hid hc'
  clear hc hc'
  go_enter Tryz.func28, Tryz.ntmps28
  go_wp2
  go_loopw [5, 6] (fun s i wr => ∃ k : Nat, k ≤ n ∧ s = .bool true ∧ i = .int .i64 k ∧ (∃ q, wr = w.drewN q)) (fun _ i _ => n - (intOf i).toNat)
  case atStart => exact ⟨0, Nat.zero_le _, rfl, rfl, 0, rfl⟩
  case round =>
    obtain ⟨k, hk, rfl, rfl, q, rfl⟩ := hrel
    by_cases hlt : k < n
    · have h1 := HC.out k hlt
      have h2 := HC'.out k hlt
      go_wp2
      go_quiet (fail)
      go_wp2
      go_roundw
      case rel => exact ⟨k + 1, by omega, rfl, by go_num, q + nq, rfl⟩
      case measure => simp [intOf]; omega
    · go_wp2
      go_ret
      exact ⟨rfl, (Kept.refl _).drewN _⟩

theorem tmod_up (x n : Int) (hn : 0 < n) (hn' : n ≤ 1000000) (h : x.tmod n < 0) : wrap64 (x.tmod n + n) = x % n := by
  have e := Int.tmod_eq_emod (a := x) (b := n)
  have h1 := Int.emod_nonneg x (show n ≠ 0 by omega)
  have h2 := Int.emod_lt_of_pos x hn
  unfold wrap64
  split at e <;> omega
theorem tmod_at (x n : Int) (hn : 0 < n) (h : 0 ≤ x.tmod n) : x.tmod n = x % n := by
  have e := Int.tmod_eq_emod (a := x) (b := n)
  have h1 := Int.emod_nonneg x (show n ≠ 0 by omega)
  have h2 := Int.emod_lt_of_pos x hn
  split at e <;> omega

set_option maxHeartbeats 400000 in
theorem pick_any (x n : Int) (hn : 1 ≤ n) (hn' : n ≤ 1000000) (w : World) :
    Calls Tryz.prog 15 #[.int .i64 x, .int .i64 n] w fun e w' => e = .returned (.int .i64 (x % n)) ∧ w = w' := by
  go_enter Tryz.func15, Tryz.ntmps15
  go_wp2
  · rename_i _ h
    go_ret
    exact ⟨by show Ending.returned (.int .i64 (wrap64 (x.tmod n + n))) = _; rw [tmod_up x n (by omega) hn' h], rfl⟩
  · rename_i _ h
    go_ret
    exact ⟨by show Ending.returned (.int .i64 (x.tmod n)) = _; rw [tmod_at x n (by omega) h], rfl⟩

set_option maxHeartbeats 1000000 in
theorem overWords_any (b o c n : Nat) (f : Nat → Int) (w : World) (hn : n ≤ 9223372036854775807)
    (hc : ∀ i, i < n → w.cell? ⟨b, o + i, none⟩ = some (.int .u64 (f i))) (hf : ∀ i, w.frozen? ⟨b, i, none⟩ = false) :
    Calls Tryz.prog 84 #[.slice (some ⟨b, o, none⟩) n c] w fun e w' => e = .returned (.tuple #[]) ∧ But (fun k => k = b) w w' := by
  have HC := Lib.hid hc
  clear hc
  go_enter Tryz.func84, Tryz.ntmps84
  go_wp2
  go_loopw [2] (fun i wr => ∃ k : Nat, k ≤ n ∧ i = .int .i64 k ∧ But (fun k => k = b) w wr ∧ (∀ i, k ≤ i → i < n → wr.cell? ⟨b, o + i, none⟩ = some (.int .u64 (f i)))) (fun i _ => n - (intOf i).toNat)
  case atStart => exact ⟨0, Nat.zero_le _, rfl, But.refl _ _, fun i _ h => HC.out i h⟩
  case round =>
    obtain ⟨k, hk, rfl, hb, hr⟩ := hrel
    have HR := Lib.hid hr
    clear hr
    by_cases hlt : k < n
    · have h1 := HR.out k (Nat.le_refl _) hlt
      have h2 : wr.frozen? ⟨b, o + k, none⟩ = false := by rw [hb.froze]; exact hf _
      go_wp2
      go_roundw
      case rel => exact ⟨k + 1, by omega, by go_num, hb.setCell (Or.inl rfl) _, fun i h h' => by
        rw [World.cell?_setCell_other _ _ _ _ (by simp <;> omega)]
        exact HR.out i (by omega) h'⟩
      case measure => simp [intOf]; omega
    · go_wp2
      go_end0
      exact ⟨rfl, hb⟩
end Go.Proofs.YtejiogggocnldaaGreat.Wo

namespace Go.Proofs.YtejiogggocnldaaGreat.Wo
set_option maxRecDepth 20000
open Go.RowKit

structure RefMem (w : World) (M B n : Nat) (ws : Nat → Int) (kind at_ old new : Int) (held : Bool) (cnt : Int) : Prop where
  c0 : w.cell? ⟨M, 0, none⟩ = some (.slice (some ⟨B, 0, none⟩) n n)
  c1 : w.cell? ⟨M, 1, none⟩ = some (.int .i64 kind)
  c2 : w.cell? ⟨M, 2, none⟩ = some (.int .i64 at_)
  c3 : w.cell? ⟨M, 3, none⟩ = some (.int .u64 old)
  c4 : w.cell? ⟨M, 4, none⟩ = some (.int .u64 new)
  c5 : w.cell? ⟨M, 5, none⟩ = some (.bool held)
  c6 : w.cell? ⟨M, 6, none⟩ = some (.int .i64 cnt)
  words : ∀ i, i < n → w.cell? ⟨B, i, none⟩ = some (.int .u64 (ws i))
  fM : ∀ i, w.frozen? ⟨M, i, none⟩ = false
  fB : ∀ i, w.frozen? ⟨B, i, none⟩ = false
  ne : M ≠ B

set_option maxHeartbeats 1000000 in
theorem refAccess_out (M B n : Nat) (ws : Nat → Int) (k0 a0 o0 n0 : Int) (h0 : Bool) (cnt kind at_ v : Int) (wr : Bool) (w : World) (hm : RefMem w M B n ws k0 a0 o0 n0 h0 cnt)
    (hc0 : 0 ≤ cnt) (hc1 : cnt ≤ 1000000) (ho : at_ < 0 ∨ n ≤ at_) (hn : n ≤ 1000000) :
    Calls Tryz.prog 121 #[.pointer (some ⟨M, 0, none⟩), .int .i64 kind, .int .i64 at_, .bool wr, .int .u64 v] w
      fun e w' => e = .returned (.tuple #[]) ∧ RefMem w' M B n ws kind at_ 0 0 false (cnt + 1) ∧ But (fun k => k = M ∨ k = B) w w' := by
  obtain ⟨c0, c1, c2, c3, c4, c5, c6, cw, fM, fB, ne⟩ := hm
  have CW := Lib.hid cw
  have NE := Lib.hid ne
  clear cw ne
  rcases ho with ho | ho
  · go_enter Tryz.func121, Tryz.ntmps121
    go_wp2
    refine bodyPost_ret (v := .tuple #[]) (by simp [results, Tryz.results121, go_sem]) rfl ⟨rfl, ?_, ?_⟩
    · have ne := NE.out
      refine ⟨?_, ?_, ?_, ?_, ?_, ?_, ?_, fun i hi => ?_, fun i => ?_, fun i => ?_, ne⟩
      all_goals first | (go_simp; done) | (have hw := CW.out i hi; simp [World.cell?_setCell_other, hw]; done) | (simp [fM, fB]; done)
    · go_light
      repeat (first | (with_reducible exact But.refl _ _) | refine But.setCell ?_ (Or.inl (Or.inl rfl)) _ | refine But.setCell ?_ (Or.inl (Or.inr rfl)) _)
  · go_enter Tryz.func121, Tryz.ntmps121
    go_wp2
    refine bodyPost_ret (v := .tuple #[]) (by simp [results, Tryz.results121, go_sem]) rfl ⟨rfl, ?_, ?_⟩
    · have ne := NE.out
      refine ⟨?_, ?_, ?_, ?_, ?_, ?_, ?_, fun i hi => ?_, fun i => ?_, fun i => ?_, ne⟩
      all_goals first | (go_simp; done) | (have hw := CW.out i hi; simp [World.cell?_setCell_other, hw]; done) | (simp [fM, fB]; done)
    · go_light
      repeat (first | (with_reducible exact But.refl _ _) | refine But.setCell ?_ (Or.inl (Or.inl rfl)) _ | refine But.setCell ?_ (Or.inl (Or.inr rfl)) _)

set_option maxHeartbeats 1000000 in
theorem refAccess_read (M B n : Nat) (ws : Nat → Int) (k0 a0 o0 n0 : Int) (h0 : Bool) (cnt kind v : Int) (at_ : Nat) (w : World) (hm : RefMem w M B n ws k0 a0 o0 n0 h0 cnt)
    (hc0 : 0 ≤ cnt) (hc1 : cnt ≤ 1000000) (ho : at_ < n) :
    Calls Tryz.prog 121 #[.pointer (some ⟨M, 0, none⟩), .int .i64 kind, .int .i64 at_, .bool false, .int .u64 v] w
      fun e w' => e = .returned (.tuple #[]) ∧ RefMem w' M B n ws kind at_ (ws at_) (ws at_) false (cnt + 1) ∧ But (fun k => k = M ∨ k = B) w w' := by
  obtain ⟨c0, c1, c2, c3, c4, c5, c6, cw, fM, fB, ne⟩ := hm
  have CW := Lib.hid cw
  have NE := Lib.hid ne
  have hw := cw at_ ho
  clear cw
  go_enter Tryz.func121, Tryz.ntmps121
  go_wp2
  go_end0
  refine ⟨rfl, ?_, ?_⟩
  · refine ⟨?_, ?_, ?_, ?_, ?_, ?_, ?_, fun i hi => ?_, fun i => ?_, fun i => ?_, ne⟩
    all_goals go_light
    all_goals first | (simp [cell_set, *]; done) | (have hw := CW.out i hi; simp [cell_set_far, ne, hw]; done)
  · go_light
    repeat (first | (with_reducible exact But.refl _ _) | refine But.setCell ?_ (Or.inl (Or.inl rfl)) _ | refine But.setCell ?_ (Or.inl (Or.inr rfl)) _)

set_option maxHeartbeats 1000000 in
theorem refAccess_write (M B n : Nat) (ws : Nat → Int) (k0 a0 o0 n0 : Int) (h0 : Bool) (cnt kind v : Int) (at_ : Nat) (w : World) (hm : RefMem w M B n ws k0 a0 o0 n0 h0 cnt)
    (hc0 : 0 ≤ cnt) (hc1 : cnt ≤ 1000000) (ho : at_ < n) :
    Calls Tryz.prog 121 #[.pointer (some ⟨M, 0, none⟩), .int .i64 kind, .int .i64 at_, .bool true, .int .u64 v] w
      fun e w' => e = .returned (.tuple #[]) ∧ RefMem w' M B n (fun i => if i = at_ then v else ws i) kind at_ (ws at_) v true (cnt + 1) ∧ But (fun k => k = M ∨ k = B) w w' := by
  obtain ⟨c0, c1, c2, c3, c4, c5, c6, cw, fM, fB, ne⟩ := hm
  have CW := Lib.hid cw
  have NE := Lib.hid ne
  have hw := cw at_ ho
  clear cw
  go_enter Tryz.func121, Tryz.ntmps121
  go_wp2
  go_end0
  refine ⟨rfl, ?_, ?_⟩
  · have ne' := Ne.symm ne
    refine ⟨?_, ?_, ?_, ?_, ?_, ?_, ?_, fun i hi => ?_, fun i => ?_, fun i => ?_, ne⟩
    all_goals go_light
    all_goals first | (simp [cell_set, cell_set_far, *]; done) | (have hv := CW.out i hi; by_cases hq : at_ = i <;> simp [cell_set, cell_set_far, *, eq_comm]; done)
  · go_light
    repeat (first | (with_reducible exact But.refl _ _) | refine But.setCell ?_ (Or.inl (Or.inl rfl)) _ | refine But.setCell ?_ (Or.inl (Or.inr rfl)) _)
end Go.Proofs.YtejiogggocnldaaGreat.Wo

namespace Go.Proofs.YtejiogggocnldaaGreat.Wo
set_option maxRecDepth 20000
open Go.RowKit

structure St where
  ws : Nat → Int
  kind : Int
  at_ : Int
  old : Int
  new : Int
  held : Bool
  cnt : Int

def acc (n : Nat) (s : St) (kind at_ : Int) (wr : Bool) (v : Int) : St :=
  if 0 ≤ at_ ∧ at_ < n then
    (if wr then { ws := fun i => if i = at_.toNat then v else s.ws i, kind := kind, at_ := at_, old := s.ws at_.toNat, new := v, held := true, cnt := s.cnt + 1 }
     else { ws := s.ws, kind := kind, at_ := at_, old := s.ws at_.toNat, new := s.ws at_.toNat, held := false, cnt := s.cnt + 1 })
  else { ws := s.ws, kind := kind, at_ := at_, old := 0, new := 0, held := false, cnt := s.cnt + 1 }
def wordAt (n : Nat) (s : St) (at_ : Int) : Int := if 0 ≤ at_ ∧ at_ < n then s.ws at_.toNat else 0

def RefIs (w : World) (M B n : Nat) (s : St) : Prop := RefMem w M B n s.ws s.kind s.at_ s.old s.new s.held s.cnt

theorem refAccess_any (M B n : Nat) (s : St) (kind at_ v : Int) (wr : Bool) (w : World) (hm : RefIs w M B n s) (hc0 : 0 ≤ s.cnt) (hc1 : s.cnt ≤ 1000000) (hn : n ≤ 1000000) :
    Calls Tryz.prog 121 #[.pointer (some ⟨M, 0, none⟩), .int .i64 kind, .int .i64 at_, .bool wr, .int .u64 v] w
      fun e w' => e = .returned (.tuple #[]) ∧ RefIs w' M B n (acc n s kind at_ wr v) ∧ But (fun k => k = M ∨ k = B) w w' := by
  by_cases h : 0 ≤ at_ ∧ at_ < n
  · obtain ⟨a, rfl⟩ := Int.eq_ofNat_of_zero_le h.1
    cases wr with
    | true =>
      refine (refAccess_write M B n s.ws _ _ _ _ _ s.cnt kind v a w hm hc0 hc1 (by omega)).mono fun e w' ⟨he, h1, h2⟩ => ⟨he, ?_, h2⟩
      unfold RefIs acc
      rw [if_pos h]
      exact h1
    | false =>
      refine (refAccess_read M B n s.ws _ _ _ _ _ s.cnt kind v a w hm hc0 hc1 (by omega)).mono fun e w' ⟨he, h1, h2⟩ => ⟨he, ?_, h2⟩
      unfold RefIs acc
      rw [if_pos h]
      exact h1
  · refine (refAccess_out M B n s.ws _ _ _ _ _ s.cnt kind at_ v wr w hm hc0 hc1 (by omega) hn).mono fun e w' ⟨he, h1, h2⟩ => ⟨he, ?_, h2⟩
    unfold RefIs acc
    rw [if_neg h]
    exact h1

set_option maxHeartbeats 1000000 in
theorem refAt_any (M B n : Nat) (s : St) (at_ : Int) (w : World) (hm : RefIs w M B n s) :
    Calls Tryz.prog 158 #[.pointer (some ⟨M, 0, none⟩), .int .i64 at_] w
      fun e w' => e = .returned (.int .u64 (wordAt n s at_)) ∧ w = w' := by
  obtain ⟨c0, _, _, _, _, _, _, cw, _, _, _⟩ := hm
  by_cases h : 0 ≤ at_ ∧ at_ < n
  · obtain ⟨a, rfl⟩ := Int.eq_ofNat_of_zero_le h.1
    have hw := cw a (by omega)
    have hv : wordAt n s a = s.ws a := by unfold wordAt; rw [if_pos h]; simp
    rw [hv]
    have h1 : a < n := by omega
    clear cw hv h
    go_enter Tryz.func158, Tryz.ntmps158
    go_wp2
    go_ret
    exact ⟨rfl, rfl⟩
  · have hv : wordAt n s at_ = 0 := by unfold wordAt; rw [if_neg h]
    rw [hv]
    clear cw hv
    by_cases h1 : at_ < 0
    · clear h
      go_enter Tryz.func158, Tryz.ntmps158
      go_wp2
      go_ret
      exact ⟨rfl, rfl⟩
    · have h2 : (n : Int) ≤ at_ := by omega
      have h3 : 0 ≤ at_ := by omega
      clear h h1
      go_enter Tryz.func158, Tryz.ntmps158
      go_wp2
      go_ret
      exact ⟨rfl, rfl⟩

set_option maxHeartbeats 1000000 in
theorem refLoad_any (M B n : Nat) (s : St) (at_ : Int) (w : World) (hm : RefIs w M B n s) (hc0 : 0 ≤ s.cnt) (hc1 : s.cnt ≤ 1000000) (hn : n ≤ 1000000) :
    Calls Tryz.prog 123 #[.pointer (some ⟨M, 0, none⟩), .int .i64 at_] w
      fun e w' => e = .returned (.int .u64 (acc n s 1 at_ false 0).new) ∧ RefIs w' M B n (acc n s 1 at_ false 0) ∧ But (fun k => k = M ∨ k = B) w w' := by
  have H := Lib.hid (refAccess_any M B n s 1 at_ 0 false w hm hc0 hc1 hn)
  clear hm hc0 hc1 hn
  go_enter Tryz.func123, Tryz.ntmps123
  go_wp2_with fail
  refine H.out.mono ?_
  rintro e w1 ⟨rfl, h1, h2⟩
  have c4 := h1.c4
  have H1 := Lib.hid h1
  clear h1
  go_wp2
  go_ret
  exact ⟨rfl, H1.out, h2⟩

set_option maxHeartbeats 1000000 in
theorem refStore_any (M B n : Nat) (s : St) (at_ v : Int) (w : World) (hm : RefIs w M B n s) (hc0 : 0 ≤ s.cnt) (hc1 : s.cnt ≤ 1000000) (hn : n ≤ 1000000) :
    Calls Tryz.prog 54 #[.pointer (some ⟨M, 0, none⟩), .int .i64 at_, .int .u64 v] w
      fun e w' => e = .returned (.tuple #[]) ∧ RefIs w' M B n (acc n s 2 at_ true v) ∧ But (fun k => k = M ∨ k = B) w w' := by
  have H := Lib.hid (refAccess_any M B n s 2 at_ v true w hm hc0 hc1 hn)
  clear hm hc0 hc1 hn
  go_enter Tryz.func54, Tryz.ntmps54
  go_wp2_with fail
  refine H.out.mono ?_
  rintro e w1 ⟨rfl, h1, h2⟩
  have H1 := Lib.hid h1
  clear h1
  go_wp2
  go_end0
  exact ⟨rfl, H1.out, h2⟩

set_option maxHeartbeats 1000000 in
theorem refCAS_any (M B n : Nat) (s : St) (at_ o v : Int) (w : World) (hm : RefIs w M B n s) (hc0 : 0 ≤ s.cnt) (hc1 : s.cnt ≤ 1000000) (hn : n ≤ 1000000) :
    Calls Tryz.prog 127 #[.pointer (some ⟨M, 0, none⟩), .int .i64 at_, .int .u64 o, .int .u64 v] w
      fun e w' => e = .returned (.bool (acc n s 3 at_ (wordAt n s at_ == o) v).held) ∧ RefIs w' M B n (acc n s 3 at_ (wordAt n s at_ == o) v) ∧ But (fun k => k = M ∨ k = B) w w' := by
  have H := Lib.hid (refAccess_any M B n s 3 at_ v (wordAt n s at_ == o) w hm hc0 hc1 hn)
  have A := Lib.hid (refAt_any M B n s at_ w hm)
  clear hm hc0 hc1 hn
  go_enter Tryz.func127, Tryz.ntmps127
  go_wp2_with fail
  refine A.out.mono ?_
  rintro e w1 ⟨rfl, rfl⟩
  go_wp2_with fail
  refine H.out.mono ?_
  rintro e w1 ⟨rfl, h1, h2⟩
  have c5 := h1.c5
  have H1 := Lib.hid h1
  clear h1
  go_wp2
  go_ret
  exact ⟨rfl, H1.out, h2⟩

end Go.Proofs.YtejiogggocnldaaGreat.Wo

namespace Go.Proofs.YtejiogggocnldaaGreat.Sk
open Wo (St acc wordAt)

structure Stk where
  T : Int
  K : Int
  N : Int

def idx (N w : Int) : Int := if w % 65536 - 1 < N then w % 65536 - 1 else -1
def topW (i w : Int) : Int := i + 1 + (w / 65536 + 1) % 281474976710656 * 65536

structure Op where
  line : Nat
  W : Int
  L : Int

def Op.new : Op := ⟨1, 0, 0⟩
def Op.over : Op := ⟨9, 0, 0⟩

def casSt (n : Nat) (S : Stk) (s : St) (x : Op) (v : Int) : St := acc n s 3 S.T (wordAt n s S.T == x.W) v

def popSt (n : Nat) (S : Stk) (s : St) (x : Op) : St :=
  if x.line = 1 then acc n s 1 S.T false 0
  else if x.line = 2 then acc n s 1 (S.K + idx S.N x.W) false 0
  else if x.line = 3 then casSt n S s x (topW (idx S.N x.L) x.W)
  else s
def popOp (n : Nat) (S : Stk) (s : St) (x : Op) : Op :=
  if x.line = 1 then ⟨if idx S.N (wordAt n s S.T) < 0 then 9 else 2, wordAt n s S.T, x.L⟩
  else if x.line = 2 then ⟨3, x.W, wordAt n s (S.K + idx S.N x.W)⟩
  else if x.line = 3 then ⟨if wordAt n s S.T = x.W then 9 else 1, x.W, x.L⟩
  else x
def pushSt (n : Nat) (S : Stk) (i : Int) (s : St) (x : Op) : St :=
  if x.line = 1 then acc n s 1 S.T false 0
  else if x.line = 2 then acc n s 2 (S.K + i) true (idx S.N x.W + 1)
  else if x.line = 3 then casSt n S s x (topW i x.W)
  else s
def pushOp (n : Nat) (S : Stk) (s : St) (x : Op) : Op :=
  if x.line = 1 then ⟨2, wordAt n s S.T, x.L⟩
  else if x.line = 2 then ⟨3, x.W, x.L⟩
  else if x.line = 3 then ⟨if wordAt n s S.T = x.W then 9 else 1, x.W, x.L⟩
  else x
def allSt (n : Nat) (S : Stk) (s : St) (x : Op) : St :=
  if x.line = 1 then acc n s 1 S.T false 0
  else if x.line = 2 then casSt n S s x (topW (-1) x.W)
  else s
def allOp (n : Nat) (S : Stk) (s : St) (x : Op) : Op :=
  if x.line = 1 then ⟨if idx S.N (wordAt n s S.T) < 0 then 9 else 2, wordAt n s S.T, x.L⟩
  else if x.line = 2 then ⟨if wordAt n s S.T = x.W then 9 else 1, x.W, x.L⟩
  else x

def tookI (S : Stk) (x : Op) : Int := if x.line = 9 ∧ 0 ≤ idx S.N x.W then idx S.N x.W else 0
def tookE (S : Stk) (x : Op) : Int := if x.line = 9 then (if idx S.N x.W < 0 then 15 else 0) else 14
def laidE (e : Int) (x : Op) : Int := if x.line = 9 then e else 14

structure Stk.Ok (S : Stk) (n : Nat) : Prop where
  n1 : 1 ≤ n
  n2 : n ≤ 4096
  N1 : 1 ≤ S.N
  N2 : S.N ≤ 4096
  T1 : 0 ≤ S.T
  T2 : S.T < n
  K1 : 0 ≤ S.K
  K2 : S.K + S.N ≤ n
  ap : S.T < S.K ∨ S.K + S.N ≤ S.T

structure Wd (n : Nat) (s : St) : Prop where
  lo : ∀ i, 0 ≤ s.ws i
  hi : ∀ i, s.ws i < 18446744073709551616

theorem idx_lo (N w : Int) : -1 ≤ idx N w := by unfold idx; split <;> omega
theorem idx_hi (N w : Int) (h : 0 ≤ N) : idx N w < N := by unfold idx; split <;> omega
theorem idx_le (N w : Int) : idx N w ≤ 65534 := by unfold idx; split <;> omega
theorem idx_cases (N w : Int) (h : 0 ≤ N) : idx N w = -1 ∨ (0 ≤ idx N w ∧ idx N w < N) := by
  have := idx_lo N w
  have := idx_hi N w h
  omega
theorem topW_lo (i w : Int) (hi : -1 ≤ i) : 0 ≤ topW i w := by unfold topW; omega
theorem topW_hi (i w : Int) (hi : i ≤ 65534) : topW i w < 18446744073709551616 := by unfold topW; omega
theorem idx_topW (N i w : Int) (hi : -1 ≤ i) (hN : i < N) (hi' : i ≤ 65534) : idx N (topW i w) = i := by
  unfold idx topW
  have e : (i + 1 + (w / 65536 + 1) % 281474976710656 * 65536) % 65536 = i + 1 := by omega
  rw [e]
  split <;> omega
theorem idx_small (N i : Int) (hi : -1 ≤ i) (hN : i < N) (hi' : i ≤ 65534) : idx N (i + 1) = i := by
  unfold idx
  have e : (i + 1) % 65536 = i + 1 := by omega
  rw [e]
  split <;> omega
theorem tag_topW (i w : Int) (hi : -1 ≤ i) (hi' : i ≤ 65534) : topW i w / 65536 = (w / 65536 + 1) % 281474976710656 := by
  unfold topW; omega

theorem Wd.word {n : Nat} {s : St} (h : Wd n s) (a : Int) : 0 ≤ wordAt n s a ∧ wordAt n s a < 18446744073709551616 := by
  unfold wordAt
  split
  · exact ⟨h.lo _, h.hi _⟩
  · omega
theorem Wd.acc {n : Nat} {s : St} (h : Wd n s) (k a : Int) (wr : Bool) (v : Int) (h0 : 0 ≤ v) (h1 : v < 18446744073709551616) : Wd n (acc n s k a wr v) := by
  unfold Wo.acc
  split
  · cases wr
    · exact ⟨h.lo, h.hi⟩
    · refine ⟨fun i => ?_, fun i => ?_⟩
      · show 0 ≤ if i = a.toNat then v else s.ws i
        split
        · exact h0
        · exact h.lo i
      · show (if i = a.toNat then v else s.ws i) < _
        split
        · exact h1
        · exact h.hi i
  · exact ⟨h.lo, h.hi⟩
theorem acc_cnt (n : Nat) (s : St) (k a : Int) (wr : Bool) (v : Int) : (acc n s k a wr v).cnt = s.cnt + 1 := by
  unfold Wo.acc
  split
  · cases wr <;> rfl
  · rfl
theorem acc_new (n : Nat) (s : St) (k a v : Int) : (acc n s k a false v).new = wordAt n s a := by
  unfold Wo.acc wordAt
  split
  · rfl
  · rfl
theorem acc_held (n : Nat) (s : St) (k a v : Int) (b : Bool) (h0 : 0 ≤ a) (h1 : a < n) : (acc n s k a b v).held = b := by
  unfold Wo.acc
  rw [if_pos ⟨h0, h1⟩]
  cases b <;> rfl
theorem acc_kind (n : Nat) (s : St) (k a v : Int) (b : Bool) : (acc n s k a b v).kind = k := by
  unfold Wo.acc
  split
  · cases b <;> rfl
  · rfl
end Go.Proofs.YtejiogggocnldaaGreat.Sk

namespace Go.Proofs.YtejiogggocnldaaGreat
open Go.RowKit

structure Kept (w w' : World) : Prop where
  below : Below w.heap.size w w'

theorem Kept.refl (w : World) : Kept w w := ⟨Below.refl _ _⟩
theorem Kept.trans {a b c : World} (h : Kept a b) (k : Kept b c) : Kept a c :=
  ⟨h.below.trans (k.below.mono h.below.size)⟩
theorem Kept.alloc {a w : World} (h : Kept a w) (c : Array Value) (t : TypeId) : Kept a (w.alloc (.cells c t)) :=
  ⟨h.below.alloc h.below.size _⟩
theorem Kept.drew {a w : World} (h : Kept a w) : Kept a w.drew := ⟨h.below.drew⟩
theorem Kept.drewN {a w : World} (h : Kept a w) (n : Nat) : Kept a (w.drewN n) := ⟨h.below.trans ⟨rfl, rfl, rfl, Nat.le_refl _, fun _ _ => rfl⟩⟩
theorem Kept.setCell {a w : World} (h : Kept a w) {p : Addr} (hp : a.heap.size ≤ p.block) (v : Value) : Kept a (w.setCell p v) :=
  ⟨h.below.setCell hp v⟩
theorem Kept.froze {w w' : World} (h : Kept w w') (a : Addr) (ha : a.block < w.heap.size) : w'.frozen? a = w.frozen? a := World.frozen?_of_block (h.below.block _ ha)
theorem Kept.soft {w w' : World} (h : Kept w w') {b i : Nat} (hb : b < w.heap.size) (hf : w.frozen? ⟨b, i, none⟩ = false) : w'.frozen? ⟨b, i, none⟩ = false := (h.froze ⟨b, i, none⟩ hb).trans hf
theorem Kept.cell {w w' : World} (h : Kept w w') (b o : Nat) (hb : b < w.heap.size) : w'.cell? ⟨b, o, none⟩ = w.cell? ⟨b, o, none⟩ := h.below.cell (p := ⟨b, o, none⟩) hb
theorem Kept.size {w w' : World} (h : Kept w w') : w.heap.size ≤ w'.heap.size := h.below.size
theorem lt_of_cell {w : World} {b o : Nat} {v : Value} (h : w.cell? ⟨b, o, none⟩ = some v) : b < w.heap.size := World.block_lt_of_cell? w ⟨b, o, none⟩ h
theorem Kept.some {w w' : World} (h : Kept w w') {b o : Nat} {v : Value} (hc : w.cell? ⟨b, o, none⟩ = some v) : w'.cell? ⟨b, o, none⟩ = some v := by
  rw [h.cell b o (lt_of_cell hc)]; exact hc
theorem Kept.past {w w' : World} {x : Obj} (h : Kept (w.alloc x) w') {b o : Nat} {v : Value} (hc : w.cell? ⟨b, o, none⟩ = Option.some v) : w'.cell? ⟨b, o, none⟩ = Option.some v :=
  h.some (by rw [World.cell?_alloc_past _ _ _ (lt_of_cell hc)]; exact hc)
end Go.Proofs.YtejiogggocnldaaGreat

namespace Go.Proofs.YtejiogggocnldaaGreat
open Go.RowKit

structure But (S : Nat → Prop) (w w' : World) : Prop where
  os : w'.os = w.os
  tape : w'.tape = w.tape
  output : w'.output = w.output
  size : w.heap.size ≤ w'.heap.size
  block : ∀ k, k < w.heap.size → ¬ S k → w'.heap[k]? = w.heap[k]?
  froze : ∀ a, a.block < w.heap.size → w'.frozen? a = w.frozen? a

theorem Kept.but {w w' : World} (h : Kept w w') (S : Nat → Prop) : But S w w' :=
  ⟨h.below.os, h.below.tape, h.below.output, h.below.size, fun k hk _ => h.below.block k hk, h.froze⟩
theorem But.refl (S : Nat → Prop) (w : World) : But S w w := (Kept.refl w).but S
theorem But.mono {S T : Nat → Prop} {w w' : World} (h : But S w w') (hST : ∀ k, k < w.heap.size → S k → T k) : But T w w' :=
  ⟨h.os, h.tape, h.output, h.size, fun k hk hT => h.block k hk (fun hS => hT (hST k hk hS)), h.froze⟩
theorem But.trans {S T : Nat → Prop} {a b c : World} (h : But S a b) (k : But T b c) (hT : ∀ i, i < a.heap.size → T i → S i) : But S a c :=
  ⟨k.os.trans h.os, k.tape.trans h.tape, k.output.trans h.output, Nat.le_trans h.size k.size,
   fun i hi hS => (k.block i (Nat.lt_of_lt_of_le hi h.size) (fun ht => hS (hT i hi ht))).trans (h.block i hi hS), fun x hx => (k.froze x (Nat.lt_of_lt_of_le hx h.size)).trans (h.froze x hx)⟩
theorem But.then {S : Nat → Prop} {a b c : World} (h : But S a b) (k : Kept b c) : But S a c := h.trans (k.but S) (fun _ _ h => h)
theorem But.alloc {S : Nat → Prop} {a w : World} (h : But S a w) (c : Array Value) (t : TypeId) : But S a (w.alloc (.cells c t)) := h.then ((Kept.refl w).alloc c t)
theorem But.drew {S : Nat → Prop} {a w : World} (h : But S a w) : But S a w.drew := h.then (Kept.refl w).drew
theorem But.drewN {S : Nat → Prop} {a w : World} (h : But S a w) (n : Nat) : But S a (w.drewN n) := h.then ((Kept.refl w).drewN n)
theorem But.setCell {S : Nat → Prop} {a w : World} (h : But S a w) {p : Addr} (hp : S p.block ∨ a.heap.size ≤ p.block) (v : Value) : But S a (w.setCell p v) :=
  ⟨h.os, h.tape, h.output, by simpa using h.size, fun k hk hS => by
    rw [Below.heap_setCell _ _ _ _ (by
      rcases hp with hp | hp
      · intro e; subst e; exact hS hp
      · omega)]
    exact h.block k hk hS, fun x hx => (World.frozen?_setCell _ _ _ _).trans (h.froze x hx)⟩
theorem But.cell {S : Nat → Prop} {w w' : World} (h : But S w w') (b o : Nat) (hb : b < w.heap.size) (hS : ¬ S b) : w'.cell? ⟨b, o, none⟩ = w.cell? ⟨b, o, none⟩ :=
  World.cell?_of_block (w := w) (h.block b hb hS)
theorem But.some {S : Nat → Prop} {w w' : World} (h : But S w w') {b o : Nat} {v : Value} (hc : w.cell? ⟨b, o, none⟩ = Option.some v) (hS : ¬ S b) : w'.cell? ⟨b, o, none⟩ = Option.some v := by
  rw [h.cell b o (lt_of_cell hc) hS]; exact hc
theorem But.soft {S : Nat → Prop} {w w' : World} (h : But S w w') {b i : Nat} (hb : b < w.heap.size) (hf : w.frozen? ⟨b, i, none⟩ = false) : w'.frozen? ⟨b, i, none⟩ = false := (h.froze ⟨b, i, none⟩ hb).trans hf
theorem But.kept {S : Nat → Prop} {w w' : World} (h : But S w w') (hS : ∀ k, k < w.heap.size → ¬ S k) : Kept w w' :=
  ⟨⟨h.os, h.tape, h.output, h.size, fun k hk => h.block k hk (hS k hk)⟩⟩

theorem cell_set (w : World) (b o o' : Nat) (v : Value) : (w.setCell ⟨b, o, none⟩ v).cell? ⟨b, o', none⟩ = if o = o' then (w.cell? ⟨b, o', none⟩).map (fun _ => v) else w.cell? ⟨b, o', none⟩ := by
  by_cases h : o = o'
  · subst h
    rw [if_pos rfl]
    cases hc : w.cell? ⟨b, o, none⟩ with
    | some u => exact World.cell?_setCell_same _ _ _ hc
    | none =>
      simp only [World.cell?, World.setCell, Array.getElem?_modify] at *
      cases hh : w.heap[b]? with
      | none => simp
      | some x =>
        cases x <;> simp_all
  · rw [if_neg h]
    exact World.cell?_setCell_other _ _ _ _ (by intro e; injection e; contradiction)
theorem cell_set_far (w : World) (b b' o o' : Nat) (v : Value) (h : b ≠ b') : (w.setCell ⟨b, o, none⟩ v).cell? ⟨b', o', none⟩ = w.cell? ⟨b', o', none⟩ :=
  World.cell?_setCell_other _ _ _ _ (by intro e; injection e; contradiction)
theorem cell_set_far' (w : World) (b b' o o' : Nat) (v : Value) (h : b' ≠ b) : (w.setCell ⟨b, o, none⟩ v).cell? ⟨b', o', none⟩ = w.cell? ⟨b', o', none⟩ :=
  cell_set_far _ _ _ _ _ _ (Ne.symm h)
theorem But.here {b : Nat} {a w : World} (h : But (fun k => k = b) a w) (o : Nat) (v : Value) : But (fun k => k = b) a (w.setCell ⟨b, o, none⟩ v) := h.setCell (p := ⟨b, o, none⟩) (Or.inl rfl) v
theorem cell_new (w : World) (C : Array Value) (t : TypeId) (n i : Nat) (h : n = w.heap.size) : (w.alloc (.cells C t)).cell? ⟨n, i, none⟩ = C[i]? := by
  subst h; simp
end Go.Proofs.YtejiogggocnldaaGreat
