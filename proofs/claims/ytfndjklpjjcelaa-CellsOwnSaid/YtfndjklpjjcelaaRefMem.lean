/- The document's memory: what it looks like, and what its accesses do. -/
import Derived.Test.YtfndjklpjjcelaaKitWords
import Derived.Deep.Light
namespace Go.Proofs.Ytfndjklpjjcelaa
open Go.RowKit

/-- A memory of the document's: its words lie in block B; the rest in block M. -/
structure RefMem (w : World) (M B n : Nat) (ws : Nat → Int) (kind at_ old new : Int) (held : Bool) (cnt : Int) : Prop where
  c0 : w.cell? ⟨M, 0, none⟩ = some (.slice (some ⟨B, 0, none⟩) n n)
  c1 : w.cell? ⟨M, 1, none⟩ = some (.int .i64 kind)
  c2 : w.cell? ⟨M, 2, none⟩ = some (.int .i64 at_)
  c3 : w.cell? ⟨M, 3, none⟩ = some (.int .u64 old)
  c4 : w.cell? ⟨M, 4, none⟩ = some (.int .u64 new)
  c5 : w.cell? ⟨M, 5, none⟩ = some (.bool held)
  c6 : w.cell? ⟨M, 6, none⟩ = some (.int .i64 cnt)
  words : ∀ i, i < n → w.cell? ⟨B, i, none⟩ = some (.int .u64 (ws i))
  fM : ∀ i, w.frozen? ⟨M, i, none⟩ = false
  fB : ∀ i, w.frozen? ⟨B, i, none⟩ = false
  ne : M ≠ B

set_option maxHeartbeats 1000000 in
theorem refAccess_out (M B n : Nat) (ws : Nat → Int) (k0 a0 o0 n0 : Int) (h0 : Bool) (cnt kind at_ v : Int) (wr : Bool) (w : World) (hm : RefMem w M B n ws k0 a0 o0 n0 h0 cnt)
    (hc0 : 0 ≤ cnt) (hc1 : cnt ≤ 1000000) (ho : at_ < 0 ∨ n ≤ at_) (hn : n ≤ 1000000) :
    Calls Try.prog 34 #[.pointer (some ⟨M, 0, none⟩), .int .i64 kind, .int .i64 at_, .bool wr, .int .u64 v] w
      fun e w' => e = .returned (.tuple #[]) ∧ RefMem w' M B n ws kind at_ 0 0 false (cnt + 1) ∧ But (fun k => k = M ∨ k = B) w w' := by
  obtain ⟨c0, c1, c2, c3, c4, c5, c6, cw, fM, fB, ne⟩ := hm
  have CW := Lib.hid cw
  have NE := Lib.hid ne
  clear cw ne
  rcases ho with ho | ho
  · go_enter Try.func34, Try.ntmps34
    go_wp2
    refine bodyPost_ret (v := .tuple #[]) (by simp [results, Try.results34, go_sem]) rfl ⟨rfl, ?_, ?_⟩
    · have ne := NE.out
      refine ⟨?_, ?_, ?_, ?_, ?_, ?_, ?_, fun i hi => ?_, fun i => ?_, fun i => ?_, ne⟩
      all_goals first | (go_simp; done) | (have hw := CW.out i hi; simp [World.cell?_setCell_other, hw]; done) | (simp [fM, fB]; done)
    · go_light
      repeat (first | (with_reducible exact But.refl _ _) | refine But.setCell ?_ (Or.inl (Or.inl rfl)) _ | refine But.setCell ?_ (Or.inl (Or.inr rfl)) _)
  · go_enter Try.func34, Try.ntmps34
    go_wp2
    refine bodyPost_ret (v := .tuple #[]) (by simp [results, Try.results34, go_sem]) rfl ⟨rfl, ?_, ?_⟩
    · have ne := NE.out
      refine ⟨?_, ?_, ?_, ?_, ?_, ?_, ?_, fun i hi => ?_, fun i => ?_, fun i => ?_, ne⟩
      all_goals first | (go_simp; done) | (have hw := CW.out i hi; simp [World.cell?_setCell_other, hw]; done) | (simp [fM, fB]; done)
    · go_light
      repeat (first | (with_reducible exact But.refl _ _) | refine But.setCell ?_ (Or.inl (Or.inl rfl)) _ | refine But.setCell ?_ (Or.inl (Or.inr rfl)) _)

set_option maxHeartbeats 1000000 in
theorem refAccess_read (M B n : Nat) (ws : Nat → Int) (k0 a0 o0 n0 : Int) (h0 : Bool) (cnt kind v : Int) (at_ : Nat) (w : World) (hm : RefMem w M B n ws k0 a0 o0 n0 h0 cnt)
    (hc0 : 0 ≤ cnt) (hc1 : cnt ≤ 1000000) (ho : at_ < n) :
    Calls Try.prog 34 #[.pointer (some ⟨M, 0, none⟩), .int .i64 kind, .int .i64 at_, .bool false, .int .u64 v] w
      fun e w' => e = .returned (.tuple #[]) ∧ RefMem w' M B n ws kind at_ (ws at_) (ws at_) false (cnt + 1) ∧ But (fun k => k = M ∨ k = B) w w' := by
  obtain ⟨c0, c1, c2, c3, c4, c5, c6, cw, fM, fB, ne⟩ := hm
  have CW := Lib.hid cw
  have NE := Lib.hid ne
  have hw := cw at_ ho
  clear cw
  go_enter Try.func34, Try.ntmps34
  go_wp2
  go_end0
  refine ⟨rfl, ?_, ?_⟩
  · refine ⟨?_, ?_, ?_, ?_, ?_, ?_, ?_, fun i hi => ?_, fun i => ?_, fun i => ?_, ne⟩
    all_goals go_light
    all_goals first | (simp [cell_set, *]; done) | (have hw := CW.out i hi; simp [cell_set_far, ne, hw]; done)
  · go_light
    repeat (first | (with_reducible exact But.refl _ _) | refine But.setCell ?_ (Or.inl (Or.inl rfl)) _ | refine But.setCell ?_ (Or.inl (Or.inr rfl)) _)

set_option maxHeartbeats 1000000 in
theorem refAccess_write (M B n : Nat) (ws : Nat → Int) (k0 a0 o0 n0 : Int) (h0 : Bool) (cnt kind v : Int) (at_ : Nat) (w : World) (hm : RefMem w M B n ws k0 a0 o0 n0 h0 cnt)
    (hc0 : 0 ≤ cnt) (hc1 : cnt ≤ 1000000) (ho : at_ < n) :
    Calls Try.prog 34 #[.pointer (some ⟨M, 0, none⟩), .int .i64 kind, .int .i64 at_, .bool true, .int .u64 v] w
      fun e w' => e = .returned (.tuple #[]) ∧ RefMem w' M B n (fun i => if i = at_ then v else ws i) kind at_ (ws at_) v true (cnt + 1) ∧ But (fun k => k = M ∨ k = B) w w' := by
  obtain ⟨c0, c1, c2, c3, c4, c5, c6, cw, fM, fB, ne⟩ := hm
  have CW := Lib.hid cw
  have NE := Lib.hid ne
  have hw := cw at_ ho
  clear cw
  go_enter Try.func34, Try.ntmps34
  go_wp2
  go_end0
  refine ⟨rfl, ?_, ?_⟩
  · have ne' := Ne.symm ne
    refine ⟨?_, ?_, ?_, ?_, ?_, ?_, ?_, fun i hi => ?_, fun i => ?_, fun i => ?_, ne⟩
    all_goals go_light
    all_goals first | (simp [cell_set, cell_set_far, *]; done) | (have hv := CW.out i hi; by_cases hq : at_ = i <;> simp [cell_set, cell_set_far, *, eq_comm]; done)
  · go_light
    repeat (first | (with_reducible exact But.refl _ _) | refine But.setCell ?_ (Or.inl (Or.inl rfl)) _ | refine But.setCell ?_ (Or.inl (Or.inr rfl)) _)
end Go.Proofs.Ytfndjklpjjcelaa
