/- those's closure over a frame's table: the iterator over the busy cores. -/
import Derived.RangeFuncNested
import Derived.RangeFuncBound
import Derived.RangeFuncCalls
import Derived.RangeFuncLeaves
import Derived.RangeFuncFrom
import Derived.Shelf.Abstract
import Derived.Shelf.RegionOpen
import Derived.WalkKit
import Derived.OwnWalkIn
import Derived.TacticsInMore
import Derived.LoopNIn
import Derived.LoopIn
import Derived.Test.YtdgajkimepgljaaFAcc
namespace Go.Proofs.Ytdgajkimepgljaa
open Go.RowKit Go.Shelf
attribute [local go_sem] Oper.semAt_some

/-- The busy ones of the first k. -/
def busyTo (on : Int → Bool) (k : Nat) : List Nat := (List.range k).filter fun (i : Nat) => on i
theorem busyTo_succ (on : Int → Bool) (k : Nat) : busyTo on (k + 1) = busyTo on k ++ (if on k then [k] else []) := by
  unfold busyTo
  rw [List.range_succ, List.filter_append]
  congr 1
  simp [List.filter_cons]
theorem busyTo_length (on : Int → Bool) (k : Nat) : (busyTo on k).length ≤ k := by
  have h := List.length_filter_le (fun (i : Nat) => on i) (List.range k)
  rw [List.length_range] at h
  exact h

/-- What a round keeps: all blocks below N but B. -/
def KeepB (N B : Nat) (W W' : World) : Prop := W.heap.size ≤ W'.heap.size ∧ ∀ k, k < N → k ≠ B → W'.heap[k]? = W.heap[k]?
theorem KeepB.refl {N B : Nat} (a : World) : KeepB N B a a := ⟨Nat.le_refl _, fun _ _ _ => rfl⟩
theorem KeepB.trans {N B : Nat} {a b c : World} (h : KeepB N B a b) (k : KeepB N B b c) : KeepB N B a c := ⟨Nat.le_trans h.1 k.1, fun i h1 h2 => (k.2 i h1 h2).trans (h.2 i h1 h2)⟩
theorem KeepB.of_kept {N B : Nat} {a b : World} (h : Kept a b) (hN : N ≤ a.heap.size) : KeepB N B a b := ⟨h.size, fun i h1 _ => h.below.block i (Nat.lt_of_lt_of_le h1 hN)⟩
theorem KeepB.cell {N B : Nat} {a b : World} (h : KeepB N B a b) {p : Addr} {v : Value} (hp : p.block < N) (hB : p.block ≠ B) (hc : a.cell? p = some v) : b.cell? p = some v :=
  (World.cell?_of_block (h.2 _ hp hB)).trans hc

set_option maxRecDepth 100000 in
set_option maxHeartbeats 2000000 in
theorem those1_in (n : Nat) (hn : 1 ≤ n) (l Bt Bh T N B nn : Nat) (on : Int → Bool) (hnn : nn ≤ 64) (hBt : Bt < N) (hBh : Bh < N) (hT : T < N) (eBt : Bt ≠ B) (eBh : Bh ≠ B) (eT : T ≠ B) (J Jx : List Nat → World → Prop)
    (hJ : ∀ s W W', J s W → Kept W W' → J s W')
    (hY : ∀ pre x W, J pre W → pre.length < nn → YieldAt Fence.wide (n - 1) Try.prog l #[.int .i64 (x : Nat), .pointer (some ⟨T, x * 4, none⟩)] W fun e W' =>
      (e = .returned (.bool true) ∧ J (pre ++ [x]) W' ∧ KeepB N B W W') ∨ (e = .returned (.bool false) ∧ Jx (pre ++ [x]) W'))
    (W : World) (hN : N ≤ W.heap.size) (c0 : W.cell? ⟨Bt, 0, none⟩ = some (.slice (some ⟨T, 0, none⟩) nn nn)) (c1 : W.cell? ⟨Bh, 0, none⟩ = some (.func (.func 34) #[] #[]))
    (ct : ∀ i : Nat, i < nn → W.cell? ⟨T, i * 4 + 3, none⟩ = some (.bool (on i))) (h0 : J [] W) :
    CallsIn Fence.wide n Try.prog 43 #[.func (.yield l) #[] #[], .pointer (some ⟨Bt, 0, none⟩), .pointer (some ⟨Bh, 0, none⟩)] W fun e W' => (∃ v, e = .returned v) ∧
      ((∃ ys, ys = busyTo on nn ∧ J ys W') ∨ (∃ pre, True ∧ Jx pre W')) := by
  refine callsIn_of_wp Try.func43 rfl trivial ?_ rfl
  simp only [Try.ntmps43, List.size_toArray, List.length_cons, List.length_nil, Nat.reduceAdd, Nat.reduceSub, Array.replicate_succ, Array.replicate_zero, List.push_toArray, List.append_toArray, List.nil_append, List.cons_append]
  have HC := Lib.hid ct
  have HY := Lib.hid hY
  have HJ := Lib.hid hJ
  clear ct hY hJ
  gi_wp2
  gi_loopw [9] (fun i wr => ∃ k : Nat, k ≤ nn ∧ i = .int .i64 k ∧ J (busyTo on k) wr ∧ KeepB N B W wr) (fun i _ => nn - (intOf i).toNat)
  case atStart => exact ⟨0, Nat.zero_le _, rfl, h0, KeepB.refl _⟩
  case round =>
    obtain ⟨k, hk, rfl, hJs, hnx⟩ := hrel
    have NX := Lib.hid hnx
    clear hnx
    by_cases hlt : k < nn
    · have d0 := NX.out.cell (p := ⟨Bt, 0, none⟩) hBt eBt c0
      have d1 := NX.out.cell (p := ⟨Bh, 0, none⟩) hBh eBh c1
      have d2 := NX.out.cell (p := ⟨T, k * 4 + 3, none⟩) hT eT (HC.out k hlt)
      have d4 := Nat.le_trans hN NX.out.1
      cases ho : on k with
      | true =>
        rw [ho] at d2
        gi_wp2_with (first
          | (refine ⟨trivial, ?_⟩; gi_at_call 40; refine ((callsIn_wide).2 (at_in k hlt hnn)).mono ?_; rintro e w1 ⟨rfl, k1⟩; have e1 := k1.some d1; have e2 := k1.some d2)
          | (refine ⟨trivial, ?_⟩; gi_at_call 34; refine ((callsIn_wide).2 (isBusy_slot e2)).mono ?_; rintro e w2 ⟨rfl, rfl⟩; obtain ⟨fn, tmps, assign, body, hy, hR⟩ := HY.out _ k _ (HJ.out _ _ _ hJs k1) (Nat.lt_of_le_of_lt (busyTo_length on k) hlt)))
        refine hR.mono ?_
        rintro e W3 (⟨rfl, hJ3, hk3⟩ | ⟨rfl, hJx3⟩)
        · gi_wp2
          go_roundw
          case rel => exact ⟨k + 1, by omega, by go_num, by rw [busyTo_succ, ho]; exact hJ3, (NX.out.trans (KeepB.of_kept k1 d4)).trans hk3⟩
          case measure => simp [intOf]; omega
        · gi_wp2
          refine bodyPost_ret (results_none rfl _ _ _) rfl ?_
          exact ⟨⟨_, rfl⟩, .inr ⟨_, trivial, hJx3⟩⟩
      | false =>
        rw [ho] at d2
        gi_wp2_with (first
          | (refine ⟨trivial, ?_⟩; gi_at_call 40; refine ((callsIn_wide).2 (at_in k hlt hnn)).mono ?_; rintro e w1 ⟨rfl, k1⟩; have e1 := k1.some d1; have e2 := k1.some d2)
          | (refine ⟨trivial, ?_⟩; gi_at_call 34; refine ((callsIn_wide).2 (isBusy_slot e2)).mono ?_; rintro e w2 ⟨rfl, rfl⟩))
        refine ⟨fun _ h => (by cases h), ?_⟩
        gi_wp2
        go_roundw
        case rel => exact ⟨k + 1, by omega, by go_num, by rw [busyTo_succ, ho]; simpa using HJ.out _ _ _ hJs k1, NX.out.trans (KeepB.of_kept k1 d4)⟩
        case measure => simp [intOf]; omega
    · obtain rfl : k = nn := by omega
      gi_wp2
      go_end0
      exact ⟨⟨_, rfl⟩, .inl ⟨_, rfl, hJs⟩⟩

/-- those's value over a table: the busy ones, in order. -/
theorem those_stops (n : Nat) (hn : 1 ≤ n) (Bt Bh T N B nn : Nat) (on : Int → Bool) (hnn : nn ≤ 64) (hBt : Bt < N) (hBh : Bh < N) (hT : T < N) (eBt : Bt ≠ B) (eBh : Bh ≠ B) (eT : T ≠ B) (w : World) (hN : N ≤ w.heap.size)
    (c0 : w.cell? ⟨Bt, 0, none⟩ = some (.slice (some ⟨T, 0, none⟩) nn nn)) (c1 : w.cell? ⟨Bh, 0, none⟩ = some (.func (.func 34) #[] #[]))
    (ct : ∀ i : Nat, i < nn → w.cell? ⟨T, i * 4 + 3, none⟩ = some (.bool (on i))) :
    SeqStopsK Fence.wide n Try.prog 43 #[.pointer (some ⟨Bt, 0, none⟩), .pointer (some ⟨Bh, 0, none⟩)] (fun x : Nat => #[Value.int .i64 (x : Nat), .pointer (some ⟨T, x * 4, none⟩)]) (KeepB N B)
      (fun ys => ys = busyTo on nn) (fun _ => True) nn w := fun l J Jx W hW hJ _ hY h1 => by
  have k : Kept w W := ⟨hW⟩
  exact those1_in n hn l Bt Bh T N B nn on hnn hBt hBh hT eBt eBh eT J Jx (fun s A C hs hk => hJ s A C none hs ⟨hk.below.os, hk.below.tape, hk.below.output, hk.below.size, fun i hi _ => hk.below.block i hi⟩ (fun r e => by cases e)) hY W (Nat.le_trans hN k.size)
    (k.some c0) (k.some c1) (fun i hi => k.some (ct i hi)) h1

theorem those_any {w : World} (T nn : Nat) :
    Calls Try.prog 42 #[.agg #[.slice (some ⟨T, 0, none⟩) nn nn], .func (.func 34) #[] #[]] w fun e w' =>
      e = .returned (.func (.func 43) #[] #[.pointer (some ⟨w.heap.size, 0, none⟩), .pointer (some ⟨w.heap.size + 1, 0, none⟩)]) ∧
      w' = (w.alloc (.cells #[.slice (some ⟨T, 0, none⟩) nn nn] 65)).alloc (.cells #[.func (.func 34) #[] #[]] 83) := by
  go_enter Try.func42, Try.ntmps42
  go_wp2
  go_ret
  exact ⟨rfl, rfl⟩
theorem busy_held {w : World} {F G T : Nat} {dv : Value} {base n m : Nat} {s : St} (h : PF w F G T dv base n m s) :
    Calls Try.prog 37 #[.pointer (some ⟨F, 0, none⟩)] w fun e w' =>
      e = .returned (.func (.func 43) #[] #[.pointer (some ⟨w.heap.size, 0, none⟩), .pointer (some ⟨w.heap.size + 1, 0, none⟩)]) ∧
      w' = (w.alloc (.cells #[.slice (some ⟨T, 0, none⟩) n n] 65)).alloc (.cells #[.func (.func 34) #[] #[]] 83) := by
  have c0 := h.ptr
  have c1 := h.tab
  go_enter Try.func37, Try.ntmps37
  go_wp2_with fail; refine (valid_held h).mono ?_; rintro e w1 ⟨rfl, rfl⟩
  clear h
  go_wp2_with fail; refine (those_any T n).mono ?_; rintro e w2 ⟨rfl, rfl⟩
  go_wp2
  go_ret
  exact ⟨rfl, rfl⟩
theorem busy_none {w : World} {p : Option Addr} (h : NobF w p) :
    Calls Try.prog 37 #[.pointer p] w fun e w' => e = .returned (.func (.func 41) #[] #[]) ∧ w' = w := by
  have H := Lib.hid h
  clear h
  go_enter Try.func37, Try.ntmps37
  go_wp2_with fail; refine (valid_none H.out).mono ?_; rintro e w1 ⟨rfl, rfl⟩
  go_wp2
  go_ret
  exact ⟨rfl, rfl⟩
/-- An iterator that yields nothing. -/
theorem nothing_stops (n : Nat) (w : World) (T N B : Nat) :
    SeqStopsK Fence.wide n Try.prog 41 #[] (fun x : Nat => #[Value.int .i64 (x : Nat), .pointer (some ⟨T, x * 4, none⟩)]) (KeepB N B) (fun ys => ys = []) (fun _ => False) 0 w := fun l J Jx W hW hJ _ hY h1 => by
  refine callsIn_of_wp Try.func41 rfl trivial ?_ rfl
  gi_wp2
  go_end0
  exact ⟨⟨_, rfl⟩, h1⟩
end Go.Proofs.Ytdgajkimepgljaa
