/- supply's closure: the iterator over what is left: its contract for every loop body that keeps what lay before. -/
import Derived.RangeFuncNested
import Derived.RangeFuncBound
import Derived.RangeFuncCalls
import Derived.RangeFuncLeaves
import Derived.RangeFuncFrom
import Derived.Shelf.Abstract
import Derived.Shelf.RegionOpen
import Derived.WalkKit
import Derived.OwnWalkIn
import Derived.TacticsInMore
import Derived.LoopNIn
import Derived.LoopIn
import Derived.Test.YtoanifflgmalkaaHeld
namespace Go.Proofs.Ytoanifflgmalkaa
open Go.RowKit Go.Shelf
attribute [local go_sem] Oper.semAt_some

/-- What has come when k rounds are over: f t, .., f (t + k - 1). -/
def upto (f : Nat → Int) (t k : Nat) : List Int := (List.range k).map fun j => f (t + j)
theorem upto_succ (f : Nat → Int) (t k : Nat) : upto f t (k + 1) = upto f t k ++ [f (t + k)] := by simp [upto, List.range_succ]
theorem upto_length (f : Nat → Int) (t k : Nat) : (upto f t k).length = k := by simp [upto]

set_option maxRecDepth 100000 in
set_option maxHeartbeats 2000000 in
theorem supply1_in (n : Nat) (hn : 1 ≤ n) (l Bs n₀ D S : Nat) (a : Option Addr) (len cap t : Nat) (f : Nat → Int) (hb : ∀ b, a = some ⟨b, 0, none⟩ → b < n₀) (J Jx : List Int → World → Prop)
    (hJ : ∀ s W W' row, J s W → W.grownBy W' row → (∀ r, row = some r → False) → J s W')
    (hY : ∀ pre x W, J pre W → pre.length < len - t → YieldAt Fence.wide (n - 1) Try.prog l #[.int .i64 x] W fun e W' =>
      (e = .returned (.bool true) ∧ J (pre ++ [x]) W' ∧ Below n₀ W W') ∨ (e = .returned (.bool false) ∧ Jx (pre ++ [x]) W'))
    (W : World) (hBs : W.cell? ⟨Bs, 0, none⟩ = some (.pointer (some ⟨D, 0, none⟩))) (hH : Held W D S a len cap t f) (h0 : J [] W) :
    CallsIn Fence.wide n Try.prog 32 #[.func (.yield l) #[] #[], .pointer (some ⟨Bs, 0, none⟩)] W fun e W' => (∃ v, e = .returned v) ∧
      ((∃ ys, ys = upto f t (len - t) ∧ J ys W') ∨ (∃ pre, (∃ k, k ≤ len - t ∧ pre = upto f t k) ∧ Jx pre W')) := by
  refine callsIn_of_wp Try.func32 rfl trivial ?_ rfl
  simp only [Try.ntmps32, List.size_toArray, List.length_cons, List.length_nil, Nat.reduceAdd, Nat.reduceSub, Array.replicate_succ, Array.replicate_zero, List.push_toArray, List.append_toArray, List.nil_append, List.cons_append]
  rw [wpIn_wide]
  have c0 := hH.ptr
  have c1 := hH.list
  have c2 := hH.count
  have i1 := hH.most
  have i2 := hH.took
  have i3 := hH.room
  have i4 := hH.lim
  unfold maxLen at i4
  have hdrew : ∀ s q, J s W → J s (W.drewN q) := fun s q h => hJ s W _ none h ⟨rfl, rfl, rfl, Nat.le_refl _, fun _ _ _ => rfl⟩ (fun r e => by cases e)
  rcases hH.form with ⟨rfl, rfl, rfl⟩ | ⟨b, rfl, _, hc⟩
  · obtain rfl : t = 0 := by omega
    have HD := Lib.hid hdrew
    clear hY hJ hb hdrew
    go_wp2_with fail; refine (valid_held hH).mono ?_; rintro e w1 ⟨rfl, rfl⟩
    clear hH
    go_wp2
    go_quiet (fail)
    go_wp2
    rw [← wpIn_wide (n := n)]
    gi_loopw [24] (fun i wr => i = .int .i64 0 ∧ wr = W.drewN nq) (fun _ _ => 0)
    case atStart => exact ⟨rfl, rfl⟩
    case round =>
      obtain ⟨rfl, rfl⟩ := hrel
      gi_wp2
      go_end0
      exact ⟨⟨_, rfl⟩, .inl ⟨[], by simp [upto], HD.out _ _ h0⟩⟩
  · by_cases hct : cap = t
    · have hlt : len - t = 0 := by omega
      have HD := Lib.hid hdrew
      have hlen : len = t := by omega
      subst hct
      subst hlen
      clear hY hJ hb hdrew hc
      go_wp2_with fail; refine (valid_held hH).mono ?_; rintro e w1 ⟨rfl, rfl⟩
      clear hH
      go_wp2
      go_quiet (fail)
      go_wp2
      rw [← wpIn_wide (n := n)]
      gi_loopw [24] (fun i wr => i = .int .i64 0 ∧ wr = W.drewN nq) (fun _ _ => 0)
      case atStart => exact ⟨rfl, rfl⟩
      case round =>
        obtain ⟨rfl, rfl⟩ := hrel
        gi_wp2
        go_end0
        exact ⟨⟨_, rfl⟩, .inl ⟨[], by simp [upto], HD.out _ _ h0⟩⟩
    · have hbn := hb b rfl
      have HC := Lib.hid hc
      have HY := Lib.hid hY
      have HD := Lib.hid hdrew
      clear hc hY hJ hb hdrew
      go_wp2_with fail; refine (valid_held hH).mono ?_; rintro e w1 ⟨rfl, rfl⟩
      clear hH
      go_wp2
      go_quiet (fail)
      go_wp2
      rw [← wpIn_wide (n := n)]
      gi_loopw [24] (fun i wr => ∃ k : Nat, k ≤ len - t ∧ i = .int .i64 k ∧ J (upto f t k) wr ∧ Below n₀ W wr) (fun i _ => (len - t) - (intOf i).toNat)
      case atStart => exact ⟨0, Nat.zero_le _, rfl, HD.out _ _ h0, (Below.refl _ _).trans ⟨rfl, rfl, rfl, Nat.le_refl _, fun _ _ => rfl⟩⟩
      case round =>
        obtain ⟨k, hk, rfl, hJs, hnx⟩ := hrel
        by_cases hlt : k < len - t
        · have hcx : wr.cell? ⟨b, t + k, none⟩ = some (.int .i64 (f (t + k))) := (hnx.cell (p := ⟨b, t + k, none⟩) hbn).trans (HC.out (t + k) (by omega))
          obtain ⟨fn, tmps, assign, body, hy, hR⟩ := HY.out _ (f (t + k)) wr hJs (by rw [upto_length]; exact hlt)
          gi_wp2
          refine hR.mono ?_
          rintro e W3 (⟨rfl, hJ3, hk3⟩ | ⟨rfl, hJx3⟩)
          · gi_wp2
            go_roundw
            case rel => exact ⟨k + 1, by omega, by go_num, by rw [upto_succ]; exact hJ3, hnx.trans hk3⟩
            case measure => simp [intOf]; omega
          · gi_wp2
            refine bodyPost_ret (results_none rfl _ _ _) rfl ?_
            exact ⟨⟨_, rfl⟩, .inr ⟨_, ⟨k + 1, by omega, (upto_succ _ _ _).symm⟩, hJx3⟩⟩
        · obtain rfl : k = len - t := by omega
          gi_wp2
          go_end0
          exact ⟨⟨_, rfl⟩, .inl ⟨_, rfl, hJs⟩⟩

/-- Where nobody's draws are asked: nothing comes. -/
theorem supply1_none_in (n : Nat) (l Bs : Nat) (p : Option Addr) (J : List Int → World → Prop) (W : World) (hBs : W.cell? ⟨Bs, 0, none⟩ = some (.pointer p)) (hH : Nobody W p) (h0 : J [] W) :
    CallsIn Fence.wide n Try.prog 32 #[.func (.yield l) #[] #[], .pointer (some ⟨Bs, 0, none⟩)] W fun e W' => (∃ v, e = .returned v) ∧ J [] W' := by
  refine callsIn_of_wp Try.func32 rfl trivial ?_ rfl
  simp only [Try.ntmps32, List.size_toArray, List.length_cons, List.length_nil, Nat.reduceAdd, Nat.reduceSub, Array.replicate_succ, Array.replicate_zero, List.push_toArray, List.append_toArray, List.nil_append, List.cons_append]
  rw [wpIn_wide]
  go_wp2_with fail; refine (valid_none hH).mono ?_; rintro e w1 ⟨rfl, rfl⟩
  go_wp2
  refine bodyPost_ret (results_none rfl _ _ _) rfl ?_
  exact ⟨⟨_, rfl⟩, h0⟩

/-- supply's value over made draws: all that is left, in order; or a part. -/
theorem supply_stops (n : Nat) (hn : 1 ≤ n) (Bs n₀ D S : Nat) (a : Option Addr) (len cap t : Nat) (f : Nat → Int) (w : World) (hBl : Bs < w.heap.size) (hn₀ : n₀ ≤ w.heap.size) (h0 : w.cell? ⟨Bs, 0, none⟩ = some (.pointer (some ⟨D, 0, none⟩)))
    (hH : Held w D S a len cap t f) (hb : ∀ b, a = some ⟨b, 0, none⟩ → b < n₀) :
    SeqStopsK Fence.wide n Try.prog 32 #[.pointer (some ⟨Bs, 0, none⟩)] (fun x : Int => #[Value.int .i64 x]) (Below n₀) (fun ys => ys = upto f t (len - t)) (fun pre => ∃ k, k ≤ len - t ∧ pre = upto f t k) (len - t) w := fun l J Jx W hW hJ _ hY h1 => by
  have hs := (hW.cell (p := ⟨Bs, 0, none⟩) hBl).trans h0
  have hD := (hW.cell (p := ⟨D, 0, none⟩) hH.lt.1).trans hH.ptr
  have hS := (hW.cell (p := ⟨S, 0, none⟩) hH.lt.2).trans hH.list
  have hT := (hW.cell (p := ⟨S, 1, none⟩) hH.lt.2).trans hH.count
  have hF : W.frozen? ⟨S, 1, none⟩ = false := (World.frozen?_of_block (a := ⟨S, 1, none⟩) (hW.block S hH.lt.2)).trans hH.soft
  have hH' : Held W D S a len cap t f := ⟨hH.nums, hH.most, hH.room, hH.lim, hH.took, hD, hS, hT, hF,
    hH.form.imp id (fun ⟨b, e, hl, hc⟩ => ⟨b, e, Nat.lt_of_lt_of_le hl hW.size, fun i hi => (hW.cell (p := ⟨b, i, none⟩) (Nat.lt_of_lt_of_le (hb b e) hn₀)).trans (hc i hi)⟩)⟩
  exact supply1_in n hn l Bs n₀ D S a len cap t f hb J Jx (fun s A B row hs hg hr => hJ s A B row hs hg (fun r e => (hr r e).elim)) hY W hs hH' h1

/-- .. over nobody's: nothing. -/
theorem supply_none_stops (n : Nat) (Bs n₀ : Nat) (p : Option Addr) (w : World) (hBl : Bs < w.heap.size) (h0 : w.cell? ⟨Bs, 0, none⟩ = some (.pointer p)) (hH : Nobody w p) :
    SeqStopsK Fence.wide n Try.prog 32 #[.pointer (some ⟨Bs, 0, none⟩)] (fun x : Int => #[Value.int .i64 x]) (Below n₀) (fun ys => ys = []) (fun _ => False) 0 w := fun l J Jx W hW _ _ _ h1 => by
  have hs := (hW.cell (p := ⟨Bs, 0, none⟩) hBl).trans h0
  have hH' : Nobody W p := hH.imp id (fun ⟨D, e, hc⟩ => ⟨D, e, (hW.cell (p := ⟨D, 0, none⟩) (lt_of_cell hc)).trans hc⟩)
  exact (supply1_none_in n l Bs p J W hs hH' h1).mono fun e W' ⟨he, hj⟩ => ⟨he, .inl ⟨_, rfl, hj⟩⟩
end Go.Proofs.Ytoanifflgmalkaa
