/- all's closure: the iterator over a set's indices: its contract for every loop body that keeps what lay before. -/
import Derived.RangeFuncNested
import Derived.RangeFuncBound
import Derived.RangeFuncCalls
import Derived.RangeFuncLeaves
import Derived.RangeFuncFrom
import Derived.RangeFuncBox
import Derived.Shelf.Abstract
import Derived.Shelf.RegionOpen
import Derived.WalkKit
import Derived.WalkMore
import Derived.OwnWalkIn
import Derived.TacticsInMore
import Derived.LoopNIn
import Derived.LoopIn
import Derived.Maps.AppendAt
import Derived.Test.YtlkadickhhaakaaDoorPoBits
namespace Go.Proofs.YtlkadickhhaakaaDoor
open Go.RowKit Go.Shelf
attribute [local go_sem] Oper.semAt_some
attribute [local go_sem ↓] ld_named st_named lv_named ix_named zv_named

/-- What a round keeps: all blocks below N but B. -/
def KeepB (N B : Nat) (W W' : World) : Prop := W.heap.size ≤ W'.heap.size ∧ ∀ k, k < N → k ≠ B → W'.heap[k]? = W.heap[k]?
theorem KeepB.refl {N B : Nat} (a : World) : KeepB N B a a := ⟨Nat.le_refl _, fun _ _ _ => rfl⟩
theorem KeepB.trans {N B : Nat} {a b c : World} (h : KeepB N B a b) (k : KeepB N B b c) : KeepB N B a c := ⟨Nat.le_trans h.1 k.1, fun i h1 h2 => (k.2 i h1 h2).trans (h.2 i h1 h2)⟩
theorem KeepB.of_kept {N B : Nat} {a b : World} (h : Kept a b) (hN : N ≤ a.heap.size) : KeepB N B a b := ⟨h.size, fun i h1 _ => h.below.block i (Nat.lt_of_lt_of_le h1 hN)⟩
theorem KeepB.cell {N B : Nat} {a b : World} (h : KeepB N B a b) {p : Addr} {v : Value} (hp : p.block < N) (hB : p.block ≠ B) (hc : a.cell? p = some v) : b.cell? p = some v :=
  (World.cell?_of_block (h.2 _ hp hB)).trans hc
theorem KeepB.tab {N B : Nat} {a b : World} (h : KeepB N B a b) (hp : 0 < N) (hB : 0 ≠ B) (hT : Tab a) : Tab b := fun j hj => h.cell hp hB (hT j hj)

/-- A beginning of a set's indices. -/
theorem memTo_take (M : Nat → Bool) {n m : Nat} (h : n ≤ m) : (memTo M m).take (memTo M n).length = memTo M n := by
  obtain ⟨d, rfl⟩ : ∃ d, m = n + d := ⟨m - n, by omega⟩
  induction d with
  | zero => simp
  | succ d ih =>
    rw [← Nat.add_assoc, memTo_succ]
    have hle : (memTo M n).length ≤ (memTo M (n + d)).length := by
      have := congrArg List.length (ih (by omega))
      rw [List.length_take] at this
      omega
    rw [List.take_append_of_le_length hle]
    exact ih (by omega)

theorem and_pred (y : Nat) (hy : y < 18446744073709551616) (h0 : y ≠ 0) : IntKind.u64.wrap ((y : Int) - 1) = ((y - 1 : Nat) : Int) ∧ bits .and .u64 (y : Int) ((y - 1 : Nat) : Int) = ((y &&& (y - 1) : Nat) : Int) := by
  refine ⟨by rw [IntKind.wrap_u64]; omega, bits_and_u64_nat _ _ hy (by omega)⟩

set_option maxRecDepth 100000 in
set_option maxHeartbeats 4000000 in
theorem all1_in (n : Nat) (hn : 1 ≤ n) (l Bs N B : Nat) {R : Array Value} {M : Nat → Bool} (hR : Ws R M) (hg : 0 < N) (hgB : 0 ≠ B) (J Jx : List Nat → World → Prop)
    (hJ : ∀ s W W', J s W → Kept W W' → J s W')
    (hY : ∀ pre x W, J pre W → pre.length < 1024 → YieldAt Fence.wide (n - 1) Tryd.prog l #[.int .i64 (x : Nat)] W fun e W' =>
      (e = .returned (.bool true) ∧ J (pre ++ [x]) W' ∧ KeepB N B W W') ∨ (e = .returned (.bool false) ∧ Jx (pre ++ [x]) W'))
    (W : World) (_ : N ≤ W.heap.size) (c0 : WsAt W Bs R) (hT : Tab W) (h0 : J [] W) :
    CallsIn Fence.wide n Tryd.prog 50 #[.func (.yield l) #[] #[], .pointer (some ⟨Bs, 0, none⟩)] W fun e W' => (∃ v, e = .returned v) ∧
      ((∃ ys, ys = mem M ∧ J ys W') ∨ (∃ pre, (∃ k, k ≤ 1024 ∧ pre = memTo M k) ∧ Jx pre W')) := by
  have ld := ws_ld c0
  have RW := Lib.hid hR
  have HY := Lib.hid hY
  have HJ := Lib.hid hJ
  have HT := Lib.hid hT
  clear hY hJ c0 hR hT
  refine callsIn_of_wp Tryd.func50 rfl trivial ?_ rfl
  simp only [Tryd.ntmps50, List.size_toArray, List.length_cons, List.length_nil, Nat.reduceAdd, Nat.reduceSub, Array.replicate_succ, Array.replicate_zero, List.push_toArray, List.append_toArray, List.nil_append, List.cons_append]
  gi_wp2
  gi_loopw [6] (fun i wr => ∃ k : Nat, k ≤ 16 ∧ i = .int .i64 k ∧ J (memTo M (k * 64)) wr ∧ KeepB N B W wr) (fun i _ => 16 - (intOf i).toNat)
  case atStart => exact ⟨0, Nat.zero_le _, rfl, by rw [Nat.zero_mul]; exact h0, KeepB.refl _⟩
  case round =>
    obtain ⟨k, hk, rfl, hJs, hnx⟩ := hrel
    have NX := Lib.hid hnx
    clear hnx
    by_cases hlt : k < 16
    · obtain ⟨x, hx1, hx2, hx3⟩ := RW.out.word k hlt
      have ix := fun W => ws_ix (w := W) RW.out.size hlt hx1 rfl
      have HX3 := Lib.hid hx3
      have hx := Lib.hid hx2
      have hlt' : (k : Int) < 16 := by omega
      obtain ⟨wo, rfl⟩ : ∃ wo : World, wo = wr := ⟨_, rfl⟩
      clear hx1 hx3 hx2
      gi_wp2
      gi_loopw [4] (fun i wr => ∃ y p : Nat, i = .int .u64 y ∧ Rem M k p y ∧ J (memTo M (k * 64 + p)) wr ∧ KeepB N B W wr) (fun i _ => (intOf i).toNat)
      case atStart => exact ⟨x, 0, rfl, ⟨hx.out, Nat.zero_le _, fun t ht => by rw [HX3.out t ht]; simp⟩, hJs, NX.out⟩
      case round =>
        obtain ⟨y, p, rfl, hrem, hJy, hny⟩ := hrel
        have NY := Lib.hid hny
        have RM := Lib.hid hrem
        clear hny hrem
        by_cases hy0 : y = 0
        · subst hy0
          gi_wp2
          go_roundw
          case rel => exact ⟨k + 1, by omega, by go_num, by rw [Nat.add_mul, Nat.one_mul, rem_zero RM.out]; exact hJy, NY.out⟩
          case measure => simp [intOf]; omega
        · obtain ⟨r1, r2, r3, r4⟩ := rem_step RM.out hy0
          have R2 := Lib.hid r2
          have R3 := Lib.hid r3
          have TZ := Lib.hid (fun W' (T : Tab W') => tz_any y RM.out.lt hy0 W' T)
          obtain ⟨a1, a2⟩ := and_pred y RM.out.lt hy0
          obtain ⟨c, hc⟩ : ∃ c, c = Lib.ctz 64 y := ⟨_, rfl⟩
          rw [← hc] at r1 R2 R3 TZ
          have HC := Lib.hid hc
          obtain ⟨X, hX⟩ : ∃ X, X = k * 64 + c := ⟨_, rfl⟩
          have hXi : (k : Int) * 64 + (c : Int) = (X : Int) := by omega
          have hlen : (memTo M (k * 64 + p)).length < 1024 := by
            have h1 := memTo_len M (k * 64 + (c + 1))
            rw [R2.out, List.length_append] at h1
            simp at h1
            omega
          obtain ⟨fn, tmps, assign, body, hy, hRR⟩ := HY.out _ X _ hJy hlen
          obtain ⟨z, hz⟩ : ∃ z, z = y - 1 := ⟨_, rfl⟩
          obtain ⟨u, hu⟩ : ∃ u, u = y &&& (y - 1) := ⟨_, rfl⟩
          have HU := Lib.hid hu
          rw [← hu] at a2 r4 R3
          rw [← hz] at a1 a2
          have hyn : ((y : Int) != 0) = true := by simp; omega
          have hyp : (0 : Int) < (y : Int) := by omega
          have hz' : (y : Int) - 1 = (z : Int) := by omega
          have wz : IntKind.u64.wrap (z : Int) = (z : Int) := by rw [IntKind.wrap_u64]; have := RM.out.lt; omega
          have HXX := Lib.hid hX
          clear hX hc hu hz r2 r3
          gi_wp2_with (first
            | (refine ⟨trivial, ?_⟩; gi_at_call 51; refine ((callsIn_wide).2 (TZ.out _ (NY.out.tab hg hgB HT.out))).mono ?_; rintro e w1 ⟨rfl, rfl⟩))
          refine hRR.mono ?_
          rintro e W3 (⟨rfl, hJ3, hk3⟩ | ⟨rfl, hJx3⟩)
          · gi_wp2
            go_roundw
            case rel => exact ⟨u, c + 1, rfl, R3.out, by rw [R2.out, ← HXX.out]; exact hJ3, NY.out.trans hk3⟩
            case measure => simp [intOf]; omega
          · gi_wp2
            refine bodyPost_ret (results_none rfl _ _ _) rfl ?_
            exact ⟨⟨_, rfl⟩, .inr ⟨_, ⟨k * 64 + (c + 1), by omega, by rw [R2.out, HXX.out]⟩, hJx3⟩⟩
    · obtain rfl : k = 16 := by omega
      gi_wp2
      go_end0
      exact ⟨⟨_, rfl⟩, .inl ⟨_, rfl, hJs⟩⟩

/-- all's value: all indices, ascending; or a beginning of them. -/
theorem all_stops (n : Nat) (hn : 1 ≤ n) (Bs N B : Nat) {R : Array Value} {M : Nat → Bool} (hR : Ws R M) (hg : 0 < N) (hgB : 0 ≠ B) (w : World) (hN : N ≤ w.heap.size) (c0 : WsAt w Bs R) (hT : Tab w) :
    SeqStopsK Fence.wide n Tryd.prog 50 #[.pointer (some ⟨Bs, 0, none⟩)] (fun x : Nat => #[Value.int .i64 (x : Nat)]) (KeepB N B)
      (fun ys => ys = mem M) (fun pre => ∃ k, k ≤ 1024 ∧ pre = memTo M k) 1024 w := fun l J Jx W hW hJ _ hY h1 => by
  have k : Kept w W := ⟨hW⟩
  exact all1_in n hn l Bs N B hR hg hgB J Jx (fun s A C hs hk => hJ s A C none hs ⟨hk.below.os, hk.below.tape, hk.below.output, hk.below.size, fun i hi _ => hk.below.block i hi⟩ (fun r e => by cases e)) hY W (Nat.le_trans hN k.size)
    (c0.kept k) (hT.kept k) h1
theorem all_any {w : World} (R : Array Value) :
    Calls Tryd.prog 46 #[.agg R] w fun e w' =>
      e = .returned (.func (.func 50) #[] #[.pointer (some ⟨w.heap.size, 0, none⟩)]) ∧ w' = w.alloc (.cells R 57) := by
  go_enter Tryd.func46, Tryd.ntmps46
  go_wp2
  go_ret
  exact ⟨rfl, rfl⟩
end Go.Proofs.YtlkadickhhaakaaDoor
