/- The program's iterator over a record's calls. -/
import Derived.RangeFuncNested
import Derived.RangeFuncBound
import Derived.RangeFuncCalls
import Derived.RangeFuncLeaves
import Derived.RangeFuncFrom
import Derived.Shelf.Abstract
import Derived.Shelf.RegionOpen
import Derived.WalkKit
import Derived.OwnWalkIn
import Derived.TacticsInMore
import Derived.LoopNIn
import Derived.LoopIn
import Derived.Test.YtjbplbfedndjpaaEvSpan
namespace Go.Proofs.Ytjbplbfedndjpaa
open Go.RowKit Go.Shelf Go.Maps
attribute [local go_sem] Oper.semAt_some

/-- What a round keeps: all blocks below N but B. -/
def KeepB (N B : Nat) (W W' : World) : Prop := W.heap.size ≤ W'.heap.size ∧ ∀ k, k < N → k ≠ B → W'.heap[k]? = W.heap[k]?
theorem KeepB.refl {N B : Nat} (a : World) : KeepB N B a a := ⟨Nat.le_refl _, fun _ _ _ => rfl⟩
theorem KeepB.trans {N B : Nat} {a b c : World} (h : KeepB N B a b) (k : KeepB N B b c) : KeepB N B a c := ⟨Nat.le_trans h.1 k.1, fun i h1 h2 => (k.2 i h1 h2).trans (h.2 i h1 h2)⟩
theorem KeepB.of_kept {N B : Nat} {a b : World} (h : Kept a b) (hN : N ≤ a.heap.size) : KeepB N B a b := ⟨h.size, fun i h1 _ => h.below.block i (Nat.lt_of_lt_of_le h1 hN)⟩
theorem KeepB.cell {N B : Nat} {a b : World} (h : KeepB N B a b) {p : Addr} {v : Value} (hp : p.block < N) (hB : p.block ≠ B) (hc : a.cell? p = some v) : b.cell? p = some v :=
  (World.cell?_of_block (h.2 _ hp hB)).trans hc
theorem EvAt.keepB {N B : Nat} {w w' : World} {g o : Nat} {e : Ev} (h : EvAt w g o e) (k : KeepB N B w w') (hg : g < N) (hB : g ≠ B) : EvAt w' g o e :=
  ⟨k.cell (p := ⟨g, _, none⟩) hg hB h.c0, k.cell (p := ⟨g, _, none⟩) hg hB h.c1, k.cell (p := ⟨g, _, none⟩) hg hB h.c2, k.cell (p := ⟨g, _, none⟩) hg hB h.c3, k.cell (p := ⟨g, _, none⟩) hg hB h.c4, k.cell (p := ⟨g, _, none⟩) hg hB h.c5, k.cell (p := ⟨g, _, none⟩) hg hB h.c6, k.cell (p := ⟨g, _, none⟩) hg hB h.c7, k.cell (p := ⟨g, _, none⟩) hg hB h.c8⟩

/-- What the iterator hands a round. -/
def encs {h : List Ev} (x : Cl h) : Array Value := #[.int .i64 x.1.2.id, .agg #[.int .i64 x.1.1, .int .i64 (too h x.1.2.id)]]

theorem mp_of {h : List Ev} (hv : Vd h) {k : Nat} {e : Ev} (he : h[k]? = some e) (ha : e.ans = false) : mp h e.id = some ((k : Int), too h e.id) := by
  have := ix_of h hv k e he
  rw [ha] at this
  simp [mp, this]

set_option maxRecDepth 100000 in
set_option maxHeartbeats 4000000 in
theorem calls1_in (n : Nat) (hn : 1 ≤ n) (l Br b N B nm : Nat) (a : Option Addr) (c : Nat) (h : List Ev) (hv : Vd h) (hl : h.length ≤ 5000) (hw : ∀ e ∈ h, Wf e) (hBr : Br < N) (hb : b < N) (eBr : Br ≠ B) (eb : b ≠ B)
    (hg : ∀ x, a = some x → h ≠ [] → x.block < N ∧ x.block ≠ B) (J Jx : List (Cl h) → World → Prop)
    (hJ : ∀ s W W', J s W → Kept W W' → J s W')
    (hY : ∀ pre x W, J pre W → pre.length < h.length → YieldAt Fence.wide (n - 1) Try.prog l (encs x) W fun e W' =>
      (e = .returned (.bool true) ∧ J (pre ++ [x]) W' ∧ KeepB N B W W') ∨ (e = .returned (.bool false) ∧ Jx (pre ++ [x]) W'))
    (W : World) (hN : N ≤ W.heap.size) (c0 : W.cell? ⟨Br, 0, none⟩ = some (.slice a h.length c)) (c1 : W.cell? ⟨Br, 1, none⟩ = some (.map (some b)))
    (hE : Lay W (.slice a h.length c) h.length (flatE h)) (hS : Seen W b nm (mp h)) (h0 : J [] W) :
    CallsIn Fence.wide n Try.prog 45 #[.func (.yield l) #[] #[], .pointer (some ⟨Br, 0, none⟩)] W fun e W' => (∃ v, e = .returned v) ∧
      ((∃ ys, ys = clsA h h.length ∧ J ys W') ∨ (∃ pre, True ∧ Jx pre W')) := by
  refine callsIn_of_wp Try.func45 rfl trivial ?_ rfl
  simp only [Try.ntmps45, List.size_toArray, List.length_cons, List.length_nil, Nat.reduceAdd, Nat.reduceSub, Array.replicate_succ, Array.replicate_zero, List.push_toArray, List.append_toArray, List.nil_append, List.cons_append]
  have HY := Lib.hid hY
  have HJ := Lib.hid hJ
  have HS := Lib.hid hS
  have HV := Lib.hid hv
  have HW := Lib.hid hw
  clear hY hJ hS hv hw
  by_cases h00 : h = []
  · subst h00
    clear hE hg
    gi_wp2
    gi_loopw [8] (fun i wr => i = .int .i64 0 ∧ wr = W) (fun _ _ => 0)
    case atStart => exact ⟨rfl, rfl⟩
    case round =>
      obtain ⟨rfl, rfl⟩ := hrel
      gi_wp2
      go_end0
      exact ⟨⟨_, rfl⟩, .inl ⟨_, rfl, by simpa [clsA, cls, clsAt] using h0⟩⟩
  · have hp : 0 < h.length := List.length_pos_iff.2 h00
    obtain ⟨g, o, c, e', h1, h2, hc⟩ := hE.ev hp
    cases e'
    obtain ⟨hgN, hgB⟩ := hg _ rfl h00
    have HC := Lib.hid hc
    obtain ⟨m, hm⟩ : ∃ m, m = h.length := ⟨_, rfl⟩
    have HN := Lib.hid hm
    rw [← hm] at hl c0 ⊢
    clear hc hE h00 hp hm hg
    gi_wp2
    gi_loopw [8] (fun i wr => ∃ k : Nat, k ≤ m ∧ i = .int .i64 k ∧ J (clsA h k) wr ∧ KeepB N B W wr) (fun i _ => m - (intOf i).toNat)
    case atStart => exact ⟨0, Nat.zero_le _, rfl, by rw [clsA_zero]; exact h0, KeepB.refl _⟩
    case round =>
      obtain ⟨k, hk, rfl, hJs, hnx⟩ := hrel
      have NX := Lib.hid hnx
      clear hnx
      by_cases hlt : k < m
      · obtain ⟨e, he⟩ : ∃ e, h[k]? = some e := ⟨_, List.getElem?_eq_getElem (by rw [← HN.out]; exact hlt)⟩
        obtain ⟨x0, x1, x2, x3, x4, x5, x6, x7, x8⟩ := (HC.out k e he).keepB NX.out hgN hgB
        have d0 := NX.out.cell (p := ⟨Br, 0, none⟩) hBr eBr c0
        have d1 := NX.out.cell (p := ⟨Br, 1, none⟩) hBr eBr c1
        have dl := lt_of_cell d0
        have d4 := Nat.le_trans hN NX.out.1
        have kA : Kept wr (wr.alloc (.cells #[.int .i64 e.id, .bool e.ans, .int .i64 e.k, .int .i64 e.x, .int .i64 e.y, .int .u64 e.u, .int .i64 e.er, .int .i64 e.n, .int .u64 e.v] 51)) := (Kept.refl wr).alloc _ _
        cases ha : e.ans with
        | false =>
          have lk := ((HS.out.same (NX.out.2 b hb eb)).kept kA).look (wf_back (HW.out e (List.mem_of_getElem? he)))
          rw [mp_of HV.out he ha] at lk
          simp only [Option.getD_some] at lk
          rw [ha] at x1 lk kA
          have KA := Lib.hid kA
          obtain ⟨x, hx1, hx2⟩ : ∃ x : Cl h, clsA h (k + 1) = clsA h k ++ [x] ∧ x.1 = (k, e) := ⟨⟨(k, e), he, ha⟩, clsA_call he ha, rfl⟩
          have CA := Lib.hid hx1
          obtain ⟨fn, tmps, assign, body, hy, hR⟩ := HY.out (clsA h k) x _ (HJ.out _ _ _ hJs kA) (Nat.lt_of_le_of_lt (clsA_le h k) (by rw [← HN.out]; exact hlt))
          dsimp only [encs] at hy
          rw [hx2] at hy
          dsimp only at hy
          clear kA he ha hx1 hx2
          gi_wp2
          refine hR.mono ?_
          rintro ed W3 (⟨rfl, hJ3, hk3⟩ | ⟨rfl, hJx3⟩)
          · gi_wp2
            go_roundw
            case rel => exact ⟨k + 1, by omega, by go_num, by rw [CA.out]; exact hJ3, (NX.out.trans (KeepB.of_kept KA.out d4)).trans hk3⟩
            case measure => simp [intOf]; omega
          · gi_wp2
            refine bodyPost_ret (results_none rfl _ _ _) rfl ?_
            exact ⟨⟨_, rfl⟩, .inr ⟨_, trivial, hJx3⟩⟩
        | true =>
          rw [ha] at x1 kA
          have KA := Lib.hid kA
          have CA := Lib.hid (clsA_ans he ha)
          clear kA he ha
          gi_wp2
          refine ⟨fun _ h => (by cases h), ?_⟩
          gi_wp2
          go_roundw
          case rel => exact ⟨k + 1, by omega, by go_num, by rw [CA.out]; exact HJ.out _ _ _ hJs KA.out, NX.out.trans (KeepB.of_kept KA.out d4)⟩
          case measure => simp [intOf]; omega
      · have hkm : k = m := by omega
        have HK := Lib.hid hkm
        clear hkm
        gi_wp2
        go_end0
        exact ⟨⟨_, rfl⟩, .inl ⟨_, rfl, by rw [← HK.out]; exact hJs⟩⟩

theorem calls_any {w : World} (v : Value) (m : Value) :
    Calls Try.prog 34 #[.agg #[v, m]] w fun e w' => e = .returned (.func (.func 45) #[] #[.pointer (some ⟨w.heap.size, 0, none⟩)]) ∧ w' = w.alloc (.cells #[v, m] 62) := by
  go_enter Try.func34, Try.ntmps34
  go_wp2
  go_ret
  exact ⟨rfl, rfl⟩

/-- calls' value over a record: all calls, in order. -/
theorem calls_stops (n : Nat) (hn : 1 ≤ n) (Br b N B nm : Nat) (a : Option Addr) (c : Nat) (h : List Ev) (hv : Vd h) (hl : h.length ≤ 5000) (hw : ∀ e ∈ h, Wf e) (hBr : Br < N) (hb : b < N) (eBr : Br ≠ B) (eb : b ≠ B)
    (hg : ∀ x, a = some x → h ≠ [] → x.block < N ∧ x.block ≠ B) (w : World) (hN : N ≤ w.heap.size)
    (c0 : w.cell? ⟨Br, 0, none⟩ = some (.slice a h.length c)) (c1 : w.cell? ⟨Br, 1, none⟩ = some (.map (some b))) (hE : Lay w (.slice a h.length c) h.length (flatE h)) (hS : Seen w b nm (mp h)) :
    SeqStopsK Fence.wide n Try.prog 45 #[.pointer (some ⟨Br, 0, none⟩)] (encs (h := h)) (KeepB N B) (fun ys => ys = clsA h h.length) (fun _ => True) h.length w := fun l J Jx W hW hJ _ hY h1 => by
  have k : Kept w W := ⟨hW⟩
  exact calls1_in n hn l Br b N B nm a c h hv hl hw hBr hb eBr eb hg J Jx (fun s A C hs hk => hJ s A C none hs ⟨hk.below.os, hk.below.tape, hk.below.output, hk.below.size, fun i hi _ => hk.below.block i hi⟩ (fun r e => by cases e)) hY W (Nat.le_trans hN k.size)
    (k.some c0) (k.some c1) (hE.kept k) (hS.kept k) h1

/-- .. over the record of nothing. -/
theorem nocalls_stops (n : Nat) (Br N B : Nat) (w : World) (c0 : w.cell? ⟨Br, 0, none⟩ = some (.slice none 0 0)) :
    SeqStopsK Fence.wide n Try.prog 45 #[.pointer (some ⟨Br, 0, none⟩)] (encs (h := [])) (KeepB N B) (fun ys => ys = []) (fun _ => True) 0 w := fun l J Jx W hW hJ _ hY h1 => by
  have k : Kept w W := ⟨hW⟩
  have d0 := k.some c0
  refine callsIn_of_wp Try.func45 rfl trivial ?_ rfl
  simp only [Try.ntmps45, List.size_toArray, List.length_cons, List.length_nil, Nat.reduceAdd, Nat.reduceSub, Array.replicate_succ, Array.replicate_zero, List.push_toArray, List.append_toArray, List.nil_append, List.cons_append]
  clear k
  gi_wp2
  gi_loopw [8] (fun i wr => i = .int .i64 0 ∧ wr = W) (fun _ _ => 0)
  case atStart => exact ⟨rfl, rfl⟩
  case round =>
    obtain ⟨rfl, rfl⟩ := hrel
    gi_wp2
    go_end0
    exact ⟨⟨_, rfl⟩, .inl ⟨_, rfl, h1⟩⟩

/-! ### what the callers of the iterator need -/
/-- A block of cells stays what it is. -/
theorem block_own {β : Type} (B : Nat) (C : Array Value) (t : TypeId) (fr : Nat × Nat) : Own (fun (_ : β) W => W.heap[B]? = some (.cells C t fr)) := fun _ X Y row hs hg hrow =>
  (hg.block B (Array.getElem?_eq_some_iff.1 hs).1 (fun e' => by obtain ⟨o, ho, hc⟩ := hrow B e'.symm; rw [hs] at ho; cases ho; cases hc)).trans hs
/-- What a round wrote: its own row, and the box of its variable. -/
theorem keeps_end {W W' : World} {B Bx n₀ size k : Nat} {e t : TypeId} {v u : Value} {xs : List Value} {S : Nat → Prop} (hb : But S W W') (hS : ∀ j, S j → v.ownBlock = some j ∨ j = Bx) (hrow : W.ownsRow n₀ e size v k xs) (hx : Boxed W Bx t u) : KeepsFrom B W W' :=
  ⟨hb.size, fun i o _ hi ho => (hb.block i (Array.getElem?_eq_some_iff.1 hi).1 (fun hs => by
    rcases hS i hs with h | rfl
    · rcases hrow.2 with ⟨rfl, _⟩ | ⟨g, cap, cur, rfl, _, hg, _⟩
      · cases h
      · have e' : g = i := by simpa [Value.ownBlock] using h
        subst e'
        rw [hi] at hg
        cases hg
        cases ho
    · have hx' : W.heap[i]? = _ := hx
      rw [hi] at hx'
      cases hx'
      cases ho)).trans hi⟩
theorem keepB_end {W W' : World} {N Bx : Nat} {v : Value} {S : Nat → Prop} (hb : But S W W') (hS : ∀ j, S j → v.ownBlock = some j ∨ j = Bx) (hv : ∀ j, v.ownBlock = some j → N ≤ j) (hN : N ≤ W.heap.size) : KeepB N Bx W W' :=
  ⟨hb.size, fun k hk hkB => hb.block k (Nat.lt_of_lt_of_le hk hN) (fun hs => by
    rcases hS k hs with h | h
    · exact absurd (hv k h) (by omega)
    · exact hkB h)⟩
/-- A round that appends to the boxed slice. -/
theorem round_end {W wA w4 : World} {N B size k m : Nat} {e t : TypeId} {v v' : Value} {xs ys : List Value} (kA : Kept W wA) (but4 : But (fun j => v.ownBlock = some j) wA w4) (hrow : W.ownsRow N e size v k xs) (hx : Boxed W B t v)
    (hN : N ≤ W.heap.size) (hBN : B < N) (own4 : w4.ownsRow N e size v' m ys) :
    Boxed (w4.setCell ⟨B, 0, none⟩ v') B t v' ∧ (w4.setCell ⟨B, 0, none⟩ v').ownsRow N e size v' m ys ∧ But (fun j => v.ownBlock = some j ∨ j = B) W (w4.setCell ⟨B, 0, none⟩ v') := by
  have hB4 : Boxed w4 B t v := by
    have h1 : wA.heap[B]? = W.heap[B]? := kA.below.block B hx.lt
    have h2 := but4.block B (Nat.lt_of_lt_of_le hx.lt kA.size) (fun h => by have := (hrow.lt B h).1; omega)
    exact h2.trans (h1.trans hx)
  refine ⟨hB4.set v', own_same own4 fun g hg => Below.heap_setCell _ _ _ _ (by have := (own4.lt g hg).1; simp; omega), ?_⟩
  exact ((kA.but _).trans but4 (fun _ _ h => .inl h)).setCell (p := ⟨B, 0, none⟩) (Or.inl (.inr rfl)) _
end Go.Proofs.Ytjbplbfedndjpaa
