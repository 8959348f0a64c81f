/- Fill, the program's. -/
import Derived.Test.YtejiogggocnldaaGreatG13
import Derived.Test.YtejiogggocnldaaGreatG14
import Derived.Test.YtejiogggocnldaaGreatG09
import Derived.Test.YtejiogggocnldaaGreatG12
set_option linter.unusedVariables false
set_option linter.unusedSimpArgs false

namespace Go.Proofs.YtejiogggocnldaaGreat.Ep
set_option maxRecDepth 100000
open Go.RowKit Go.Shelf
open Wo (St acc wordAt PMem RefIs)
open Sk (Stk Wd Blk leaves p_store pmem_lt pmem_kept pmem_frame)
attribute [local go_sem] Oper.semAt_some

def fillTo (n : Nat) (S : Stk) (s : St) : Nat → St
  | 0 => acc n s 2 S.T true 0
  | k + 1 => acc n (fillTo n S s k) 2 (S.K + k) true 0
def fillSt (n : Nat) (S : Stk) (s : St) : St := fillTo n S s S.N.toNat
theorem fillTo_cnt (n : Nat) (S : Stk) (s : St) : ∀ k : Nat, (fillTo n S s k).cnt = s.cnt + 1 + k
  | 0 => by show (acc n s 2 S.T true 0).cnt = _; rw [Sk.acc_cnt]; simp
  | k + 1 => by show (acc n (fillTo n S s k) 2 (S.K + k) true 0).cnt = _; rw [Sk.acc_cnt, fillTo_cnt n S s k]; omega
theorem fillTo_wd {n : Nat} {S : Stk} {s : St} (h : Wd n s) : ∀ k : Nat, Wd n (fillTo n S s k)
  | 0 => h.acc _ _ _ _ (by omega) (by omega)
  | k + 1 => (fillTo_wd h k).acc _ _ _ _ (by omega) (by omega)
structure FlI (w : World) (N0 a b M B n : Nat) (S : Stk) (s : St) (pre : List Int) (X : World) : Prop where
  le : (pre.length : Int) ≤ S.N
  mem : PMem X M B n (fillTo n S s pre.length)
  bx : PBoxes X a b S 0
  but : But (fun k => k = B) w X
  mb : X.cell? ⟨w.heap.size + 1, 0, none⟩ = some (.pointer (some ⟨M, 0, none⟩))
  sz : N0 ≤ X.heap.size
structure FlB (w : World) (N0 a b M B : Nat) : Prop where
  la : w.heap.size ≤ a
  lb : w.heap.size ≤ b
  ha : a < N0
  hb : b < N0
  hM : M < w.heap.size
  hB : B < w.heap.size
  hw : w.heap.size + 1 < N0
theorem FlI.keep {w : World} {N0 a b M B n : Nat} {S : Stk} {s : St} {pre : List Int} {X X' : World} (h : FlI w N0 a b M B n S s pre X) (k : Kept X X') : FlI w N0 a b M B n S s pre X' :=
  ⟨h.le, pmem_kept h.mem k, h.bx.kept k, h.but.then k, k.some h.mb, Nat.le_trans h.sz k.size⟩
theorem FlI.turn {w : World} {N0 a b M B n : Nat} {S : Stk} {s : St} {pre : List Int} {X : World} {l : Nat} {y y' : Loop} (h : FlI w N0 a b M B n S s pre X) (hb : FlB w N0 a b M B) (hl : N0 ≤ l) (hy : X.heap[l]? = some (.loop y)) : FlI w N0 a b M B n S s pre (X.putObj l (.loop y')) := by
  have k : But (fun k => k = l) X (X.putObj l (.loop y')) := Sk.but_turned (But.refl _ _) hy rfl rfl (.inl rfl)
  have := hb.ha
  have := hb.hb
  have := hb.hM
  have := hb.hB
  have := hb.hw
  refine ⟨h.le, pmem_frame h.mem k (by omega) (by omega), ⟨k.some h.bx.a0 (by omega), k.some h.bx.a1 (by omega), k.some h.bx.a2 (by omega), k.some h.bx.b0 (by omega)⟩, Sk.but_turned h.but hy rfl rfl (.inr (by omega)), k.some h.mb (by omega), Nat.le_trans h.sz k.size⟩

set_option maxHeartbeats 4000000 in
theorem p_fill (M B n : Nat) (S : Stk) (s : St) (w : World) (hm : PMem w M B n s) (h0 : 0 ≤ s.cnt) (h1 : s.cnt ≤ 900000) (N1 : 1 ≤ S.N) (N2 : S.N ≤ 64) (K0 : 0 ≤ S.K) (K1 : S.K ≤ 10000) :
    Calls Tryz.prog 170 #[.agg #[.int .i64 S.T, .int .i64 S.K, .int .i64 S.N], .pointer (some ⟨M, 0, none⟩)] w fun e w' => e = .returned (.tuple #[]) ∧ PMem w' M B n (fillSt n S s) ∧ But (fun k => k = B) w w' := by
  have hl := pmem_lt hm
  have HM := Lib.hid hm
  clear hm
  refine (callsIn_wide (n := 6)).1 ?_
  refine callsIn_of_wp_marks Tryz.func170 rfl trivial ?_ rfl
  simp only [Tryz.ntmps170, List.size_toArray, List.length_cons, List.length_nil, Nat.reduceAdd, Nat.reduceSub, Array.replicate_succ, Array.replicate_zero, List.push_toArray, List.append_toArray, List.nil_append, List.cons_append]
  rw [wpIn_wide]
  go_wp2_with fail
  obtain ⟨W0, hW0⟩ : ∃ W0, W0 = ((w.alloc (.cells #[.int .i64 S.T, .int .i64 S.K, .int .i64 S.N] 27)).alloc (.cells #[.pointer (some ⟨M, 0, none⟩)] 37)) := ⟨_, rfl⟩
  have a0 : W0.cell? ⟨w.heap.size, 0, none⟩ = some (.int .i64 S.T) := by rw [hW0]; exact ((Kept.refl _).alloc _ _).some (cell_new _ _ _ _ 0 rfl)
  have a1 : W0.cell? ⟨w.heap.size, 1, none⟩ = some (.int .i64 S.K) := by rw [hW0]; exact ((Kept.refl _).alloc _ _).some (cell_new _ _ _ _ 1 rfl)
  have a2 : W0.cell? ⟨w.heap.size, 2, none⟩ = some (.int .i64 S.N) := by rw [hW0]; exact ((Kept.refl _).alloc _ _).some (cell_new _ _ _ _ 2 rfl)
  have b0 : W0.cell? ⟨w.heap.size + 1, 0, none⟩ = some (.pointer (some ⟨M, 0, none⟩)) := by rw [hW0]; exact cell_new _ _ _ _ 0 (by simp)
  have k0 : Kept w W0 := by rw [hW0]; exact ((Kept.refl w).alloc _ _).alloc _ _
  rw [← hW0]
  clear hW0
  refine (sized_yes S _ N1 N2).mono ?_
  rintro e w1 ⟨rfl, k1⟩
  have a0 := k1.some a0
  have a1 := k1.some a1
  have a2 := k1.some a2
  have b0 := k1.some b0
  have K1 := Lib.hid (k0.trans k1)
  clear k0 k1
  go_wp2_with fail
  refine (p_store M B n s S.T 0 _ (pmem_kept HM.out K1.out) h0 (by omega)).mono ?_
  rintro e w2 ⟨rfl, m2, b2⟩
  have a0 := b2.some a0 (by omega)
  have a1 := b2.some a1 (by omega)
  have a2 := b2.some a2 (by omega)
  have b0 := b2.some b0 (by omega)
  have M2 := Lib.hid m2
  have B2 := Lib.hid ((K1.out.but (fun k => k = B)).trans b2 (fun _ _ h => h))
  have z2 : w.heap.size + 1 < w2.heap.size := lt_of_cell b0
  clear m2 b2 K1
  go_wp2_with fail
  refine (pins_any S 0 _).mono ?_
  rintro e w3 ⟨a, b, rfl, la, lb, ha, hb, bs, k3⟩
  have SI : Hid (FlI w w3.heap.size a b M B n S s [] w3) := Lib.hid ⟨by simp; omega, pmem_kept M2.out k3, bs, B2.out.then k3, k3.some b0, Nat.le_refl _⟩
  have SB : Hid (FlB w w3.heap.size a b M B) := Lib.hid ⟨by have := B2.out.size; omega, by have := B2.out.size; omega, ha, hb, hl.1, hl.2, by have := k3.size; omega⟩
  have HBN : B < w3.heap.size := by have := B2.out.size; have := k3.size; omega
  clear a0 a1 a2 b0 la lb ha hb bs k3 M2 B2 z2
  go_wp2_with fail
  rw [← wpIn_wide (n := 6)]
  refine range_manyN (Bs := fun k => k = B ∨ w3.heap.size + 1 + 1 ≤ k) (by decide) (gf := 223) (lb := #[.pointer (some ⟨b, 0, none⟩), .pointer (some ⟨a, 0, none⟩)]) rfl (enters_of Tryz.func223 (by kernel_rfl) rfl) (fun x : Int => #[Value.int .i64 x, Value.int .i64 (S.K + x)]) (fun _ => rfl)
    (fun k h => by rcases h with h | h <;> omega)
    (fun pre X => FlI w w3.heap.size a b M B n S s pre X)
    (fun cd pre X => False)
    (fun pre x => pre = cs 0 pre.length ∧ x = 0 + (pre.length : Int) ∧ x < S.N) (fun xs => ∃ k : Nat, xs = cs 0 k ∧ S.N ≤ 0 + (k : Int))
    ?_ ?_ ?_ ?_ ?_ ?_
    (fun x => { tmps := #[.agg #[.int .i64 S.T, .int .i64 S.K, .int .i64 S.N], .pointer (some ⟨M, 0, none⟩), .pointer (some ⟨w.heap.size, 0, none⟩), .pointer (some ⟨w.heap.size + 1, 0, none⟩), undef, .int .i64 (S.K + x), .agg #[.int .i64 S.T, .int .i64 S.K, .int .i64 S.N], .bool true, .bool false, .pointer (some ⟨M, 0, none⟩), .pointer (some ⟨w.heap.size, 0, none⟩), .int .i64 S.T, .tuple #[], .agg #[.int .i64 S.T, .int .i64 S.K, .int .i64 S.N],
      .func (.func 223) #[] #[.pointer (some ⟨b, 0, none⟩), .pointer (some ⟨a, 0, none⟩)], .int .i64 x, .int .i64 (S.K + x), undef, undef, undef], defers := [] })
    ?_ ?_ ?_ ?_
  · exact fun X k => SI.out.keep k
  · exact fun pre X X' h k => h.keep k
  · exact fun pre X l y y' hl hy h => h.turn SB.out hl hy
  · exact fun cd pre X X' h k => h
  · exact fun cd pre X l y y' hl hy h => h
  · intro l X0 J Jx k0 z0 hl hJk hJb hY h0
    exact pins_in 5 (by decide) l a b S 0 (by omega) (by omega) (by omega) (by omega) (by omega) J Jx hJk (fun pre X h => (hJb pre X h).1.bx) hY X0 h0
  · intro l x X K hK
    gi_wp2
    exact hK
  · intro l pre x X hI hso hsz hbut
    obtain ⟨hso1, hso2, hso3⟩ := hso
    have HI := Lib.hid hI
    have hmb := hI.mb
    have hcn : (fillTo n S s pre.length).cnt ≤ 1000000 := by rw [fillTo_cnt]; have := hI.le; omega
    have hc0 : 0 ≤ (fillTo n S s pre.length).cnt := by rw [fillTo_cnt]; omega
    have hx : x = (pre.length : Int) := by rw [hso2, Int.zero_add]
    have HX := Lib.hid hx
    have LE := Lib.hid (show ((pre ++ [x]).length : Int) ≤ S.N by simp; omega)
    have ST : ∀ Y, Hid (PMem Y M B n (fillTo n S s pre.length) → Calls Tryz.prog 36 #[.pointer (some ⟨M, 0, none⟩), .int .i64 (S.K + x), .int .u64 0] Y fun e w' => e = .returned (.tuple #[]) ∧ PMem w' M B n (fillTo n S s (pre ++ [x]).length) ∧ But (fun k => k = B) Y w') := fun Y => Lib.hid (fun h => by
      have k := p_store M B n (fillTo n S s pre.length) (S.K + x) 0 Y h hc0 hcn
      rw [show (pre ++ [x]).length = pre.length + 1 from by simp]
      show Calls _ _ _ _ fun e w' => e = .returned (.tuple #[]) ∧ PMem w' M B n (acc n (fillTo n S s pre.length) 2 (S.K + (pre.length : Int)) true 0) ∧ But (fun k => k = B) Y w'
      rw [← hx]
      exact k)
    clear hI hso1 hso2 hso3 hcn hc0 hx
    gi_wp2_with (refine ⟨trivial, ?_⟩; gi_at_call 36; refine (CallsIn.inRound l (callsIn_wide.2 ((ST _).out HI.out.mem))).mono ?_; rintro e v ⟨rfl, m4, b4⟩)
    have hB := SB.out
    have h3 := hB.ha
    have h4 := hB.hb
    have h5 := hB.la
    have h6 := hB.lb
    have h7 := hB.hB
    refine ⟨⟨LE.out, m4, ⟨b4.some HI.out.bx.a0 (by omega), b4.some HI.out.bx.a1 (by omega), b4.some HI.out.bx.a2 (by omega), b4.some HI.out.bx.b0 (by omega)⟩, HI.out.but.trans b4 (fun _ _ h => h), b4.some HI.out.mb (by omega), Nat.le_trans HI.out.sz b4.size⟩, (Sk.Blk.of b4).mono (fun k _ h => .inl h)⟩
  · intro D xs X hN hI hbut hD hd
    obtain ⟨k, hx, hneg⟩ := hN
    have hk : xs.length = S.N.toNat := by
      have h1 := cs_length 0 k
      rw [← hx] at h1
      have h2 := hI.le
      omega
    have HI := Lib.hid hI
    have HK := Lib.hid hk
    have hDw : w.heap.size < D := by have := SB.out.hw; omega
    clear hI hx hneg hk hbut
    have bD : But (fun k => k = D) X (X.putObj D (.deferred none)) := Sk.but_turned (But.refl _ _) hd rfl rfl (.inl rfl)
    have hB := SB.out
    have h1 := hB.hM
    have h2 := hB.hB
    have hm : PMem (X.putObj D (.deferred none)) M B n (fillSt n S s) := by
      have h := pmem_frame HI.out.mem bD (by omega) (by omega)
      rw [HK.out] at h
      exact h
    have kk : But (fun k => k = B) w (X.putObj D (.deferred none)) := Sk.but_turned HI.out.but hd rfl rfl (.inr (by omega))
    go_wp2
    refine ⟨by simp, .inl ⟨_, _, rfl, run_takeDeferred hd, ?_⟩⟩
    exact ⟨.tuple #[], by simp [results, Tryz.results170, go_sem], rfl, hm, kk⟩
  · intro D cd xs X hI hbut hD hd
    exact hI.elim
end Go.Proofs.YtejiogggocnldaaGreat.Ep

namespace Go.Proofs.YtejiogggocnldaaGreat.Tw
set_option maxRecDepth 20000
open Go.RowKit
open Wo (St acc wordAt PMem RefIs)
open Sk (Stk Arn idx Wd p_store pmem_lt pmem_kept pmem_frame p_afill afillSt afillSt_cnt afillSt_wd)

abbrev limV (t : Twr) : Value := .agg #[.int .i64 t.A.F.T, .int .i64 t.A.F.K, .int .i64 t.A.F.N, .int .i64 t.A.G, .int .i64 t.A.V, .int .i64 t.A.L, .int .i64 t.E.T, .int .i64 t.E.K, .int .i64 t.E.N, .int .i64 t.P]
structure LB (w : World) (b : Nat) (t : Twr) : Prop where
  c0 : w.cell? ⟨b, 0, none⟩ = some (.int .i64 t.A.F.T)
  c1 : w.cell? ⟨b, 1, none⟩ = some (.int .i64 t.A.F.K)
  c2 : w.cell? ⟨b, 2, none⟩ = some (.int .i64 t.A.F.N)
  c3 : w.cell? ⟨b, 3, none⟩ = some (.int .i64 t.A.G)
  c4 : w.cell? ⟨b, 4, none⟩ = some (.int .i64 t.A.V)
  c5 : w.cell? ⟨b, 5, none⟩ = some (.int .i64 t.A.L)
  c6 : w.cell? ⟨b, 6, none⟩ = some (.int .i64 t.E.T)
  c7 : w.cell? ⟨b, 7, none⟩ = some (.int .i64 t.E.K)
  c8 : w.cell? ⟨b, 8, none⟩ = some (.int .i64 t.E.N)
  c9 : w.cell? ⟨b, 9, none⟩ = some (.int .i64 t.P)
theorem LB.but {w w' : World} {b : Nat} {t : Twr} (h : LB w b t) {S : Nat → Prop} (k : But S w w') (hS : ¬ S b) : LB w' b t :=
  ⟨k.some h.c0 hS, k.some h.c1 hS, k.some h.c2 hS, k.some h.c3 hS, k.some h.c4 hS, k.some h.c5 hS, k.some h.c6 hS, k.some h.c7 hS, k.some h.c8 hS, k.some h.c9 hS⟩
theorem LB.kept {w w' : World} {b : Nat} {t : Twr} (h : LB w b t) (k : Kept w w') : LB w' b t := h.but (k.but (fun _ => False)) id
theorem LB.new (w : World) (b : Nat) (ty : TypeId) (hb : b = w.heap.size) (t : Twr) : LB (w.alloc (.cells #[.int .i64 t.A.F.T, .int .i64 t.A.F.K, .int .i64 t.A.F.N, .int .i64 t.A.G, .int .i64 t.A.V, .int .i64 t.A.L, .int .i64 t.E.T, .int .i64 t.E.K, .int .i64 t.E.N, .int .i64 t.P] ty)) b t :=
  ⟨cell_new _ _ _ _ 0 hb, cell_new _ _ _ _ 1 hb, cell_new _ _ _ _ 2 hb, cell_new _ _ _ _ 3 hb, cell_new _ _ _ _ 4 hb, cell_new _ _ _ _ 5 hb, cell_new _ _ _ _ 6 hb, cell_new _ _ _ _ 7 hb, cell_new _ _ _ _ 8 hb, cell_new _ _ _ _ 9 hb⟩

def lfillTo (n : Nat) (t : Twr) (s : St) : Nat → St
  | 0 => Ep.fillSt n t.E (afillSt n t.A s)
  | k + 1 => acc n (lfillTo n t s k) 2 (t.P + k) true 0
def lfillSt (n : Nat) (t : Twr) (s : St) : St := lfillTo n t s 3
def tfillTo (n : Nat) (t : Twr) (s : St) : Nat → St
  | 0 => lfillSt n t s
  | k + 1 => acc n (tfillTo n t s k) 2 (nextI t (-1) k) true 0
def tfillSt (n : Nat) (t : Twr) (s : St) : St := tfillTo n t s t.G.toNat
structure LOk (t : Twr) (n : Nat) : Prop where
  A : t.A.Ok n
  N1 : 1 ≤ t.E.N
  N2 : t.E.N ≤ 64
  K0 : 0 ≤ t.E.K
  K1 : t.E.K ≤ 10000
  P0 : 0 ≤ t.P
  P1 : t.P ≤ 10000
theorem lfillTo_cnt {n : Nat} {t : Twr} (s : St) (h : LOk t n) : ∀ k : Nat, (lfillTo n t s k).cnt = s.cnt + 3 + 2 * t.A.F.N + t.E.N + k
  | 0 => by
    show (Ep.fillTo n t.E (afillSt n t.A s) t.E.N.toNat).cnt = _
    have := h.N1
    rw [Ep.fillTo_cnt, afillSt_cnt h.A.F.N1]; omega
  | k + 1 => by
    show (acc n (lfillTo n t s k) 2 (t.P + k) true 0).cnt = _
    rw [Sk.acc_cnt, lfillTo_cnt s h k]; omega
theorem lfillTo_wd {n : Nat} {t : Twr} {s : St} (h : LOk t n) (hs : Wd n s) : ∀ k : Nat, Wd n (lfillTo n t s k)
  | 0 => Ep.fillTo_wd (afillSt_wd hs h.A.F.N2) _
  | k + 1 => (lfillTo_wd h hs k).acc _ _ _ _ (by omega) (by omega)
theorem tfillTo_cnt {n : Nat} {t : Twr} (s : St) (h : LOk t n) : ∀ k : Nat, (tfillTo n t s k).cnt = s.cnt + 6 + 2 * t.A.F.N + t.E.N + k
  | 0 => by show (lfillTo n t s 3).cnt = _; rw [lfillTo_cnt s h]; omega
  | k + 1 => by show (acc n (tfillTo n t s k) 2 (nextI t (-1) k) true 0).cnt = _; rw [Sk.acc_cnt, tfillTo_cnt s h k]; omega
theorem tfillTo_wd {n : Nat} {t : Twr} {s : St} (h : LOk t n) (hs : Wd n s) : ∀ k : Nat, Wd n (tfillTo n t s k)
  | 0 => lfillTo_wd h hs 3
  | k + 1 => (tfillTo_wd h hs k).acc _ _ _ _ (by omega) (by omega)

set_option maxHeartbeats 2000000 in
theorem p_lfill (M B n : Nat) (t : Twr) (s : St) (w : World) (hm : PMem w M B n s) (h0 : 0 ≤ s.cnt) (h1 : s.cnt ≤ 800000) (hL : LOk t n) :
    Calls Tryz.prog 108 #[limV t, .pointer (some ⟨M, 0, none⟩)] w fun e w' => e = .returned (.tuple #[]) ∧ PMem w' M B n (lfillSt n t s) ∧ But (fun k => k = B) w w' := by
  have hB := pmem_lt hm
  have P0 := hL.P0
  have P1 := hL.P1
  have HF : ∀ W, Kept w W → Hid (Calls Tryz.prog 169 #[.agg #[.int .i64 t.A.F.T, .int .i64 t.A.F.K, .int .i64 t.A.F.N, .int .i64 t.A.G, .int .i64 t.A.V, .int .i64 t.A.L], .pointer (some ⟨M, 0, none⟩)] W fun e w' => e = .returned (.tuple #[]) ∧ PMem w' M B n (afillSt n t.A s) ∧ But (fun k => k = B) W w') := fun W k => Lib.hid (p_afill M B n t.A s W (pmem_kept hm k) h0 (by omega) hL.A)
  have C1 : 0 ≤ (afillSt n t.A s).cnt ∧ (afillSt n t.A s).cnt ≤ 900000 := by have := hL.A.F.N1; have := hL.A.F.N2; rw [afillSt_cnt hL.A.F.N1]; omega
  have HG : ∀ W, PMem W M B n (afillSt n t.A s) → Hid (Calls Tryz.prog 170 #[.agg #[.int .i64 t.E.T, .int .i64 t.E.K, .int .i64 t.E.N], .pointer (some ⟨M, 0, none⟩)] W fun e w' => e = .returned (.tuple #[]) ∧ PMem w' M B n (lfillTo n t s 0) ∧ But (fun k => k = B) W w') := fun W m => Lib.hid (Ep.p_fill M B n t.E _ W m C1.1 C1.2 hL.N1 hL.N2 hL.K0 hL.K1)
  have C2 : ∀ k : Nat, k ≤ 4096 → 0 ≤ (lfillTo n t s k).cnt ∧ (lfillTo n t s k).cnt ≤ 1000000 := fun k hk => by have := hL.A.F.N1; have := hL.A.F.N2; have := hL.N1; have := hL.N2; rw [lfillTo_cnt s hL]; omega
  have HC2 := Lib.hid C2
  have hne : w.heap.size ≠ B := by omega
  clear hm hL C1 C2
  go_enter Tryz.func108, Tryz.ntmps108
  go_wp2_with fail
  refine (HF _ (by (go_light; repeat (first | (with_reducible exact Kept.refl _) | (with_reducible assumption) | (with_reducible refine Kept.alloc ?_ _ _) | (with_reducible refine Kept.drew ?_) | (with_reducible refine Kept.drewN ?_ _) | ((with_reducible refine Kept.setCell ?_ ?_ _); rotate_left; focus (first | (simp; done) | (simp; omega))) | refine Kept.trans ?_ (by assumption))))).out.mono ?_
  rintro e w1 ⟨rfl, m1, b1⟩
  obtain ⟨l0, l1, l2, l3, l4, l5, l6, l7, l8, l9⟩ := (LB.new w w.heap.size 29 rfl t).but b1 hne
  have BW1 : Hid (But (fun k => k = B) w w1) := Lib.hid ((Kept.but ((Kept.refl w).alloc _ _) _).trans b1 (fun _ _ h => h))
  have M1 := Lib.hid m1
  have hz1 := b1.size
  simp at hz1
  clear m1 b1 HF
  go_wp2_with fail
  refine (HG _ M1.out).out.mono ?_
  rintro e w2 ⟨rfl, m2, b2⟩
  obtain ⟨l0, l1, l2, l3, l4, l5, l6, l7, l8, l9⟩ := LB.but ⟨l0, l1, l2, l3, l4, l5, l6, l7, l8, l9⟩ b2 hne
  have BW2 := Lib.hid (BW1.out.trans b2 (fun _ _ h => h))
  have M2 := Lib.hid m2
  have hz2 := b2.size
  clear m2 b2 HG M1
  go_wp2_with fail
  have LL := Lib.hid (LB.mk l0 l1 l2 l3 l4 l5 l6 l7 l8 l9)
  have lz := lt_of_cell l0
  have hl9 := l9
  clear l0 l1 l2 l3 l4 l5 l6 l7 l8 l9
  go_loopw [13, 4] (fun i _ wr => ∃ k : Nat, k ≤ 3 ∧ i = .int .i64 k ∧ PMem wr M B n (lfillTo n t s k) ∧ But (fun k => k = B) w2 wr) (fun i _ _ => 3 - (intOf i).toNat)
  case atStart => exact ⟨0, Nat.zero_le _, rfl, M2.out, But.refl _ _⟩
  case round =>
    obtain ⟨k, hk, rfl, mr, br⟩ := hrel
    have LR := LB.but LL.out br hne
    have MR := Lib.hid mr
    have BR := Lib.hid br
    have hc := Lib.hid (HC2.out k (by omega))
    obtain ⟨l0, l1, l2, l3, l4, l5, l6, l7, l8, l9⟩ := LR
    clear mr br hl9
    by_cases hlt : k < 3
    · have hl : (k : Int) < 3 := by omega
      go_wp2_with fail
      refine (p_store M B n _ (t.P + k) 0 _ MR.out hc.out.1 hc.out.2).mono ?_
      rintro e w7 ⟨rfl, m7, b7⟩
      have M7 := Lib.hid m7
      have B7 := Lib.hid (BR.out.trans b7 (fun _ _ h => h))
      clear m7 b7
      go_wp2
      go_roundw
      case rel => exact ⟨k + 1, by omega, by go_num, M7.out, B7.out⟩
      case measure => simp [intOf]; omega
    · have hl : ¬ (k : Int) < 3 := by omega
      have hkm : k = 3 := by omega
      have HKM := Lib.hid hkm
      clear hkm
      go_wp2
      go_end0
      refine ⟨rfl, ?_, BW2.out.trans BR.out (fun _ _ h => h)⟩
      have := MR.out
      rw [HKM.out] at this
      exact this

set_option maxHeartbeats 2000000 in
theorem p_tfill (M B n : Nat) (t : Twr) (s : St) (w : World) (hm : PMem w M B n s) (h0 : 0 ≤ s.cnt) (h1 : s.cnt ≤ 800000) (hL : LOk t n) (hS : t.Sound) :
    Calls Tryz.prog 44 #[towV t, .pointer (some ⟨M, 0, none⟩)] w fun e w' => e = .returned (.tuple #[]) ∧ PMem w' M B n (tfillSt n t s) ∧ But (fun k => k = B) w w' := by
  have hB := pmem_lt hm
  have G1 := hS.G1
  have G2 := hS.G2
  have SY := fun W => Lib.hid (sound_in t hS W)
  have HF : ∀ W, Kept w W → Hid (Calls Tryz.prog 108 #[limV t, .pointer (some ⟨M, 0, none⟩)] W fun e w' => e = .returned (.tuple #[]) ∧ PMem w' M B n (tfillTo n t s 0) ∧ But (fun k => k = B) W w') := fun W k => Lib.hid (p_lfill M B n t s W (pmem_kept hm k) h0 h1 hL)
  have C2 : ∀ k : Nat, k ≤ 4096 → 0 ≤ (tfillTo n t s k).cnt ∧ (tfillTo n t s k).cnt ≤ 1000000 := fun k hk => by have := hL.A.F.N1; have := hL.A.F.N2; have := hL.N1; have := hL.N2; rw [tfillTo_cnt s hL]; omega
  have HC2 := Lib.hid C2
  have hne : w.heap.size ≠ B := by omega
  clear hm hL C2 hS
  go_enter Tryz.func44, Tryz.ntmps44
  go_wp2_with fail
  refine (SY _).out.mono ?_
  rintro e w0 ⟨rfl, k0⟩
  obtain ⟨a0, a1, a2, a3, a4, a5, a6, a7, a8, a9, a10, a11, a12⟩ := TB.kept (TB.new w w.heap.size 31 rfl t) k0
  have K0 : Hid (Kept w w0) := Lib.hid (((Kept.refl w).alloc _ _).trans k0)
  clear k0
  go_wp2_with fail
  refine (HF _ K0.out).out.mono ?_
  rintro e w1 ⟨rfl, m1, b1⟩
  have T1 := TB.but ⟨a0, a1, a2, a3, a4, a5, a6, a7, a8, a9, a10, a11, a12⟩ b1 hne
  have BW1 : Hid (But (fun k => k = B) w w1) := Lib.hid ((K0.out.but _).trans b1 (fun _ _ h => h))
  have M1 := Lib.hid m1
  have hz1 := (TB.c0 T1)
  have lz := lt_of_cell hz1
  obtain ⟨m, hmm⟩ : ∃ m : Nat, (m : Int) = t.G := ⟨t.G.toNat, by omega⟩
  have HMM := Lib.hid hmm
  have TT := Lib.hid T1
  have hg2 := T1.c2
  clear T1 m1 b1 HF a0 a1 a2 a3 a4 a5 a6 a7 a8 a9 a10 a11 a12 hz1 hmm
  go_wp2_with fail
  go_loopw [14, 4] (fun i _ wr => ∃ k : Nat, k ≤ m ∧ i = .int .i64 k ∧ PMem wr M B n (tfillTo n t s k) ∧ But (fun k => k = B) w1 wr) (fun i _ _ => m - (intOf i).toNat)
  case atStart => exact ⟨0, Nat.zero_le _, rfl, M1.out, But.refl _ _⟩
  case round =>
    obtain ⟨k, hk, rfl, mr, br⟩ := hrel
    have TR := TB.but TT.out br hne
    have hmm := HMM.out
    have MR := Lib.hid mr
    have BR := Lib.hid br
    have hc := Lib.hid (HC2.out k (by omega))
    obtain ⟨a0, a1, a2, a3, a4, a5, a6, a7, a8, a9, a10, a11, a12⟩ := TR
    clear mr br hg2
    by_cases hlt : k < m
    · have hl : (k : Int) < t.G := by omega
      have HN := fun W => Lib.hid (next_any t (-1) (k : Int) (by unfold I64; omega) W)
      clear hmm
      go_wp2_with fail
      refine (HN _).out.mono ?_
      rintro e w5 ⟨rfl, k5⟩
      have K5 := Lib.hid k5
      clear k5
      go_wp2_with fail
      refine (p_store M B n _ (nextI t (-1) k) 0 _ (pmem_kept MR.out K5.out) hc.out.1 hc.out.2).mono ?_
      rintro e w7 ⟨rfl, m7, b7⟩
      have M7 := Lib.hid m7
      have B7 := Lib.hid ((BR.out.then K5.out).trans b7 (fun _ _ h => h))
      clear m7 b7
      go_wp2
      go_roundw
      case rel => exact ⟨k + 1, by omega, by go_num, M7.out, B7.out⟩
      case measure => simp [intOf]; omega
    · have hl : t.G ≤ (k : Int) := by omega
      have hkm : k = t.G.toNat := by omega
      have HKM := Lib.hid hkm
      clear hmm hkm
      go_wp2
      go_end0
      refine ⟨rfl, ?_, BW1.out.trans BR.out (fun _ _ h => h)⟩
      have := MR.out
      rw [HKM.out] at this
      exact this
theorem tfill_bad (t : Twr) (h : ¬ t.Sound) (m : Value) (w : World) (hm : m = .pointer none ∨ ∃ M, m = .pointer (some ⟨M, 0, none⟩)) : Calls Tryz.prog 44 #[towV t, m] w fun e w' => e = .returned (.tuple #[]) ∧ Kept w w' := by
  have SN := fun W => Lib.hid (sound_no t h W)
  clear h
  rcases hm with rfl | ⟨M, rfl⟩
  all_goals
    go_enter Tryz.func44, Tryz.ntmps44
    go_wp2_with fail
    refine (SN _).out.mono ?_
    rintro e w1 ⟨rfl, k1⟩
    go_wp2
    exact bodyPost_ret (v := .tuple #[]) (by simp [results, Tryz.results44, go_sem]) rfl ⟨rfl, by (go_light; repeat (first | (with_reducible exact Kept.refl _) | (with_reducible assumption) | (with_reducible refine Kept.alloc ?_ _ _) | (with_reducible refine Kept.drew ?_) | (with_reducible refine Kept.drewN ?_ _) | ((with_reducible refine Kept.setCell ?_ ?_ _); rotate_left; focus (first | (simp; done) | (simp; omega))) | refine Kept.trans ?_ (by assumption)))⟩
end Go.Proofs.YtejiogggocnldaaGreat.Tw
