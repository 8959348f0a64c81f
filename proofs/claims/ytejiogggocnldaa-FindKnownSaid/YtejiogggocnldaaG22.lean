/- The nodes on a level: the iterator, the program's. Written by gen15m.py. -/
import Derived.Test.YtejiogggocnldaaG17
import Derived.Test.YtejiogggocnldaaG21
import Derived.Test.YtejiogggocnldaaG18
import Derived.Test.YtejiogggocnldaaG03
import Derived.Laws.OwnMore
set_option linter.unusedVariables false
set_option linter.unusedSimpArgs false

namespace Go.Proofs.Ytejiogggocnldaa.Tw
set_option maxRecDepth 20000
open Go.RowKit Go.Shelf
open Wo (St acc wordAt PMem RefIs)
open Sk (Stk Arn idx Wd pmem_kept p_words Blk g_top)
attribute [local go_sem] Oper.semAt_some
set_option maxHeartbeats 400000 in
theorem level_any (t : Twr) (v : Value) (l : Int) (n : Nat) (f : Nat → Int) (w : World) (h : Wds w v n f) : Calls Try.prog 66 #[viewV t v, .int .i64 l] w fun e w' => ∃ a b, e = .returned (.func (.func 97) #[] #[.pointer (some ⟨a, 0, none⟩), .pointer (some ⟨b, 0, none⟩)]) ∧ w.heap.size ≤ a ∧ w.heap.size ≤ b ∧ a < w'.heap.size ∧ b < w'.heap.size ∧ VB w' a t v ∧ w'.cell? ⟨b, 0, none⟩ = some (.int .i64 l) ∧ Kept w w' := by
  obtain ⟨av, cv, rfl⟩ := h.form
  go_enter Try.func66, Try.ntmps66
  go_wp2
  go_ret
  go_light
  refine ⟨w.heap.size, w.heap.size + 1, rfl, by omega, by omega, by simp; omega, by simp, VB.kept (VB.new w _ 123 rfl t _) ((Kept.refl _).alloc _ _), cell_new _ _ _ _ 0 (by simp), by (go_light; repeat (first | (with_reducible exact Kept.refl _) | (with_reducible assumption) | (with_reducible refine Kept.alloc ?_ _ _) | (with_reducible refine Kept.drew ?_) | (with_reducible refine Kept.drewN ?_ _) | ((with_reducible refine Kept.setCell ?_ ?_ _); rotate_left; focus (first | (simp; done) | (simp; omega))) | refine Kept.trans ?_ (by assumption)))⟩
set_option maxHeartbeats 800000 in
theorem read_yes (t : Twr) (x : Int) (x0 : 0 ≤ x) (x1 : x < 18446744073709551616) (h : 0 ≤ x % 65536 - 1 ∧ x % 65536 - 1 < t.A.F.N) (w : World) : Calls Try.prog 99 #[towV t, .int .u64 x] w fun e w' => e = .returned (.int .i64 (x % 65536 - 1)) ∧ Kept w w' := by
  have GT := fun W => Lib.hid (g_top x W x0 x1)
  have IN := fun W => Lib.hid (isNode_yes t (x % 65536 - 1) h.1 h.2 W)
  generalize x % 65536 - 1 = i at *
  generalize x / 65536 % 281474976710656 = g at *
  clear h
  go_enter Try.func99, Try.ntmps99
  go_wp2_with fail
  refine (GT _).out.mono ?_
  rintro e w1 ⟨rfl, k1⟩
  obtain ⟨a0, a1, a2, a3, a4, a5, a6, a7, a8, a9, a10, a11, a12⟩ := TB.kept (TB.new w w.heap.size 51 rfl t) k1
  have lz := lt_of_cell a0
  have K1 : Hid (Kept w w1) := Lib.hid (((Kept.refl w).alloc _ _).trans k1)
  clear k1
  go_wp2_with fail
  refine (IN _).out.mono ?_
  rintro e w2 ⟨rfl, k2⟩
  have r0 := k2.some (cell_new w1 #[.int .i64 i, .int .i64 g] 178 w1.heap.size 0 rfl)
  have K2 : Hid (Kept w w2) := Lib.hid (K1.out.trans (((Kept.refl w1).alloc _ _).trans k2))
  go_wp2
  go_ret
  exact ⟨rfl, K2.out⟩
set_option maxHeartbeats 800000 in
theorem read_no (t : Twr) (x : Int) (x0 : 0 ≤ x) (x1 : x < 18446744073709551616) (h : x % 65536 - 1 < 0 ∨ t.A.F.N ≤ x % 65536 - 1) (w : World) : Calls Try.prog 99 #[towV t, .int .u64 x] w fun e w' => e = .returned (.int .i64 (-1)) ∧ Kept w w' := by
  have GT := fun W => Lib.hid (g_top x W x0 x1)
  have IN := fun W => Lib.hid (isNode_no t (x % 65536 - 1) h W)
  generalize x % 65536 - 1 = i at *
  generalize x / 65536 % 281474976710656 = g at *
  clear h
  go_enter Try.func99, Try.ntmps99
  go_wp2_with fail
  refine (GT _).out.mono ?_
  rintro e w1 ⟨rfl, k1⟩
  obtain ⟨a0, a1, a2, a3, a4, a5, a6, a7, a8, a9, a10, a11, a12⟩ := TB.kept (TB.new w w.heap.size 51 rfl t) k1
  have lz := lt_of_cell a0
  have K1 : Hid (Kept w w1) := Lib.hid (((Kept.refl w).alloc _ _).trans k1)
  clear k1
  go_wp2_with fail
  refine (IN _).out.mono ?_
  rintro e w2 ⟨rfl, k2⟩
  have K2 : Hid (Kept w w2) := Lib.hid (K1.out.trans (((Kept.refl w1).alloc _ _).trans k2))
  go_wp2
  go_ret
  exact ⟨rfl, K2.out⟩
theorem tread_any (t : Twr) (x : Int) (x0 : 0 ≤ x) (x1 : x < 18446744073709551616) (w : World) : Calls Try.prog 99 #[towV t, .int .u64 x] w fun e w' => e = .returned (.int .i64 (idx t.A.F.N x)) ∧ Kept w w' := by
  by_cases h : 0 ≤ x % 65536 - 1 ∧ x % 65536 - 1 < t.A.F.N
  · rw [show idx t.A.F.N x = x % 65536 - 1 from by unfold idx; rw [if_pos h.2]]
    exact read_yes t x x0 x1 h w
  · rw [show idx t.A.F.N x = -1 from by unfold idx; split <;> omega]
    exact read_no t x x0 x1 (by omega) w

def itL (n : Nat) (f : Nat → Int) (t : Twr) (l : Int) : Nat → Int
  | 0 => -1
  | k + 1 => idx t.A.F.N (hw n f (nextI t (itL n f t l k) l))
def idsL (n : Nat) (f : Nat → Int) (t : Twr) (l : Int) (k : Nat) : List Int := (List.range k).map (fun j => itL n f t l (j + 1))
theorem idsL_succ (n : Nat) (f : Nat → Int) (t : Twr) (l : Int) (k : Nat) : idsL n f t l (k + 1) = idsL n f t l k ++ [itL n f t l (k + 1)] := by simp [idsL, List.range_succ]
theorem idsL_len (n : Nat) (f : Nat → Int) (t : Twr) (l : Int) (k : Nat) : (idsL n f t l k).length = k := by simp [idsL]
theorem idx_ge (N x : Int) (h : 0 ≤ x) : -1 ≤ idx N x := by unfold idx; split <;> omega
theorem itL_ge {n : Nat} {f : Nat → Int} (hf : Wf n f) (t : Twr) (l : Int) : ∀ k, -1 ≤ itL n f t l k
  | 0 => Int.le_refl _
  | k + 1 => idx_ge _ _ (hw_in hf _).1
theorem lev_ids (n : Nat) (f : Nat → Int) (t : Twr) (l : Int) : ∀ (K j c : Nat), c ≤ K → (∀ m, m < c → 0 ≤ itL n f t l (j + m + 1)) → (c = K ∨ itL n f t l (j + c + 1) < 0) → levL n f t l K (itL n f t l j) = (List.range c).map (fun m => itL n f t l (j + m + 1))
  | 0, j, c, h, _, _ => by
    have : c = 0 := by omega
    subst this; rfl
  | K + 1, j, c, h, hp, he => by
    show (if idx t.A.F.N (hw n f (nextI t (itL n f t l j) l)) < 0 then [] else idx t.A.F.N (hw n f (nextI t (itL n f t l j) l)) :: levL n f t l K (idx t.A.F.N (hw n f (nextI t (itL n f t l j) l)))) = _
    rw [show idx t.A.F.N (hw n f (nextI t (itL n f t l j) l)) = itL n f t l (j + 1) from rfl]
    cases c with
    | zero =>
      have h1 : itL n f t l (j + 1) < 0 := by
        rcases he with h | h
        · omega
        · simpa using h
      rw [if_pos h1]; rfl
    | succ c =>
      have h1 := hp 0 (by omega)
      rw [if_neg (by simpa using h1), lev_ids n f t l K (j + 1) c (by omega) (fun m hm => by have := hp (m + 1) (by omega); rwa [show j + (m + 1) + 1 = j + 1 + m + 1 by omega] at this) (he.imp (by omega) (fun h => by rwa [show j + (c + 1) + 1 = j + 1 + c + 1 by omega] at h)), List.range_succ_eq_map, List.map_cons, List.map_map]
      congr 1
      apply List.map_congr_left
      intro m _
      show itL n f t l (j + 1 + m + 1) = itL n f t l (j + (m + 1) + 1)
      rw [show j + 1 + m + 1 = j + (m + 1) + 1 by omega]
theorem level_ids {n : Nat} {f : Nat → Int} {t : Twr} {l : Int} {c : Nat} (h : c ≤ t.A.F.N.toNat) (hp : ∀ m, m < c → 0 ≤ itL n f t l (m + 1)) (he : c = t.A.F.N.toNat ∨ itL n f t l (c + 1) < 0) : levelL n f t l = idsL n f t l c := by
  have := lev_ids n f t l t.A.F.N.toNat 0 c h (fun m hm => by rw [Nat.zero_add]; exact hp m hm) (he.imp id (fun h => by rw [Nat.zero_add]; exact h))
  unfold levelL idsL
  rw [show (-1 : Int) = itL n f t l 0 from rfl, this]
  apply List.map_congr_left
  intro m _
  rw [Nat.zero_add]
structure LBx (w : World) (a b : Nat) (t : Twr) (v : Value) (l : Int) (n : Nat) (f : Nat → Int) : Prop where
  vb : VB w a t v
  lc : w.cell? ⟨b, 0, none⟩ = some (.int .i64 l)
  ws : Wds w v n f
theorem LBx.kept {w w' : World} {a b : Nat} {t : Twr} {v : Value} {l : Int} {n : Nat} {f : Nat → Int} (h : LBx w a b t v l n f) (k : Kept w w') : LBx w' a b t v l n f := ⟨h.vb.kept k, k.some h.lc, h.ws.kept k⟩
theorem loop_ghost {F : Fence} {n : Nat} {P : Program} {Q : Exit → Act → World → Prop} {a : Act} {w : World} {c : Code} (NN : Nat) (Rel : Nat → Act → World → Prop) (h0 : Rel 0 a w)
    (hstep : ∀ k a w, Rel k a w → k < NN ∧ ∀ K : Act → World → Prop, (∀ a' w', Rel (k + 1) a' w' → K a' w') → c.wpIn F n P (Exit.then K Q) a w) : (Code.loop c).wpIn F n P Q a w := by
  have key : ∀ m k a w, Rel k a w → NN ≤ k + m → Code.roundsIn F n P c Q m a w := by
    intro m
    induction m with
    | zero => intro k a w h hk; have := (hstep k a w h).1; omega
    | succ m ih => intro k a w h hk; exact (hstep k a w h).2 _ fun a' w' h' => ih (k + 1) a' w' h' (by omega)
  exact wpIn_loop_rounds NN (key NN 0 a w h0 (by omega))
def LAct (y a b : Nat) (t : Twr) (i : Int) (k : Nat) (x3 x9 x10 x11 x12 x13 x14 x15 x16 x17 x18 x19 x20 x21 x22 x23 x24 x25 : Value) : Act :=
  { tmps := #[.func (.yield y) #[] #[], .pointer (some ⟨a, 0, none⟩), .pointer (some ⟨b, 0, none⟩), x3, .int .i64 i, .pointer (some ⟨a, 0, none⟩), towV t, .int .i64 t.A.F.N, .int .i64 (k : Int), x9, x10, x11, x12, x13, x14, x15, x16, x17, x18, x19, x20, x21, x22, x23, x24, x25], defers := [] }
def LRel (J : List Int → World → Prop) (n : Nat) (f : Nat → Int) (t : Twr) (l : Int) (y a b : Nat) (k : Nat) (A : Act) (w : World) : Prop :=
  k ≤ t.A.F.N.toNat ∧ J (idsL n f t l k) w ∧ ∃ x3 x9 x10 x11 x12 x13 x14 x15 x16 x17 x18 x19 x20 x21 x22 x23 x24 x25, A = LAct y a b t (itL n f t l k) k x3 x9 x10 x11 x12 x13 x14 x15 x16 x17 x18 x19 x20 x21 x22 x23 x24 x25
def LSo (n : Nat) (f : Nat → Int) (t : Twr) (l : Int) (pre : List Int) (x : Int) : Prop := pre = idsL n f t l pre.length ∧ x = itL n f t l (pre.length + 1) ∧ pre.length < t.A.F.N.toNat ∧ 0 ≤ x
def LNn (n : Nat) (f : Nat → Int) (t : Twr) (l : Int) (xs : List Int) : Prop := ∃ k, xs = idsL n f t l k ∧ k ≤ t.A.F.N.toNat ∧ (k = t.A.F.N.toNat ∨ itL n f t l (k + 1) < 0)
set_option maxHeartbeats 4000000 in
theorem level_in (m : Nat) (hm : 1 ≤ m) (y a b : Nat) (t : Twr) (av : Option Addr) (cv : Nat) (l : Int) (hl64 : I64 l) (hN64 : t.A.F.N ≤ 9223372036854775807) (n : Nat) (f : Nat → Int) (hf : Wf n f) (hn : n ≤ 100000) (J Jx : List Int → World → Prop)
    (hJk : ∀ pre W W', J pre W → Kept W W' → J pre W') (hJb : ∀ pre W, J pre W → LBx W a b t (.slice av n cv) l n f)
    (hY : ∀ pre x W, J pre W → LSo n f t l pre x → YieldAt Fence.wide (m - 1) Try.prog y #[.int .i64 x] W fun e W' =>
      (e = .returned (.bool true) ∧ J (pre ++ [x]) W') ∨ (e = .returned (.bool false) ∧ Jx (pre ++ [x]) W'))
    (W : World) (h0 : J [] W) :
    CallsIn Fence.wide m Try.prog 97 #[.func (.yield y) #[] #[], .pointer (some ⟨a, 0, none⟩), .pointer (some ⟨b, 0, none⟩)] W fun e W' => (∃ v, e = .returned v) ∧
      ((∃ xs, LNn n f t l xs ∧ J xs W') ∨ (∃ pre W1, Jx pre W1 ∧ Kept W1 W')) := by
  refine callsIn_of_wp Try.func97 rfl trivial ?_ rfl
  simp only [Try.ntmps97, List.size_toArray, List.length_cons, List.length_nil, Nat.reduceAdd, Nat.reduceSub, Array.replicate_succ, Array.replicate_zero, List.push_toArray, List.append_toArray, List.nil_append, List.cons_append]
  rw [wpIn_wide]
  obtain ⟨⟨⟨a0, a1, a2, a3, a4, a5, a6, a7, a8, a9, a10, a11, a12⟩, a13⟩, b0, ws⟩ := hJb _ _ h0
  have HY := Lib.hid hY
  have HK := Lib.hid hJk
  have HB := Lib.hid hJb
  have HF := Lib.hid hf
  have hfm : Try.prog.follows .mixedOrders = true := by kernel_rfl
  clear hY hJk hJb hf ws
  go_wp2_with fail
  refine (size_any t _).mono ?_
  rintro e w1 ⟨rfl, k1⟩
  have j1 := HK.out _ _ _ h0 k1
  clear a0 a1 a2 a3 a4 a5 a6 a7 a8 a9 a10 a11 a12 a13 b0 k1 h0
  go_wp2_with fail
  rw [← wpIn_wide (n := m)]
  refine loop_ghost (t.A.F.N.toNat + 1) (LRel J n f t l y a b) ⟨Nat.zero_le _, j1, _, _, _, _, _, _, _, _, _, _, _, _, _, _, _, _, _, _, rfl⟩ ?_
  clear j1
  rintro k _ w ⟨hk, hj, x3, x9, x10, x11, x12, x13, x14, x15, x16, x17, x18, x19, x20, x21, x22, x23, x24, x25, rfl⟩
  refine ⟨by omega, fun K hK => ?_⟩
  unfold LAct
  have BX := Lib.hid (HB.out _ _ hj)
  obtain ⟨⟨⟨a0, a1, a2, a3, a4, a5, a6, a7, a8, a9, a10, a11, a12⟩, a13⟩, b0, ws⟩ := BX.out
  have WS := Lib.hid ws
  clear ws
  by_cases hs : (k : Int) < t.A.F.N
  · obtain ⟨i, hi⟩ : ∃ i, i = itL n f t l k := ⟨_, rfl⟩
    obtain ⟨q, hq⟩ : ∃ q, q = hw n f (nextI t i l) := ⟨_, rfl⟩
    obtain ⟨x, hx⟩ : ∃ x, x = idx t.A.F.N q := ⟨_, rfl⟩
    have q0 : 0 ≤ q := by rw [hq]; exact (hw_in HF.out _).1
    have q1 : q < 18446744073709551616 := by rw [hq]; exact (hw_in HF.out _).2
    have NX : ∀ X, Kept w X → Hid (Calls Try.prog 100 #[viewV t (.slice av n cv), .int .i64 i, .int .i64 l] X fun e w' => e = .returned (.int .u64 q) ∧ Kept X w') := fun X kk => Lib.hid (by rw [hq]; exact vnext_any t (WS.out.kept kk) hn i l hl64)
    have RD := fun X => Lib.hid (show Calls Try.prog 99 #[towV t, .int .u64 q] X fun e w' => e = .returned (.int .i64 x) ∧ Kept X w' from by rw [hx]; exact tread_any t q q0 q1 X)
    have x0 : -1 ≤ x := by rw [hx]; exact idx_ge _ _ q0
    have eX : x = itL n f t l (k + 1) := by rw [hx, hq, hi]; rfl
    rw [← hi]
    have EX := Lib.hid eX
    have EI := Lib.hid hi
    clear eX hi hx hq
    have KT : Kept w w := Kept.refl _
    gi_wp2_with fail
    gi_region_with_o (first
      | (refine ⟨trivial, ?_⟩; gi_at_call 100; refine (callsIn_wide.2 (NX _ (by first | exact KT | exact KT.drew | exact KT.drewN _)).out).mono ?_; rintro e w2 ⟨rfl, k2⟩; have KT : Kept w w2 := Kept.trans (b := _) (by first | exact KT | exact KT.drew | exact KT.drewN _) k2; obtain ⟨⟨⟨a0, a1, a2, a3, a4, a5, a6, a7, a8, a9, a10, a11, a12⟩, a13⟩, b0, ws⟩ := BX.out.kept KT)
      | (refine ⟨trivial, ?_⟩; gi_at_call 99; refine (callsIn_wide.2 (RD _).out).mono ?_; rintro e w3 ⟨rfl, k3⟩; have KT : Kept w w3 := Kept.trans (b := _) (by first | exact KT | exact KT.drew | exact KT.drewN _) k3; obtain ⟨⟨⟨a0, a1, a2, a3, a4, a5, a6, a7, a8, a9, a10, a11, a12⟩, a13⟩, b0, ws⟩ := BX.out.kept KT))
    all_goals
      have hJ3 := HK.out _ _ _ hj KT
      by_cases hx0 : x = -1
      · subst hx0
        clear NX RD
        gi_wp2
        refine ⟨fun _ h => (by cases h), ?_⟩
        gi_wp2
        exact bodyPost_ret (v := .tuple #[]) (by simp [results, Try.results97, go_sem]) rfl ⟨⟨_, rfl⟩, .inl ⟨_, ⟨k, rfl, hk, .inr (by rw [← EX.out]; decide)⟩, hJ3⟩⟩
      · have hx1 : 0 ≤ x := by omega
        obtain ⟨fn, tmps, assign, body, hy, hR⟩ := HY.out (idsL n f t l k) x w3 hJ3 ⟨by rw [idsL_len], by rw [idsL_len]; exact EX.out, by rw [idsL_len]; omega, hx1⟩
        clear NX RD
        gi_wp2
        refine hR.mono ?_
        rintro e W3 (⟨rfl, hJ4⟩ | ⟨rfl, hJx4⟩)
        · have J4 := Lib.hid hJ4
          clear hJ4 hy hR hJ3
          gi_wp2
          refine ⟨by omega, ?_, _, _, _, _, _, _, _, _, _, _, _, _, _, _, _, _, _, _, by rw [← EX.out]; rfl⟩
          rw [idsL_succ, ← EX.out]
          exact J4.out
        · gi_wp2
          exact bodyPost_ret (v := .tuple #[]) (by simp [results, Try.results97, go_sem]) rfl ⟨⟨_, rfl⟩, .inr ⟨_, _, hJx4, Kept.refl _⟩⟩
  · have hkN : k = t.A.F.N.toNat := by omega
    have HKN := Lib.hid hkN
    clear hkN hk
    gi_wp2
    go_end0
    exact ⟨⟨_, rfl⟩, .inl ⟨_, ⟨k, rfl, by rw [HKN.out]; exact Nat.le_refl _, .inl HKN.out⟩, hj⟩⟩
end Go.Proofs.Ytejiogggocnldaa.Tw

namespace Go.Proofs.Ytejiogggocnldaa.Tw
set_option maxRecDepth 100000
open Go.RowKit Go.Shelf
open Wo (St acc wordAt PMem RefIs)
open Sk (Stk Arn idx Wd pmem_kept p_words Blk g_top leaves kept_of)
attribute [local go_sem] Oper.semAt_some
attribute [local go_sem ↓] app_named

theorem infoInt : (Try.prog.info? 3).map (fun i => (i.zero, i.size, i.bytes)) = some (some (.int .i64 0), 1, 8) := by kernel_rfl
def RetI (w : World) (l : List Int) (ed : Ending) (w' : World) : Prop := ∃ a c, ed = .returned (.slice a l.length c) ∧ Kept w w' ∧ w'.ownsRow w.heap.size 3 1 (.slice a l.length c) l.length (ints l)
theorem ints_app (l m : List Int) : ints (l ++ m) = ints l ++ ints m := by simp [ints]
theorem int_append {W : World} {N B : Nat} {v : Value} {l : List Int} (hrow : W.ownsRow N 3 1 v l.length (ints l)) (hx : Boxed W B 22 v) (hN : N ≤ W.heap.size) (hB : B < N) (hl : l.length ≤ 5000) (x : Int) :
    ∃ a c w1, (appSem #[22, 22] 22 #[v, .slice (some ⟨W.heap.size, 0, none⟩) 1 1]).run Try.prog (W.alloc (.cells #[.int .i64 x] 3)) = .ok (.slice a (l.length + 1) c) w1 ∧
      w1.cell? ⟨B, 0, none⟩ = some v ∧ w1.frozen? ⟨B, 0, none⟩ = false ∧ Boxed (w1.setCell ⟨B, 0, none⟩ (.slice a (l.length + 1) c)) B 22 (.slice a (l.length + 1) c) ∧
      (w1.setCell ⟨B, 0, none⟩ (.slice a (l.length + 1) c)).ownsRow N 3 1 (.slice a (l.length + 1) c) (l ++ [x]).length (ints (l ++ [x])) ∧
      But (fun j => v.ownBlock = some j ∨ j = B) W (w1.setCell ⟨B, 0, none⟩ (.slice a (l.length + 1) c)) := by
  obtain ⟨i0, hi, hz0, hz1, hz2⟩ := info_parts infoInt
  have kA : Kept W (W.alloc (.cells #[.int .i64 x] 3)) := (Kept.refl _).alloc _ _
  obtain ⟨a, c, w1, hr, own, but, at_⟩ := append_lay (P := Try.prog) (W.alloc (.cells #[.int .i64 x] 3)) N 22 22 3 i0 _ 1 8 Try.underlying22 hi hz0 hz1 hz2 (by rfl) (by decide) v l.length (ints l) (own_keep hrow kA) (.slice (some ⟨W.heap.size, 0, none⟩) 1 1) 1 [.int .i64 x]
    rfl (lay_new (heap_alloc_new _ _) (by omega)) (by simp [Value.oneCell']) (by unfold maxLen; omega) (by omega) (by simp; omega)
  rw [app_named] at hr
  have hBW := hx.lt
  have bx1 : Boxed w1 B 22 v := (but.block B (by simp; omega) (fun h => by have := (hrow.lt B h).1; omega)).trans ((kA.below.block B hBW).trans hx)
  have b1 : But (fun j => v.ownBlock = some j ∨ j = B) W w1 := (kA.but _).trans (but.mono fun _ _ h => Or.inl h) (fun _ _ h => h)
  have b2 : But (fun j => v.ownBlock = some j ∨ j = B) W (w1.setCell ⟨B, 0, none⟩ (.slice a (l.length + 1) c)) := b1.setCell (p := ⟨B, 0, none⟩) (Or.inl (Or.inr rfl)) _
  refine ⟨a, c, w1, hr, bx1.cell, bx1.frozen, bx1.set _, ?_, b2⟩
  have := own_same (w' := w1.setCell ⟨B, 0, none⟩ (.slice a (l.length + 1) c)) own (fun g hg => Below.heap_setCell _ _ _ _ (by have := (own.lt g hg).1; simp; omega))
  rw [List.length_append, ints_app]
  exact this
structure LvI (w0 : World) (L a b c N0 : Nat) (t : Twr) (v : Value) (l : Int) (n : Nat) (f : Nat → Int) (sel : Int → Bool) (pre : List Int) (W : World) : Prop where
  box : ∃ u, Boxed W L 22 u ∧ W.ownsRow (N0 + 2) 3 1 u (pre.filter sel).length (ints (pre.filter sel))
  bx : LBx W a b t v l n f
  ex : VB W c t v
  kept : Kept w0 W
  sz : N0 ≤ W.heap.size
  p1 : pre = idsL n f t l pre.length
  p2 : pre.length ≤ t.A.F.N.toNat
  p3 : ∀ i, i < pre.length → 0 ≤ itL n f t l (i + 1)
structure LvB (w0 : World) (L a b c N0 : Nat) (v : Value) : Prop where
  hl : L < N0
  ha : a < N0
  hb : b < N0
  hc : c < N0
  la : L ≠ a
  lb : L ≠ b
  lc : L ≠ c
  hv : ∀ g, v.ownBlock = some g → g < N0 ∧ L ≠ g
  wl : w0.heap.size ≤ L
theorem LBx.but {w w' : World} {a b : Nat} {t : Twr} {v : Value} {l : Int} {n : Nat} {f : Nat → Int} (h : LBx w a b t v l n f) {T : Nat → Prop} (k : But T w w') (ha : ¬ T a) (hb : ¬ T b) (hg : ∀ g, v.ownBlock = some g → ¬ T g) : LBx w' a b t v l n f := ⟨h.vb.but k ha, k.some h.lc hb, h.ws.but k hg⟩
theorem LvI.keep {w0 : World} {L a b c N0 : Nat} {t : Twr} {v : Value} {l : Int} {n : Nat} {f : Nat → Int} {sel : Int → Bool} {pre : List Int} {W W' : World} (h : LvI w0 L a b c N0 t v l n f sel pre W) (k : Kept W W') (hb : LvB w0 L a b c N0 v) : LvI w0 L a b c N0 t v l n f sel pre W' := by
  obtain ⟨⟨u, h1, h2⟩, h3, h4, h5, h6, h7, h8, h9⟩ := h
  exact ⟨⟨u, (k.below.block _ (by have := hb.hl; omega)).trans h1, own_keep h2 k⟩, h3.kept k, h4.kept k, h5.trans k, Nat.le_trans h6 k.size, h7, h8, h9⟩
theorem LvI.turn {w0 : World} {L a b c N0 : Nat} {t : Twr} {v : Value} {l : Int} {n : Nat} {f : Nat → Int} {sel : Int → Bool} {pre : List Int} {W : World} {r : Nat} {y y' : Loop} (h : LvI w0 L a b c N0 t v l n f sel pre W) (hb : LvB w0 L a b c N0 v) (hr : N0 ≤ r) (hy : W.heap[r]? = some (.loop y)) : LvI w0 L a b c N0 t v l n f sel pre (W.putObj r (.loop y')) := by
  obtain ⟨⟨u, h1, h2⟩, h3, h4, h5, h6, h7, h8, h9⟩ := h
  have k : But (fun k => k = r) W (W.putObj r (.loop y')) := Sk.but_turned (But.refl _ _) hy rfl rfl (.inl rfl)
  have := hb.hl
  have := hb.ha
  have := hb.hb
  have := hb.hc
  have := hb.wl
  refine ⟨⟨u, (World.putObj_heap_other (by omega)).trans h1, ownsRow_putObj h2 _ hy rfl⟩, h3.but k (by omega) (by omega) (fun g hg e => by have := (hb.hv g hg).1; omega), h4.but k (by omega), ?_, Nat.le_trans h6 k.size, h7, h8, h9⟩
  exact (Sk.but_turned (h5.but (fun _ => False)) hy rfl rfl (.inr (by omega))).kept fun _ _ h => h
theorem lv_pre {n : Nat} {f : Nat → Int} {t : Twr} {l : Int} {pre : List Int} {x : Int} (p1 : pre = idsL n f t l pre.length) (p2 : pre.length ≤ t.A.F.N.toNat) (p3 : ∀ i, i < pre.length → 0 ≤ itL n f t l (i + 1)) (h : LSo n f t l pre x) :
    pre ++ [x] = idsL n f t l (pre ++ [x]).length ∧ (pre ++ [x]).length ≤ t.A.F.N.toNat ∧ ∀ i, i < (pre ++ [x]).length → 0 ≤ itL n f t l (i + 1) := by
  obtain ⟨_, h2, h3, h4⟩ := h
  have hlx : (pre ++ [x]).length = pre.length + 1 := by simp
  rw [hlx]
  refine ⟨by rw [idsL_succ, ← h2, ← p1], by omega, fun i hi => ?_⟩
  by_cases e : i = pre.length
  · rw [e, ← h2]; exact h4
  · exact p3 i (by omega)
theorem lv_skip {w0 : World} {L a b c N0 : Nat} {t : Twr} {v : Value} {l : Int} {n : Nat} {f : Nat → Int} {sel : Int → Bool} {pre : List Int} {x : Int} {W W' : World} (h : LvI w0 L a b c N0 t v l n f sel pre W) (hb : LvB w0 L a b c N0 v) (hs : LSo n f t l pre x) (k : Kept W W') (hx : sel x = false) :
    LvI w0 L a b c N0 t v l n f sel (pre ++ [x]) W' ∧ Blk (fun k => k = L ∨ N0 + 1 + 1 ≤ k) W W' := by
  obtain ⟨⟨u, h1, h2⟩, h3, h4, h5, h6, _, _, _⟩ := h.keep k hb
  obtain ⟨q1, q2, q3⟩ := lv_pre h.p1 h.p2 h.p3 hs
  exact ⟨⟨⟨u, h1, by rw [List.filter_append, show [x].filter sel = [] from by simp [hx], List.append_nil]; exact h2⟩, h3, h4, h5, h6, q1, q2, q3⟩, .of (k.but _)⟩
theorem lv_round {w0 : World} {L a b c N0 : Nat} {t : Twr} {v : Value} {l : Int} {n : Nat} {f : Nat → Int} {sel : Int → Bool} {pre : List Int} {x : Int} {W W1 W9 : World} {u u' : Value} (h : LvI w0 L a b c N0 t v l n f sel pre W) (hb : LvB w0 L a b c N0 v) (hs : LSo n f t l pre x) (k : Kept W W1) (hx : sel x = true)
    (hu : W1.ownsRow (N0 + 2) 3 1 u (pre.filter sel).length (ints (pre.filter sel)))
    (bx : Boxed W9 L 22 u') (own : W9.ownsRow (N0 + 2) 3 1 u' (pre.filter sel ++ [x]).length (ints (pre.filter sel ++ [x]))) (but : But (fun j => u.ownBlock = some j ∨ j = L) W1 W9) :
    LvI w0 L a b c N0 t v l n f sel (pre ++ [x]) W9 ∧ Blk (fun k => k = L ∨ N0 + 1 + 1 ≤ k) W W9 := by
  obtain ⟨_, h3, h4, h5, h6, _, _, _⟩ := h.keep k hb
  obtain ⟨q1, q2, q3⟩ := lv_pre h.p1 h.p2 h.p3 hs
  have nO : ∀ g, u.ownBlock = some g → N0 + 2 ≤ g := fun g hg => (hu.lt g hg).1
  have nB : ∀ j, j < N0 → L ≠ j → ¬ (u.ownBlock = some j ∨ j = L) := fun j h1 h2 e => e.elim (fun e => by have := nO j e; omega) (fun e => h2 e.symm)
  have hwl := hb.wl
  have hl := hb.hl
  refine ⟨⟨⟨u', bx, by rw [List.filter_append, show [x].filter sel = [x] from by simp [hx]]; exact own⟩, h3.but but (nB _ hb.ha hb.la) (nB _ hb.hb hb.lb) (fun g hg => nB g (hb.hv g hg).1 (hb.hv g hg).2), h4.but but (nB _ hb.hc hb.lc), ?_, Nat.le_trans h6 but.size, q1, q2, q3⟩, ?_⟩
  · exact ((h5.but _).trans but (fun _ _ h => h)).kept (fun i hi e => e.elim (fun e => by have := nO i e; omega) (fun e => by omega))
  · exact (Blk.of (k.but _)).trans ((Blk.of but).mono (T := fun k => k = L ∨ N0 + 1 + 1 ≤ k) (fun j _ e => e.elim (fun e => .inr (nO j e)) .inl)) (fun _ _ h => h)
theorem lv_end {w0 : World} {L a b c N0 : Nat} {t : Twr} {v : Value} {l : Int} {n : Nat} {f : Nat → Int} {sel : Int → Bool} {xs : List Int} {W : World} (h : LvI w0 L a b c N0 t v l n f sel xs W) (hN : LNn n f t l xs) : xs.filter sel = (levelL n f t l).filter sel := by
  obtain ⟨k, hx, h2, h3⟩ := hN
  have hk : xs.length = k := by rw [hx]; exact idsL_len _ _ _ _ _
  rw [hx, level_ids h2 (fun m hm => h.p3 m (by omega)) h3]
set_option maxHeartbeats 4000000 in
theorem level_told (t : Twr) (hN64 : t.A.F.N ≤ 5000) (l : Int) (hl64 : I64 l) (mv : Value) (n : Nat) (f : Nat → Int) (hf : Wf n f) (hn : n ≤ 100000) (w : World) (hg : GivesWords mv n f w) :
    Calls Try.prog 28 #[towV t, .int .i64 l, mv] w (RetI w ((levelL n f t l).filter (fun _ => true))) := by
  have HF := Lib.hid hf
  have LK : ∀ W, Kept w W → Hid (Calls Try.prog 65 #[towV t, mv] W fun e w' => ∃ v, e = .returned (viewV t v) ∧ Wds w' v n f ∧ (∀ g, v.ownBlock = some g → W.heap.size ≤ g) ∧ Kept W w') := fun W k => Lib.hid (look_any t mv n f W (hg.kept k))
  clear hg hf
  refine (callsIn_wide (n := 6)).1 ?_
  refine callsIn_of_wp_marks Try.func28 rfl trivial ?_ rfl
  simp only [Try.ntmps28, List.size_toArray, List.length_cons, List.length_nil, Nat.reduceAdd, Nat.reduceSub, Array.replicate_succ, Array.replicate_zero, List.push_toArray, List.append_toArray, List.nil_append, List.cons_append]
  rw [wpIn_wide]
  go_wp2_with fail
  refine (LK _ (by (go_light; repeat (first | (with_reducible exact Kept.refl _) | (with_reducible assumption) | (with_reducible refine Kept.alloc ?_ _ _) | (with_reducible refine Kept.drew ?_) | (with_reducible refine Kept.drewN ?_ _) | ((with_reducible refine Kept.setCell ?_ ?_ _); rotate_left; focus (first | (simp; done) | (simp; omega))) | refine Kept.trans ?_ (by assumption))))).out.mono ?_
  rintro e w1 ⟨v, rfl, wv, fv, k1⟩
  obtain ⟨av, cv, rfl⟩ := wv.form
  have bL : Boxed w1 (w.heap.size + 1) 22 (.slice none 0 0) := (k1.below.block _ (by simp)).trans (by have h0 := Boxed.new (w.alloc (.cells #[.int .i64 t.D, .int .i64 t.H, .int .i64 t.G, .int .i64 t.A.F.T, .int .i64 t.A.F.K, .int .i64 t.A.F.N, .int .i64 t.A.G, .int .i64 t.A.V, .int .i64 t.A.L, .int .i64 t.E.T, .int .i64 t.E.K, .int .i64 t.E.N, .int .i64 t.P] 51)) 22 (.slice none 0 0); rw [show (w.alloc (.cells #[.int .i64 t.D, .int .i64 t.H, .int .i64 t.G, .int .i64 t.A.F.T, .int .i64 t.A.F.K, .int .i64 t.A.F.N, .int .i64 t.A.G, .int .i64 t.A.V, .int .i64 t.A.L, .int .i64 t.E.T, .int .i64 t.E.K, .int .i64 t.E.N, .int .i64 t.P] 51)).heap.size = w.heap.size + 1 from by simp] at h0; exact h0)
  have K1 : Kept w w1 := (((Kept.refl w).alloc _ _).alloc _ _).trans k1
  have f1 : ∀ g, (Value.slice av n cv).ownBlock = some g → w.heap.size + 2 ≤ g ∧ g < w1.heap.size := fun g hg => ⟨by have := fv g hg; simpa using this, wv.lt g hg⟩
  have z1 : w.heap.size + 2 ≤ w1.heap.size := by have := k1.size; simpa using this
  clear k1 fv
  go_wp2_with fail
  refine (level_any t (.slice av n cv) l n f _ wv).mono ?_
  rintro e w2 ⟨a, b, rfl, la, lb, ha, hb, vb, lc, k2⟩
  have HB : Hid (LvB w (w.heap.size + 1) a b a w2.heap.size (.slice av n cv)) := Lib.hid ⟨by have := k2.size; omega, ha, hb, ha, by omega, by omega, by omega, fun g hg => by have := f1 g hg; have := k2.size; omega, by omega⟩
  have HI : Hid (LvI w (w.heap.size + 1) a b a w2.heap.size t (.slice av n cv) l n f (fun _ => true) [] w2) := Lib.hid ⟨⟨_, (k2.below.block _ (by omega)).trans bL, World.ownsRow_nil _ _ _ _⟩, ⟨vb, lc, wv.kept k2⟩, vb, K1.trans k2, Nat.le_refl _, rfl, Nat.zero_le _, fun i h => absurd h (Nat.not_lt_zero _)⟩
  have hL : w.heap.size + 1 < w2.heap.size := by have := k2.size; omega
  clear bL K1 f1 z1 wv la lb ha hb vb lc k2
  go_wp2_with fail
  rename_i K hK0
  rw [← wpIn_wide (n := 6)]
  refine Sk.range_many (Bs := fun k => k = w.heap.size + 1 ∨ w2.heap.size + 1 + 1 ≤ k) (by decide) (gf := 97) (lb := #[.pointer (some ⟨a, 0, none⟩), .pointer (some ⟨b, 0, none⟩)]) rfl (enters_of Try.func97 (by kernel_rfl) rfl) (fun x : Int => Value.int .i64 x)
    (fun k h => h.elim (fun h => .inl (by omega)) .inr)
    (fun pre W => LvI w (w.heap.size + 1) a b a w2.heap.size t (.slice av n cv) l n f (fun _ => true) pre W)
    (fun cd pre W => False)
    (fun pre x => LSo n f t l pre x) (fun xs => LNn n f t l xs)
    ?_ ?_ ?_ ?_ ?_ ?_
    (fun x => { tmps := #[towV t, .int .i64 l, mv, .pointer (some ⟨w.heap.size, 0, none⟩), undef, undef, .slice none 0 0, .pointer (some ⟨w.heap.size + 1, 0, none⟩), .int .i64 x, towV t, mv, viewV t (.slice av n cv), .int .i64 l, .func (.func 97) #[] #[.pointer (some ⟨a, 0, none⟩), .pointer (some ⟨b, 0, none⟩)], .int .i64 x, undef, undef, undef, undef, undef], defers := [] }) ?_ ?_ ?_ ?_
  · exact fun W k => HI.out.keep k HB.out
  · exact fun pre W W' h k => h.keep k HB.out
  · exact fun pre W r y y' hr hy h => h.turn HB.out hr hy
  · exact fun cd pre W W' h k => h
  · exact fun cd pre W r y y' hr hy h => h
  · intro r W0 J Jx k0 z0 hr hJk hJb hY h0
    exact level_in 5 (by decide) r a b t av cv l hl64 (by omega) n f HF.out hn J Jx hJk (fun pre W h => (hJb pre W h).1.bx) hY W0 h0
  · intro r x W K hK
    gi_wp2
    exact hK
  · intro r pre x W hI hso hsz hbut
    obtain ⟨u, hu, hrow⟩ := hI.box
    have hle : (pre.filter (fun _ => true)).length ≤ 5000 := by have h1 := hI.p2; have h2 := List.length_filter_le (fun _ : Int => true) pre; omega
    obtain ⟨a', c', w7, hrun, hc7, hf7, bx7, own7, but7⟩ := int_append hrow hu (by omega) (by omega) hle x
    have RND := Lib.hid (lv_round hI HB.out hso (Kept.refl W) rfl hrow bx7 own7 but7)
    have hcell := hu.cell
    have hltl := lt_of_cell hcell
    obtain ⟨au, cu, rfl⟩ := own_form hrow
    generalize (pre.filter (fun _ => true)).length = lv at *
    clear hI hso hbut hrow hu bx7 own7 but7
    gi_wp2
    exact RND.out
  · intro D xs W hN hI hbut hD hd
    have hc := lv_end hI hN
    obtain ⟨⟨u, hu, hrow⟩, _, _, hk, _, _, _, _⟩ := hI
    have kD : Kept w (W.putObj D (.deferred none)) := (Blk.turned (S := fun _ => False) (Blk.of (hk.but _)) hd (Or.inr (by omega))).kept (fun _ _ h => h)
    rw [hc] at hrow
    have hcell := hu.cell
    obtain ⟨a', c', rfl⟩ := own_form hrow
    have hrow2 := Lib.hid (own_mono (ownsRow_putObj hrow (.deferred none) hd rfl) (show w.heap.size ≤ w2.heap.size + 2 by omega))
    obtain ⟨R, hR⟩ : ∃ R, R = (levelL n f t l).filter (fun _ => true) := ⟨_, rfl⟩
    rw [← hR] at hcell
    rw [← hR] at hrow2
    have HR := Lib.hid hR
    clear hc hrow hbut hR hu
    apply hK0
    go_wp2
    refine ⟨by simp, .inl ⟨_, _, rfl, run_takeDeferred hd, ?_⟩⟩
    rw [← HR.out]
    exact ⟨.slice a' R.length c', by simp [results, Try.results28, go_sem], a', c', rfl, kD, hrow2.out⟩
  · intro D cd xs W hI hbut hD hd
    exact hI.elim
def selM (n : Nat) (f : Nat → Int) (t : Twr) (x : Int) : Bool := !Wo.markOf (hw n f (nextI t x 0))
def liveM (n : Nat) (f : Nat → Int) (t : Twr) : List Int := (levelL n f t 0).filter (selM n f t)
end Go.Proofs.Ytejiogggocnldaa.Tw
