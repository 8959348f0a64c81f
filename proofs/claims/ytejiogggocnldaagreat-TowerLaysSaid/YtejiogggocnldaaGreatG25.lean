/- A region that draws its order, row by row; what is held may be turned on the way. -/
import Derived.Deep.RegionHeld3
import Derived.WalkKit
import Derived.Test.YtejiogggocnldaaGreatG22
set_option linter.unusedVariables false
set_option linter.unusedSimpArgs false

namespace Go.Proofs.YtejiogggocnldaaGreat.Sk
open Go.RowKit
theorem three {a b c : Bool} (h : (a && b && c) = true) : a = true ∧ b = true ∧ c = true := by
  cases a <;> cases b <;> cases c <;> simp_all
section
variable {P : Program} {ops : Array Oper} {Q : Exit → Act → World → Prop} {md : Region.Mode} {S : World → Prop}
theorem take_on {i : Nat} {oi : Oper} {v : Value} {fuel : Nat} {listed : Array Bool} {a : Act} {w : World} (hi : ops[i]? = some oi)
    (h3 : (Region.noSelect ops && Region.free md ops listed i && (Region.ready md ops listed).contains i) = true)
    (hw : Region.wanted oi (yielded ops a.tmps) = true) (hv : ∀ w, S w → (execOp a.eval oi).run P w = .ok (.value v) w)
    (hQ : ∀ c a w, Q (.panic c) (a.put oi.dst v) w → Q (.panic c) a w) (hS : S w)
    (h : wpAnyH P md ops Q S fuel (listed.setIfInBounds i true) (a.put oi.dst v) w) : wpAnyH P md ops Q S (fuel + 1) listed a w :=
  wpAnyH_take hi (three h3).1 (three h3).2.1 (three h3).2.2 hQ (Or.inl ⟨hw, hv⟩) hS h
theorem take_off {i : Nat} {oi : Oper} {fuel : Nat} {listed : Array Bool} {a : Act} {w : World} (hi : ops[i]? = some oi)
    (h3 : (Region.noSelect ops && Region.free md ops listed i && (Region.ready md ops listed).contains i) = true)
    (hw : Region.wanted oi (yielded ops a.tmps) = false)
    (hQ : ∀ c a w, Q (.panic c) (a.put oi.dst undef) w → Q (.panic c) a w) (hS : S w)
    (h : wpAnyH P md ops Q S fuel (listed.setIfInBounds i true) (a.put oi.dst undef) w) : wpAnyH P md ops Q S (fuel + 1) listed a w :=
  wpAnyH_take hi (three h3).1 (three h3).2.1 (three h3).2.2 hQ (Or.inr ⟨hw, rfl⟩) hS h
theorem held_mono {S' : World → Prop} (hS : ∀ w, S' w → S w) : ∀ (fuel : Nat) (listed : Array Bool) (a : Act) (w : World), wpAnyH P md ops Q S' fuel listed a w → wpAnyH P md ops Q S fuel listed a w
  | 0, _, _, _, h => h
  | fuel + 1, _, _, _, h => ⟨h.1, fun i hi => wpOp_mono (fun _ _ h' => ⟨hS _ h'.1, held_mono hS fuel _ _ _ h'.2⟩) (h.2 i hi)⟩
end
end Go.Proofs.YtejiogggocnldaaGreat.Sk

namespace Go.Proofs.YtejiogggocnldaaGreat.Tw
set_option maxRecDepth 20000
open Go.RowKit Go.Shelf
open Wo (St acc wordAt PMem RefIs)
open Sk (Stk Arn idx Wd pmem_kept p_words Blk g_top)
attribute [local go_sem] Oper.semAt_some
set_option maxHeartbeats 400000 in
theorem level_any (t : Twr) (v : Value) (l : Int) (n : Nat) (f : Nat → Int) (w : World) (h : Wds w v n f) : Calls Tryz.prog 105 #[viewV t v, .int .i64 l] w fun e w' => ∃ a b, e = .returned (.func (.func 165) #[] #[.pointer (some ⟨a, 0, none⟩), .pointer (some ⟨b, 0, none⟩)]) ∧ w.heap.size ≤ a ∧ w.heap.size ≤ b ∧ a < w'.heap.size ∧ b < w'.heap.size ∧ VB w' a t v ∧ w'.cell? ⟨b, 0, none⟩ = some (.int .i64 l) ∧ Kept w w' := by
  obtain ⟨av, cv, rfl⟩ := h.form
  go_enter Tryz.func105, Tryz.ntmps105
  go_wp2
  go_ret
  go_light
  refine ⟨w.heap.size, w.heap.size + 1, rfl, by omega, by omega, by simp; omega, by simp, VB.kept (VB.new w _ 176 rfl t _) ((Kept.refl _).alloc _ _), cell_new _ _ _ _ 0 (by simp), by (go_light; repeat (first | (with_reducible exact Kept.refl _) | (with_reducible assumption) | (with_reducible refine Kept.alloc ?_ _ _) | (with_reducible refine Kept.drew ?_) | (with_reducible refine Kept.drewN ?_ _) | ((with_reducible refine Kept.setCell ?_ ?_ _); rotate_left; focus (first | (simp; done) | (simp; omega))) | refine Kept.trans ?_ (by assumption)))⟩
set_option maxHeartbeats 800000 in
theorem read_yes (t : Twr) (x : Int) (x0 : 0 ≤ x) (x1 : x < 18446744073709551616) (h : 0 ≤ x % 65536 - 1 ∧ x % 65536 - 1 < t.A.F.N) (w : World) : Calls Tryz.prog 166 #[towV t, .int .u64 x] w fun e w' => e = .returned (.int .i64 (x % 65536 - 1)) ∧ Kept w w' := by
  have GT := fun W => Lib.hid (g_top x W x0 x1)
  have IN := fun W => Lib.hid (isNode_yes t (x % 65536 - 1) h.1 h.2 W)
  generalize x % 65536 - 1 = i at *
  generalize x / 65536 % 281474976710656 = g at *
  clear h
  go_enter Tryz.func166, Tryz.ntmps166
  go_wp2_with fail
  refine (GT _).out.mono ?_
  rintro e w1 ⟨rfl, k1⟩
  obtain ⟨a0, a1, a2, a3, a4, a5, a6, a7, a8, a9, a10, a11, a12⟩ := TB.kept (TB.new w w.heap.size 31 rfl t) k1
  have lz := lt_of_cell a0
  have K1 : Hid (Kept w w1) := Lib.hid (((Kept.refl w).alloc _ _).trans k1)
  clear k1
  go_wp2_with fail
  refine (IN _).out.mono ?_
  rintro e w2 ⟨rfl, k2⟩
  have r0 := k2.some (cell_new w1 #[.int .i64 i, .int .i64 g] 259 w1.heap.size 0 rfl)
  have K2 : Hid (Kept w w2) := Lib.hid (K1.out.trans (((Kept.refl w1).alloc _ _).trans k2))
  go_wp2
  go_ret
  exact ⟨rfl, K2.out⟩
set_option maxHeartbeats 800000 in
theorem read_no (t : Twr) (x : Int) (x0 : 0 ≤ x) (x1 : x < 18446744073709551616) (h : x % 65536 - 1 < 0 ∨ t.A.F.N ≤ x % 65536 - 1) (w : World) : Calls Tryz.prog 166 #[towV t, .int .u64 x] w fun e w' => e = .returned (.int .i64 (-1)) ∧ Kept w w' := by
  have GT := fun W => Lib.hid (g_top x W x0 x1)
  have IN := fun W => Lib.hid (isNode_no t (x % 65536 - 1) h W)
  generalize x % 65536 - 1 = i at *
  generalize x / 65536 % 281474976710656 = g at *
  clear h
  go_enter Tryz.func166, Tryz.ntmps166
  go_wp2_with fail
  refine (GT _).out.mono ?_
  rintro e w1 ⟨rfl, k1⟩
  obtain ⟨a0, a1, a2, a3, a4, a5, a6, a7, a8, a9, a10, a11, a12⟩ := TB.kept (TB.new w w.heap.size 31 rfl t) k1
  have lz := lt_of_cell a0
  have K1 : Hid (Kept w w1) := Lib.hid (((Kept.refl w).alloc _ _).trans k1)
  clear k1
  go_wp2_with fail
  refine (IN _).out.mono ?_
  rintro e w2 ⟨rfl, k2⟩
  have K2 : Hid (Kept w w2) := Lib.hid (K1.out.trans (((Kept.refl w1).alloc _ _).trans k2))
  go_wp2
  go_ret
  exact ⟨rfl, K2.out⟩
theorem tread_any (t : Twr) (x : Int) (x0 : 0 ≤ x) (x1 : x < 18446744073709551616) (w : World) : Calls Tryz.prog 166 #[towV t, .int .u64 x] w fun e w' => e = .returned (.int .i64 (idx t.A.F.N x)) ∧ Kept w w' := by
  by_cases h : 0 ≤ x % 65536 - 1 ∧ x % 65536 - 1 < t.A.F.N
  · rw [show idx t.A.F.N x = x % 65536 - 1 from by unfold idx; rw [if_pos h.2]]
    exact read_yes t x x0 x1 h w
  · rw [show idx t.A.F.N x = -1 from by unfold idx; split <;> omega]
    exact read_no t x x0 x1 (by omega) w

def itL (n : Nat) (f : Nat → Int) (t : Twr) (l : Int) : Nat → Int
  | 0 => -1
  | k + 1 => idx t.A.F.N (hw n f (nextI t (itL n f t l k) l))
def idsL (n : Nat) (f : Nat → Int) (t : Twr) (l : Int) (k : Nat) : List Int := (List.range k).map (fun j => itL n f t l (j + 1))
theorem idsL_succ (n : Nat) (f : Nat → Int) (t : Twr) (l : Int) (k : Nat) : idsL n f t l (k + 1) = idsL n f t l k ++ [itL n f t l (k + 1)] := by simp [idsL, List.range_succ]
theorem idsL_len (n : Nat) (f : Nat → Int) (t : Twr) (l : Int) (k : Nat) : (idsL n f t l k).length = k := by simp [idsL]
theorem idx_ge (N x : Int) (h : 0 ≤ x) : -1 ≤ idx N x := by unfold idx; split <;> omega
theorem itL_ge {n : Nat} {f : Nat → Int} (hf : Wf n f) (t : Twr) (l : Int) : ∀ k, -1 ≤ itL n f t l k
  | 0 => Int.le_refl _
  | k + 1 => idx_ge _ _ (hw_in hf _).1
theorem lev_ids (n : Nat) (f : Nat → Int) (t : Twr) (l : Int) : ∀ (K j c : Nat), c ≤ K → (∀ m, m < c → 0 ≤ itL n f t l (j + m + 1)) → (c = K ∨ itL n f t l (j + c + 1) < 0) → levL n f t l K (itL n f t l j) = (List.range c).map (fun m => itL n f t l (j + m + 1))
  | 0, j, c, h, _, _ => by
    have : c = 0 := by omega
    subst this; rfl
  | K + 1, j, c, h, hp, he => by
    show (if idx t.A.F.N (hw n f (nextI t (itL n f t l j) l)) < 0 then [] else idx t.A.F.N (hw n f (nextI t (itL n f t l j) l)) :: levL n f t l K (idx t.A.F.N (hw n f (nextI t (itL n f t l j) l)))) = _
    rw [show idx t.A.F.N (hw n f (nextI t (itL n f t l j) l)) = itL n f t l (j + 1) from rfl]
    cases c with
    | zero =>
      have h1 : itL n f t l (j + 1) < 0 := by
        rcases he with h | h
        · omega
        · simpa using h
      rw [if_pos h1]; rfl
    | succ c =>
      have h1 := hp 0 (by omega)
      rw [if_neg (by simpa using h1), lev_ids n f t l K (j + 1) c (by omega) (fun m hm => by have := hp (m + 1) (by omega); rwa [show j + (m + 1) + 1 = j + 1 + m + 1 by omega] at this) (he.imp (by omega) (fun h => by rwa [show j + (c + 1) + 1 = j + 1 + c + 1 by omega] at h)), List.range_succ_eq_map, List.map_cons, List.map_map]
      congr 1
      apply List.map_congr_left
      intro m _
      show itL n f t l (j + 1 + m + 1) = itL n f t l (j + (m + 1) + 1)
      rw [show j + 1 + m + 1 = j + (m + 1) + 1 by omega]
theorem level_ids {n : Nat} {f : Nat → Int} {t : Twr} {l : Int} {c : Nat} (h : c ≤ t.A.F.N.toNat) (hp : ∀ m, m < c → 0 ≤ itL n f t l (m + 1)) (he : c = t.A.F.N.toNat ∨ itL n f t l (c + 1) < 0) : levelL n f t l = idsL n f t l c := by
  have := lev_ids n f t l t.A.F.N.toNat 0 c h (fun m hm => by rw [Nat.zero_add]; exact hp m hm) (he.imp id (fun h => by rw [Nat.zero_add]; exact h))
  unfold levelL idsL
  rw [show (-1 : Int) = itL n f t l 0 from rfl, this]
  apply List.map_congr_left
  intro m _
  rw [Nat.zero_add]
structure LBx (w : World) (a b : Nat) (t : Twr) (v : Value) (l : Int) (n : Nat) (f : Nat → Int) : Prop where
  vb : VB w a t v
  lc : w.cell? ⟨b, 0, none⟩ = some (.int .i64 l)
  ws : Wds w v n f
theorem LBx.kept {w w' : World} {a b : Nat} {t : Twr} {v : Value} {l : Int} {n : Nat} {f : Nat → Int} (h : LBx w a b t v l n f) (k : Kept w w') : LBx w' a b t v l n f := ⟨h.vb.kept k, k.some h.lc, h.ws.kept k⟩
theorem loop_ghost {F : Fence} {n : Nat} {P : Program} {Q : Exit → Act → World → Prop} {a : Act} {w : World} {c : Code} (NN : Nat) (Rel : Nat → Act → World → Prop) (h0 : Rel 0 a w)
    (hstep : ∀ k a w, Rel k a w → k < NN ∧ ∀ K : Act → World → Prop, (∀ a' w', Rel (k + 1) a' w' → K a' w') → c.wpIn F n P (Exit.then K Q) a w) : (Code.loop c).wpIn F n P Q a w := by
  have key : ∀ m k a w, Rel k a w → NN ≤ k + m → Code.roundsIn F n P c Q m a w := by
    intro m
    induction m with
    | zero => intro k a w h hk; have := (hstep k a w h).1; omega
    | succ m ih => intro k a w h hk; exact (hstep k a w h).2 _ fun a' w' h' => ih (k + 1) a' w' h' (by omega)
  exact wpIn_loop_rounds NN (key NN 0 a w h0 (by omega))
def LAct (y a b : Nat) (t : Twr) (i : Int) (k : Nat) (x3 x9 x10 x11 x12 x13 x14 x15 x16 x17 x18 x19 x20 x21 x22 x23 x24 x25 : Value) : Act :=
  { tmps := #[.func (.yield y) #[] #[], .pointer (some ⟨a, 0, none⟩), .pointer (some ⟨b, 0, none⟩), x3, .int .i64 i, .pointer (some ⟨a, 0, none⟩), towV t, .int .i64 t.A.F.N, .int .i64 (k : Int), x9, x10, x11, x12, x13, x14, x15, x16, x17, x18, x19, x20, x21, x22, x23, x24, x25], defers := [] }
def LRel (J : List Int → World → Prop) (n : Nat) (f : Nat → Int) (t : Twr) (l : Int) (y a b : Nat) (k : Nat) (A : Act) (w : World) : Prop :=
  k ≤ t.A.F.N.toNat ∧ J (idsL n f t l k) w ∧ ∃ x3 x9 x10 x11 x12 x13 x14 x15 x16 x17 x18 x19 x20 x21 x22 x23 x24 x25, A = LAct y a b t (itL n f t l k) k x3 x9 x10 x11 x12 x13 x14 x15 x16 x17 x18 x19 x20 x21 x22 x23 x24 x25
def LSo (n : Nat) (f : Nat → Int) (t : Twr) (l : Int) (pre : List Int) (x : Int) : Prop := pre = idsL n f t l pre.length ∧ x = itL n f t l (pre.length + 1) ∧ pre.length < t.A.F.N.toNat ∧ 0 ≤ x
def LNn (n : Nat) (f : Nat → Int) (t : Twr) (l : Int) (xs : List Int) : Prop := ∃ k, xs = idsL n f t l k ∧ k ≤ t.A.F.N.toNat ∧ (k = t.A.F.N.toNat ∨ itL n f t l (k + 1) < 0)
set_option maxHeartbeats 4000000 in
theorem level_in (m : Nat) (hm : 1 ≤ m) (y a b : Nat) (t : Twr) (av : Option Addr) (cv : Nat) (l : Int) (hl64 : I64 l) (hN64 : t.A.F.N ≤ 9223372036854775807) (n : Nat) (f : Nat → Int) (hf : Wf n f) (hn : n ≤ 100000) (J Jx : List Int → World → Prop)
    (hJk : ∀ pre W W', J pre W → Kept W W' → J pre W') (hJb : ∀ pre W, J pre W → LBx W a b t (.slice av n cv) l n f)
    (hY : ∀ pre x W, J pre W → LSo n f t l pre x → YieldAt Fence.wide (m - 1) Tryz.prog y #[.int .i64 x] W fun e W' =>
      (e = .returned (.bool true) ∧ J (pre ++ [x]) W') ∨ (e = .returned (.bool false) ∧ Jx (pre ++ [x]) W'))
    (W : World) (h0 : J [] W) :
    CallsIn Fence.wide m Tryz.prog 165 #[.func (.yield y) #[] #[], .pointer (some ⟨a, 0, none⟩), .pointer (some ⟨b, 0, none⟩)] W fun e W' => (∃ v, e = .returned v) ∧
      ((∃ xs, LNn n f t l xs ∧ J xs W') ∨ (∃ pre W1, Jx pre W1 ∧ Kept W1 W')) := by
  refine callsIn_of_wp Tryz.func165 rfl trivial ?_ rfl
  simp only [Tryz.ntmps165, List.size_toArray, List.length_cons, List.length_nil, Nat.reduceAdd, Nat.reduceSub, Array.replicate_succ, Array.replicate_zero, List.push_toArray, List.append_toArray, List.nil_append, List.cons_append]
  rw [wpIn_wide]
  obtain ⟨⟨⟨a0, a1, a2, a3, a4, a5, a6, a7, a8, a9, a10, a11, a12⟩, a13⟩, b0, ws⟩ := hJb _ _ h0
  have HY := Lib.hid hY
  have HK := Lib.hid hJk
  have HB := Lib.hid hJb
  have HF := Lib.hid hf
  have hfm : Tryz.prog.follows .mixedOrders = true := by kernel_rfl
  clear hY hJk hJb hf ws
  go_wp2_with fail
  refine (size_any t _).mono ?_
  rintro e w1 ⟨rfl, k1⟩
  have j1 := HK.out _ _ _ h0 k1
  clear a0 a1 a2 a3 a4 a5 a6 a7 a8 a9 a10 a11 a12 a13 b0 k1 h0
  go_wp2_with fail
  rw [← wpIn_wide (n := m)]
  refine loop_ghost (t.A.F.N.toNat + 1) (LRel J n f t l y a b) ⟨Nat.zero_le _, j1, _, _, _, _, _, _, _, _, _, _, _, _, _, _, _, _, _, _, rfl⟩ ?_
  clear j1
  rintro k _ w ⟨hk, hj, x3, x9, x10, x11, x12, x13, x14, x15, x16, x17, x18, x19, x20, x21, x22, x23, x24, x25, rfl⟩
  refine ⟨by omega, fun K hK => ?_⟩
  unfold LAct
  have BX := Lib.hid (HB.out _ _ hj)
  obtain ⟨⟨⟨a0, a1, a2, a3, a4, a5, a6, a7, a8, a9, a10, a11, a12⟩, a13⟩, b0, ws⟩ := BX.out
  have WS := Lib.hid ws
  clear ws
  by_cases hs : (k : Int) < t.A.F.N
  · obtain ⟨i, hi⟩ : ∃ i, i = itL n f t l k := ⟨_, rfl⟩
    obtain ⟨q, hq⟩ : ∃ q, q = hw n f (nextI t i l) := ⟨_, rfl⟩
    obtain ⟨x, hx⟩ : ∃ x, x = idx t.A.F.N q := ⟨_, rfl⟩
    have q0 : 0 ≤ q := by rw [hq]; exact (hw_in HF.out _).1
    have q1 : q < 18446744073709551616 := by rw [hq]; exact (hw_in HF.out _).2
    have NX : ∀ X, Kept w X → Hid (Calls Tryz.prog 107 #[viewV t (.slice av n cv), .int .i64 i, .int .i64 l] X fun e w' => e = .returned (.int .u64 q) ∧ Kept X w') := fun X kk => Lib.hid (by rw [hq]; exact vnext_any t (WS.out.kept kk) hn i l hl64)
    have RD := fun X => Lib.hid (show Calls Tryz.prog 166 #[towV t, .int .u64 q] X fun e w' => e = .returned (.int .i64 x) ∧ Kept X w' from by rw [hx]; exact tread_any t q q0 q1 X)
    have x0 : -1 ≤ x := by rw [hx]; exact idx_ge _ _ q0
    have eX : x = itL n f t l (k + 1) := by rw [hx, hq, hi]; rfl
    rw [← hi]
    have EX := Lib.hid eX
    have EI := Lib.hid hi
    clear eX hi hx hq
    have KT : Kept w w := Kept.refl _
    gi_wp2_with fail
    gi_region_with_o (first
      | (refine ⟨trivial, ?_⟩; gi_at_call 107; refine (callsIn_wide.2 (NX _ (by first | exact KT | exact KT.drew | exact KT.drewN _)).out).mono ?_; rintro e w2 ⟨rfl, k2⟩; have KT : Kept w w2 := Kept.trans (b := _) (by first | exact KT | exact KT.drew | exact KT.drewN _) k2; obtain ⟨⟨⟨a0, a1, a2, a3, a4, a5, a6, a7, a8, a9, a10, a11, a12⟩, a13⟩, b0, ws⟩ := BX.out.kept KT)
      | (refine ⟨trivial, ?_⟩; gi_at_call 166; refine (callsIn_wide.2 (RD _).out).mono ?_; rintro e w3 ⟨rfl, k3⟩; have KT : Kept w w3 := Kept.trans (b := _) (by first | exact KT | exact KT.drew | exact KT.drewN _) k3; obtain ⟨⟨⟨a0, a1, a2, a3, a4, a5, a6, a7, a8, a9, a10, a11, a12⟩, a13⟩, b0, ws⟩ := BX.out.kept KT))
    all_goals
      have hJ3 := HK.out _ _ _ hj KT
      by_cases hx0 : x = -1
      · subst hx0
        clear NX RD
        gi_wp2
        refine ⟨fun _ h => (by cases h), ?_⟩
        gi_wp2
        exact bodyPost_ret (v := .tuple #[]) (by simp [results, Tryz.results165, go_sem]) rfl ⟨⟨_, rfl⟩, .inl ⟨_, ⟨k, rfl, hk, .inr (by rw [← EX.out]; decide)⟩, hJ3⟩⟩
      · have hx1 : 0 ≤ x := by omega
        obtain ⟨fn, tmps, assign, body, hy, hR⟩ := HY.out (idsL n f t l k) x w3 hJ3 ⟨by rw [idsL_len], by rw [idsL_len]; exact EX.out, by rw [idsL_len]; omega, hx1⟩
        clear NX RD
        gi_wp2
        refine hR.mono ?_
        rintro e W3 (⟨rfl, hJ4⟩ | ⟨rfl, hJx4⟩)
        · have J4 := Lib.hid hJ4
          clear hJ4 hy hR hJ3
          gi_wp2
          refine ⟨by omega, ?_, _, _, _, _, _, _, _, _, _, _, _, _, _, _, _, _, _, _, by rw [← EX.out]; rfl⟩
          rw [idsL_succ, ← EX.out]
          exact J4.out
        · gi_wp2
          exact bodyPost_ret (v := .tuple #[]) (by simp [results, Tryz.results165, go_sem]) rfl ⟨⟨_, rfl⟩, .inr ⟨_, _, hJx4, Kept.refl _⟩⟩
  · have hkN : k = t.A.F.N.toNat := by omega
    have HKN := Lib.hid hkN
    clear hkN hk
    gi_wp2
    go_end0
    exact ⟨⟨_, rfl⟩, .inl ⟨_, ⟨k, rfl, by rw [HKN.out]; exact Nat.le_refl _, .inl HKN.out⟩, hj⟩⟩
end Go.Proofs.YtejiogggocnldaaGreat.Tw
