/- All, the program's: a range over the iterator that collects. -/
import Derived.Test.YtlfdiffbepfgbaaGreatG19
import Derived.Test.YtlfdiffbepfgbaaGreatG20
import Derived.Test.YtlfdiffbepfgbaaGreatProg
import Derived.Test.YtlfdiffbepfgbaaGreatG01
import Derived.WalkLawsBesides
import Derived.Deep.QuietTactic
import Derived.BigQuiet
import Derived.OwnWalk
import Derived.LoopN
import Derived.Lib.Hide
set_option linter.unusedVariables false
set_option linter.unusedSimpArgs false

namespace Go.Proofs.YtlfdiffbepfgbaaGreat.Ri
set_option maxRecDepth 100000
open Go.RowKit Go.Shelf
open Wo (St acc wordAt PMem RefIs)
open Sk (Wd Blk leaves)
attribute [local go_sem] Oper.semAt_some

theorem infoInt : (Tryz.prog.info? 3).map (fun i => (i.zero, i.size, i.bytes)) = some (some (.int .i64 0), 1, 8) := by kernel_rfl
def allLen (n : Nat) (f : Nat → Int) (R : Rng) (h : Int) : Nat → Nat → Nat
  | 0, k => k
  | r + 1, k => if tkB n f R h k = false then k else allLen n f R h r (k + 1)
theorem allLen_eq {n : Nat} {f : Nat → Int} {R : Rng} {h : Int} : ∀ (r j k : Nat), j ≤ k → k ≤ j + r → (∀ i, j ≤ i → i < k → tkB n f R h i = true) → (tkB n f R h k = false ∨ k = j + r) → allLen n f R h r j = k
  | 0, j, k, h1, h2, _, _ => by unfold allLen; omega
  | r + 1, j, k, h1, h2, h3, h4 => by
    unfold allLen
    by_cases e : j = k
    · subst e
      rcases h4 with h4 | h4
      · rw [if_pos h4]
      · omega
    · rw [if_neg (by rw [h3 j (Nat.le_refl _) (by omega)]; simp)]
      exact allLen_eq r (j + 1) k (by omega) (by omega) (fun i _ h' => h3 i (by omega) h') (h4.imp id (fun h => by omega))
def vals (n : Nat) (f : Nat → Int) (R : Rng) (l : List Int) : List Int := l.map fun t => wd n f R t % 65536
def allL (n : Nat) (f : Nat → Int) (R : Rng) : List Int := vals n f R (nums (hv n f R.H) (allLen n f R (hv n f R.H) R.N.toNat 0))
theorem allL_eq {n : Nat} {f : Nat → Int} {R : Rng} {k : Nat} (h2 : k ≤ R.N.toNat) (h3 : ∀ i, i < k → tkB n f R (hv n f R.H) i = true) (h4 : tkB n f R (hv n f R.H) k = false ∨ k = R.N.toNat) : allL n f R = vals n f R (nums (hv n f R.H) k) := by
  unfold allL
  rw [allLen_eq R.N.toNat 0 k (Nat.zero_le _) (by omega) (fun i _ h => h3 i h) (h4.imp id (fun h => by omega))]
def RetI (w : World) (l : List Int) (ed : Ending) (w' : World) : Prop := ∃ a c, ed = .returned (.slice a l.length c) ∧ Kept w w' ∧ w'.ownsRow w.heap.size 3 1 (.slice a l.length c) l.length (ints l)

theorem lay_new {w : World} {g : Nat} {xs : List Value} {n : Nat} {t : TypeId} {fr : Nat × Nat} (h : w.heap[g]? = some (.cells xs.toArray t fr)) (hn : n ≤ 100000) : Lay w (.slice (some ⟨g, 0, none⟩) n n) n xs :=
  .inl (.inr ⟨g, 0, n, rfl, Nat.le_refl _, by unfold maxLen; omega, fun j u hu => by
    have := World.news_of_block h j u (by simpa using hu)
    rwa [add_none] at this⟩)
def appSem (ts : Array TypeId) (ty : TypeId) (args : Array Value) : Sem Value := Builtin.append_ ts ty args
theorem app_named (ts : Array TypeId) (ty : TypeId) (args : Array Value) : Builtin.append_ ts ty args = appSem ts ty args := rfl
attribute [local go_sem ↓] app_named

theorem own_keep {w w' : World} {base : Nat} {e : TypeId} {size : Nat} {v : Value} {n : Nat} {xs : List Value} (h : w.ownsRow base e size v n xs) (k : Kept w w') : w'.ownsRow base e size v n xs := own_same h (fun g hg => k.below.block g (h.lt g hg).2)
theorem int_append {W W5 : World} {N B : Nat} {v : Value} {l : List Int} (hrow : W.ownsRow N 3 1 v l.length (ints l)) (hx : Boxed W B 22 v) (k : Kept W W5) (hN : N ≤ W.heap.size) (hB : B < N) (hl : l.length ≤ 5000) (x : Int) :
    ∃ a c w1, (appSem #[22, 22] 22 #[v, .slice (some ⟨W5.heap.size, 0, none⟩) 1 1]).run Tryz.prog (W5.alloc (.cells #[.int .i64 x] 3)) = .ok (.slice a (l.length + 1) c) w1 ∧
      w1.cell? ⟨B, 0, none⟩ = some v ∧ w1.frozen? ⟨B, 0, none⟩ = false ∧ Boxed (w1.setCell ⟨B, 0, none⟩ (.slice a (l.length + 1) c)) B 22 (.slice a (l.length + 1) c) ∧
      (w1.setCell ⟨B, 0, none⟩ (.slice a (l.length + 1) c)).ownsRow N 3 1 (.slice a (l.length + 1) c) (l ++ [x]).length (ints (l ++ [x])) ∧
      But (fun j => v.ownBlock = some j ∨ j = B) W (w1.setCell ⟨B, 0, none⟩ (.slice a (l.length + 1) c)) := by
  obtain ⟨i0, hi, hz0, hz1, hz2⟩ := info_parts infoInt
  have kA : Kept W (W5.alloc (.cells #[.int .i64 x] 3)) := k.alloc _ _
  obtain ⟨a, c, w1, hr, own, but, at_⟩ := append_lay (P := Tryz.prog) (W5.alloc (.cells #[.int .i64 x] 3)) N 22 22 3 i0 _ 1 8 Tryz.underlying22 hi hz0 hz1 hz2 (by rfl) (by decide) v l.length (ints l) (own_keep hrow kA) (.slice (some ⟨W5.heap.size, 0, none⟩) 1 1) 1 [.int .i64 x]
    rfl (lay_new (heap_alloc_new _ _) (by omega)) (by simp [Value.oneCell']) (by unfold maxLen; omega) (by omega) (by have := k.size; simp; omega)
  rw [app_named] at hr
  have hBW := hx.lt
  have hBW5 := Nat.lt_of_lt_of_le hBW k.size
  have bx1 : Boxed w1 B 22 v := (but.block B (by simp; omega) (fun h => by have := (hrow.lt B h).1; omega)).trans ((kA.below.block B hBW).trans hx)
  have b1 : But (fun j => v.ownBlock = some j ∨ j = B) W w1 := (kA.but _).trans (but.mono fun _ _ h => Or.inl h) (fun _ _ h => h)
  have b2 : But (fun j => v.ownBlock = some j ∨ j = B) W (w1.setCell ⟨B, 0, none⟩ (.slice a (l.length + 1) c)) := b1.setCell (p := ⟨B, 0, none⟩) (Or.inl (Or.inr rfl)) _
  refine ⟨a, c, w1, hr, bx1.cell, bx1.frozen, bx1.set _, ?_, b2⟩
  have := own_same (w' := w1.setCell ⟨B, 0, none⟩ (.slice a (l.length + 1) c)) own (fun g hg => Below.heap_setCell _ _ _ _ (by have := (own.lt g hg).1; simp; omega))
  rw [List.length_append, ints_append]
  exact this

structure AlI (w : World) (L a b N0 : Nat) (R : Rng) (v : Value) (n : Nat) (f : Nat → Int) (pre : List Int) (W : World) : Prop where
  box : ∃ u, Boxed W L 22 u ∧ W.ownsRow (N0 + 2) 3 1 u (vals n f R pre).length (ints (vals n f R pre))
  bx : Boxes W a b R v n f
  st : Boxes W w.heap.size b R v n f
  kept : Kept w W
  sz : N0 ≤ W.heap.size
  pr : pre = nums (hv n f R.H) pre.length ∧ pre.length ≤ R.N.toNat ∧ ∀ i, i < pre.length → tkB n f R (hv n f R.H) i = true
structure AlB (w : World) (L a b N0 : Nat) (v : Value) : Prop where
  hl : L < N0
  ht : w.heap.size < N0
  ha : a < N0
  hb : b < N0
  lt : L ≠ w.heap.size
  la : L ≠ a
  lb : L ≠ b
  hv : ∀ g, v.ownBlock = some g → g < N0 ∧ g ≠ L
  wl : w.heap.size ≤ L
theorem AlI.keep {w : World} {L a b N0 : Nat} {R : Rng} {v : Value} {n : Nat} {f : Nat → Int} {pre : List Int} {W W' : World} (h : AlI w L a b N0 R v n f pre W) (k : Kept W W') (hb : AlB w L a b N0 v) : AlI w L a b N0 R v n f pre W' := by
  obtain ⟨⟨u, h1, h2⟩, h4, h3, h5, h6, h7⟩ := h
  exact ⟨⟨u, (k.below.block _ (by have := hb.hl; omega)).trans h1, own_keep h2 k⟩, h4.kept k, h3.kept k, h5.trans k, Nat.le_trans h6 k.size, h7⟩
theorem AlI.turn {w : World} {L a b N0 : Nat} {R : Rng} {v : Value} {n : Nat} {f : Nat → Int} {pre : List Int} {W : World} {l : Nat} {y y' : Loop} (h : AlI w L a b N0 R v n f pre W) (hb : AlB w L a b N0 v) (hl : N0 ≤ l) (hy : W.heap[l]? = some (.loop y)) : AlI w L a b N0 R v n f pre (W.putObj l (.loop y')) := by
  obtain ⟨⟨u, h1, h2⟩, h4, h3, h5, h6, h7⟩ := h
  have k : But (fun k => k = l) W (W.putObj l (.loop y')) := Sk.but_turned (But.refl _ _) hy rfl rfl (.inl rfl)
  have := hb.hl
  have := hb.ht
  have := hb.ha
  have := hb.hb
  refine ⟨⟨u, (World.putObj_heap_other (by omega)).trans h1, ownsRow_putObj h2 _ hy rfl⟩, h4.but k (by omega) (by omega) (fun g hg e => by have := (hb.hv g hg).1; omega), h3.but k (by omega) (by omega) (fun g hg e => by have := (hb.hv g hg).1; omega), ?_, Nat.le_trans h6 k.size, h7⟩
  exact (Sk.but_turned (h5.but (fun _ => False)) hy rfl rfl (.inr (by omega))).kept fun _ _ h => h

theorem al_round {w W w7 : World} {L C a b N0 n lv cu cv : Nat} {R : Rng} {av au a' : Option Addr} {c' : Nat} {f : Nat → Int} {pre : List Int} {x q : Int} (hBB : AlB w L a b N0 (.slice av n cv)) (hBX : Boxes W a b R (.slice av n cv) n f)
    (s0 : W.cell? ⟨w.heap.size, 0, none⟩ = some (.int .i64 R.H)) (s1 : W.cell? ⟨w.heap.size, 1, none⟩ = some (.int .i64 R.T)) (s2 : W.cell? ⟨w.heap.size, 2, none⟩ = some (.int .i64 R.K)) (s3 : W.cell? ⟨w.heap.size, 3, none⟩ = some (.int .i64 R.N)) (hc6 : W.cell? ⟨C, 0, none⟩ = some (.slice av n cv)) (hC : C < N0) (hCL : L < C)
    (hLV : lv = (vals n f R pre).length) (OWN : W.ownsRow (N0 + 2) 3 1 (.slice au (vals n f R pre).length cu) (vals n f R pre).length (ints (vals n f R pre))) (HKW : Kept w W) (hs2 : N0 ≤ W.heap.size)
    (HPR : pre = nums (hv n f R.H) pre.length ∧ (∀ i, i < pre.length → tkB n f R (hv n f R.H) i = true) ∧ (pre.length : Int) < R.N ∧ tkB n f R (hv n f R.H) pre.length = true ∧ x = num (hv n f R.H) pre.length)
    (HVX : vals n f R (pre ++ [x]) = vals n f R pre ++ [q % 65536])
    (bx7 : Boxed (w7.setCell ⟨L, 0, none⟩ (.slice a' (lv + 1) c')) L 22 (.slice a' (lv + 1) c'))
    (own7 : (w7.setCell ⟨L, 0, none⟩ (.slice a' (lv + 1) c')).ownsRow (N0 + 2) 3 1 (.slice a' (lv + 1) c') (vals n f R pre ++ [q % 65536]).length (ints (vals n f R pre ++ [q % 65536])))
    (but7 : But (fun j => (Value.slice au lv cu).ownBlock = some j ∨ j = L) W (w7.setCell ⟨L, 0, none⟩ (.slice a' (lv + 1) c'))) :
    (AlI w L a b N0 R (.slice av n cv) n f (pre ++ [x]) (w7.setCell ⟨L, 0, none⟩ (.slice a' (lv + 1) c')) ∧ w7.cell? ⟨C, 0, none⟩ = some (.slice av n cv)) ∧ Blk (fun k => k = L ∨ N0 + 1 + 1 ≤ k) W (w7.setCell ⟨L, 0, none⟩ (.slice a' (lv + 1) c')) := by
  have nO : ∀ g, (Value.slice au lv cu).ownBlock = some g → N0 + 2 ≤ g := fun g hg => by rw [← hLV] at OWN; exact (OWN.lt g hg).1
  have BL : Blk (fun k => k = L ∨ N0 + 1 + 1 ≤ k) W (w7.setCell ⟨L, 0, none⟩ (.slice a' (lv + 1) c')) := (Blk.of but7).mono (fun k _ h => h.elim (fun h => .inr (nO k h)) .inl)
  have nB : ∀ j, j < N0 → j ≠ L → ¬ ((Value.slice au lv cu).ownBlock = some j ∨ j = L) := fun j h1 h2 e => e.elim (fun e => by have := nO j e; omega) h2
  have hBX2 := hBX.but but7 (nB _ hBB.ha (fun e => hBB.la e.symm)) (nB _ hBB.hb (fun e => hBB.lb e.symm)) (fun g hg => nB g (hBB.hv g hg).1 (hBB.hv g hg).2)
  have hST2 : Boxes (w7.setCell ⟨L, 0, none⟩ (.slice a' (lv + 1) c')) w.heap.size b R (.slice av n cv) n f := (Boxes.mk s0 s1 s2 s3 hBX.b0 hBX.ws).but but7 (nB _ hBB.ht (fun e => hBB.lt e.symm)) (nB _ hBB.hb (fun e => hBB.lb e.symm)) (fun g hg => nB g (hBB.hv g hg).1 (hBB.hv g hg).2)
  obtain ⟨p1, p3, h3, h4, h5⟩ := HPR
  have hlx : (pre ++ [x]).length = pre.length + 1 := by simp
  have hwl := hBB.wl
  refine ⟨⟨⟨⟨_, bx7, by rw [HVX]; exact own7⟩, hBX2, hST2, ((HKW.but _).trans but7 (fun _ _ h => h)).kept (fun k hk e => e.elim (fun e => by have := nO k e; have := hBB.ht; omega) (fun e => by omega)), Nat.le_trans hs2 but7.size, ?_, ?_, ?_⟩, ?_⟩, BL⟩
  · rw [hlx, nums_succ, ← h5, ← p1]
  · rw [hlx]; omega
  · intro i hi
    rw [hlx] at hi
    by_cases e : i = pre.length
    · rw [e]; exact h4
    · exact p3 i (by omega)
  · have := but7.some hc6 (nB _ hC (by omega))
    rw [cell_set_far _ _ _ _ _ _ (by omega)] at this
    exact this

set_option maxHeartbeats 4000000 in
theorem all_any (R : Rng) (mv : Value) (n : Nat) (f : Nat → Int) (hf : Wf n f) (hn : n ≤ 100000) (w : World) (hg : GivesWords mv n f w) (N1 : 1 ≤ R.N) (N2 : R.N ≤ 4096) :
    Calls Tryz.prog 50 #[ringV R, mv] w (RetI w (allL n f R)) := by
  have HG := Lib.hid hg
  have HF := Lib.hid hf
  have SZ : ∀ W, Hid (Calls Tryz.prog 104 #[ringV R] W fun e w' => e = .returned (.bool true) ∧ Kept W w') := fun W => Lib.hid (by have := sized_any R W; rwa [show decide (1 ≤ R.N ∧ R.N ≤ 4096) = true from by simp; omega] at this)
  clear hg hf
  refine (callsIn_wide (n := 6)).1 ?_
  refine callsIn_of_wp_marks Tryz.func50 rfl trivial ?_ rfl
  simp only [Tryz.ntmps50, List.size_toArray, List.length_cons, List.length_nil, Nat.reduceAdd, Nat.reduceSub, Array.replicate_succ, Array.replicate_zero, List.push_toArray, List.append_toArray, List.nil_append, List.cons_append]
  rw [wpIn_wide]
  go_wp2_with fail
  refine (SZ _).out.mono ?_
  rintro e w1 ⟨rfl, k1⟩
  have a0 : w1.cell? ⟨w.heap.size, 0, none⟩ = some (.int .i64 R.H) := k1.some (by simp)
  have a1 : w1.cell? ⟨w.heap.size, 1, none⟩ = some (.int .i64 R.T) := k1.some (by simp)
  have a2 : w1.cell? ⟨w.heap.size, 2, none⟩ = some (.int .i64 R.K) := k1.some (by simp)
  have a3 : w1.cell? ⟨w.heap.size, 3, none⟩ = some (.int .i64 R.N) := k1.some (by simp)
  have K1 : Hid (Kept w w1) := Lib.hid (((Kept.refl w).alloc _ _).trans k1)
  have z01 : w.heap.size < w1.heap.size := lt_of_cell a0
  clear k1
  go_wp2_with fail
  refine (HG.out _ (K1.out.trans ((Kept.refl _).alloc _ _))).mono ?_
  rintro e w2 ⟨v, rfl, wv, fv, k2⟩
  have bx : Boxed w2 w1.heap.size 22 (.slice none 0 0) := (k2.below.block _ (by simp)).trans (Boxed.new w1 22 (.slice none 0 0))
  have a0 := k2.some (((Kept.refl _).alloc _ _).some a0)
  have a1 := k2.some (((Kept.refl _).alloc _ _).some a1)
  have a2 := k2.some (((Kept.refl _).alloc _ _).some a2)
  have a3 := k2.some (((Kept.refl _).alloc _ _).some a3)
  obtain ⟨av, cv, rfl⟩ := wv.form
  have K2 := Lib.hid (K1.out.trans (((Kept.refl _).alloc _ _).trans k2))
  have z12 : w1.heap.size < w2.heap.size := by have := k2.size; simp at this; omega
  have z01 : w.heap.size < w1.heap.size := z01
  have z02 : w.heap.size < w2.heap.size := by omega
  have FV := Lib.hid fv
  have WV := Lib.hid wv
  have BX := Lib.hid bx
  clear k2 fv wv bx
  go_wp2_with fail
  have kc : Kept w2 (w2.alloc (.cells #[.slice av n cv] 29)) := (Kept.refl _).alloc _ _
  have c6 : (w2.alloc (.cells #[.slice av n cv] 29)).cell? ⟨w2.heap.size, 0, none⟩ = some (.slice av n cv) := cell_new _ _ _ _ 0 rfl
  refine (filled_any R (.slice av n cv) n f _ (WV.out.kept kc)).mono ?_
  rintro e w3 ⟨a, b, rfl, la, lb, ha, hb, bs, k3⟩
  have K3 : Hid (Kept w2 w3) := Lib.hid (kc.trans k3)
  have b0 := K3.out.some a0
  have b1 := K3.out.some a1
  have b2 := K3.out.some a2
  have b3 := K3.out.some a3
  have c6 := k3.some c6
  have z23 : w2.heap.size < w3.heap.size := lt_of_cell c6
  have HB : Hid (AlB w w1.heap.size a b w3.heap.size (.slice av n cv)) := Lib.hid (by
    have la2 : w2.heap.size + 1 ≤ a := by simpa using la
    have lb2 : w2.heap.size + 1 ≤ b := by simpa using lb
    refine ⟨by omega, by omega, ha, hb, by omega, by omega, by omega, fun g hg => ?_, by omega⟩
    have h1 := FV.out g hg
    have h2 : g < w2.heap.size := by
      rcases WV.out with ⟨_, e⟩ | ⟨g', c', e, hlt, _⟩
      · rw [e] at hg; simp [Value.ownBlock] at hg
      · rw [e] at hg
        have : g' = g := by simpa [Value.ownBlock] using hg
        omega
    simp at h1
    omega)
  have HS := Lib.hid bs
  have HT : Hid (Boxes w3 w.heap.size b R (.slice av n cv) n f) := Lib.hid ⟨b0, b1, b2, b3, bs.b0, bs.ws⟩
  have HBx : Hid (Boxed w3 w1.heap.size 22 (.slice none 0 0)) := Lib.hid ((K3.out.below.block _ z12).trans BX.out)
  have HK := Lib.hid (K2.out.trans K3.out)
  have C6 := Lib.hid c6
  clear a0 a1 a2 a3 b0 b1 b2 b3 la lb ha hb bs k3 kc c6 K1 K2 K3 BX WV FV
  go_wp2_with fail
  rename_i K hK0
  rw [← wpIn_wide (n := 6)]
  refine Sk.range_many (Bs := fun k => k = w1.heap.size ∨ w3.heap.size + 1 + 1 ≤ k) (by decide) (gf := 223) (lb := #[.pointer (some ⟨b, 0, none⟩), .pointer (some ⟨a, 0, none⟩)]) rfl (enters_of Tryz.func223 (by kernel_rfl) rfl) (fun x : Int => Value.int .u64 x)
    (fun k h => h.elim (fun h => .inl (by omega)) .inr)
    (fun pre W => AlI w w1.heap.size a b w3.heap.size R (.slice av n cv) n f pre W ∧ W.cell? ⟨w2.heap.size, 0, none⟩ = some (.slice av n cv))
    (fun cd pre W => False)
    (fun pre x => pre = nums (hv n f R.H) pre.length ∧ x = num (hv n f R.H) pre.length ∧ (pre.length : Int) < R.N ∧ tkB n f R (hv n f R.H) pre.length = true) (fun xs => ∃ k, xs = nums (hv n f R.H) k ∧ k ≤ R.N.toNat ∧ (k = R.N.toNat ∨ tkB n f R (hv n f R.H) k = false))
    ?_ ?_ ?_ ?_ ?_ ?_
    (fun x => { tmps := #[.agg #[.int .i64 R.H, .int .i64 R.T, .int .i64 R.K, .int .i64 R.N], mv, .pointer (some ⟨w.heap.size, 0, none⟩), undef, .slice none 0 0, .pointer (some ⟨w1.heap.size, 0, none⟩), .pointer (some ⟨w2.heap.size, 0, none⟩), .int .u64 x, .agg #[.int .i64 R.H, .int .i64 R.T, .int .i64 R.K, .int .i64 R.N], .bool true, .bool false, mv, .slice av n cv, .agg #[.int .i64 R.H, .int .i64 R.T, .int .i64 R.K, .int .i64 R.N], .slice av n cv, .func (.func 223) #[] #[.pointer (some ⟨b, 0, none⟩), .pointer (some ⟨a, 0, none⟩)], .int .u64 x, undef, undef, undef, undef, undef, undef, undef, undef, undef, undef], defers := [] }) ?_ ?_ ?_ ?_
  · exact fun W k => ⟨⟨⟨_, (k.below.block _ (by omega)).trans HBx.out, World.ownsRow_nil _ _ _ _⟩, HS.out.kept k, HT.out.kept k, HK.out.trans k, k.size, rfl, Nat.zero_le _, fun i h => absurd h (Nat.not_lt_zero _)⟩, k.some C6.out⟩
  · exact fun pre W W' h k => ⟨h.1.keep k HB.out, k.some h.2⟩
  · intro pre W l y y' hl hy h
    have k : But (fun k => k = l) W (W.putObj l (.loop y')) := Sk.but_turned (But.refl _ _) hy rfl rfl (.inl rfl)
    exact ⟨h.1.turn HB.out (by omega) hy, k.some h.2 (by omega)⟩
  · exact fun cd pre W W' h k => h
  · exact fun cd pre W l y y' hl hy h => h
  · intro l W0 J Jx k0 z0 hl hJk hJb hY h0
    exact filled_in 5 (by decide) l a b R (.slice av n cv) n f HF.out hn N1 N2 J Jx hJk (fun pre W h => (hJb pre W h).1.1.bx) hY W0 h0
  · intro l x W K hK
    gi_wp2
    exact hK
  · intro l pre x W hI hso hsz hbut
    obtain ⟨⟨⟨u, hu, hrow⟩, hbx, hst, hk, hs2, hpr1, hpr2, hpr3⟩, hc6⟩ := hI
    obtain ⟨hso1, hso2, hso3, hso4⟩ := hso
    obtain ⟨t, ht⟩ : ∃ t, t = num (hv n f R.H) pre.length := ⟨_, rfl⟩
    have htx : x = t := hso2.trans ht.symm
    subst htx
    have t0 : 0 ≤ x := by rw [ht]; exact num_lo _ _
    have t1 : x < 18446744073709551616 := by rw [ht]; exact num_hi _ _
    obtain ⟨q, hq⟩ : ∃ q, q = wd n f R x := ⟨_, rfl⟩
    have q0 : 0 ≤ q := by rw [hq]; exact (hv_in HF.out _).1
    have q1 : q < 18446744073709551616 := by rw [hq]; exact (hv_in HF.out _).2
    obtain ⟨s0, s1, s2, s3, s4, s5⟩ := hst
    have ST := Lib.hid s5
    have CE := fun X => Lib.hid (cell_wrap R x X N1 N2 t0 t1)
    have HE : ∀ X, Hid (Kept W X → Calls Tryz.prog 132 #[.slice av n cv, .int .i64 (wrap64 (cell R x))] X fun e w' => e = .returned (.int .u64 q) ∧ Kept X w') := fun X => Lib.hid (fun kk => by rw [hq]; exact held_any (ST.out.kept kk) HF.out hn _)
    have VA := fun X => Lib.hid (value_any q X q0 q1)
    have hvx : vals n f R (pre ++ [x]) = vals n f R pre ++ [q % 65536] := by simp [vals, hq]
    have hlv : (vals n f R pre).length = pre.length := by simp [vals]
    have hNN : (w3.heap.size + 2) ≤ W.heap.size := hsz
    have hBL : w1.heap.size < w3.heap.size + 2 := by omega
    have hl5 : (vals n f R pre).length ≤ 5000 := by rw [hlv]; omega
    have APP := Lib.hid (fun W5 (k : Kept W W5) => int_append hrow hu k hNN hBL hl5 (q % 65536))
    have hcell := hu.cell
    obtain ⟨au, cu, rfl⟩ := own_form hrow
    have OWN := Lib.hid hrow
    have HU := Lib.hid hu
    have HVX := Lib.hid hvx
    have HBX := Lib.hid hbx
    have HKW := Lib.hid hk
    have HPR := Lib.hid (And.intro hpr1 (And.intro hpr3 (And.intro hso3 (And.intro hso4 ht))))
    generalize wrap64 (cell R x) = ce at *
    clear hrow hu hvx hbx hk hpr1 hpr2 hpr3 hso1 hso2 hso3 hso4 ht hq hbut hlv s5
    obtain ⟨lv, hlv⟩ : ∃ lv, lv = (vals n f R pre).length := ⟨_, rfl⟩
    rw [← hlv] at hcell
    have HLV := Lib.hid hlv
    simp only [← hlv] at APP
    clear hlv
    have hfm : Tryz.prog.follows .mixedOrders = true := by kernel_rfl
    have KT : Kept W W := Kept.refl _
    gi_wp2_with fail
    have s0' := s0
    have s1' := s1
    have s2' := s2
    have s3' := s3
    have hc6' := hc6
    have hcell' := hcell
    have hltl := lt_of_cell hcell
    gi_region_with_o (first
      | (refine ⟨trivial, ?_⟩; gi_at_call 133; refine (CallsIn.inRound l (callsIn_wide.2 (CE _).out)).mono ?_; rintro e w4 ⟨rfl, k4⟩; have KT : Kept W w4 := Kept.trans (b := _) (by first | exact KT | exact KT.drew | exact KT.drewN _) k4; have s0 := KT.some s0'; have s1 := KT.some s1'; have s2 := KT.some s2'; have s3 := KT.some s3'; have hc6 := KT.some hc6'; have hcell := KT.some hcell'; have hltl := lt_of_cell hcell)
      | (refine ⟨trivial, ?_⟩; gi_at_call 132; refine (CallsIn.inRound l (callsIn_wide.2 ((HE _).out (by first | exact KT | exact KT.drew | exact KT.drewN _)))).mono ?_; rintro e w5 ⟨rfl, k5⟩; have KT : Kept W w5 := Kept.trans (b := _) (by first | exact KT | exact KT.drew | exact KT.drewN _) k5; have s0 := KT.some s0'; have s1 := KT.some s1'; have s2 := KT.some s2'; have s3 := KT.some s3'; have hc6 := KT.some hc6'; have hcell := KT.some hcell'; have hltl := lt_of_cell hcell)
      | (refine ⟨trivial, ?_⟩; gi_at_call 134; refine (CallsIn.inRound l (callsIn_wide.2 (VA _).out)).mono ?_; rintro e w6 ⟨rfl, k6⟩; have KT : Kept W w6 := Kept.trans (b := _) (by first | exact KT | exact KT.drew | exact KT.drewN _) k6; have s0 := KT.some s0'; have s1 := KT.some s1'; have s2 := KT.some s2'; have s3 := KT.some s3'; have hc6 := KT.some hc6'; have hcell := KT.some hcell'; have hltl := lt_of_cell hcell; obtain ⟨a', c', w7, hrun, hc7, hf7, bx7, own7, but7⟩ := APP.out w6 KT))
    all_goals gi_wp2
    all_goals exact al_round HB.out HBX.out s0' s1' s2' s3' hc6' z23 z12 HLV.out OWN.out HKW.out hs2 HPR.out HVX.out bx7 own7 but7
  · intro D xs W hN hI hbut hD hd
    obtain ⟨⟨⟨u, hu, hrow⟩, hbx, hst, hk, hs2, hpr1, hpr2, hpr3⟩, hc6⟩ := hI
    obtain ⟨k, hx, hkN, hneg⟩ := hN
    have hl : xs.length = k := by rw [hx]; exact nums_length _ _
    have hc : allL n f R = vals n f R xs := by
      rw [hx]
      exact allL_eq hkN (by rw [← hl]; exact hpr3) (hneg.symm)
    have hDw : w.heap.size ≤ D := by omega
    have bD : Blk (fun _ => False) w (W.putObj D (.deferred none)) := Blk.turned (Blk.of (hk.but _)) hd (Or.inr hDw)
    have kD : Kept w (W.putObj D (.deferred none)) := bD.kept (fun _ _ h => h)
    have HCN := Lib.hid hc
    clear hc hl hx hneg hpr1 hpr2 hpr3 hst hbx hkN
    apply hK0
    have hcell := hu.cell
    go_wp2
    obtain ⟨a', c', rfl⟩ := own_form hrow
    refine ⟨by simp, .inl ⟨_, _, rfl, run_takeDeferred hd, ?_⟩⟩
    rw [HCN.out]
    exact ⟨.slice a' (vals n f R xs).length c', by simp [results, Tryz.results50, go_sem], a', c', rfl, kD, own_mono (ownsRow_putObj hrow _ hd rfl) (by omega)⟩
  · intro D cd xs W hI hbut hD hd
    exact hI.elim
end Go.Proofs.YtlfdiffbepfgbaaGreat.Ri

namespace Go.Proofs.YtlfdiffbepfgbaaGreat
open Go.RowKit

set_option maxHeartbeats 1000000 in
theorem sameInts_yes (a a' : Option Addr) (n c c' : Nat) (f : Nat → Int) (w : World) (hn : n ≤ 9223372036854775807) (h : Reads w a n f) (h' : Reads w a' n f) :
    Calls Tryz.prog 51 #[.slice a n c, .slice a' n c'] w fun e w' => e = .returned (.bool true) ∧ Kept w w' := by
  by_cases h0 : n = 0
  · subst h0
    clear h h' hn
    go_enter Tryz.func51, Tryz.ntmps51
    go_wp2
    go_loopw [5, 6] (fun s i wr => s = .bool true ∧ i = .int .i64 0 ∧ wr = w) (fun _ _ _ => 0)
    case atStart => exact ⟨rfl, rfl, rfl⟩
    case round =>
      obtain ⟨rfl, rfl, rfl⟩ := hrel
      go_wp2
      go_ret
      exact ⟨rfl, Kept.refl _⟩
  · obtain ⟨b, o, rfl, hc⟩ := h.resolve_left h0
    obtain ⟨b', o', rfl, hc'⟩ := h'.resolve_left h0
    have HC := Lib.hid hc
    have HC' := Lib.hid hc'
    clear hc hc' h h'
    go_enter Tryz.func51, Tryz.ntmps51
    go_wp2
    go_loopw [5, 6] (fun s i wr => ∃ k : Nat, k ≤ n ∧ s = .bool true ∧ i = .int .i64 k ∧ (∃ q, wr = w.drewN q)) (fun _ i _ => n - (intOf i).toNat)
    case atStart => exact ⟨0, Nat.zero_le _, rfl, rfl, 0, rfl⟩
    case round =>
      obtain ⟨k, hk, rfl, rfl, q, rfl⟩ := hrel
      by_cases hlt : k < n
      · have h1 := HC.out k hlt
        have h2 := HC'.out k hlt
        go_wp2
        go_quiet (fail)
        go_wp2
        go_roundw
        case rel => exact ⟨k + 1, by omega, rfl, by go_num, q + nq, rfl⟩
        case measure => simp [intOf]; omega
      · go_wp2
        go_ret
        exact ⟨rfl, (Kept.refl _).drewN _⟩

theorem tmod_up (x n : Int) (hn : 0 < n) (hn' : n ≤ 1000000) (h : x.tmod n < 0) : wrap64 (x.tmod n + n) = x % n := by
  have e := Int.tmod_eq_emod (a := x) (b := n)
  have h1 := Int.emod_nonneg x (show n ≠ 0 by omega)
  have h2 := Int.emod_lt_of_pos x hn
  unfold wrap64
  split at e <;> omega
theorem tmod_at (x n : Int) (hn : 0 < n) (h : 0 ≤ x.tmod n) : x.tmod n = x % n := by
  have e := Int.tmod_eq_emod (a := x) (b := n)
  have h1 := Int.emod_nonneg x (show n ≠ 0 by omega)
  have h2 := Int.emod_lt_of_pos x hn
  split at e <;> omega

set_option maxHeartbeats 400000 in
theorem pick_any (x n : Int) (hn : 1 ≤ n) (hn' : n ≤ 1000000) (w : World) :
    Calls Tryz.prog 12 #[.int .i64 x, .int .i64 n] w fun e w' => e = .returned (.int .i64 (x % n)) ∧ w = w' := by
  go_enter Tryz.func12, Tryz.ntmps12
  go_wp2
  · rename_i _ h
    go_ret
    exact ⟨by show Ending.returned (.int .i64 (wrap64 (x.tmod n + n))) = _; rw [tmod_up x n (by omega) hn' h], rfl⟩
  · rename_i _ h
    go_ret
    exact ⟨by show Ending.returned (.int .i64 (x.tmod n)) = _; rw [tmod_at x n (by omega) h], rfl⟩

set_option maxHeartbeats 1000000 in
theorem overInts_any (b c n : Nat) (f : Nat → Int) (w : World) (hn : n ≤ 9223372036854775807)
    (hc : ∀ i, i < n → w.cell? ⟨b, i, none⟩ = some (.int .i64 (f i))) (hb0 : b < w.heap.size) (hf : ∀ i, w.frozen? ⟨b, i, none⟩ = false) :
    Calls Tryz.prog 53 #[.slice (some ⟨b, 0, none⟩) n c] w fun e w' => e = .returned (.tuple #[]) ∧ But (fun k => k = b) w w' := by
  have HC := Lib.hid hc
  clear hc
  go_enter Tryz.func53, Tryz.ntmps53
  go_wp2
  go_loopw [2] (fun i wr => ∃ k : Nat, k ≤ n ∧ i = .int .i64 k ∧ But (fun k => k = b) w wr ∧ (∀ i, k ≤ i → i < n → wr.cell? ⟨b, i, none⟩ = some (.int .i64 (f i)))) (fun i _ => n - (intOf i).toNat)
  case atStart => exact ⟨0, Nat.zero_le _, rfl, But.refl _ _, fun i _ h => HC.out i h⟩
  case round =>
    obtain ⟨k, hk, rfl, hb, hr⟩ := hrel
    have HR := Lib.hid hr
    clear hr
    by_cases hlt : k < n
    · have h1 := HR.out k (Nat.le_refl _) hlt
      have h2 : wr.frozen? ⟨b, k, none⟩ = false := hb.soft hb0 (hf _)
      go_wp2
      go_roundw
      case rel => exact ⟨k + 1, by omega, by go_num, hb.setCell (Or.inl rfl) _, fun i h h' => by
        rw [World.cell?_setCell_other _ _ _ _ (by simp <;> omega)]
        exact HR.out i (by omega) h'⟩
      case measure => simp [intOf]; omega
    · go_wp2
      go_end0
      exact ⟨rfl, hb⟩

set_option maxHeartbeats 1000000 in
theorem copyInts_any (a : Option Addr) (n c : Nat) (f : Nat → Int) (w : World) (hn : n ≤ 1000000) (h : Row w a n c f) :
    Calls Tryz.prog 206 #[.slice a n c] w fun e w' => ∃ b C, e = .returned (.slice (some ⟨b, 0, none⟩) n C) ∧ Kept w w' ∧ Made w w' b n C f := by
  have H := Lib.hid h
  clear h
  go_enter Tryz.func206, Tryz.ntmps206
  go_wp2_with (at_builtin; refine wpList_copy rfl _ _ rfl w a n c f H.out hn rfl rfl ?_; rintro b C W' hk hm)
  go_ret
  exact ⟨b, C, rfl, hk, hm⟩
theorem make_ints (n : Nat) (hn : n ≤ 1000000) : ∃ Z : Array Value, (∀ i, i < n → Z[i]? = some (.int .i64 0)) ∧
    ∀ w : World, (Instr.makeSlice 22 (.int .i64 (n : Int)) (.int .i64 (n : Int))).run Tryz.prog w = .ok (.slice (some ⟨w.heap.size, 0, none⟩) n n) (w.alloc (.cells Z 3)) := by
  obtain ⟨i0, hi, hz0, hz1, hz2⟩ := info_parts infoInt
  refine ⟨madeCells #[.int .i64 0] n, fun i h => ?_, fun w => ?_⟩
  · have e : (madeCells #[.int .i64 0] n)[i]? = (madeCells #[.int .i64 0] n).toList[i]? := by simp
    rw [e, toList_madeCells_one]
    simp [h]
  · have h := run_makeSlice (P := Tryz.prog) w 22 3 i0 (.int .i64 0) Tryz.underlying22 hi hz0 .i64 .i64 (n : Int) (n : Int) (by omega) (Int.le_refl _) (by rw [hz1]; omega) (by rw [hz2]; omega) (by omega)
    rw [h, hz1]
    simp [Value.cells]
end Go.Proofs.YtlfdiffbepfgbaaGreat
