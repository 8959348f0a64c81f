/- tower's Fits, the program's. Written by gen15u.py. -/
import Derived.Test.YtejiogggocnldaaGreatG17
import Derived.Test.YtejiogggocnldaaGreatG18
import Derived.Deep.DeepCutAuto
import Derived.Deep.RegionHeld3
set_option linter.unusedVariables false
set_option linter.unusedSimpArgs false

namespace Go.Proofs.YtejiogggocnldaaGreat.Tw
set_option maxRecDepth 20000
open Go.RowKit
open Wo (St acc wordAt PMem RefIs)
open Sk (Stk Arn idx Wd fitsA fitsA_ok pfitsA_any)

set_option maxHeartbeats 400000 in
theorem twithin_yes (f m n : Int) (m0 : 0 ≤ m) (m1 : m ≤ 10000) (n0 : 1 ≤ n) (n1 : n ≤ 4096) (h1 : f ≤ n - m) (w : World) : Calls Tryz.prog 71 #[.agg #[.int .i64 f, .int .i64 m], .int .i64 n] w fun e w' => e = .returned (.bool true) ∧ Kept w w' := by
  go_enter Tryz.func71, Tryz.ntmps71
  go_wp2
  go_ret
  exact ⟨rfl, by (go_light; repeat (first | (with_reducible exact Kept.refl _) | (with_reducible assumption) | (with_reducible refine Kept.alloc ?_ _ _) | (with_reducible refine Kept.drew ?_) | (with_reducible refine Kept.drewN ?_ _) | ((with_reducible refine Kept.setCell ?_ ?_ _); rotate_left; focus (first | (simp; done) | (simp; omega))) | refine Kept.trans ?_ (by assumption)))⟩
set_option maxHeartbeats 400000 in
theorem twithin_no (f m n : Int) (m0 : 0 ≤ m) (m1 : m ≤ 10000) (n0 : 1 ≤ n) (n1 : n ≤ 4096) (h1 : n - m < f) (w : World) : Calls Tryz.prog 71 #[.agg #[.int .i64 f, .int .i64 m], .int .i64 n] w fun e w' => e = .returned (.bool false) ∧ Kept w w' := by
  have d : decide (f ≤ n - m) = false := by simp; omega
  go_enter Tryz.func71, Tryz.ntmps71
  go_wp2
  go_ret
  exact ⟨rfl, by (go_light; repeat (first | (with_reducible exact Kept.refl _) | (with_reducible assumption) | (with_reducible refine Kept.alloc ?_ _ _) | (with_reducible refine Kept.drew ?_) | (with_reducible refine Kept.drewN ?_ _) | ((with_reducible refine Kept.setCell ?_ ?_ _); rotate_left; focus (first | (simp; done) | (simp; omega))) | refine Kept.trans ?_ (by assumption)))⟩
set_option maxHeartbeats 2000000 in
theorem lspans_any (t : Twr) (w : World) : Calls Tryz.prog 73 #[limV t] w fun e w' => ∃ g, e = .returned (.slice (some ⟨g, 0, none⟩) 7 7) ∧ SpAt w' g (lparts t) ∧ Kept w w' := by
  go_enter Tryz.func73, Tryz.ntmps73
  go_wp2
  go_ret
  exact ⟨_, rfl, spat_new _ _ _ (by simp) t, by (go_light; repeat (first | (with_reducible exact Kept.refl _) | (with_reducible assumption) | (with_reducible refine Kept.alloc ?_ _ _) | (with_reducible refine Kept.drew ?_) | (with_reducible refine Kept.drewN ?_ _) | ((with_reducible refine Kept.setCell ?_ ?_ _); rotate_left; focus (first | (simp; done) | (simp; omega))) | refine Kept.trans ?_ (by assumption)))⟩
def tparts (t : Twr) : List Spn := [(t.D, t.A.F.N * (4 + t.G)), (t.H, t.G)]
noncomputable def apT (t : Twr) : Bool := @decide (ApFrom (tparts t) (lparts t) 2) (Classical.propDecidable _)
theorem apT_iff (t : Twr) : apT t = true ↔ ApFrom (tparts t) (lparts t) 2 := by unfold apT; simp
theorem tparts_ok {t : Twr} (h : t.Sound) : ∀ s ∈ tparts t, Spn.Ok s := by
  have h1 := size_hi h
  have h2 := size_lo h
  have h3 := h.G1
  have h4 := h.G2
  have h5 := h.D1
  have h6 := h.D2
  have h7 := h.H1
  have h8 := h.H2
  intro s hs
  simp only [tparts, List.mem_cons, List.not_mem_nil, or_false] at hs
  unfold Spn.Ok
  rcases hs with rfl | rfl <;> (dsimp only; omega)
set_option maxHeartbeats 2000000 in
theorem tfits_l (t : Twr) (n : Int) (er : Int) (h : er ≠ 0) (hl : fitsL t n = er) (w : World) : Calls Tryz.prog 10 #[towV t, .int .i64 n] w fun e w' => e = .returned (.int .i64 er) ∧ Kept w w' := by
  have LF := fun W => Lib.hid (show Calls Tryz.prog 65 #[limV t, .int .i64 n] W fun e w' => e = .returned (.int .i64 er) ∧ Kept W w' from by have := lfits_any t n W; rwa [hl] at this)
  have hb : (er != 0) = true := by simpa using h
  clear hl h
  go_enter Tryz.func10, Tryz.ntmps10
  go_wp2_with fail
  refine ((LF _).out).mono ?_
  rintro e w1 ⟨rfl, k1⟩
  have KK : Hid (Kept w w1) := Lib.hid (((Kept.refl w).alloc _ _).trans k1)
  have TT := Lib.hid (TB.kept (TB.new w w.heap.size 31 rfl t) k1)
  clear k1
  obtain ⟨a0, a1, a2, a3, a4, a5, a6, a7, a8, a9, a10, a11, a12⟩ := TT.out
  have lz := lt_of_cell a0
  go_wp2
  go_ret
  exact ⟨rfl, KK.out⟩
set_option maxHeartbeats 2000000 in
theorem tfits_s (t : Twr) (n : Int) (hl : fitsL t n = 0) (hs : ¬ t.Sound) (w : World) : Calls Tryz.prog 10 #[towV t, .int .i64 n] w fun e w' => e = .returned (.int .i64 2) ∧ Kept w w' := by
  have LF := fun W => Lib.hid (show Calls Tryz.prog 65 #[limV t, .int .i64 n] W fun e w' => e = .returned (.int .i64 0) ∧ Kept W w' from by have := lfits_any t n W; rwa [hl] at this)
  have SN := fun W => Lib.hid (sound_no t hs W)
  clear hl hs
  go_enter Tryz.func10, Tryz.ntmps10
  go_wp2_with fail
  refine ((LF _).out).mono ?_
  rintro e w1 ⟨rfl, k1⟩
  have KK : Hid (Kept w w1) := Lib.hid (((Kept.refl w).alloc _ _).trans k1)
  have TT := Lib.hid (TB.kept (TB.new w w.heap.size 31 rfl t) k1)
  clear k1
  obtain ⟨a0, a1, a2, a3, a4, a5, a6, a7, a8, a9, a10, a11, a12⟩ := TT.out
  have lz := lt_of_cell a0
  go_wp2_with fail
  refine ((SN _).out).mono ?_
  rintro e w2 ⟨rfl, k2⟩
  have TT := Lib.hid (TT.out.kept (Kept.trans (b := _) (by first | exact Kept.refl _ | (go_light; repeat (first | (with_reducible exact Kept.refl _) | (with_reducible assumption) | (with_reducible refine Kept.alloc ?_ _ _) | (with_reducible refine Kept.drew ?_) | (with_reducible refine Kept.drewN ?_ _) | ((with_reducible refine Kept.setCell ?_ ?_ _); rotate_left; focus (first | (simp; done) | (simp; omega))) | refine Kept.trans ?_ (by assumption)))) k2))
  have KK : Hid (Kept w w2) := Lib.hid (KK.out.trans (Kept.trans (b := _) (by first | exact Kept.refl _ | (go_light; repeat (first | (with_reducible exact Kept.refl _) | (with_reducible assumption) | (with_reducible refine Kept.alloc ?_ _ _) | (with_reducible refine Kept.drew ?_) | (with_reducible refine Kept.drewN ?_ _) | ((with_reducible refine Kept.setCell ?_ ?_ _); rotate_left; focus (first | (simp; done) | (simp; omega))) | refine Kept.trans ?_ (by assumption)))) k2))
  clear k2 a0 a1 a2 a3 a4 a5 a6 a7 a8 a9 a10 a11 a12 lz
  obtain ⟨a0, a1, a2, a3, a4, a5, a6, a7, a8, a9, a10, a11, a12⟩ := TT.out
  have lz := lt_of_cell a0
  go_wp2
  go_ret
  exact ⟨rfl, KK.out⟩
theorem tb_all {w : World} {b : Nat} {t : Twr} (h : TB w b t) : w.cell? ⟨b, 0, none⟩ = some (.int .i64 t.D) ∧ w.cell? ⟨b, 1, none⟩ = some (.int .i64 t.H) ∧ w.cell? ⟨b, 2, none⟩ = some (.int .i64 t.G) ∧ w.cell? ⟨b, 3, none⟩ = some (.int .i64 t.A.F.T) ∧ w.cell? ⟨b, 4, none⟩ = some (.int .i64 t.A.F.K) ∧ w.cell? ⟨b, 5, none⟩ = some (.int .i64 t.A.F.N) ∧ w.cell? ⟨b, 6, none⟩ = some (.int .i64 t.A.G) ∧ w.cell? ⟨b, 7, none⟩ = some (.int .i64 t.A.V) ∧ w.cell? ⟨b, 8, none⟩ = some (.int .i64 t.A.L) ∧ w.cell? ⟨b, 9, none⟩ = some (.int .i64 t.E.T) ∧ w.cell? ⟨b, 10, none⟩ = some (.int .i64 t.E.K) ∧ w.cell? ⟨b, 11, none⟩ = some (.int .i64 t.E.N) ∧ w.cell? ⟨b, 12, none⟩ = some (.int .i64 t.P) := ⟨h.c0, h.c1, h.c2, h.c3, h.c4, h.c5, h.c6, h.c7, h.c8, h.c9, h.c10, h.c11, h.c12⟩
theorem TB.stores {w : World} {b : Nat} {t : Twr} (h : TB w b t) {c : Nat} (hc : b ≠ c) (u v : Value) : TB ((w.setCell ⟨c, 0, none⟩ u).setCell ⟨c, 1, none⟩ v) b t := h.but (S := fun j => j = c) (((But.refl _ _).here _ _).here _ _) hc
structure Z2 (w : World) (b : Nat) : Prop where
  c0 : w.cell? ⟨b, 0, none⟩ = some (.int .i64 0)
  c1 : w.cell? ⟨b, 1, none⟩ = some (.int .i64 0)
  f : ∀ i, w.frozen? ⟨b, i, none⟩ = false
theorem Z2.kept {w w' : World} {b : Nat} (h : Z2 w b) (k : Kept w w') : Z2 w' b := ⟨k.some h.c0, k.some h.c1, fun i => k.soft (lt_of_cell h.c0) (h.f i)⟩
theorem Z2.new (w : World) (t : TypeId) : Z2 (w.alloc (.cells #[.int .i64 0, .int .i64 0] t)) w.heap.size := ⟨cell_new _ _ _ _ 0 rfl, cell_new _ _ _ _ 1 rfl, fun i => by simp⟩
structure S2 (w : World) (b : Nat) (f m : Int) : Prop where
  c0 : w.cell? ⟨b, 0, none⟩ = some (.int .i64 f)
  c1 : w.cell? ⟨b, 1, none⟩ = some (.int .i64 m)
theorem S2.kept {w w' : World} {b : Nat} {f m : Int} (h : S2 w b f m) (k : Kept w w') : S2 w' b f m := ⟨k.some h.c0, k.some h.c1⟩
section
variable {Q x : World} {t u : TypeId}
theorem nb1 (y : Kept (Q.alloc (.cells #[.int .i64 0, .int .i64 0] t)) x) : Z2 x Q.heap.size := (Z2.new Q t).kept y
theorem nb1a (y : Kept (Q.alloc (.cells #[.int .i64 0, .int .i64 0] t)).drew x) : Z2 x Q.heap.size := ((Z2.new Q t).kept (Kept.refl _).drew).kept y
theorem nb2 (y : Kept ((Q.alloc (.cells #[.int .i64 0, .int .i64 0] t)).alloc (.cells #[.int .i64 0, .int .i64 0] u)) x) : Z2 x Q.heap.size ∧ Z2 x (Q.heap.size + 1) :=
  ⟨((Z2.new Q t).kept ((Kept.refl _).alloc _ _)).kept y, by have := nb1 y; simpa using this⟩
theorem nb2a (y : Kept ((Q.alloc (.cells #[.int .i64 0, .int .i64 0] t)).drew.alloc (.cells #[.int .i64 0, .int .i64 0] u)) x) : Z2 x Q.heap.size ∧ Z2 x (Q.heap.size + 1) :=
  ⟨((Z2.new Q t).kept (((Kept.refl _).drew).alloc _ _)).kept y, by have := nb1 y; simpa using this⟩
theorem nb2b (y : Kept ((Q.alloc (.cells #[.int .i64 0, .int .i64 0] t)).alloc (.cells #[.int .i64 0, .int .i64 0] u)).drew x) : Z2 x Q.heap.size ∧ Z2 x (Q.heap.size + 1) := nb2 ((Kept.refl _).drew.trans y)
theorem nb2c (y : Kept ((Q.alloc (.cells #[.int .i64 0, .int .i64 0] t)).drew.alloc (.cells #[.int .i64 0, .int .i64 0] u)).drew x) : Z2 x Q.heap.size ∧ Z2 x (Q.heap.size + 1) := nb2a ((Kept.refl _).drew.trans y)
end
def SpCut (W : World) (D q H G : Int) (g1 g2 : Value) (wx : World) : Prop := ∃ b1 b2, g1 = .pointer (some ⟨b1, 0, none⟩) ∧ g2 = .pointer (some ⟨b2, 0, none⟩) ∧ S2 wx b1 D q ∧ S2 wx b2 H G ∧ Kept W wx

theorem twithin_any (f m n : Int) (m0 : 0 ≤ m) (m1 : m ≤ 10000) (n0 : 1 ≤ n) (n1 : n ≤ 4096) (w : World) : Calls Tryz.prog 71 #[.agg #[.int .i64 f, .int .i64 m], .int .i64 n] w fun e w' => e = .returned (.bool (decide (f ≤ n - m))) ∧ Kept w w' := by
  by_cases h : f ≤ n - m
  · rw [decide_eq_true h]; exact twithin_yes f m n m0 m1 n0 n1 h w
  · rw [decide_eq_false h]; exact twithin_no f m n m0 m1 n0 n1 (by omega) w
theorem c_new0 {w : World} {b : Nat} {u v : Value} {ty : TypeId} (hb : b = w.heap.size) : (w.alloc (.cells #[u, v] ty)).cell? ⟨b, 0, none⟩ = some u := cell_new _ _ _ _ 0 hb
theorem c_new1 {w : World} {b : Nat} {u v : Value} {ty : TypeId} (hb : b = w.heap.size) : (w.alloc (.cells #[u, v] ty)).cell? ⟨b, 1, none⟩ = some v := cell_new _ _ _ _ 1 hb
theorem c_hit {w : World} {b o : Nat} {u v : Value} (h : w.cell? ⟨b, o, none⟩ = some v) : (w.setCell ⟨b, o, none⟩ u).cell? ⟨b, o, none⟩ = some u := by rw [cell_set, if_pos rfl, h]; rfl
theorem c_same {w : World} {b o o' : Nat} {u v : Value} (h : w.cell? ⟨b, o, none⟩ = some v) (ho : o' ≠ o) : (w.setCell ⟨b, o', none⟩ u).cell? ⟨b, o, none⟩ = some v := by rw [cell_set, if_neg ho]; exact h
theorem c_other {w : World} {b c o o' : Nat} {u v : Value} (h : w.cell? ⟨b, o, none⟩ = some v) (ho : b ≠ c) : (w.setCell ⟨c, o', none⟩ u).cell? ⟨b, o, none⟩ = some v := ((But.refl (fun j => j = c) w).here o' u).some h ho
theorem c_alloc {w : World} {b o : Nat} {v : Value} {x : Array Value} {ty : TypeId} (h : w.cell? ⟨b, o, none⟩ = some v) : (w.alloc (.cells x ty)).cell? ⟨b, o, none⟩ = some v := ((Kept.refl w).alloc _ _).some h
theorem rel_nn1 {W x : World} {D q H G : Int} {ty tz : TypeId} (k : Kept W x) : SpCut W D q H G (.pointer (some ⟨x.heap.size, 0, none⟩)) (.pointer (some ⟨x.heap.size + 1, 0, none⟩)) ((x.alloc (.cells #[.int .i64 D, .int .i64 q] ty)).alloc (.cells #[.int .i64 H, .int .i64 G] tz)) :=
  ⟨_, _, rfl, rfl, ⟨c_alloc (c_new0 rfl), c_alloc (c_new1 rfl)⟩, ⟨c_new0 (by simp), c_new1 (by simp)⟩, (k.alloc _ _).alloc _ _⟩
theorem rel_nn2 {W x : World} {D q H G : Int} {ty tz : TypeId} (k : Kept W x) : SpCut W D q H G (.pointer (some ⟨x.heap.size + 1, 0, none⟩)) (.pointer (some ⟨x.heap.size, 0, none⟩)) ((x.alloc (.cells #[.int .i64 H, .int .i64 G] ty)).alloc (.cells #[.int .i64 D, .int .i64 q] tz)) :=
  ⟨_, _, rfl, rfl, ⟨c_new0 (by simp), c_new1 (by simp)⟩, ⟨c_alloc (c_new0 rfl), c_alloc (c_new1 rfl)⟩, (k.alloc _ _).alloc _ _⟩
theorem two_set {x : World} {b : Nat} {u0 u1 : Value} (h0 : x.cell? ⟨b, 0, none⟩ = some u0) (h1 : x.cell? ⟨b, 1, none⟩ = some u1) (D q : Int) : S2 ((x.setCell ⟨b, 0, none⟩ (.int .i64 D)).setCell ⟨b, 1, none⟩ (.int .i64 q)) b D q :=
  ⟨c_same (c_hit h0) (by decide), c_hit (c_same h1 (by decide))⟩
theorem rel_on {W x : World} {D q H G : Int} {b1 : Nat} {ty : TypeId} (k : Kept W x) (h0 : x.cell? ⟨b1, 0, none⟩ = some (.int .i64 0)) (h1 : x.cell? ⟨b1, 1, none⟩ = some (.int .i64 0)) (hb : W.heap.size ≤ b1) : SpCut W D q H G (.pointer (some ⟨b1, 0, none⟩)) (.pointer (some ⟨x.heap.size, 0, none⟩)) (((x.setCell ⟨b1, 0, none⟩ (.int .i64 D)).setCell ⟨b1, 1, none⟩ (.int .i64 q)).alloc (.cells #[.int .i64 H, .int .i64 G] ty)) :=
  ⟨_, _, rfl, rfl, (two_set h0 h1 D q).kept ((Kept.refl _).alloc _ _), ⟨c_new0 (by simp), c_new1 (by simp)⟩, ((k.setCell (p := ⟨b1, 0, none⟩) hb _).setCell (p := ⟨b1, 1, none⟩) hb _).alloc _ _⟩
theorem rel_no {W x : World} {D q H G : Int} {b2 : Nat} {ty : TypeId} (k : Kept W x) (h0 : x.cell? ⟨b2, 0, none⟩ = some (.int .i64 0)) (h1 : x.cell? ⟨b2, 1, none⟩ = some (.int .i64 0)) (hb : W.heap.size ≤ b2) : SpCut W D q H G (.pointer (some ⟨x.heap.size, 0, none⟩)) (.pointer (some ⟨b2, 0, none⟩)) (((x.setCell ⟨b2, 0, none⟩ (.int .i64 H)).setCell ⟨b2, 1, none⟩ (.int .i64 G)).alloc (.cells #[.int .i64 D, .int .i64 q] ty)) :=
  ⟨_, _, rfl, rfl, ⟨c_new0 (by simp), c_new1 (by simp)⟩, (two_set h0 h1 H G).kept ((Kept.refl _).alloc _ _), ((k.setCell (p := ⟨b2, 0, none⟩) hb _).setCell (p := ⟨b2, 1, none⟩) hb _).alloc _ _⟩
theorem rel_oo {W x : World} {D q H G : Int} {b1 b2 : Nat} (k : Kept W x) (h0 : x.cell? ⟨b1, 0, none⟩ = some (.int .i64 0)) (h1 : x.cell? ⟨b1, 1, none⟩ = some (.int .i64 0)) (g0 : x.cell? ⟨b2, 0, none⟩ = some (.int .i64 0)) (g1 : x.cell? ⟨b2, 1, none⟩ = some (.int .i64 0)) (hb : W.heap.size ≤ b1 ∧ W.heap.size ≤ b2 ∧ b1 ≠ b2) : SpCut W D q H G (.pointer (some ⟨b1, 0, none⟩)) (.pointer (some ⟨b2, 0, none⟩)) ((((x.setCell ⟨b1, 0, none⟩ (.int .i64 D)).setCell ⟨b1, 1, none⟩ (.int .i64 q)).setCell ⟨b2, 0, none⟩ (.int .i64 H)).setCell ⟨b2, 1, none⟩ (.int .i64 G)) := by
  obtain ⟨s0, s1⟩ := two_set h0 h1 D q
  exact ⟨_, _, rfl, rfl, ⟨c_other (c_other s0 hb.2.2) hb.2.2, c_other (c_other s1 hb.2.2) hb.2.2⟩, two_set (c_other (c_other g0 (Ne.symm hb.2.2)) (Ne.symm hb.2.2)) (c_other (c_other g1 (Ne.symm hb.2.2)) (Ne.symm hb.2.2)) H G, (((k.setCell (p := ⟨b1, 0, none⟩) hb.1 _).setCell (p := ⟨b1, 1, none⟩) hb.1 _).setCell (p := ⟨b2, 0, none⟩) hb.2.1 _).setCell (p := ⟨b2, 1, none⟩) hb.2.1 _⟩
theorem spt_new (w : World) (ty : TypeId) (t : Twr) : SpAt (w.alloc (.cells #[.int .i64 t.D, .int .i64 (t.A.F.N * (4 + t.G)), .int .i64 t.H, .int .i64 t.G] ty)) w.heap.size (tparts t) := by
  refine ⟨?_, ?_⟩
  all_goals
    intro i hi
    have hi : i < 2 := hi
    have : i = 0 ∨ i = 1 := by omega
    rcases this with rfl | rfl
  · exact cell_new _ _ _ _ 0 rfl
  · exact cell_new _ _ _ _ 2 rfl
  · exact cell_new _ _ _ _ 1 rfl
  · exact cell_new _ _ _ _ 3 rfl
theorem spt_keep {Q x : World} {ty : TypeId} {t : Twr} {q : Int} (hq : q = t.A.F.N * (4 + t.G)) (y : Kept (Q.alloc (.cells #[.int .i64 t.D, .int .i64 q, .int .i64 t.H, .int .i64 t.G] ty)) x) : SpAt x Q.heap.size (tparts t) := by
  subst hq
  exact (spt_new Q ty t).kept y
theorem spt_keepd {Q x : World} {ty : TypeId} {t : Twr} {q : Int} (hq : q = t.A.F.N * (4 + t.G)) (y : Kept (Q.alloc (.cells #[.int .i64 t.D, .int .i64 q, .int .i64 t.H, .int .i64 t.G] ty)).drew x) : SpAt x Q.heap.size (tparts t) := spt_keep hq ((Kept.refl _).drew.trans y)
theorem spt_here {Q : World} {ty : TypeId} {t : Twr} {q : Int} (hq : q = t.A.F.N * (4 + t.G)) : SpAt (Q.alloc (.cells #[.int .i64 t.D, .int .i64 q, .int .i64 t.H, .int .i64 t.G] ty)) Q.heap.size (tparts t) := spt_keep hq (Kept.refl _)
theorem all17 {w w' : World} {b b1 b2 : Nat} {t : Twr} {q : Int} (h1 : S2 w b1 t.D q) (h2 : S2 w b2 t.H t.G) (h3 : TB w b t) (k : Kept w w') : w'.cell? ⟨b1, 0, none⟩ = some (.int .i64 t.D) ∧ w'.cell? ⟨b1, 1, none⟩ = some (.int .i64 q) ∧ w'.cell? ⟨b2, 0, none⟩ = some (.int .i64 t.H) ∧ w'.cell? ⟨b2, 1, none⟩ = some (.int .i64 t.G) ∧ w'.cell? ⟨b, 0, none⟩ = some (.int .i64 t.D) ∧ w'.cell? ⟨b, 1, none⟩ = some (.int .i64 t.H) ∧ w'.cell? ⟨b, 2, none⟩ = some (.int .i64 t.G) ∧ w'.cell? ⟨b, 3, none⟩ = some (.int .i64 t.A.F.T) ∧ w'.cell? ⟨b, 4, none⟩ = some (.int .i64 t.A.F.K) ∧ w'.cell? ⟨b, 5, none⟩ = some (.int .i64 t.A.F.N) ∧ w'.cell? ⟨b, 6, none⟩ = some (.int .i64 t.A.G) ∧ w'.cell? ⟨b, 7, none⟩ = some (.int .i64 t.A.V) ∧ w'.cell? ⟨b, 8, none⟩ = some (.int .i64 t.A.L) ∧ w'.cell? ⟨b, 9, none⟩ = some (.int .i64 t.E.T) ∧ w'.cell? ⟨b, 10, none⟩ = some (.int .i64 t.E.K) ∧ w'.cell? ⟨b, 11, none⟩ = some (.int .i64 t.E.N) ∧ w'.cell? ⟨b, 12, none⟩ = some (.int .i64 t.P) :=
  ⟨k.some h1.c0, k.some h1.c1, k.some h2.c0, k.some h2.c1, tb_all (h3.kept k)⟩
theorem tapart_two (g h : Nat) (t : Twr) (ba : Bool) (hb : ∀ b : Bool, (b = true ↔ ApFrom (tparts t) (lparts t) (tparts t).length) → b = ba) (OT : ∀ s ∈ tparts t, Spn.Ok s) (OL : ∀ s ∈ lparts t, Spn.Ok s) (w : World) (hL : SpAt w g (tparts t)) (hO : SpAt w h (lparts t)) : Calls Tryz.prog 72 #[.slice (some ⟨g, 0, none⟩) 2 2, .slice (some ⟨h, 0, none⟩) 7 7] w fun e w' => e = .returned (.bool ba) ∧ Kept w w' :=
  (tapart_any g h (tparts t) (lparts t) (by simp [tparts]) (by simp [lparts]) (by simp [lparts]) OT OL w hL hO).mono fun _ _ ⟨b, x, y, z⟩ => ⟨by rw [x, hb b y], z⟩
set_option maxHeartbeats 9000000 in
theorem tfits_in (t : Twr) (n : Int) (hl : fitsL t n = 0) (hs : t.Sound) (w : World) : Calls Tryz.prog 10 #[towV t, .int .i64 n] w fun e w' => e = .returned (.int .i64 (if decide (t.D ≤ n - t.A.F.N * (4 + t.G)) && decide (t.H ≤ n - t.G) && apT t then 0 else 2)) ∧ Kept w w' := by
  have LF := fun W => Lib.hid (show Calls Tryz.prog 65 #[limV t, .int .i64 n] W fun e w' => e = .returned (.int .i64 0) ∧ Kept W w' from by have := lfits_any t n W; rwa [hl] at this)
  obtain ⟨q, hq⟩ : ∃ q, q = t.A.F.N * (4 + t.G) := ⟨_, rfl⟩
  have q0 : 0 ≤ q := by rw [hq]; have := size_lo hs; omega
  have q1 : q ≤ 10000 := by rw [hq]; have := size_hi hs; omega
  have g0 : 0 ≤ t.G := by have := hs.G1; omega
  have g1 : t.G ≤ 10000 := by have := hs.G2; omega
  obtain ⟨n0, n1⟩ : 1 ≤ n ∧ n ≤ 4096 := by obtain ⟨_, n0, n1, _⟩ := fitsA_ok (fitsL_ok hl).a; exact ⟨n0, n1⟩
  have SY := fun W => Lib.hid (sound_in t hs W)
  have NR := fun W => Lib.hid (nodeRow_any t hs W)
  have HR := fun W => Lib.hid (headRow_any t W)
  have NS := fun W => Lib.hid (span_n t.D t.A.F.N (4 + t.G) q hq q0 q1 W)
  have HS := fun W => Lib.hid (span_h t.H 1 t.G t.G (by omega) g0 g1 W)
  obtain ⟨bn, hbn⟩ : ∃ b, b = decide (t.D ≤ n - q) := ⟨_, rfl⟩
  obtain ⟨bh, hbh⟩ : ∃ b, b = decide (t.H ≤ n - t.G) := ⟨_, rfl⟩
  obtain ⟨ba, hba⟩ : ∃ b, b = apT t := ⟨_, rfl⟩
  obtain ⟨er, her⟩ : ∃ er : Int, er = (if bn && bh && ba then 0 else 2) := ⟨_, rfl⟩
  rw [← hq, ← hbn, ← hbh, ← hba, ← her]
  have HER := Lib.hid her
  have WN := fun W => Lib.hid (show Calls Tryz.prog 71 #[.agg #[.int .i64 t.D, .int .i64 q], .int .i64 n] W fun e w' => e = .returned (.bool bn) ∧ Kept W w' from by rw [hbn]; exact twithin_any t.D q n q0 q1 n0 n1 W)
  have WH := fun W => Lib.hid (show Calls Tryz.prog 71 #[.agg #[.int .i64 t.H, .int .i64 t.G], .int .i64 n] W fun e w' => e = .returned (.bool bh) ∧ Kept W w' from by rw [hbh]; exact twithin_any t.H t.G n g0 g1 n0 n1 W)
  have LS := fun W => Lib.hid (lspans_any t W)
  have HB : Hid (∀ b : Bool, (b = true ↔ ApFrom (tparts t) (lparts t) (tparts t).length) → b = ba) := Lib.hid (fun b h => by
    have h2 : ba = true ↔ ApFrom (tparts t) (lparts t) (tparts t).length := by rw [hba]; exact apT_iff t
    cases b <;> cases ba <;> simp_all)
  have OT := Lib.hid (tparts_ok hs)
  have OL := Lib.hid (lparts_ok (fitsL_ok hl).a (fitsL_ok hl).e (fitsL_ok hl).p0 (fitsL_ok hl).p1)
  have HA : ∀ g h W, SpAt W g (tparts t) → SpAt W h (lparts t) → Hid (Calls Tryz.prog 72 #[.slice (some ⟨g, 0, none⟩) 2 2, .slice (some ⟨h, 0, none⟩) 7 7] W fun e w' => e = .returned (.bool ba) ∧ Kept W w') := fun g h W h1 h2 => Lib.hid (tapart_two g h t ba HB.out OT.out OL.out W h1 h2)
  have HQ := Lib.hid hq
  clear HB OT OL
  clear hl hs hq hbn hbh hba her
  go_enter Tryz.func10, Tryz.ntmps10
  go_wp2_with fail
  refine ((LF _).out).mono ?_
  rintro e w1 ⟨rfl, k1⟩
  have KK : Hid (Kept w w1) := Lib.hid (((Kept.refl w).alloc _ _).trans k1)
  have TT := Lib.hid (TB.kept (TB.new w w.heap.size 31 rfl t) k1)
  clear k1
  obtain ⟨a0, a1, a2, a3, a4, a5, a6, a7, a8, a9, a10, a11, a12⟩ := TT.out
  have lz := lt_of_cell a0
  go_wp2_with fail
  refine ((SY _).out).mono ?_
  rintro e w2 ⟨rfl, k2⟩
  have TT := Lib.hid (TT.out.kept (Kept.trans (b := _) (by first | exact Kept.refl _ | (go_light; repeat (first | (with_reducible exact Kept.refl _) | (with_reducible assumption) | (with_reducible refine Kept.alloc ?_ _ _) | (with_reducible refine Kept.drew ?_) | (with_reducible refine Kept.drewN ?_ _) | ((with_reducible refine Kept.setCell ?_ ?_ _); rotate_left; focus (first | (simp; done) | (simp; omega))) | refine Kept.trans ?_ (by assumption)))) k2))
  have KK : Hid (Kept w w2) := Lib.hid (KK.out.trans (Kept.trans (b := _) (by first | exact Kept.refl _ | (go_light; repeat (first | (with_reducible exact Kept.refl _) | (with_reducible assumption) | (with_reducible refine Kept.alloc ?_ _ _) | (with_reducible refine Kept.drew ?_) | (with_reducible refine Kept.drewN ?_ _) | ((with_reducible refine Kept.setCell ?_ ?_ _); rotate_left; focus (first | (simp; done) | (simp; omega))) | refine Kept.trans ?_ (by assumption)))) k2))
  clear k2 a0 a1 a2 a3 a4 a5 a6 a7 a8 a9 a10 a11 a12 lz
  obtain ⟨a0, a1, a2, a3, a4, a5, a6, a7, a8, a9, a10, a11, a12⟩ := TT.out
  have lz := lt_of_cell a0
  go_wp2_with fail
  have KT : Kept w2 w2 := Kept.refl _
  go_cut [6, 7] (SpCut w2 t.D q t.H t.G)
  case first =>
   go_region_held3 (fun w' => w'.cell? ⟨w.heap.size, 0, none⟩ = some (.int .i64 t.D) ∧ w'.cell? ⟨w.heap.size, 1, none⟩ = some (.int .i64 t.H) ∧ w'.cell? ⟨w.heap.size, 2, none⟩ = some (.int .i64 t.G) ∧ w'.cell? ⟨w.heap.size, 3, none⟩ = some (.int .i64 t.A.F.T) ∧ w'.cell? ⟨w.heap.size, 4, none⟩ = some (.int .i64 t.A.F.K) ∧ w'.cell? ⟨w.heap.size, 5, none⟩ = some (.int .i64 t.A.F.N) ∧ w'.cell? ⟨w.heap.size, 6, none⟩ = some (.int .i64 t.A.G) ∧ w'.cell? ⟨w.heap.size, 7, none⟩ = some (.int .i64 t.A.V) ∧ w'.cell? ⟨w.heap.size, 8, none⟩ = some (.int .i64 t.A.L) ∧ w'.cell? ⟨w.heap.size, 9, none⟩ = some (.int .i64 t.E.T) ∧ w'.cell? ⟨w.heap.size, 10, none⟩ = some (.int .i64 t.E.K) ∧ w'.cell? ⟨w.heap.size, 11, none⟩ = some (.int .i64 t.E.N) ∧ w'.cell? ⟨w.heap.size, 12, none⟩ = some (.int .i64 t.P)) (((with_reducible refine tb_all (TB.kept TT.out ?_)); (repeat (first | (with_reducible exact KT) | (with_reducible exact Kept.refl _) | (with_reducible refine Kept.alloc ?_ _ _) | (with_reducible refine Kept.drew ?_) | ((with_reducible refine Kept.setCell ?_ ?_ _); rotate_left; (dsimp only; have := KT.size; omega)))); done)) (first | ((try go_simp); go_at_call 67; refine ((NR _).out).mono ?_; rintro e x0 ⟨rfl, y⟩; have K0 : Kept w2 x0 := Kept.trans (b := _) (by repeat (first | with_reducible exact KT | with_reducible exact Kept.refl _ | with_reducible refine Kept.alloc ?_ _ _ | with_reducible refine Kept.drew ?_)) y; have sz0 := KT.size; (try (clear pBA0 qBA0 fBA0; have BA0 := Lib.hid (BA0.out.kept (Kept.trans (b := _) (by repeat (first | with_reducible exact Kept.refl _ | with_reducible refine Kept.alloc ?_ _ _ | with_reducible refine Kept.drew ?_)) y)); obtain ⟨pBA0, qBA0, fBA0⟩ := BA0.out; have ltBA0 := lt_of_cell pBA0)); (try (clear pBB0 qBB0 fBB0; have BB0 := Lib.hid (BB0.out.kept (Kept.trans (b := _) (by repeat (first | with_reducible exact Kept.refl _ | with_reducible refine Kept.alloc ?_ _ _ | with_reducible refine Kept.drew ?_)) y)); obtain ⟨pBB0, qBB0, fBB0⟩ := BB0.out; have ltBB0 := lt_of_cell pBB0)); (try (clear pBA1 qBA1 fBA1; have BA1 := Lib.hid (BA1.out.kept (Kept.trans (b := _) (by repeat (first | with_reducible exact Kept.refl _ | with_reducible refine Kept.alloc ?_ _ _ | with_reducible refine Kept.drew ?_)) y)); obtain ⟨pBA1, qBA1, fBA1⟩ := BA1.out; have ltBA1 := lt_of_cell pBA1)); (try (clear pBB1 qBB1 fBB1; have BB1 := Lib.hid (BB1.out.kept (Kept.trans (b := _) (by repeat (first | with_reducible exact Kept.refl _ | with_reducible refine Kept.alloc ?_ _ _ | with_reducible refine Kept.drew ?_)) y)); obtain ⟨pBB1, qBB1, fBB1⟩ := BB1.out; have ltBB1 := lt_of_cell pBB1)); (try (clear pBA2 qBA2 fBA2; have BA2 := Lib.hid (BA2.out.kept (Kept.trans (b := _) (by repeat (first | with_reducible exact Kept.refl _ | with_reducible refine Kept.alloc ?_ _ _ | with_reducible refine Kept.drew ?_)) y)); obtain ⟨pBA2, qBA2, fBA2⟩ := BA2.out; have ltBA2 := lt_of_cell pBA2)); (try (clear pBB2 qBB2 fBB2; have BB2 := Lib.hid (BB2.out.kept (Kept.trans (b := _) (by repeat (first | with_reducible exact Kept.refl _ | with_reducible refine Kept.alloc ?_ _ _ | with_reducible refine Kept.drew ?_)) y)); obtain ⟨pBB2, qBB2, fBB2⟩ := BB2.out; have ltBB2 := lt_of_cell pBB2)); (try (clear pBA3 qBA3 fBA3; have BA3 := Lib.hid (BA3.out.kept (Kept.trans (b := _) (by repeat (first | with_reducible exact Kept.refl _ | with_reducible refine Kept.alloc ?_ _ _ | with_reducible refine Kept.drew ?_)) y)); obtain ⟨pBA3, qBA3, fBA3⟩ := BA3.out; have ltBA3 := lt_of_cell pBA3)); (try (clear pBB3 qBB3 fBB3; have BB3 := Lib.hid (BB3.out.kept (Kept.trans (b := _) (by repeat (first | with_reducible exact Kept.refl _ | with_reducible refine Kept.alloc ?_ _ _ | with_reducible refine Kept.drew ?_)) y)); obtain ⟨pBB3, qBB3, fBB3⟩ := BB3.out; have ltBB3 := lt_of_cell pBB3)); (first | ((with_reducible have zz := nb2 y); obtain ⟨z1, z2⟩ := zz; have BA0 := Lib.hid z1; have BB0 := Lib.hid z2; clear z1 z2; obtain ⟨pBA0, qBA0, fBA0⟩ := BA0.out; have ltBA0 := lt_of_cell pBA0; obtain ⟨pBB0, qBB0, fBB0⟩ := BB0.out; have ltBB0 := lt_of_cell pBB0) | ((with_reducible have zz := nb2a y); obtain ⟨z1, z2⟩ := zz; have BA0 := Lib.hid z1; have BB0 := Lib.hid z2; clear z1 z2; obtain ⟨pBA0, qBA0, fBA0⟩ := BA0.out; have ltBA0 := lt_of_cell pBA0; obtain ⟨pBB0, qBB0, fBB0⟩ := BB0.out; have ltBB0 := lt_of_cell pBB0) | ((with_reducible have zz := nb2b y); obtain ⟨z1, z2⟩ := zz; have BA0 := Lib.hid z1; have BB0 := Lib.hid z2; clear z1 z2; obtain ⟨pBA0, qBA0, fBA0⟩ := BA0.out; have ltBA0 := lt_of_cell pBA0; obtain ⟨pBB0, qBB0, fBB0⟩ := BB0.out; have ltBB0 := lt_of_cell pBB0) | ((with_reducible have zz := nb2c y); obtain ⟨z1, z2⟩ := zz; have BA0 := Lib.hid z1; have BB0 := Lib.hid z2; clear z1 z2; obtain ⟨pBA0, qBA0, fBA0⟩ := BA0.out; have ltBA0 := lt_of_cell pBA0; obtain ⟨pBB0, qBB0, fBB0⟩ := BB0.out; have ltBB0 := lt_of_cell pBB0) | ((with_reducible have BA0 := Lib.hid (nb1 y)); obtain ⟨pBA0, qBA0, fBA0⟩ := BA0.out; have ltBA0 := lt_of_cell pBA0) | ((with_reducible have BA0 := Lib.hid (nb1a y)); obtain ⟨pBA0, qBA0, fBA0⟩ := BA0.out; have ltBA0 := lt_of_cell pBA0) | skip); have KT : Kept w2 x0 := K0; clear K0 y; clear a0 a1 a2 a3 a4 a5 a6 a7 a8 a9 a10 a11 a12; obtain ⟨a0, a1, a2, a3, a4, a5, a6, a7, a8, a9, a10, a11, a12⟩ := TB.kept TT.out KT; have lz0 := lt_of_cell a0) | ((try go_simp); go_at_call 68; refine ((NS _).out).mono ?_; rintro e x1 ⟨rfl, y⟩; have K0 : Kept w2 x1 := Kept.trans (b := _) (by repeat (first | with_reducible exact KT | with_reducible exact Kept.refl _ | with_reducible refine Kept.alloc ?_ _ _ | with_reducible refine Kept.drew ?_)) y; have sz1 := KT.size; (try (clear pBA0 qBA0 fBA0; have BA0 := Lib.hid (BA0.out.kept (Kept.trans (b := _) (by repeat (first | with_reducible exact Kept.refl _ | with_reducible refine Kept.alloc ?_ _ _ | with_reducible refine Kept.drew ?_)) y)); obtain ⟨pBA0, qBA0, fBA0⟩ := BA0.out; have ltBA0 := lt_of_cell pBA0)); (try (clear pBB0 qBB0 fBB0; have BB0 := Lib.hid (BB0.out.kept (Kept.trans (b := _) (by repeat (first | with_reducible exact Kept.refl _ | with_reducible refine Kept.alloc ?_ _ _ | with_reducible refine Kept.drew ?_)) y)); obtain ⟨pBB0, qBB0, fBB0⟩ := BB0.out; have ltBB0 := lt_of_cell pBB0)); (try (clear pBA1 qBA1 fBA1; have BA1 := Lib.hid (BA1.out.kept (Kept.trans (b := _) (by repeat (first | with_reducible exact Kept.refl _ | with_reducible refine Kept.alloc ?_ _ _ | with_reducible refine Kept.drew ?_)) y)); obtain ⟨pBA1, qBA1, fBA1⟩ := BA1.out; have ltBA1 := lt_of_cell pBA1)); (try (clear pBB1 qBB1 fBB1; have BB1 := Lib.hid (BB1.out.kept (Kept.trans (b := _) (by repeat (first | with_reducible exact Kept.refl _ | with_reducible refine Kept.alloc ?_ _ _ | with_reducible refine Kept.drew ?_)) y)); obtain ⟨pBB1, qBB1, fBB1⟩ := BB1.out; have ltBB1 := lt_of_cell pBB1)); (try (clear pBA2 qBA2 fBA2; have BA2 := Lib.hid (BA2.out.kept (Kept.trans (b := _) (by repeat (first | with_reducible exact Kept.refl _ | with_reducible refine Kept.alloc ?_ _ _ | with_reducible refine Kept.drew ?_)) y)); obtain ⟨pBA2, qBA2, fBA2⟩ := BA2.out; have ltBA2 := lt_of_cell pBA2)); (try (clear pBB2 qBB2 fBB2; have BB2 := Lib.hid (BB2.out.kept (Kept.trans (b := _) (by repeat (first | with_reducible exact Kept.refl _ | with_reducible refine Kept.alloc ?_ _ _ | with_reducible refine Kept.drew ?_)) y)); obtain ⟨pBB2, qBB2, fBB2⟩ := BB2.out; have ltBB2 := lt_of_cell pBB2)); (try (clear pBA3 qBA3 fBA3; have BA3 := Lib.hid (BA3.out.kept (Kept.trans (b := _) (by repeat (first | with_reducible exact Kept.refl _ | with_reducible refine Kept.alloc ?_ _ _ | with_reducible refine Kept.drew ?_)) y)); obtain ⟨pBA3, qBA3, fBA3⟩ := BA3.out; have ltBA3 := lt_of_cell pBA3)); (try (clear pBB3 qBB3 fBB3; have BB3 := Lib.hid (BB3.out.kept (Kept.trans (b := _) (by repeat (first | with_reducible exact Kept.refl _ | with_reducible refine Kept.alloc ?_ _ _ | with_reducible refine Kept.drew ?_)) y)); obtain ⟨pBB3, qBB3, fBB3⟩ := BB3.out; have ltBB3 := lt_of_cell pBB3)); (first | ((with_reducible have zz := nb2 y); obtain ⟨z1, z2⟩ := zz; have BA1 := Lib.hid z1; have BB1 := Lib.hid z2; clear z1 z2; obtain ⟨pBA1, qBA1, fBA1⟩ := BA1.out; have ltBA1 := lt_of_cell pBA1; obtain ⟨pBB1, qBB1, fBB1⟩ := BB1.out; have ltBB1 := lt_of_cell pBB1) | ((with_reducible have zz := nb2a y); obtain ⟨z1, z2⟩ := zz; have BA1 := Lib.hid z1; have BB1 := Lib.hid z2; clear z1 z2; obtain ⟨pBA1, qBA1, fBA1⟩ := BA1.out; have ltBA1 := lt_of_cell pBA1; obtain ⟨pBB1, qBB1, fBB1⟩ := BB1.out; have ltBB1 := lt_of_cell pBB1) | ((with_reducible have zz := nb2b y); obtain ⟨z1, z2⟩ := zz; have BA1 := Lib.hid z1; have BB1 := Lib.hid z2; clear z1 z2; obtain ⟨pBA1, qBA1, fBA1⟩ := BA1.out; have ltBA1 := lt_of_cell pBA1; obtain ⟨pBB1, qBB1, fBB1⟩ := BB1.out; have ltBB1 := lt_of_cell pBB1) | ((with_reducible have zz := nb2c y); obtain ⟨z1, z2⟩ := zz; have BA1 := Lib.hid z1; have BB1 := Lib.hid z2; clear z1 z2; obtain ⟨pBA1, qBA1, fBA1⟩ := BA1.out; have ltBA1 := lt_of_cell pBA1; obtain ⟨pBB1, qBB1, fBB1⟩ := BB1.out; have ltBB1 := lt_of_cell pBB1) | ((with_reducible have BA1 := Lib.hid (nb1 y)); obtain ⟨pBA1, qBA1, fBA1⟩ := BA1.out; have ltBA1 := lt_of_cell pBA1) | ((with_reducible have BA1 := Lib.hid (nb1a y)); obtain ⟨pBA1, qBA1, fBA1⟩ := BA1.out; have ltBA1 := lt_of_cell pBA1) | skip); have KT : Kept w2 x1 := K0; clear K0 y; clear a0 a1 a2 a3 a4 a5 a6 a7 a8 a9 a10 a11 a12; obtain ⟨a0, a1, a2, a3, a4, a5, a6, a7, a8, a9, a10, a11, a12⟩ := TB.kept TT.out KT; have lz1 := lt_of_cell a0) | ((try go_simp); go_at_call 69; refine ((HR _).out).mono ?_; rintro e x2 ⟨rfl, y⟩; have K0 : Kept w2 x2 := Kept.trans (b := _) (by repeat (first | with_reducible exact KT | with_reducible exact Kept.refl _ | with_reducible refine Kept.alloc ?_ _ _ | with_reducible refine Kept.drew ?_)) y; have sz2 := KT.size; (try (clear pBA0 qBA0 fBA0; have BA0 := Lib.hid (BA0.out.kept (Kept.trans (b := _) (by repeat (first | with_reducible exact Kept.refl _ | with_reducible refine Kept.alloc ?_ _ _ | with_reducible refine Kept.drew ?_)) y)); obtain ⟨pBA0, qBA0, fBA0⟩ := BA0.out; have ltBA0 := lt_of_cell pBA0)); (try (clear pBB0 qBB0 fBB0; have BB0 := Lib.hid (BB0.out.kept (Kept.trans (b := _) (by repeat (first | with_reducible exact Kept.refl _ | with_reducible refine Kept.alloc ?_ _ _ | with_reducible refine Kept.drew ?_)) y)); obtain ⟨pBB0, qBB0, fBB0⟩ := BB0.out; have ltBB0 := lt_of_cell pBB0)); (try (clear pBA1 qBA1 fBA1; have BA1 := Lib.hid (BA1.out.kept (Kept.trans (b := _) (by repeat (first | with_reducible exact Kept.refl _ | with_reducible refine Kept.alloc ?_ _ _ | with_reducible refine Kept.drew ?_)) y)); obtain ⟨pBA1, qBA1, fBA1⟩ := BA1.out; have ltBA1 := lt_of_cell pBA1)); (try (clear pBB1 qBB1 fBB1; have BB1 := Lib.hid (BB1.out.kept (Kept.trans (b := _) (by repeat (first | with_reducible exact Kept.refl _ | with_reducible refine Kept.alloc ?_ _ _ | with_reducible refine Kept.drew ?_)) y)); obtain ⟨pBB1, qBB1, fBB1⟩ := BB1.out; have ltBB1 := lt_of_cell pBB1)); (try (clear pBA2 qBA2 fBA2; have BA2 := Lib.hid (BA2.out.kept (Kept.trans (b := _) (by repeat (first | with_reducible exact Kept.refl _ | with_reducible refine Kept.alloc ?_ _ _ | with_reducible refine Kept.drew ?_)) y)); obtain ⟨pBA2, qBA2, fBA2⟩ := BA2.out; have ltBA2 := lt_of_cell pBA2)); (try (clear pBB2 qBB2 fBB2; have BB2 := Lib.hid (BB2.out.kept (Kept.trans (b := _) (by repeat (first | with_reducible exact Kept.refl _ | with_reducible refine Kept.alloc ?_ _ _ | with_reducible refine Kept.drew ?_)) y)); obtain ⟨pBB2, qBB2, fBB2⟩ := BB2.out; have ltBB2 := lt_of_cell pBB2)); (try (clear pBA3 qBA3 fBA3; have BA3 := Lib.hid (BA3.out.kept (Kept.trans (b := _) (by repeat (first | with_reducible exact Kept.refl _ | with_reducible refine Kept.alloc ?_ _ _ | with_reducible refine Kept.drew ?_)) y)); obtain ⟨pBA3, qBA3, fBA3⟩ := BA3.out; have ltBA3 := lt_of_cell pBA3)); (try (clear pBB3 qBB3 fBB3; have BB3 := Lib.hid (BB3.out.kept (Kept.trans (b := _) (by repeat (first | with_reducible exact Kept.refl _ | with_reducible refine Kept.alloc ?_ _ _ | with_reducible refine Kept.drew ?_)) y)); obtain ⟨pBB3, qBB3, fBB3⟩ := BB3.out; have ltBB3 := lt_of_cell pBB3)); (first | ((with_reducible have zz := nb2 y); obtain ⟨z1, z2⟩ := zz; have BA2 := Lib.hid z1; have BB2 := Lib.hid z2; clear z1 z2; obtain ⟨pBA2, qBA2, fBA2⟩ := BA2.out; have ltBA2 := lt_of_cell pBA2; obtain ⟨pBB2, qBB2, fBB2⟩ := BB2.out; have ltBB2 := lt_of_cell pBB2) | ((with_reducible have zz := nb2a y); obtain ⟨z1, z2⟩ := zz; have BA2 := Lib.hid z1; have BB2 := Lib.hid z2; clear z1 z2; obtain ⟨pBA2, qBA2, fBA2⟩ := BA2.out; have ltBA2 := lt_of_cell pBA2; obtain ⟨pBB2, qBB2, fBB2⟩ := BB2.out; have ltBB2 := lt_of_cell pBB2) | ((with_reducible have zz := nb2b y); obtain ⟨z1, z2⟩ := zz; have BA2 := Lib.hid z1; have BB2 := Lib.hid z2; clear z1 z2; obtain ⟨pBA2, qBA2, fBA2⟩ := BA2.out; have ltBA2 := lt_of_cell pBA2; obtain ⟨pBB2, qBB2, fBB2⟩ := BB2.out; have ltBB2 := lt_of_cell pBB2) | ((with_reducible have zz := nb2c y); obtain ⟨z1, z2⟩ := zz; have BA2 := Lib.hid z1; have BB2 := Lib.hid z2; clear z1 z2; obtain ⟨pBA2, qBA2, fBA2⟩ := BA2.out; have ltBA2 := lt_of_cell pBA2; obtain ⟨pBB2, qBB2, fBB2⟩ := BB2.out; have ltBB2 := lt_of_cell pBB2) | ((with_reducible have BA2 := Lib.hid (nb1 y)); obtain ⟨pBA2, qBA2, fBA2⟩ := BA2.out; have ltBA2 := lt_of_cell pBA2) | ((with_reducible have BA2 := Lib.hid (nb1a y)); obtain ⟨pBA2, qBA2, fBA2⟩ := BA2.out; have ltBA2 := lt_of_cell pBA2) | skip); have KT : Kept w2 x2 := K0; clear K0 y; clear a0 a1 a2 a3 a4 a5 a6 a7 a8 a9 a10 a11 a12; obtain ⟨a0, a1, a2, a3, a4, a5, a6, a7, a8, a9, a10, a11, a12⟩ := TB.kept TT.out KT; have lz2 := lt_of_cell a0) | ((try go_simp); go_at_call 70; refine ((HS _).out).mono ?_; rintro e x3 ⟨rfl, y⟩; have K0 : Kept w2 x3 := Kept.trans (b := _) (by repeat (first | with_reducible exact KT | with_reducible exact Kept.refl _ | with_reducible refine Kept.alloc ?_ _ _ | with_reducible refine Kept.drew ?_)) y; have sz3 := KT.size; (try (clear pBA0 qBA0 fBA0; have BA0 := Lib.hid (BA0.out.kept (Kept.trans (b := _) (by repeat (first | with_reducible exact Kept.refl _ | with_reducible refine Kept.alloc ?_ _ _ | with_reducible refine Kept.drew ?_)) y)); obtain ⟨pBA0, qBA0, fBA0⟩ := BA0.out; have ltBA0 := lt_of_cell pBA0)); (try (clear pBB0 qBB0 fBB0; have BB0 := Lib.hid (BB0.out.kept (Kept.trans (b := _) (by repeat (first | with_reducible exact Kept.refl _ | with_reducible refine Kept.alloc ?_ _ _ | with_reducible refine Kept.drew ?_)) y)); obtain ⟨pBB0, qBB0, fBB0⟩ := BB0.out; have ltBB0 := lt_of_cell pBB0)); (try (clear pBA1 qBA1 fBA1; have BA1 := Lib.hid (BA1.out.kept (Kept.trans (b := _) (by repeat (first | with_reducible exact Kept.refl _ | with_reducible refine Kept.alloc ?_ _ _ | with_reducible refine Kept.drew ?_)) y)); obtain ⟨pBA1, qBA1, fBA1⟩ := BA1.out; have ltBA1 := lt_of_cell pBA1)); (try (clear pBB1 qBB1 fBB1; have BB1 := Lib.hid (BB1.out.kept (Kept.trans (b := _) (by repeat (first | with_reducible exact Kept.refl _ | with_reducible refine Kept.alloc ?_ _ _ | with_reducible refine Kept.drew ?_)) y)); obtain ⟨pBB1, qBB1, fBB1⟩ := BB1.out; have ltBB1 := lt_of_cell pBB1)); (try (clear pBA2 qBA2 fBA2; have BA2 := Lib.hid (BA2.out.kept (Kept.trans (b := _) (by repeat (first | with_reducible exact Kept.refl _ | with_reducible refine Kept.alloc ?_ _ _ | with_reducible refine Kept.drew ?_)) y)); obtain ⟨pBA2, qBA2, fBA2⟩ := BA2.out; have ltBA2 := lt_of_cell pBA2)); (try (clear pBB2 qBB2 fBB2; have BB2 := Lib.hid (BB2.out.kept (Kept.trans (b := _) (by repeat (first | with_reducible exact Kept.refl _ | with_reducible refine Kept.alloc ?_ _ _ | with_reducible refine Kept.drew ?_)) y)); obtain ⟨pBB2, qBB2, fBB2⟩ := BB2.out; have ltBB2 := lt_of_cell pBB2)); (try (clear pBA3 qBA3 fBA3; have BA3 := Lib.hid (BA3.out.kept (Kept.trans (b := _) (by repeat (first | with_reducible exact Kept.refl _ | with_reducible refine Kept.alloc ?_ _ _ | with_reducible refine Kept.drew ?_)) y)); obtain ⟨pBA3, qBA3, fBA3⟩ := BA3.out; have ltBA3 := lt_of_cell pBA3)); (try (clear pBB3 qBB3 fBB3; have BB3 := Lib.hid (BB3.out.kept (Kept.trans (b := _) (by repeat (first | with_reducible exact Kept.refl _ | with_reducible refine Kept.alloc ?_ _ _ | with_reducible refine Kept.drew ?_)) y)); obtain ⟨pBB3, qBB3, fBB3⟩ := BB3.out; have ltBB3 := lt_of_cell pBB3)); (first | ((with_reducible have zz := nb2 y); obtain ⟨z1, z2⟩ := zz; have BA3 := Lib.hid z1; have BB3 := Lib.hid z2; clear z1 z2; obtain ⟨pBA3, qBA3, fBA3⟩ := BA3.out; have ltBA3 := lt_of_cell pBA3; obtain ⟨pBB3, qBB3, fBB3⟩ := BB3.out; have ltBB3 := lt_of_cell pBB3) | ((with_reducible have zz := nb2a y); obtain ⟨z1, z2⟩ := zz; have BA3 := Lib.hid z1; have BB3 := Lib.hid z2; clear z1 z2; obtain ⟨pBA3, qBA3, fBA3⟩ := BA3.out; have ltBA3 := lt_of_cell pBA3; obtain ⟨pBB3, qBB3, fBB3⟩ := BB3.out; have ltBB3 := lt_of_cell pBB3) | ((with_reducible have zz := nb2b y); obtain ⟨z1, z2⟩ := zz; have BA3 := Lib.hid z1; have BB3 := Lib.hid z2; clear z1 z2; obtain ⟨pBA3, qBA3, fBA3⟩ := BA3.out; have ltBA3 := lt_of_cell pBA3; obtain ⟨pBB3, qBB3, fBB3⟩ := BB3.out; have ltBB3 := lt_of_cell pBB3) | ((with_reducible have zz := nb2c y); obtain ⟨z1, z2⟩ := zz; have BA3 := Lib.hid z1; have BB3 := Lib.hid z2; clear z1 z2; obtain ⟨pBA3, qBA3, fBA3⟩ := BA3.out; have ltBA3 := lt_of_cell pBA3; obtain ⟨pBB3, qBB3, fBB3⟩ := BB3.out; have ltBB3 := lt_of_cell pBB3) | ((with_reducible have BA3 := Lib.hid (nb1 y)); obtain ⟨pBA3, qBA3, fBA3⟩ := BA3.out; have ltBA3 := lt_of_cell pBA3) | ((with_reducible have BA3 := Lib.hid (nb1a y)); obtain ⟨pBA3, qBA3, fBA3⟩ := BA3.out; have ltBA3 := lt_of_cell pBA3) | skip); have KT : Kept w2 x3 := K0; clear K0 y; clear a0 a1 a2 a3 a4 a5 a6 a7 a8 a9 a10 a11 a12; obtain ⟨a0, a1, a2, a3, a4, a5, a6, a7, a8, a9, a10, a11, a12⟩ := TB.kept TT.out KT; have lz3 := lt_of_cell a0))
   all_goals
     go_wp2
     go_meet
     case rel =>
       first
         | (with_reducible exact rel_nn1 KT)
         | (with_reducible exact rel_nn2 KT)
         | ((with_reducible refine rel_on KT ?_ ?_ ?_); (with_reducible assumption); (with_reducible assumption); omega)
         | ((with_reducible refine rel_no KT ?_ ?_ ?_); (with_reducible assumption); (with_reducible assumption); omega)
         | ((with_reducible refine rel_oo KT ?_ ?_ ?_ ?_ ?_); (with_reducible assumption); (with_reducible assumption); (with_reducible assumption); (with_reducible assumption); omega)
  case rest =>
    obtain ⟨b1, b2, rfl, rfl, s1, s2, kc⟩ := hcut
    have TC := Lib.hid (TT.out.kept kc)
    have KC := Lib.hid (KK.out.trans kc)
    have S1 := Lib.hid s1
    have S2 := Lib.hid s2
    obtain ⟨e0, e1⟩ := s1
    obtain ⟨f0, f1⟩ := s2
    clear kc KT KK SY NR HR NS HS a0 a1 a2 a3 a4 a5 a6 a7 a8 a9 a10 a11 a12 lz
    go_wp2_with fail
    refine (WN _).out.mono ?_
    rintro e w4 ⟨rfl, k4⟩
    have S1 := Lib.hid (S1.out.kept (Kept.trans (b := _) (by first | exact Kept.refl _ | (go_light; repeat (first | (with_reducible exact Kept.refl _) | (with_reducible assumption) | (with_reducible refine Kept.alloc ?_ _ _) | (with_reducible refine Kept.drew ?_) | (with_reducible refine Kept.drewN ?_ _) | ((with_reducible refine Kept.setCell ?_ ?_ _); rotate_left; focus (first | (simp; done) | (simp; omega))) | refine Kept.trans ?_ (by assumption)))) k4))
    have S2 := Lib.hid (S2.out.kept (Kept.trans (b := _) (by first | exact Kept.refl _ | (go_light; repeat (first | (with_reducible exact Kept.refl _) | (with_reducible assumption) | (with_reducible refine Kept.alloc ?_ _ _) | (with_reducible refine Kept.drew ?_) | (with_reducible refine Kept.drewN ?_ _) | ((with_reducible refine Kept.setCell ?_ ?_ _); rotate_left; focus (first | (simp; done) | (simp; omega))) | refine Kept.trans ?_ (by assumption)))) k4))
    have TC := Lib.hid (TC.out.kept (Kept.trans (b := _) (by first | exact Kept.refl _ | (go_light; repeat (first | (with_reducible exact Kept.refl _) | (with_reducible assumption) | (with_reducible refine Kept.alloc ?_ _ _) | (with_reducible refine Kept.drew ?_) | (with_reducible refine Kept.drewN ?_ _) | ((with_reducible refine Kept.setCell ?_ ?_ _); rotate_left; focus (first | (simp; done) | (simp; omega))) | refine Kept.trans ?_ (by assumption)))) k4))
    have KC := Lib.hid (KC.out.trans (Kept.trans (b := _) (by first | exact Kept.refl _ | (go_light; repeat (first | (with_reducible exact Kept.refl _) | (with_reducible assumption) | (with_reducible refine Kept.alloc ?_ _ _) | (with_reducible refine Kept.drew ?_) | (with_reducible refine Kept.drewN ?_ _) | ((with_reducible refine Kept.setCell ?_ ?_ _); rotate_left; focus (first | (simp; done) | (simp; omega))) | refine Kept.trans ?_ (by assumption)))) k4))
    clear k4 e0 e1 f0 f1
    obtain ⟨e0, e1⟩ := S1.out
    obtain ⟨f0, f1⟩ := S2.out
    cases bn with
    | false =>
      go_wp2
      go_ret
      exact ⟨by rw [HER.out]; rfl, KC.out⟩
    | true =>
    go_wp2_with fail
    refine (WH _).out.mono ?_
    rintro e w5 ⟨rfl, k5⟩
    have S1 := Lib.hid (S1.out.kept (Kept.trans (b := _) (by first | exact Kept.refl _ | (go_light; repeat (first | (with_reducible exact Kept.refl _) | (with_reducible assumption) | (with_reducible refine Kept.alloc ?_ _ _) | (with_reducible refine Kept.drew ?_) | (with_reducible refine Kept.drewN ?_ _) | ((with_reducible refine Kept.setCell ?_ ?_ _); rotate_left; focus (first | (simp; done) | (simp; omega))) | refine Kept.trans ?_ (by assumption)))) k5))
    have S2 := Lib.hid (S2.out.kept (Kept.trans (b := _) (by first | exact Kept.refl _ | (go_light; repeat (first | (with_reducible exact Kept.refl _) | (with_reducible assumption) | (with_reducible refine Kept.alloc ?_ _ _) | (with_reducible refine Kept.drew ?_) | (with_reducible refine Kept.drewN ?_ _) | ((with_reducible refine Kept.setCell ?_ ?_ _); rotate_left; focus (first | (simp; done) | (simp; omega))) | refine Kept.trans ?_ (by assumption)))) k5))
    have TC := Lib.hid (TC.out.kept (Kept.trans (b := _) (by first | exact Kept.refl _ | (go_light; repeat (first | (with_reducible exact Kept.refl _) | (with_reducible assumption) | (with_reducible refine Kept.alloc ?_ _ _) | (with_reducible refine Kept.drew ?_) | (with_reducible refine Kept.drewN ?_ _) | ((with_reducible refine Kept.setCell ?_ ?_ _); rotate_left; focus (first | (simp; done) | (simp; omega))) | refine Kept.trans ?_ (by assumption)))) k5))
    have KC := Lib.hid (KC.out.trans (Kept.trans (b := _) (by first | exact Kept.refl _ | (go_light; repeat (first | (with_reducible exact Kept.refl _) | (with_reducible assumption) | (with_reducible refine Kept.alloc ?_ _ _) | (with_reducible refine Kept.drew ?_) | (with_reducible refine Kept.drewN ?_ _) | ((with_reducible refine Kept.setCell ?_ ?_ _); rotate_left; focus (first | (simp; done) | (simp; omega))) | refine Kept.trans ?_ (by assumption)))) k5))
    clear k5 e0 e1 f0 f1
    obtain ⟨e0, e1⟩ := S1.out
    obtain ⟨f0, f1⟩ := S2.out
    cases bh with
    | false =>
      go_wp2
      go_ret
      exact ⟨by rw [HER.out]; rfl, KC.out⟩
    | true =>
    obtain ⟨a0, a1, a2, a3, a4, a5, a6, a7, a8, a9, a10, a11, a12⟩ := TC.out
    have KT : Kept w5 w5 := Kept.refl _
    go_wp2_with fail
    go_region_held3 (fun w' => w'.cell? ⟨b1, 0, none⟩ = some (.int .i64 t.D) ∧ w'.cell? ⟨b1, 1, none⟩ = some (.int .i64 q) ∧ w'.cell? ⟨b2, 0, none⟩ = some (.int .i64 t.H) ∧ w'.cell? ⟨b2, 1, none⟩ = some (.int .i64 t.G) ∧ w'.cell? ⟨w.heap.size, 0, none⟩ = some (.int .i64 t.D) ∧ w'.cell? ⟨w.heap.size, 1, none⟩ = some (.int .i64 t.H) ∧ w'.cell? ⟨w.heap.size, 2, none⟩ = some (.int .i64 t.G) ∧ w'.cell? ⟨w.heap.size, 3, none⟩ = some (.int .i64 t.A.F.T) ∧ w'.cell? ⟨w.heap.size, 4, none⟩ = some (.int .i64 t.A.F.K) ∧ w'.cell? ⟨w.heap.size, 5, none⟩ = some (.int .i64 t.A.F.N) ∧ w'.cell? ⟨w.heap.size, 6, none⟩ = some (.int .i64 t.A.G) ∧ w'.cell? ⟨w.heap.size, 7, none⟩ = some (.int .i64 t.A.V) ∧ w'.cell? ⟨w.heap.size, 8, none⟩ = some (.int .i64 t.A.L) ∧ w'.cell? ⟨w.heap.size, 9, none⟩ = some (.int .i64 t.E.T) ∧ w'.cell? ⟨w.heap.size, 10, none⟩ = some (.int .i64 t.E.K) ∧ w'.cell? ⟨w.heap.size, 11, none⟩ = some (.int .i64 t.E.N) ∧ w'.cell? ⟨w.heap.size, 12, none⟩ = some (.int .i64 t.P)) (((with_reducible refine all17 S1.out S2.out TC.out ?_); (repeat (first | (with_reducible exact KT) | (with_reducible exact Kept.refl _) | (with_reducible refine Kept.alloc ?_ _ _) | (with_reducible refine Kept.drew ?_) | ((with_reducible refine Kept.setCell ?_ ?_ _); rotate_left; (dsimp only; have := KT.size; omega)))); done)) (first | (go_at_call 73; (with_reducible refine Calls.mono (LS _).out ?_); rintro e x1 ⟨g, rfl, sp, y⟩; have K0 : Kept w5 x1 := Kept.trans (b := _) (by repeat (first | with_reducible exact KT | with_reducible exact Kept.refl _ | with_reducible refine Kept.alloc ?_ _ _ | with_reducible refine Kept.drew ?_)) y; have LP := Lib.hid sp; (first | (with_reducible have SB := Lib.hid (spt_keep HQ.out y)) | (with_reducible have SB := Lib.hid (spt_keepd HQ.out y)) | skip); have KT : Kept w5 x1 := K0; clear K0 y sp; obtain ⟨e0, e1, f0, f1, a0, a1, a2, a3, a4, a5, a6, a7, a8, a9, a10, a11, a12⟩ := all17 S1.out S2.out TC.out KT; have lz0 := lt_of_cell e0; have lz1 := lt_of_cell f0; have lz2 := lt_of_cell a0) | (go_at_call 72; (with_reducible refine Calls.mono (HA _ _ _ (by first | with_reducible exact SB.out | with_reducible exact SB.out.kept (Kept.refl _).drew | with_reducible exact spt_here HQ.out | with_reducible exact (spt_here HQ.out).kept (Kept.refl _).drew) (LP.out.kept (by repeat (first | with_reducible exact KT | with_reducible exact Kept.refl _ | with_reducible refine Kept.alloc ?_ _ _ | with_reducible refine Kept.drew ?_)))).out ?_); rintro e x2 ⟨rfl, y2⟩; have KT : Kept w5 x2 := Kept.trans (b := _) (by repeat (first | with_reducible exact KT | with_reducible exact Kept.refl _ | with_reducible refine Kept.alloc ?_ _ _ | with_reducible refine Kept.drew ?_)) y2))
    all_goals
      have KC := Lib.hid (KC.out.trans KT)
      cases ba with
      | false =>
        go_wp2
        go_ret
        exact ⟨by rw [HER.out]; rfl, KC.out⟩
      | true =>
        go_wp2
        go_ret
        exact ⟨by rw [HER.out]; rfl, KC.out⟩
noncomputable def fitsT (t : Twr) (n : Int) : Int := if fitsL t n ≠ 0 then fitsL t n else if t.Sound then (if decide (t.D ≤ n - t.A.F.N * (4 + t.G)) && decide (t.H ≤ n - t.G) && apT t then 0 else 2) else 2
theorem tfits_any (t : Twr) (n : Int) (w : World) : Calls Tryz.prog 10 #[towV t, .int .i64 n] w fun e w' => e = .returned (.int .i64 (fitsT t n)) ∧ Kept w w' := by
  unfold fitsT
  by_cases hl : fitsL t n = 0
  · rw [if_neg (by simpa using hl)]
    by_cases hs : t.Sound
    · rw [if_pos hs]; exact tfits_in t n hl hs w
    · rw [if_neg hs]; exact tfits_s t n hl hs w
  · rw [if_pos hl]; exact tfits_l t n _ hl rfl w
structure TFit (t : Twr) (n : Int) : Prop where
  l : LFit t n
  s : t.Sound
  d : t.D ≤ n - t.A.F.N * (4 + t.G)
  h : t.H ≤ n - t.G
  ap : ApFrom (tparts t) (lparts t) 2
theorem fitsT_ok {t : Twr} {n : Int} (h : fitsT t n = 0) : TFit t n := by
  unfold fitsT at h
  by_cases hl : fitsL t n = 0
  · rw [if_neg (by simpa using hl)] at h
    by_cases hs : t.Sound
    · rw [if_pos hs] at h
      by_cases hh : (decide (t.D ≤ n - t.A.F.N * (4 + t.G)) && decide (t.H ≤ n - t.G) && apT t) = true
      · simp only [Bool.and_eq_true, decide_eq_true_eq] at hh
        exact ⟨fitsL_ok hl, hs, hh.1.1, hh.1.2, (apT_iff t).1 hh.2⟩
      · rw [if_neg hh] at h; omega
    · rw [if_neg hs] at h; omega
  · rw [if_pos hl] at h; exact absurd h hl
end Go.Proofs.YtejiogggocnldaaGreat.Tw
