/- Words of a stack: the program's place, link, read, untagged, following; the document's Index and top. -/
import Derived.Test.YtmbdgaflmiacnaaG03
import Derived.Test.YtmbdgaflmiacnaaG04
import Derived.Lib.Hide
import Derived.Deep.Light
import Derived.Deep.RegionHeld3
import Derived.Laws.EntriesVeiled
set_option linter.unusedVariables false
set_option linter.unusedSimpArgs false

namespace Go.Proofs.Ytmbdgaflmiacnaa.Sk
set_option maxRecDepth 20000
open Go.RowKit
open Wo (St acc wordAt)

theorem g_top (n : Int) (w : World) (h0 : 0 ≤ n) (h1 : n < 18446744073709551616) : Calls Try.prog 85 #[.int .u64 n] w fun e w' => e = .returned (.tuple #[.agg #[.int .i64 (n % 65536 - 1), .int .i64 (n / 65536 % 281474976710656)], .int .i64 0]) ∧ Kept w w' :=
  (Wo.get_top_yes n w h0 h1).mono fun _ _ ⟨x, k⟩ => ⟨x, kept_of k⟩
theorem u_top (i t : Int) (w : World) (h : -1 ≤ i ∧ i ≤ 65534 ∧ 0 ≤ t ∧ t ≤ 281474976710655) : Calls Try.prog 64 #[.agg #[.int .i64 i, .int .i64 t]] w fun e w' => e = .returned (.tuple #[.int .u64 (i + 1 + t * 65536), .int .i64 0]) ∧ Kept w w' :=
  (Wo.put_top_good i t w h).mono fun _ _ ⟨x, k⟩ => ⟨x, kept_of k⟩

set_option maxHeartbeats 400000 in
theorem place_yes (T K N i : Int) (w : World) (h0 : 0 ≤ i) (h1 : i < N) (h2 : i ≤ 65534) : Calls Try.prog 41 #[.agg #[.int .i64 T, .int .i64 K, .int .i64 N], .int .i64 i] w fun e w' => e = .returned (.bool true) ∧ Kept w w' := by
  go_enter Try.func41, Try.ntmps41
  go_wp2
  go_ret
  exact ⟨rfl, by (go_light; repeat (first | (with_reducible exact Kept.refl _) | (with_reducible assumption) | (with_reducible refine Kept.alloc ?_ _ _) | (with_reducible refine Kept.drew ?_) | (with_reducible refine Kept.drewN ?_ _) | ((with_reducible refine Kept.setCell ?_ ?_ _); rotate_left; focus (first | (simp; done) | (simp; omega))) | refine Kept.trans ?_ (by assumption)))⟩
set_option maxHeartbeats 400000 in
theorem place_no (T K N i : Int) (w : World) (h : i < 0 ∨ N ≤ i) : Calls Try.prog 41 #[.agg #[.int .i64 T, .int .i64 K, .int .i64 N], .int .i64 i] w fun e w' => e = .returned (.bool false) ∧ Kept w w' := by
  by_cases h0 : i < 0
  · clear h
    go_enter Try.func41, Try.ntmps41
    go_wp2
    go_ret
    exact ⟨rfl, by (go_light; repeat (first | (with_reducible exact Kept.refl _) | (with_reducible assumption) | (with_reducible refine Kept.alloc ?_ _ _) | (with_reducible refine Kept.drew ?_) | (with_reducible refine Kept.drewN ?_ _) | ((with_reducible refine Kept.setCell ?_ ?_ _); rotate_left; focus (first | (simp; done) | (simp; omega))) | refine Kept.trans ?_ (by assumption)))⟩
  · have h1 : N ≤ i := by omega
    have h2 : 0 ≤ i := by omega
    clear h h0
    go_enter Try.func41, Try.ntmps41
    go_wp2
    go_ret
    exact ⟨rfl, by (go_light; repeat (first | (with_reducible exact Kept.refl _) | (with_reducible assumption) | (with_reducible refine Kept.alloc ?_ _ _) | (with_reducible refine Kept.drew ?_) | (with_reducible refine Kept.drewN ?_ _) | ((with_reducible refine Kept.setCell ?_ ?_ _); rotate_left; focus (first | (simp; done) | (simp; omega))) | refine Kept.trans ?_ (by assumption)))⟩
set_option maxHeartbeats 400000 in
theorem link_any (T K N i : Int) (w : World) : Calls Try.prog 47 #[.agg #[.int .i64 T, .int .i64 K, .int .i64 N], .int .i64 i] w fun e w' => e = .returned (.int .i64 (wrap64 (K + i))) ∧ Kept w w' := by
  go_enter Try.func47, Try.ntmps47
  go_wp2
  go_ret
  exact ⟨rfl, by (go_light; repeat (first | (with_reducible exact Kept.refl _) | (with_reducible assumption) | (with_reducible refine Kept.alloc ?_ _ _) | (with_reducible refine Kept.drew ?_) | (with_reducible refine Kept.drewN ?_ _) | ((with_reducible refine Kept.setCell ?_ ?_ _); rotate_left; focus (first | (simp; done) | (simp; omega))) | refine Kept.trans ?_ (by assumption)))⟩
theorem link_in (T K N i : Int) (w : World) (h0 : 0 ≤ K) (h1 : K ≤ 100000) (h2 : -1 ≤ i) (h3 : i ≤ 100000) : Calls Try.prog 47 #[.agg #[.int .i64 T, .int .i64 K, .int .i64 N], .int .i64 i] w fun e w' => e = .returned (.int .i64 (K + i)) ∧ Kept w w' :=
  (link_any T K N i w).mono fun _ _ ⟨x, k⟩ => ⟨by rw [x, show wrap64 (K + i) = K + i by unfold wrap64; omega], k⟩

set_option maxHeartbeats 800000 in
theorem read_any (T K N x : Int) (w : World) (x0 : 0 ≤ x) (x1 : x < 18446744073709551616) : Calls Try.prog 68 #[.agg #[.int .i64 T, .int .i64 K, .int .i64 N], .int .u64 x] w fun e w' => e = .returned (.int .i64 (idx N x)) ∧ Kept w w' := by
  by_cases h : 0 ≤ x % 65536 - 1 ∧ x % 65536 - 1 < N
  · obtain ⟨h0, h1⟩ := h
    have E : Hid (idx N x = x % 65536 - 1) := Lib.hid (by unfold idx; rw [if_pos h1])
    have h2 : x % 65536 - 1 ≤ 65534 := by omega
    go_enter Try.func68, Try.ntmps68
    go_wp2_with fail
    refine (g_top x _ x0 x1).mono ?_
    rintro e w1 ⟨rfl, k1⟩
    have K1 : Kept w w1 := Kept.trans (b := _) (by (go_light; repeat (first | (with_reducible exact Kept.refl _) | (with_reducible assumption) | (with_reducible refine Kept.alloc ?_ _ _) | (with_reducible refine Kept.drew ?_) | (with_reducible refine Kept.drewN ?_ _) | ((with_reducible refine Kept.setCell ?_ ?_ _); rotate_left; focus (first | (simp; done) | (simp; omega))) | refine Kept.trans ?_ (by assumption)))) k1
    have c0 : w1.cell? ⟨w.heap.size, 0, none⟩ = some (.int .i64 T) := k1.some (by simp)
    have c1 : w1.cell? ⟨w.heap.size, 1, none⟩ = some (.int .i64 K) := k1.some (by simp)
    have c2 : w1.cell? ⟨w.heap.size, 2, none⟩ = some (.int .i64 N) := k1.some (by simp)
    have S1 := k1.size
    simp at S1
    have S2 : w.heap.size < w1.heap.size := by omega
    clear k1 S1
    go_wp2_with fail
    refine (place_yes T K N _ _ h0 h1 h2).mono ?_
    rintro e w2 ⟨rfl, k2⟩
    have c3 : w2.cell? ⟨w1.heap.size, 0, none⟩ = some (.int .i64 (x % 65536 - 1)) := k2.some (by simp)
    go_wp2
    go_ret
    exact ⟨by rw [E.out]; rfl, Kept.trans (b := _) (by (go_light; repeat (first | (with_reducible exact Kept.refl _) | (with_reducible assumption) | (with_reducible refine Kept.alloc ?_ _ _) | (with_reducible refine Kept.drew ?_) | (with_reducible refine Kept.drewN ?_ _) | ((with_reducible refine Kept.setCell ?_ ?_ _); rotate_left; focus (first | (simp; done) | (simp; omega))) | refine Kept.trans ?_ (by assumption)))) k2⟩
  · have E : Hid (idx N x = -1) := Lib.hid (by
      unfold idx
      split
      · omega
      · rfl)
    have h1 : x % 65536 - 1 < 0 ∨ N ≤ x % 65536 - 1 := by omega
    clear h
    go_enter Try.func68, Try.ntmps68
    go_wp2_with fail
    refine (g_top x _ x0 x1).mono ?_
    rintro e w1 ⟨rfl, k1⟩
    have K1 : Kept w w1 := Kept.trans (b := _) (by (go_light; repeat (first | (with_reducible exact Kept.refl _) | (with_reducible assumption) | (with_reducible refine Kept.alloc ?_ _ _) | (with_reducible refine Kept.drew ?_) | (with_reducible refine Kept.drewN ?_ _) | ((with_reducible refine Kept.setCell ?_ ?_ _); rotate_left; focus (first | (simp; done) | (simp; omega))) | refine Kept.trans ?_ (by assumption)))) k1
    have c0 : w1.cell? ⟨w.heap.size, 0, none⟩ = some (.int .i64 T) := k1.some (by simp)
    have c1 : w1.cell? ⟨w.heap.size, 1, none⟩ = some (.int .i64 K) := k1.some (by simp)
    have c2 : w1.cell? ⟨w.heap.size, 2, none⟩ = some (.int .i64 N) := k1.some (by simp)
    have S1 := k1.size
    simp at S1
    have S2 : w.heap.size < w1.heap.size := by omega
    clear k1 S1
    go_wp2_with fail
    refine (place_no T K N _ _ h1).mono ?_
    rintro e w2 ⟨rfl, k2⟩
    have c3 : w2.cell? ⟨w1.heap.size, 0, none⟩ = some (.int .i64 (x % 65536 - 1)) := k2.some (by simp)
    go_wp2
    go_ret
    exact ⟨by rw [E.out]; rfl, Kept.trans (b := _) (by (go_light; repeat (first | (with_reducible exact Kept.refl _) | (with_reducible assumption) | (with_reducible refine Kept.alloc ?_ _ _) | (with_reducible refine Kept.drew ?_) | (with_reducible refine Kept.drewN ?_ _) | ((with_reducible refine Kept.setCell ?_ ?_ _); rotate_left; focus (first | (simp; done) | (simp; omega))) | refine Kept.trans ?_ (by assumption)))) k2⟩

set_option maxHeartbeats 400000 in
theorem untagged_any (i : Int) (w : World) (h0 : -1 ≤ i) (h1 : i ≤ 65534) : Calls Try.prog 46 #[.int .i64 i] w fun e w' => e = .returned (.int .u64 (i + 1)) ∧ Kept w w' := by
  have hp : ∀ w, Hid (Calls Try.prog 64 #[.agg #[.int .i64 i, .int .i64 0]] w fun e w' => e = .returned (.tuple #[.int .u64 (i + 1), .int .i64 0]) ∧ Kept w w') := fun w => Lib.hid (by
    have h := u_top i 0 w ⟨h0, h1, by omega, by omega⟩
    rw [Int.zero_mul, Int.add_zero] at h
    exact h)
  clear h0 h1
  go_enter Try.func46, Try.ntmps46
  go_wp2_with fail
  refine (hp _).out.mono ?_
  rintro e w1 ⟨rfl, k1⟩
  go_wp2
  go_ret
  exact ⟨rfl, by (go_light; repeat (first | (with_reducible exact Kept.refl _) | (with_reducible assumption) | (with_reducible refine Kept.alloc ?_ _ _) | (with_reducible refine Kept.drew ?_) | (with_reducible refine Kept.drewN ?_ _) | ((with_reducible refine Kept.setCell ?_ ?_ _); rotate_left; focus (first | (simp; done) | (simp; omega))) | refine Kept.trans ?_ (by assumption)))⟩

theorem and_tag (x : Int) (h0 : 0 ≤ x) (h1 : x ≤ 281474976710656) : bits .and .i64 x 281474976710655 = x % 281474976710656 :=
  bits_mask .i64 62 (by decide) (fun n a b => by have := Wo.wi n a (by omega); unfold wrap64 at this; rw [IntKind.wrap_i64]; exact this) 48 (by decide) x h0 (by omega)

set_option maxHeartbeats 800000 in
theorem following_any (x i : Int) (w : World) (x0 : 0 ≤ x) (x1 : x < 18446744073709551616) (h0 : -1 ≤ i) (h1 : i ≤ 65534) : Calls Try.prog 96 #[.int .u64 x, .int .i64 i] w fun e w' => e = .returned (.int .u64 (topW i x)) ∧ Kept w w' := by
  have b0 : 0 ≤ x / 65536 % 281474976710656 := by omega
  have b1 : x / 65536 % 281474976710656 ≤ 281474976710655 := by omega
  have ha := and_tag (x / 65536 % 281474976710656 + 1) (by omega) (by omega)
  have hp : ∀ w, Hid (Calls Try.prog 64 #[.agg #[.int .i64 i, .int .i64 ((x / 65536 + 1) % 281474976710656)]] w fun e w' => e = .returned (.tuple #[.int .u64 (topW i x), .int .i64 0]) ∧ Kept w w') := fun w => Lib.hid (by
    exact u_top i ((x / 65536 + 1) % 281474976710656) w ⟨h0, h1, by omega, by omega⟩)
  clear h0 h1
  go_enter Try.func96, Try.ntmps96
  go_wp2_with fail
  refine (g_top x _ x0 x1).mono ?_
  rintro e w1 ⟨rfl, k1⟩
  go_wp2_with fail
  refine (hp _).out.mono ?_
  rintro e w2 ⟨rfl, k2⟩
  go_wp2
  go_ret
  exact ⟨rfl, by (go_light; repeat (first | (with_reducible exact Kept.refl _) | (with_reducible assumption) | (with_reducible refine Kept.alloc ?_ _ _) | (with_reducible refine Kept.drew ?_) | (with_reducible refine Kept.drewN ?_ _) | ((with_reducible refine Kept.setCell ?_ ?_ _); rotate_left; focus (first | (simp; done) | (simp; omega))) | refine Kept.trans ?_ (by assumption)))⟩

end Go.Proofs.Ytmbdgaflmiacnaa.Sk

namespace Go.Proofs.Ytmbdgaflmiacnaa.Sk
set_option maxRecDepth 20000
open Go.RowKit
open Wo (St acc wordAt PMem RefIs)

structure OpAt (w : World) (P o : Nat) (S : Stk) (W L : Int) (nx : Value) (er : Int) : Prop where
  c0 : w.cell? ⟨P, o, none⟩ = some (.bool true)
  c1 : w.cell? ⟨P, o + 1, none⟩ = some (.int .i64 S.T)
  c2 : w.cell? ⟨P, o + 2, none⟩ = some (.int .i64 S.K)
  c3 : w.cell? ⟨P, o + 3, none⟩ = some (.int .i64 S.N)
  c4 : w.cell? ⟨P, o + 4, none⟩ = some (.int .u64 W)
  c5 : w.cell? ⟨P, o + 5, none⟩ = some (.int .u64 L)
  c6 : w.cell? ⟨P, o + 6, none⟩ = some nx
  c7 : w.cell? ⟨P, o + 7, none⟩ = some (.int .i64 er)
  f : ∀ i, w.frozen? ⟨P, i, none⟩ = false

theorem OpAt.lt {w : World} {P o : Nat} {S : Stk} {W L : Int} {nx : Value} {er : Int} (h : OpAt w P o S W L nx er) : P < w.heap.size := lt_of_cell h.c0
theorem OpAt.frame {w w' : World} {P o : Nat} {S : Stk} {W L : Int} {nx : Value} {er : Int} (h : OpAt w P o S W L nx er) {T : Nat → Prop} (hb : But T w w') (hP : ¬ T P) : OpAt w' P o S W L nx er :=
  ⟨hb.some h.c0 hP, hb.some h.c1 hP, hb.some h.c2 hP, hb.some h.c3 hP, hb.some h.c4 hP, hb.some h.c5 hP, hb.some h.c6 hP, hb.some h.c7 hP, fun i => hb.soft h.lt (h.f i)⟩
theorem OpAt.kept {w w' : World} {P o : Nat} {S : Stk} {W L : Int} {nx : Value} {er : Int} (h : OpAt w P o S W L nx er) (k : Kept w w') : OpAt w' P o S W L nx er := h.frame (k.but (fun _ => False)) id

structure Chg (P o m B : Nat) (w w' : World) : Prop where
  but : But (fun k => k = P ∨ k = B) w w'
  out : ∀ j, (j < o ∨ o + m ≤ j) → w'.cell? ⟨P, j, none⟩ = w.cell? ⟨P, j, none⟩

theorem Chg.refl (P o m B : Nat) (w : World) : Chg P o m B w w := ⟨But.refl _ _, fun _ _ => rfl⟩
theorem Chg.trans {P o m B : Nat} {a b c : World} (h : Chg P o m B a b) (k : Chg P o m B b c) : Chg P o m B a c :=
  ⟨h.but.trans k.but (fun _ _ h => h), fun j hj => (k.out j hj).trans (h.out j hj)⟩
theorem Chg.keep {P o m B : Nat} {a b c : World} (h : Chg P o m B a b) (k : Kept b c) (hP : P < a.heap.size) : Chg P o m B a c :=
  ⟨h.but.then k, fun j hj => (k.cell P j (Nat.lt_of_lt_of_le hP h.but.size)).trans (h.out j hj)⟩
theorem Chg.mem {P o m B : Nat} {a b c : World} (h : Chg P o m B a b) (k : But (fun k => k = B) b c) (hP : P < a.heap.size) (hPB : P ≠ B) : Chg P o m B a c :=
  ⟨h.but.trans k (fun _ _ h => Or.inr h), fun j hj => (k.cell P j (Nat.lt_of_lt_of_le hP h.but.size) hPB).trans (h.out j hj)⟩
theorem Chg.set {P o m B : Nat} {a b : World} (h : Chg P o m B a b) (j : Nat) (hj : o ≤ j ∧ j < o + m) (v : Value) : Chg P o m B a (b.setCell ⟨P, j, none⟩ v) :=
  ⟨h.but.setCell (p := ⟨P, j, none⟩) (Or.inl (Or.inl rfl)) v, fun i hi => by rw [cell_set, if_neg (by omega)]; exact h.out i hi⟩
theorem Chg.alloc {P o m B : Nat} {a b : World} (h : Chg P o m B a b) (hP : P < a.heap.size) (c : Array Value) (t : TypeId) : Chg P o m B a (b.alloc (.cells c t)) := h.keep ((Kept.refl b).alloc c t) hP
theorem Chg.drew {P o m B : Nat} {a b : World} (h : Chg P o m B a b) (hP : P < a.heap.size) : Chg P o m B a b.drew := h.keep (Kept.refl b).drew hP
theorem Chg.drewN {P o m B : Nat} {a b : World} (h : Chg P o m B a b) (hP : P < a.heap.size) (n : Nat) : Chg P o m B a (b.drewN n) := h.keep ((Kept.refl b).drewN n) hP
theorem Chg.some {P o m B : Nat} {w w' : World} (h : Chg P o m B w w') {j : Nat} {v : Value} (hc : w.cell? ⟨P, j, none⟩ = some v) (hj : j < o ∨ o + m ≤ j) : w'.cell? ⟨P, j, none⟩ = some v := (h.out j hj).trans hc
theorem Chg.wide {P o m o' m' B : Nat} {w w' : World} (h : Chg P o m B w w') (h0 : o' ≤ o) (h1 : o + m ≤ o' + m') : Chg P o' m' B w w' := ⟨h.but, fun j hj => h.out j (by omega)⟩
theorem Chg.any {P o m : Nat} {w w' : World} (h : Chg P o m P w w') (B : Nat) : Chg P o m B w w' := ⟨h.but.mono (fun _ _ h => h.elim Or.inl Or.inl), h.out⟩
theorem Chg.own {P o m : Nat} {w w' : World} (h : Chg P o m P w w') : But (fun k => k = P) w w' := h.but.mono (fun _ _ h => h.elim id id)
end Go.Proofs.Ytmbdgaflmiacnaa.Sk

namespace Go.Proofs.Ytmbdgaflmiacnaa.Sk
set_option maxRecDepth 20000
open Go.RowKit
open Wo (St acc wordAt PMem RefIs)

set_option maxHeartbeats 1000000 in
theorem first_Pop (P o : Nat) (S : Stk) (W L : Int) (nx : Value) (er : Int) (w : World) (ho : OpAt w P o S W L nx er) (w0 : 0 ≤ W) (w1 : W < 18446744073709551616) :
    Calls Try.prog 56 #[.pointer (some ⟨P, o, none⟩)] w fun e w' => e = .returned (.int .i64 (idx S.N W)) ∧ Kept w w' := by
  obtain ⟨c0, c1, c2, c3, c4, c5, c6, c7, f⟩ := ho
  have hP := lt_of_cell c0
  go_enter Try.func56, Try.ntmps56
  go_wp2_with fail
  go_region_held3 (fun w' => w'.cell? ⟨P, o + 1, none⟩ = some (.int .i64 S.T) ∧ w'.cell? ⟨P, o + 2, none⟩ = some (.int .i64 S.K) ∧ w'.cell? ⟨P, o + 3, none⟩ = some (.int .i64 S.N) ∧ w'.cell? ⟨P, o + 4, none⟩ = some (.int .u64 W)) (first | go_keep | (exact ⟨k1.some c1, k1.some c2, k1.some c3, k1.some c4⟩)) (first | (go_at_call 68; refine (read_any S.T S.K S.N W _ w0 w1).mono ?_; rintro e w1 ⟨rfl, k1⟩))
  go_wp2
  go_ret
  exact ⟨rfl, by (go_light; repeat (first | (with_reducible exact Kept.refl _) | (with_reducible assumption) | (with_reducible refine Kept.alloc ?_ _ _) | (with_reducible refine Kept.drew ?_) | (with_reducible refine Kept.drewN ?_ _) | ((with_reducible refine Kept.setCell ?_ ?_ _); rotate_left; focus (first | (simp; done) | (simp; omega))) | refine Kept.trans ?_ (by assumption)))⟩
set_option maxHeartbeats 1000000 in
theorem end_Pop (P o : Nat) (S : Stk) (W L : Int) (nx : Value) (er er' : Int) (w : World) (ho : OpAt w P o S W L nx er) :
    Calls Try.prog 83 #[.pointer (some ⟨P, o, none⟩), .int .i64 er'] w fun e w' => e = .returned (.tuple #[]) ∧ OpAt w' P o S W L .nilFunc er' ∧ Chg P o 8 P w w' := by
  obtain ⟨c0, c1, c2, c3, c4, c5, c6, c7, f⟩ := ho
  have hP := lt_of_cell c0
  go_enter Try.func83, Try.ntmps83
  go_wp2
  go_end0
  exact ⟨rfl, (by go_light; refine ⟨?_, ?_, ?_, ?_, ?_, ?_, ?_, ?_, fun i => ?_⟩ <;> (simp [cell_set, *]; done)), by (go_light; repeat (first | (with_reducible assumption) | (with_reducible exact Chg.refl _ _ _ _ _) | (with_reducible refine Chg.set ?_ _ (by omega) _) | (with_reducible refine Chg.alloc ?_ (by assumption) _ _) | (with_reducible refine Chg.drew ?_ (by assumption)) | (with_reducible refine Chg.drewN ?_ (by assumption) _)))⟩
set_option maxHeartbeats 1000000 in
theorem loadTop_Pop (P o M B n k : Nat) (S : Stk) (s : St) (W L : Int) (nx : Value) (er : Int) (w : World) (ho : OpAt w P o S W L nx er) (hm : PMem w M B n s) (h0 : 0 ≤ s.cnt) (h1 : s.cnt ≤ 1000000) (hPM : P ≠ M) (hPB : P ≠ B) :
    Calls Try.prog 82 #[.pointer (some ⟨P, o, none⟩), .pointer (some ⟨M, 0, none⟩), .func (.func k) #[] #[]] w
      fun e w' => e = .returned (.tuple #[]) ∧ OpAt w' P o S (wordAt n s S.T) L (.func (.func k) #[] #[]) er ∧ PMem w' M B n (acc n s 1 S.T false 0) ∧ Chg P o 8 B w w' := by
  obtain ⟨c0, c1, c2, c3, c4, c5, c6, c7, f⟩ := ho
  have hP := lt_of_cell c0
  have HM := Lib.hid hm
  clear hm
  go_enter Try.func82, Try.ntmps82
  go_wp2_with fail
  refine (p_load M B n s S.T _ HM.out h0 h1).mono ?_
  rintro e w1 ⟨rfl, m1, b1⟩
  have d0 := b1.some c0 hPB
  have d1 := b1.some c1 hPB
  have d2 := b1.some c2 hPB
  have d3 := b1.some c3 hPB
  have d4 := b1.some c4 hPB
  have d5 := b1.some c5 hPB
  have d6 := b1.some c6 hPB
  have d7 := b1.some c7 hPB
  have df : ∀ i, w1.frozen? ⟨P, i, none⟩ = false := fun i => b1.soft (lt_of_cell c0) (f i)
  have g1 : Chg P o 8 B w w1 := (Chg.refl _ _ _ _ _).mem b1 hP hPB
  have M1 := Lib.hid m1
  have G1 := Lib.hid g1
  clear m1 b1 g1 c0 c1 c2 c3 c4 c5 c6 c7 f
  go_wp2
  go_end0
  have g1 := G1.out
  exact ⟨rfl, (by go_light; refine ⟨?_, ?_, ?_, ?_, ?_, ?_, ?_, ?_, fun i => ?_⟩ <;> (simp [cell_set, *]; done)), pmem_frame M1.out (T := fun k => k = P) (((But.refl _ _).here _ _).here _ _) (Ne.symm hPM) (Ne.symm hPB), by (go_light; repeat (first | (with_reducible assumption) | (with_reducible exact Chg.refl _ _ _ _ _) | (with_reducible refine Chg.set ?_ _ (by omega) _) | (with_reducible refine Chg.alloc ?_ (by assumption) _ _) | (with_reducible refine Chg.drew ?_ (by assumption)) | (with_reducible refine Chg.drewN ?_ (by assumption) _)))⟩
set_option maxHeartbeats 1000000 in
theorem loadFirst_Pop_some (P o M B n k : Nat) (S : Stk) (s : St) (W L : Int) (nx : Value) (er : Int) (w : World) (ho : OpAt w P o S W L nx er) (hm : PMem w M B n s) (h0 : 0 ≤ s.cnt) (h1 : s.cnt ≤ 1000000) (hPM : P ≠ M) (hPB : P ≠ B)
    (w0 : 0 ≤ wordAt n s S.T) (w1 : wordAt n s S.T < 18446744073709551616) (hi : 0 ≤ idx S.N (wordAt n s S.T)) :
    Calls Try.prog 65 #[.pointer (some ⟨P, o, none⟩), .pointer (some ⟨M, 0, none⟩), .func (.func k) #[] #[]] w
      fun e w' => e = .returned (.tuple #[]) ∧ OpAt w' P o S (wordAt n s S.T) L (.func (.func k) #[] #[]) er ∧ PMem w' M B n (acc n s 1 S.T false 0) ∧ Chg P o 8 B w w' := by
  have hP := ho.lt
  have hne : (idx S.N (wordAt n s S.T) == -1) = false := by simp; omega
  have HO := Lib.hid ho
  have HM := Lib.hid hm
  clear ho hm
  go_enter Try.func65, Try.ntmps65
  go_wp2_with fail
  refine (loadTop_Pop P o M B n k S s W L nx er _ HO.out HM.out h0 h1 hPM hPB).mono ?_
  rintro e u1 ⟨rfl, o1, m1, g1⟩
  have O1 := Lib.hid o1
  have M1 := Lib.hid m1
  have G1 := Lib.hid g1
  clear o1 m1 g1
  go_wp2_with fail
  refine (first_Pop P o S _ L _ er _ O1.out w0 w1).mono ?_
  rintro e u2 ⟨rfl, k2⟩
  have K2 := Lib.hid k2
  clear k2
  go_wp2
  go_end0
  exact ⟨rfl, O1.out.kept K2.out, pmem_kept M1.out K2.out, G1.out.keep K2.out hP⟩
set_option maxHeartbeats 1000000 in
theorem loadFirst_Pop_none (P o M B n k : Nat) (S : Stk) (s : St) (W L : Int) (nx : Value) (er : Int) (w : World) (ho : OpAt w P o S W L nx er) (hm : PMem w M B n s) (h0 : 0 ≤ s.cnt) (h1 : s.cnt ≤ 1000000) (hPM : P ≠ M) (hPB : P ≠ B)
    (w0 : 0 ≤ wordAt n s S.T) (w1 : wordAt n s S.T < 18446744073709551616) (hi : idx S.N (wordAt n s S.T) < 0) :
    Calls Try.prog 65 #[.pointer (some ⟨P, o, none⟩), .pointer (some ⟨M, 0, none⟩), .func (.func k) #[] #[]] w
      fun e w' => e = .returned (.tuple #[]) ∧ OpAt w' P o S (wordAt n s S.T) L .nilFunc 15 ∧ PMem w' M B n (acc n s 1 S.T false 0) ∧ Chg P o 8 B w w' := by
  have hP := ho.lt
  have hne : (idx S.N (wordAt n s S.T) == -1) = true := by have := idx_lo S.N (wordAt n s S.T); simp; omega
  have HO := Lib.hid ho
  have HM := Lib.hid hm
  clear ho hm
  go_enter Try.func65, Try.ntmps65
  go_wp2_with fail
  refine (loadTop_Pop P o M B n k S s W L nx er _ HO.out HM.out h0 h1 hPM hPB).mono ?_
  rintro e u1 ⟨rfl, o1, m1, g1⟩
  have O1 := Lib.hid o1
  have M1 := Lib.hid m1
  have G1 := Lib.hid g1
  clear o1 m1 g1
  go_wp2_with fail
  refine (first_Pop P o S _ L _ er _ O1.out w0 w1).mono ?_
  rintro e u2 ⟨rfl, k2⟩
  have K2 := Lib.hid k2
  clear k2
  go_wp2_with fail
  refine (end_Pop P o S _ L _ er 15 _ (O1.out.kept K2.out)).mono ?_
  rintro e u3 ⟨rfl, o3, g3⟩
  have O3 := Lib.hid o3
  have G3 := Lib.hid g3
  clear o3 g3
  go_wp2
  go_end0
  exact ⟨rfl, O3.out, pmem_frame (pmem_kept M1.out K2.out) (T := fun k => k = P) G3.out.own (Ne.symm hPM) (Ne.symm hPB), (G1.out.keep K2.out hP).trans (G3.out.any B)⟩
set_option maxHeartbeats 2000000 in
theorem swap_Pop_no (P o M B n k : Nat) (S : Stk) (s : St) (W L : Int) (nx : Value) (er i : Int) (w : World) (ho : OpAt w P o S W L nx er) (hm : PMem w M B n s) (h0 : 0 ≤ s.cnt) (h1 : s.cnt ≤ 1000000) (hPM : P ≠ M) (hPB : P ≠ B)
    (w0 : 0 ≤ W) (w1 : W < 18446744073709551616) (i0 : -1 ≤ i) (i1 : i ≤ 65534) (t0 : 0 ≤ S.T) (t1 : S.T < n) (hq : (wordAt n s S.T == W) = false) :
    Calls Try.prog 92 #[.pointer (some ⟨P, o, none⟩), .pointer (some ⟨M, 0, none⟩), .int .i64 i, .func (.func k) #[] #[]] w
      fun e w' => e = .returned (.tuple #[]) ∧ OpAt w' P o S W L (.func (.func k) #[] #[]) er ∧ PMem w' M B n (acc n s 3 S.T (wordAt n s S.T == W) (topW i W)) ∧ Chg P o 8 B w w' := by
  obtain ⟨c0, c1, c2, c3, c4, c5, c6, c7, f⟩ := ho
  have hP := lt_of_cell c0
  go_enter Try.func92, Try.ntmps92
  go_upto_region 1 with fail
  have d0 : (w.setCell ⟨P, o + 6, none⟩ (.func (.func k) #[] #[])).cell? ⟨P, o, none⟩ = some (.bool true) := by simp [cell_set, *]
  have d1 : (w.setCell ⟨P, o + 6, none⟩ (.func (.func k) #[] #[])).cell? ⟨P, o + 1, none⟩ = some (.int .i64 S.T) := by simp [cell_set, *]
  have d2 : (w.setCell ⟨P, o + 6, none⟩ (.func (.func k) #[] #[])).cell? ⟨P, o + 2, none⟩ = some (.int .i64 S.K) := by simp [cell_set, *]
  have d3 : (w.setCell ⟨P, o + 6, none⟩ (.func (.func k) #[] #[])).cell? ⟨P, o + 3, none⟩ = some (.int .i64 S.N) := by simp [cell_set, *]
  have d4 : (w.setCell ⟨P, o + 6, none⟩ (.func (.func k) #[] #[])).cell? ⟨P, o + 4, none⟩ = some (.int .u64 W) := by simp [cell_set, *]
  have d5 : (w.setCell ⟨P, o + 6, none⟩ (.func (.func k) #[] #[])).cell? ⟨P, o + 5, none⟩ = some (.int .u64 L) := by simp [cell_set, *]
  have d6 : (w.setCell ⟨P, o + 6, none⟩ (.func (.func k) #[] #[])).cell? ⟨P, o + 6, none⟩ = some (.func (.func k) #[] #[]) := by simp [cell_set, *]
  have d7 : (w.setCell ⟨P, o + 6, none⟩ (.func (.func k) #[] #[])).cell? ⟨P, o + 7, none⟩ = some (.int .i64 er) := by simp [cell_set, *]
  have df : ∀ i, (w.setCell ⟨P, o + 6, none⟩ (.func (.func k) #[] #[])).frozen? ⟨P, i, none⟩ = false := fun i => by simp [*]
  have m1 : PMem (w.setCell ⟨P, o + 6, none⟩ (.func (.func k) #[] #[])) M B n s := pmem_frame hm (T := fun k => k = P) ((But.refl _ _).here _ _) (Ne.symm hPM) (Ne.symm hPB)
  have g1 : Chg P o 8 B w (w.setCell ⟨P, o + 6, none⟩ (.func (.func k) #[] #[])) := (Chg.refl _ _ _ _ _).set _ (by omega) _
  clear c0 c1 c2 c3 c4 c5 c6 c7 f hm
  generalize w.setCell ⟨P, o + 6, none⟩ (.func (.func k) #[] #[]) = v1 at *
  have M1 := Lib.hid m1
  have G1 := Lib.hid g1
  have O1 : Hid (OpAt v1 P o S W L (.func (.func k) #[] #[]) er) := Lib.hid ⟨d0, d1, d2, d3, d4, d5, d6, d7, df⟩
  have hP1 := lt_of_cell d0
  clear m1 g1
  go_region_held3 (fun w' => w'.cell? ⟨P, o + 1, none⟩ = some (.int .i64 S.T) ∧ w'.cell? ⟨P, o + 4, none⟩ = some (.int .u64 W)) (first | go_keep | (exact ⟨k1.some d1, k1.some d4⟩) | (exact ⟨b2.some (k1.some d1) hPB, b2.some (k1.some d4) hPB⟩)) (first | (go_at_call 96; refine (following_any W i _ w0 w1 i0 i1).mono ?_; rintro e u1 ⟨rfl, k1⟩) | (go_at_call 95; refine (p_cas M B n s S.T W (topW i W) _ (pmem_kept M1.out (by (go_light; repeat (first | (with_reducible exact Kept.refl _) | (with_reducible assumption) | (with_reducible refine Kept.alloc ?_ _ _) | (with_reducible refine Kept.drew ?_) | (with_reducible refine Kept.drewN ?_ _) | ((with_reducible refine Kept.setCell ?_ ?_ _); rotate_left; focus (first | (simp; done) | (simp; omega))) | refine Kept.trans ?_ (by assumption))))) h0 h1 t0 t1).mono ?_; rintro e u2 ⟨rfl, m2, b2⟩))
  have b3 : But (fun k => k = B) v1 u2 := (Kept.but (by (go_light; repeat (first | (with_reducible exact Kept.refl _) | (with_reducible assumption) | (with_reducible refine Kept.alloc ?_ _ _) | (with_reducible refine Kept.drew ?_) | (with_reducible refine Kept.drewN ?_ _) | ((with_reducible refine Kept.setCell ?_ ?_ _); rotate_left; focus (first | (simp; done) | (simp; omega))) | refine Kept.trans ?_ (by assumption)))) _).trans b2 (fun _ _ h => h)
  go_wp2
  go_end0
  exact ⟨rfl, O1.out.frame b3 hPB, m2, G1.out.mem b3 hP hPB⟩
set_option maxHeartbeats 2000000 in
theorem swap_Pop_yes (P o M B n k : Nat) (S : Stk) (s : St) (W L : Int) (nx : Value) (er i : Int) (w : World) (ho : OpAt w P o S W L nx er) (hm : PMem w M B n s) (h0 : 0 ≤ s.cnt) (h1 : s.cnt ≤ 1000000) (hPM : P ≠ M) (hPB : P ≠ B)
    (w0 : 0 ≤ W) (w1 : W < 18446744073709551616) (i0 : -1 ≤ i) (i1 : i ≤ 65534) (t0 : 0 ≤ S.T) (t1 : S.T < n) (hq : (wordAt n s S.T == W) = true) :
    Calls Try.prog 92 #[.pointer (some ⟨P, o, none⟩), .pointer (some ⟨M, 0, none⟩), .int .i64 i, .func (.func k) #[] #[]] w
      fun e w' => e = .returned (.tuple #[]) ∧ OpAt w' P o S W L .nilFunc 0 ∧ PMem w' M B n (acc n s 3 S.T (wordAt n s S.T == W) (topW i W)) ∧ Chg P o 8 B w w' := by
  obtain ⟨c0, c1, c2, c3, c4, c5, c6, c7, f⟩ := ho
  have hP := lt_of_cell c0
  go_enter Try.func92, Try.ntmps92
  go_upto_region 1 with fail
  have d0 : (w.setCell ⟨P, o + 6, none⟩ (.func (.func k) #[] #[])).cell? ⟨P, o, none⟩ = some (.bool true) := by simp [cell_set, *]
  have d1 : (w.setCell ⟨P, o + 6, none⟩ (.func (.func k) #[] #[])).cell? ⟨P, o + 1, none⟩ = some (.int .i64 S.T) := by simp [cell_set, *]
  have d2 : (w.setCell ⟨P, o + 6, none⟩ (.func (.func k) #[] #[])).cell? ⟨P, o + 2, none⟩ = some (.int .i64 S.K) := by simp [cell_set, *]
  have d3 : (w.setCell ⟨P, o + 6, none⟩ (.func (.func k) #[] #[])).cell? ⟨P, o + 3, none⟩ = some (.int .i64 S.N) := by simp [cell_set, *]
  have d4 : (w.setCell ⟨P, o + 6, none⟩ (.func (.func k) #[] #[])).cell? ⟨P, o + 4, none⟩ = some (.int .u64 W) := by simp [cell_set, *]
  have d5 : (w.setCell ⟨P, o + 6, none⟩ (.func (.func k) #[] #[])).cell? ⟨P, o + 5, none⟩ = some (.int .u64 L) := by simp [cell_set, *]
  have d6 : (w.setCell ⟨P, o + 6, none⟩ (.func (.func k) #[] #[])).cell? ⟨P, o + 6, none⟩ = some (.func (.func k) #[] #[]) := by simp [cell_set, *]
  have d7 : (w.setCell ⟨P, o + 6, none⟩ (.func (.func k) #[] #[])).cell? ⟨P, o + 7, none⟩ = some (.int .i64 er) := by simp [cell_set, *]
  have df : ∀ i, (w.setCell ⟨P, o + 6, none⟩ (.func (.func k) #[] #[])).frozen? ⟨P, i, none⟩ = false := fun i => by simp [*]
  have m1 : PMem (w.setCell ⟨P, o + 6, none⟩ (.func (.func k) #[] #[])) M B n s := pmem_frame hm (T := fun k => k = P) ((But.refl _ _).here _ _) (Ne.symm hPM) (Ne.symm hPB)
  have g1 : Chg P o 8 B w (w.setCell ⟨P, o + 6, none⟩ (.func (.func k) #[] #[])) := (Chg.refl _ _ _ _ _).set _ (by omega) _
  clear c0 c1 c2 c3 c4 c5 c6 c7 f hm
  generalize w.setCell ⟨P, o + 6, none⟩ (.func (.func k) #[] #[]) = v1 at *
  have M1 := Lib.hid m1
  have G1 := Lib.hid g1
  have O1 : Hid (OpAt v1 P o S W L (.func (.func k) #[] #[]) er) := Lib.hid ⟨d0, d1, d2, d3, d4, d5, d6, d7, df⟩
  have hP1 := lt_of_cell d0
  clear m1 g1
  go_region_held3 (fun w' => w'.cell? ⟨P, o + 1, none⟩ = some (.int .i64 S.T) ∧ w'.cell? ⟨P, o + 4, none⟩ = some (.int .u64 W)) (first | go_keep | (exact ⟨k1.some d1, k1.some d4⟩) | (exact ⟨b2.some (k1.some d1) hPB, b2.some (k1.some d4) hPB⟩)) (first | (go_at_call 96; refine (following_any W i _ w0 w1 i0 i1).mono ?_; rintro e u1 ⟨rfl, k1⟩) | (go_at_call 95; refine (p_cas M B n s S.T W (topW i W) _ (pmem_kept M1.out (by (go_light; repeat (first | (with_reducible exact Kept.refl _) | (with_reducible assumption) | (with_reducible refine Kept.alloc ?_ _ _) | (with_reducible refine Kept.drew ?_) | (with_reducible refine Kept.drewN ?_ _) | ((with_reducible refine Kept.setCell ?_ ?_ _); rotate_left; focus (first | (simp; done) | (simp; omega))) | refine Kept.trans ?_ (by assumption))))) h0 h1 t0 t1).mono ?_; rintro e u2 ⟨rfl, m2, b2⟩))
  have b3 : But (fun k => k = B) v1 u2 := (Kept.but (by (go_light; repeat (first | (with_reducible exact Kept.refl _) | (with_reducible assumption) | (with_reducible refine Kept.alloc ?_ _ _) | (with_reducible refine Kept.drew ?_) | (with_reducible refine Kept.drewN ?_ _) | ((with_reducible refine Kept.setCell ?_ ?_ _); rotate_left; focus (first | (simp; done) | (simp; omega))) | refine Kept.trans ?_ (by assumption)))) _).trans b2 (fun _ _ h => h)
  have M2 := Lib.hid m2
  have B3 := Lib.hid b3
  clear m2 b2 b3
  go_wp2_with fail
  refine (end_Pop P o S W L _ er 0 _ (O1.out.frame B3.out hPB)).mono ?_
  rintro e u3 ⟨rfl, o3, g3⟩
  have O3 := Lib.hid o3
  have G3 := Lib.hid g3
  clear o3 g3
  go_wp2
  go_end0
  exact ⟨rfl, O3.out, pmem_frame M2.out G3.out.own (Ne.symm hPM) (Ne.symm hPB), (G1.out.mem B3.out hP hPB).trans (G3.out.any B)⟩
set_option maxHeartbeats 1000000 in
theorem outcome_Pop (P o : Nat) (S : Stk) (W L : Int) (nx : Value) (er : Int) (w : World) (ho : OpAt w P o S W L nx er) :
    Calls Try.prog 55 #[.pointer (some ⟨P, o, none⟩)] w fun e w' => e = .returned (.int .i64 er) ∧ w = w' := by
  obtain ⟨c0, c1, c2, c3, c4, c5, c6, c7, f⟩ := ho
  have hP := lt_of_cell c0
  go_enter Try.func55, Try.ntmps55
  go_wp2
  go_ret
  exact ⟨rfl, rfl⟩
set_option maxHeartbeats 1000000 in
theorem taken_Pop_err (P o : Nat) (S : Stk) (W L : Int) (nx : Value) (er : Int) (w : World) (ho : OpAt w P o S W L nx er) (he : (er != 0) = true) :
    Calls Try.prog 33 #[.pointer (some ⟨P, o, none⟩)] w fun e w' => e = .returned (.tuple #[.int .i64 0, .int .i64 er]) ∧ Kept w w' := by
  have HO := Lib.hid ho
  clear ho
  go_enter Try.func33, Try.ntmps33
  go_wp2_with fail
  refine (outcome_Pop P o S W L nx er _ HO.out).mono ?_
  rintro e u1 ⟨rfl, rfl⟩
  go_wp2
  go_ret2
  exact ⟨rfl, by (go_light; repeat (first | (with_reducible exact Kept.refl _) | (with_reducible assumption) | (with_reducible refine Kept.alloc ?_ _ _) | (with_reducible refine Kept.drew ?_) | (with_reducible refine Kept.drewN ?_ _) | ((with_reducible refine Kept.setCell ?_ ?_ _); rotate_left; focus (first | (simp; done) | (simp; omega))) | refine Kept.trans ?_ (by assumption)))⟩
set_option maxHeartbeats 1000000 in
theorem taken_Pop_ok (P o : Nat) (S : Stk) (W L : Int) (nx : Value) (w : World) (ho : OpAt w P o S W L nx 0) (w0 : 0 ≤ W) (w1 : W < 18446744073709551616) :
    Calls Try.prog 33 #[.pointer (some ⟨P, o, none⟩)] w fun e w' => e = .returned (.tuple #[.int .i64 (idx S.N W), .int .i64 0]) ∧ Kept w w' := by
  have HO := Lib.hid ho
  clear ho
  go_enter Try.func33, Try.ntmps33
  go_wp2_with fail
  refine (outcome_Pop P o S W L nx 0 _ HO.out).mono ?_
  rintro e u1 ⟨rfl, rfl⟩
  go_wp2_with fail
  refine (first_Pop P o S W L nx 0 _ HO.out w0 w1).mono ?_
  rintro e u2 ⟨rfl, k2⟩
  go_wp2
  go_ret2
  exact ⟨rfl, by (go_light; repeat (first | (with_reducible exact Kept.refl _) | (with_reducible assumption) | (with_reducible refine Kept.alloc ?_ _ _) | (with_reducible refine Kept.drew ?_) | (with_reducible refine Kept.drewN ?_ _) | ((with_reducible refine Kept.setCell ?_ ?_ _); rotate_left; focus (first | (simp; done) | (simp; omega))) | refine Kept.trans ?_ (by assumption)))⟩
end Go.Proofs.Ytmbdgaflmiacnaa.Sk
