/- What is told without an access: a view of a tower's words. Written by gen15h.py. -/
import Derived.Test.YtejiogggocnldaaGreatG09
import Derived.Test.YtejiogggocnldaaGreatG10
import Derived.Test.YtejiogggocnldaaGreatG12
import Derived.Test.YtejiogggocnldaaGreatG06
import Derived.Deep.RegionLaw
set_option linter.unusedVariables false
set_option linter.unusedSimpArgs false

namespace Go.Proofs.YtejiogggocnldaaGreat.Tw
set_option maxRecDepth 20000
open Go.RowKit Go.Shelf
open Wo (St acc wordAt PMem RefIs)
open Sk (Stk Arn idx Wd pmem_kept p_words Blk g_top)

def Wds (w : World) (v : Value) (n : Nat) (f : Nat → Int) : Prop :=
  (n = 0 ∧ v = .slice none 0 0) ∨ ∃ g c, v = .slice (some ⟨g, 0, none⟩) n c ∧ g < w.heap.size ∧ ∀ i, i < n → w.cell? ⟨g, i, none⟩ = some (.int .u64 (f i))
theorem Wds.but {w w' : World} {v : Value} {n : Nat} {f : Nat → Int} (h : Wds w v n f) {T : Nat → Prop} (k : But T w w') (hT : ∀ g, v.ownBlock = some g → ¬ T g) : Wds w' v n f := by
  rcases h with h | ⟨g, c, rfl, h2, h3⟩
  · exact .inl h
  · exact .inr ⟨g, c, rfl, Nat.lt_of_lt_of_le h2 k.size, fun i hi => k.some (h3 i hi) (hT g rfl)⟩
theorem Wds.form {w : World} {v : Value} {n : Nat} {f : Nat → Int} (h : Wds w v n f) : ∃ a c, v = .slice a n c := by
  rcases h with ⟨rfl, rfl⟩ | ⟨g, c, rfl, _⟩
  · exact ⟨none, 0, rfl⟩
  · exact ⟨_, c, rfl⟩
theorem Wds.kept {w w' : World} {v : Value} {n : Nat} {f : Nat → Int} (h : Wds w v n f) (k : Kept w w') : Wds w' v n f := h.but (k.but (fun _ => False)) (fun _ _ => id)
def GivesWords (mv : Value) (n : Nat) (f : Nat → Int) (w : World) : Prop :=
  ∀ W, Kept w W → Calls Tryz.prog 29 #[mv] W fun e w' => ∃ v, e = .returned v ∧ Wds w' v n f ∧ (∀ g, v.ownBlock = some g → W.heap.size ≤ g) ∧ Kept W w'
theorem gives_words {w : World} {M B n : Nat} {s : St} (hm : PMem w M B n s) : GivesWords (.pointer (some ⟨M, 0, none⟩)) n s.ws w := fun W k =>
  (p_words M B n s W (pmem_kept hm k)).mono fun _ _ ⟨b, c, e, h1, h2, h3, _, k2⟩ => ⟨_, e, .inr ⟨b, c, rfl, h2, h3⟩, fun g hg => by
    have : b = g := by simpa [Value.ownBlock] using hg
    omega, k2⟩
theorem GivesWords.kept {mv : Value} {n : Nat} {f : Nat → Int} {w w' : World} (h : GivesWords mv n f w) (k : Kept w w') : GivesWords mv n f w' := fun W k2 => h W (k.trans k2)
def Wf (n : Nat) (f : Nat → Int) : Prop := ∀ i, i < n → 0 ≤ f i ∧ f i < 18446744073709551616
theorem hw_in {n : Nat} {f : Nat → Int} (h : Wf n f) (x : Int) : 0 ≤ hw n f x ∧ hw n f x < 18446744073709551616 := by
  unfold hw
  split
  · exact h _ (by omega)
  · omega
abbrev viewV (t : Twr) (v : Value) : Value := .agg #[.int .i64 t.D, .int .i64 t.H, .int .i64 t.G, .int .i64 t.A.F.T, .int .i64 t.A.F.K, .int .i64 t.A.F.N, .int .i64 t.A.G, .int .i64 t.A.V, .int .i64 t.A.L, .int .i64 t.E.T, .int .i64 t.E.K, .int .i64 t.E.N, .int .i64 t.P, v]
structure VB (w : World) (b : Nat) (t : Twr) (v : Value) : Prop where
  t : TB w b t
  v : w.cell? ⟨b, 13, none⟩ = some v
theorem VB.but {w w' : World} {b : Nat} {t : Twr} {v : Value} (h : VB w b t v) {S : Nat → Prop} (k : But S w w') (hS : ¬ S b) : VB w' b t v := ⟨h.t.but k hS, k.some h.v hS⟩
theorem VB.kept {w w' : World} {b : Nat} {t : Twr} {v : Value} (h : VB w b t v) (k : Kept w w') : VB w' b t v := h.but (k.but (fun _ => False)) id
theorem VB.new (w : World) (b : Nat) (ty : TypeId) (hb : b = w.heap.size) (t : Twr) (v : Value) : VB (w.alloc (.cells #[.int .i64 t.D, .int .i64 t.H, .int .i64 t.G, .int .i64 t.A.F.T, .int .i64 t.A.F.K, .int .i64 t.A.F.N, .int .i64 t.A.G, .int .i64 t.A.V, .int .i64 t.A.L, .int .i64 t.E.T, .int .i64 t.E.K, .int .i64 t.E.N, .int .i64 t.P, v] ty)) b t v :=
  ⟨⟨cell_new _ _ _ _ 0 hb, cell_new _ _ _ _ 1 hb, cell_new _ _ _ _ 2 hb, cell_new _ _ _ _ 3 hb, cell_new _ _ _ _ 4 hb, cell_new _ _ _ _ 5 hb, cell_new _ _ _ _ 6 hb, cell_new _ _ _ _ 7 hb, cell_new _ _ _ _ 8 hb, cell_new _ _ _ _ 9 hb, cell_new _ _ _ _ 10 hb, cell_new _ _ _ _ 11 hb, cell_new _ _ _ _ 12 hb⟩, cell_new _ _ _ _ 13 hb⟩
set_option maxHeartbeats 1000000 in
theorem held_lo (t : Twr) (a : Option Addr) (n c : Nat) (x : Int) (w : World) (h : x < 0) : Calls Tryz.prog 168 #[viewV t (.slice a n c), .int .i64 x] w fun e w' => e = .returned (.int .u64 0) ∧ Kept w w' := by
  go_enter Tryz.func168, Tryz.ntmps168
  go_wp2
  go_ret
  exact ⟨rfl, by (go_light; repeat (first | (with_reducible exact Kept.refl _) | (with_reducible assumption) | (with_reducible refine Kept.alloc ?_ _ _) | (with_reducible refine Kept.drew ?_) | (with_reducible refine Kept.drewN ?_ _) | ((with_reducible refine Kept.setCell ?_ ?_ _); rotate_left; focus (first | (simp; done) | (simp; omega))) | refine Kept.trans ?_ (by assumption)))⟩
set_option maxHeartbeats 1000000 in
theorem held_hi (t : Twr) (a : Option Addr) (n c k : Nat) (w : World) (h : n ≤ k) (hn : n ≤ 100000) : Calls Tryz.prog 168 #[viewV t (.slice a n c), .int .i64 k] w fun e w' => e = .returned (.int .u64 0) ∧ Kept w w' := by
  have h2 : (n : Int) ≤ (k : Int) := by omega
  go_enter Tryz.func168, Tryz.ntmps168
  go_wp2
  go_ret
  exact ⟨rfl, by (go_light; repeat (first | (with_reducible exact Kept.refl _) | (with_reducible assumption) | (with_reducible refine Kept.alloc ?_ _ _) | (with_reducible refine Kept.drew ?_) | (with_reducible refine Kept.drewN ?_ _) | ((with_reducible refine Kept.setCell ?_ ?_ _); rotate_left; focus (first | (simp; done) | (simp; omega))) | refine Kept.trans ?_ (by assumption)))⟩
set_option maxHeartbeats 1000000 in
theorem held_in (t : Twr) (g n c k : Nat) (u : Int) (w : World) (h2 : k < n) (hn : n ≤ 100000) (hg : g < w.heap.size) (ck : w.cell? ⟨g, k, none⟩ = some (.int .u64 u)) : Calls Tryz.prog 168 #[viewV t (.slice (some ⟨g, 0, none⟩) n c), .int .i64 k] w fun e w' => e = .returned (.int .u64 u) ∧ Kept w w' := by
  have h3 : ¬ (n : Int) ≤ (k : Int) := by omega
  go_enter Tryz.func168, Tryz.ntmps168
  go_wp2
  go_ret
  exact ⟨rfl, by (go_light; repeat (first | (with_reducible exact Kept.refl _) | (with_reducible assumption) | (with_reducible refine Kept.alloc ?_ _ _) | (with_reducible refine Kept.drew ?_) | (with_reducible refine Kept.drewN ?_ _) | ((with_reducible refine Kept.setCell ?_ ?_ _); rotate_left; focus (first | (simp; done) | (simp; omega))) | refine Kept.trans ?_ (by assumption)))⟩
theorem held_any {w : World} {v : Value} {n : Nat} {f : Nat → Int} (t : Twr) (h : Wds w v n f) (hn : n ≤ 100000) (x : Int) : Calls Tryz.prog 168 #[viewV t v, .int .i64 x] w fun e w' => e = .returned (.int .u64 (hw n f x)) ∧ Kept w w' := by
  by_cases h0 : x < 0
  · have E : hw n f x = 0 := by unfold hw; rw [if_neg (by omega)]
    obtain ⟨a, c, rfl⟩ := h.form
    rw [E]; exact held_lo t a n c x w h0
  · obtain ⟨k, rfl⟩ := Int.eq_ofNat_of_zero_le (show 0 ≤ x by omega)
    by_cases h1 : n ≤ k
    · have E : hw n f k = 0 := by unfold hw; rw [if_neg (by omega)]
      obtain ⟨a, c, rfl⟩ := h.form
      rw [E]; exact held_hi t a n c k w h1 hn
    · have E : hw n f k = f k := by unfold hw; rw [if_pos (by omega), Int.toNat_natCast]
      rcases h with ⟨rfl, rfl⟩ | ⟨g, cc, rfl, hg, hc⟩
      · omega
      · rw [E]; exact held_in t g n cc k _ w (by omega) hn hg (hc k (by omega))
set_option maxHeartbeats 2000000 in
theorem vpart_any {w : World} {a : Option Addr} {c n : Nat} {f : Nat → Int} (t : Twr) (hW : Wds w (.slice a n c) n f) (hn : n ≤ 100000) (i p : Int) (hp : I64 p) : Calls Tryz.prog 110 #[viewV t (.slice a n c), .int .i64 i, .int .i64 p] w fun e w' => e = .returned (.int .u64 (hw n f (atI t i p))) ∧ Kept w w' := by
  have HA := fun W => Lib.hid (at_any t i p hp W)
  have HH : ∀ W, Kept w W → Hid (Calls Tryz.prog 168 #[viewV t (.slice a n c), .int .i64 (atI t i p)] W fun e w' => e = .returned (.int .u64 (hw n f (atI t i p))) ∧ Kept W w') := fun W k => Lib.hid (held_any t (hW.kept k) hn _)
  clear hW
  go_enter Tryz.func110, Tryz.ntmps110
  go_wp2_with fail
  obtain ⟨⟨a0, a1, a2, a3, a4, a5, a6, a7, a8, a9, a10, a11, a12⟩, a13⟩ := VB.new w w.heap.size 176 rfl t (.slice a n c)
  have K0 : Hid (Kept w (w.alloc (.cells #[.int .i64 t.D, .int .i64 t.H, .int .i64 t.G, .int .i64 t.A.F.T, .int .i64 t.A.F.K, .int .i64 t.A.F.N, .int .i64 t.A.G, .int .i64 t.A.V, .int .i64 t.A.L, .int .i64 t.E.T, .int .i64 t.E.K, .int .i64 t.E.N, .int .i64 t.P, .slice a n c] 176))) := Lib.hid ((Kept.refl w).alloc _ _)
  have KT : Kept (w.alloc (.cells #[.int .i64 t.D, .int .i64 t.H, .int .i64 t.G, .int .i64 t.A.F.T, .int .i64 t.A.F.K, .int .i64 t.A.F.N, .int .i64 t.A.G, .int .i64 t.A.V, .int .i64 t.A.L, .int .i64 t.E.T, .int .i64 t.E.K, .int .i64 t.E.N, .int .i64 t.P, .slice a n c] 176)) (w.alloc (.cells #[.int .i64 t.D, .int .i64 t.H, .int .i64 t.G, .int .i64 t.A.F.T, .int .i64 t.A.F.K, .int .i64 t.A.F.N, .int .i64 t.A.G, .int .i64 t.A.V, .int .i64 t.A.L, .int .i64 t.E.T, .int .i64 t.E.K, .int .i64 t.E.N, .int .i64 t.P, .slice a n c] 176)) := Kept.refl _
  obtain ⟨W0, hW0⟩ : ∃ W0, W0 = (w.alloc (.cells #[.int .i64 t.D, .int .i64 t.H, .int .i64 t.G, .int .i64 t.A.F.T, .int .i64 t.A.F.K, .int .i64 t.A.F.N, .int .i64 t.A.G, .int .i64 t.A.V, .int .i64 t.A.L, .int .i64 t.E.T, .int .i64 t.E.K, .int .i64 t.E.N, .int .i64 t.P, .slice a n c] 176)) := ⟨_, rfl⟩
  simp only [← hW0] at *
  clear hW0
  go_region_held3 (fun w' => w'.cell? ⟨w.heap.size, 0, none⟩ = some (.int .i64 t.D) ∧ w'.cell? ⟨w.heap.size, 1, none⟩ = some (.int .i64 t.H) ∧ w'.cell? ⟨w.heap.size, 2, none⟩ = some (.int .i64 t.G) ∧ w'.cell? ⟨w.heap.size, 3, none⟩ = some (.int .i64 t.A.F.T) ∧ w'.cell? ⟨w.heap.size, 4, none⟩ = some (.int .i64 t.A.F.K) ∧ w'.cell? ⟨w.heap.size, 5, none⟩ = some (.int .i64 t.A.F.N) ∧ w'.cell? ⟨w.heap.size, 6, none⟩ = some (.int .i64 t.A.G) ∧ w'.cell? ⟨w.heap.size, 7, none⟩ = some (.int .i64 t.A.V) ∧ w'.cell? ⟨w.heap.size, 8, none⟩ = some (.int .i64 t.A.L) ∧ w'.cell? ⟨w.heap.size, 9, none⟩ = some (.int .i64 t.E.T) ∧ w'.cell? ⟨w.heap.size, 10, none⟩ = some (.int .i64 t.E.K) ∧ w'.cell? ⟨w.heap.size, 11, none⟩ = some (.int .i64 t.E.N) ∧ w'.cell? ⟨w.heap.size, 12, none⟩ = some (.int .i64 t.P) ∧ w'.cell? ⟨w.heap.size, 13, none⟩ = some (.slice a n c)) (first | (with_reducible exact ⟨KT.some a0, KT.some a1, KT.some a2, KT.some a3, KT.some a4, KT.some a5, KT.some a6, KT.some a7, KT.some a8, KT.some a9, KT.some a10, KT.some a11, KT.some a12, KT.some a13⟩) | go_keep) (first
    | (go_at_call 32; refine (HA _).out.mono ?_; rintro e w1 ⟨rfl, k1⟩; have KT : Kept W0 w1 := Kept.trans (b := _) (by first | exact KT | exact KT.drew | exact KT.drewN _) k1)
    | (go_at_call 168; refine ((HH _ (K0.out.trans (by first | exact KT | exact KT.drew | exact KT.drewN _))).out).mono ?_; rintro e w2 ⟨rfl, k2⟩; have KT : Kept W0 w2 := Kept.trans (b := _) (by first | exact KT | exact KT.drew | exact KT.drewN _) k2))
  go_wp2
  go_ret
  exact ⟨rfl, K0.out.trans (by first | exact KT | exact KT.drew | exact KT.drewN _)⟩
set_option maxHeartbeats 2000000 in
theorem vnext_any {w : World} {a : Option Addr} {c n : Nat} {f : Nat → Int} (t : Twr) (hW : Wds w (.slice a n c) n f) (hn : n ≤ 100000) (i p : Int) (hp : I64 p) : Calls Tryz.prog 107 #[viewV t (.slice a n c), .int .i64 i, .int .i64 p] w fun e w' => e = .returned (.int .u64 (hw n f (nextI t i p))) ∧ Kept w w' := by
  have HA := fun W => Lib.hid (next_any t i p hp W)
  have HH : ∀ W, Kept w W → Hid (Calls Tryz.prog 168 #[viewV t (.slice a n c), .int .i64 (nextI t i p)] W fun e w' => e = .returned (.int .u64 (hw n f (nextI t i p))) ∧ Kept W w') := fun W k => Lib.hid (held_any t (hW.kept k) hn _)
  clear hW
  go_enter Tryz.func107, Tryz.ntmps107
  go_wp2_with fail
  obtain ⟨⟨a0, a1, a2, a3, a4, a5, a6, a7, a8, a9, a10, a11, a12⟩, a13⟩ := VB.new w w.heap.size 176 rfl t (.slice a n c)
  have K0 : Hid (Kept w (w.alloc (.cells #[.int .i64 t.D, .int .i64 t.H, .int .i64 t.G, .int .i64 t.A.F.T, .int .i64 t.A.F.K, .int .i64 t.A.F.N, .int .i64 t.A.G, .int .i64 t.A.V, .int .i64 t.A.L, .int .i64 t.E.T, .int .i64 t.E.K, .int .i64 t.E.N, .int .i64 t.P, .slice a n c] 176))) := Lib.hid ((Kept.refl w).alloc _ _)
  have KT : Kept (w.alloc (.cells #[.int .i64 t.D, .int .i64 t.H, .int .i64 t.G, .int .i64 t.A.F.T, .int .i64 t.A.F.K, .int .i64 t.A.F.N, .int .i64 t.A.G, .int .i64 t.A.V, .int .i64 t.A.L, .int .i64 t.E.T, .int .i64 t.E.K, .int .i64 t.E.N, .int .i64 t.P, .slice a n c] 176)) (w.alloc (.cells #[.int .i64 t.D, .int .i64 t.H, .int .i64 t.G, .int .i64 t.A.F.T, .int .i64 t.A.F.K, .int .i64 t.A.F.N, .int .i64 t.A.G, .int .i64 t.A.V, .int .i64 t.A.L, .int .i64 t.E.T, .int .i64 t.E.K, .int .i64 t.E.N, .int .i64 t.P, .slice a n c] 176)) := Kept.refl _
  obtain ⟨W0, hW0⟩ : ∃ W0, W0 = (w.alloc (.cells #[.int .i64 t.D, .int .i64 t.H, .int .i64 t.G, .int .i64 t.A.F.T, .int .i64 t.A.F.K, .int .i64 t.A.F.N, .int .i64 t.A.G, .int .i64 t.A.V, .int .i64 t.A.L, .int .i64 t.E.T, .int .i64 t.E.K, .int .i64 t.E.N, .int .i64 t.P, .slice a n c] 176)) := ⟨_, rfl⟩
  simp only [← hW0] at *
  clear hW0
  go_region_held3 (fun w' => w'.cell? ⟨w.heap.size, 0, none⟩ = some (.int .i64 t.D) ∧ w'.cell? ⟨w.heap.size, 1, none⟩ = some (.int .i64 t.H) ∧ w'.cell? ⟨w.heap.size, 2, none⟩ = some (.int .i64 t.G) ∧ w'.cell? ⟨w.heap.size, 3, none⟩ = some (.int .i64 t.A.F.T) ∧ w'.cell? ⟨w.heap.size, 4, none⟩ = some (.int .i64 t.A.F.K) ∧ w'.cell? ⟨w.heap.size, 5, none⟩ = some (.int .i64 t.A.F.N) ∧ w'.cell? ⟨w.heap.size, 6, none⟩ = some (.int .i64 t.A.G) ∧ w'.cell? ⟨w.heap.size, 7, none⟩ = some (.int .i64 t.A.V) ∧ w'.cell? ⟨w.heap.size, 8, none⟩ = some (.int .i64 t.A.L) ∧ w'.cell? ⟨w.heap.size, 9, none⟩ = some (.int .i64 t.E.T) ∧ w'.cell? ⟨w.heap.size, 10, none⟩ = some (.int .i64 t.E.K) ∧ w'.cell? ⟨w.heap.size, 11, none⟩ = some (.int .i64 t.E.N) ∧ w'.cell? ⟨w.heap.size, 12, none⟩ = some (.int .i64 t.P) ∧ w'.cell? ⟨w.heap.size, 13, none⟩ = some (.slice a n c)) (first | (with_reducible exact ⟨KT.some a0, KT.some a1, KT.some a2, KT.some a3, KT.some a4, KT.some a5, KT.some a6, KT.some a7, KT.some a8, KT.some a9, KT.some a10, KT.some a11, KT.some a12, KT.some a13⟩) | go_keep) (first
    | (go_at_call 33; refine (HA _).out.mono ?_; rintro e w1 ⟨rfl, k1⟩; have KT : Kept W0 w1 := Kept.trans (b := _) (by first | exact KT | exact KT.drew | exact KT.drewN _) k1)
    | (go_at_call 168; refine ((HH _ (K0.out.trans (by first | exact KT | exact KT.drew | exact KT.drewN _))).out).mono ?_; rintro e w2 ⟨rfl, k2⟩; have KT : Kept W0 w2 := Kept.trans (b := _) (by first | exact KT | exact KT.drew | exact KT.drewN _) k2))
  go_wp2
  go_ret
  exact ⟨rfl, K0.out.trans (by first | exact KT | exact KT.drew | exact KT.drewN _)⟩

def zeroT : Twr := ⟨0, 0, 0, ⟨⟨0, 0, 0⟩, 0, 0, 0⟩, ⟨0, 0, 0⟩, 0⟩
def sto (w : World) (o : Nat) : Nat → List Value → World
  | _, [] => w
  | k, v :: l => sto (w.setCell ⟨o, k, none⟩ v) o (k + 1) l
theorem sto_but (w : World) (o : Nat) : ∀ (l : List Value) (k : Nat), But (fun j => j = o) w (sto w o k l)
  | [], _ => But.refl _ _
  | v :: l, k => ((But.refl (fun j => j = o) w).here k v).trans (sto_but _ o l (k + 1)) (fun _ _ h => h)
theorem sto_cell (w : World) (o : Nat) : ∀ (l : List Value) (k j : Nat), (sto w o k l).cell? ⟨o, j, none⟩ = if k ≤ j ∧ j < k + l.length then (w.cell? ⟨o, j, none⟩).bind (fun _ => l[j - k]?) else w.cell? ⟨o, j, none⟩
  | [], k, j => by rw [if_neg (by simp)]; rfl
  | v :: l, k, j => by
    show (sto (w.setCell ⟨o, k, none⟩ v) o (k + 1) l).cell? ⟨o, j, none⟩ = _
    rw [sto_cell _ o l (k + 1) j, cell_set]
    by_cases hj : k = j
    · subst hj
      rw [if_neg (by omega), if_pos rfl, if_pos (by simp)]
      cases w.cell? ⟨o, k, none⟩ <;> simp
    · rw [if_neg hj]
      by_cases h2 : k + 1 ≤ j ∧ j < k + 1 + l.length
      · rw [if_pos h2, if_pos (by simp; omega), show j - k = (j - (k + 1)) + 1 by omega]
        simp
      · rw [if_neg h2, if_neg (by simp; omega)]
theorem put14_go {P : Program} {F : Func} {Q : Ending → World → Prop} {A : Act} {w : World} {o : Nat} {t : Twr} {v : Value} (h : VB w o zeroT (.slice none 0 0))
    (k : ∀ W9, VB W9 o t v → But (fun k => k = o) w W9 → bodyPost P F Q Exit.ret A W9) :
    bodyPost P F Q Exit.ret A (sto w o 0 [.int .i64 t.D, .int .i64 t.H, .int .i64 t.G, .int .i64 t.A.F.T, .int .i64 t.A.F.K, .int .i64 t.A.F.N, .int .i64 t.A.G, .int .i64 t.A.V, .int .i64 t.A.L, .int .i64 t.E.T, .int .i64 t.E.K, .int .i64 t.E.N, .int .i64 t.P, v]) := by
  have c : ∀ j u, (∃ z, w.cell? ⟨o, j, none⟩ = some z) → [.int .i64 t.D, .int .i64 t.H, .int .i64 t.G, .int .i64 t.A.F.T, .int .i64 t.A.F.K, .int .i64 t.A.F.N, .int .i64 t.A.G, .int .i64 t.A.V, .int .i64 t.A.L, .int .i64 t.E.T, .int .i64 t.E.K, .int .i64 t.E.N, .int .i64 t.P, v][j]? = some u → j < 14 → (sto w o 0 [.int .i64 t.D, .int .i64 t.H, .int .i64 t.G, .int .i64 t.A.F.T, .int .i64 t.A.F.K, .int .i64 t.A.F.N, .int .i64 t.A.G, .int .i64 t.A.V, .int .i64 t.A.L, .int .i64 t.E.T, .int .i64 t.E.K, .int .i64 t.E.N, .int .i64 t.P, v]).cell? ⟨o, j, none⟩ = some u := by
    intro j u ⟨z, hz⟩ hu hj
    rw [sto_cell, if_pos ⟨Nat.zero_le _, by simpa using hj⟩, hz]
    simpa using hu
  exact k _ ⟨⟨c 0 _ ⟨_, h.t.c0⟩ rfl (by decide), c 1 _ ⟨_, h.t.c1⟩ rfl (by decide), c 2 _ ⟨_, h.t.c2⟩ rfl (by decide), c 3 _ ⟨_, h.t.c3⟩ rfl (by decide), c 4 _ ⟨_, h.t.c4⟩ rfl (by decide), c 5 _ ⟨_, h.t.c5⟩ rfl (by decide), c 6 _ ⟨_, h.t.c6⟩ rfl (by decide), c 7 _ ⟨_, h.t.c7⟩ rfl (by decide), c 8 _ ⟨_, h.t.c8⟩ rfl (by decide), c 9 _ ⟨_, h.t.c9⟩ rfl (by decide), c 10 _ ⟨_, h.t.c10⟩ rfl (by decide), c 11 _ ⟨_, h.t.c11⟩ rfl (by decide), c 12 _ ⟨_, h.t.c12⟩ rfl (by decide)⟩, c 13 _ ⟨_, h.v⟩ rfl (by decide)⟩ (sto_but _ _ _ _)
set_option maxHeartbeats 4000000 in
theorem look_any (t : Twr) (mv : Value) (n : Nat) (f : Nat → Int) (w : World) (hg : GivesWords mv n f w) : Calls Tryz.prog 104 #[towV t, mv] w fun e w' => ∃ v, e = .returned (viewV t v) ∧ Wds w' v n f ∧ (∀ g, v.ownBlock = some g → w.heap.size ≤ g) ∧ Kept w w' := by
  have HG := Lib.hid hg
  clear hg
  go_enter Tryz.func104, Tryz.ntmps104
  go_wp2_with fail
  obtain ⟨W0, hW0⟩ : ∃ W0, W0 = ((w.alloc (.cells #[.int .i64 t.D, .int .i64 t.H, .int .i64 t.G, .int .i64 t.A.F.T, .int .i64 t.A.F.K, .int .i64 t.A.F.N, .int .i64 t.A.G, .int .i64 t.A.V, .int .i64 t.A.L, .int .i64 t.E.T, .int .i64 t.E.K, .int .i64 t.E.N, .int .i64 t.P] 31)).alloc (.cells #[.int .i64 0, .int .i64 0, .int .i64 0, .int .i64 0, .int .i64 0, .int .i64 0, .int .i64 0, .int .i64 0, .int .i64 0, .int .i64 0, .int .i64 0, .int .i64 0, .int .i64 0, .slice none 0 0] 176)) := ⟨_, rfl⟩
  have T0 : TB W0 w.heap.size t := by rw [hW0]; exact TB.kept (TB.new w _ _ rfl t) ((Kept.refl _).alloc _ _)
  have R0 : VB W0 (w.heap.size + 1) zeroT (.slice none 0 0) := by rw [hW0]; exact VB.new (w.alloc (.cells #[.int .i64 t.D, .int .i64 t.H, .int .i64 t.G, .int .i64 t.A.F.T, .int .i64 t.A.F.K, .int .i64 t.A.F.N, .int .i64 t.A.G, .int .i64 t.A.V, .int .i64 t.A.L, .int .i64 t.E.T, .int .i64 t.E.K, .int .i64 t.E.N, .int .i64 t.P] 31)) _ 176 (by simp) zeroT _
  have F0 : ∀ i, W0.frozen? ⟨w.heap.size + 1, i, none⟩ = false := by intro i; rw [hW0]; rw [show w.heap.size + 1 = (w.alloc (.cells #[.int .i64 t.D, .int .i64 t.H, .int .i64 t.G, .int .i64 t.A.F.T, .int .i64 t.A.F.K, .int .i64 t.A.F.N, .int .i64 t.A.G, .int .i64 t.A.V, .int .i64 t.A.L, .int .i64 t.E.T, .int .i64 t.E.K, .int .i64 t.E.N, .int .i64 t.P] 31)).heap.size from by simp]; simp
  have L0 : w.heap.size + 1 < W0.heap.size := by rw [hW0]; simp
  have K0 : Hid (Kept w W0) := Lib.hid (by rw [hW0]; exact ((Kept.refl w).alloc _ _).alloc _ _)
  rw [← hW0]
  clear hW0
  have TH := Lib.hid T0
  have RH := Lib.hid R0
  obtain ⟨⟨r0, r1, r2, r3, r4, r5, r6, r7, r8, r9, r10, r11, r12⟩, r13⟩ := R0
  have FH := Lib.hid F0
  obtain ⟨a0, a1, a2, a3, a4, a5, a6, a7, a8, a9, a10, a11, a12⟩ := T0
  have KT : Kept W0 W0 := Kept.refl _
  go_region_law (first | (go_simp; go_at_call 29; refine (HG.out _ (K0.out.trans (by first | exact KT | exact KT.drew | exact KT.drewN _))).mono ?_; rintro e w1 ⟨v, rfl, wv, fv, k1⟩; have KT : Kept W0 w1 := Kept.trans (b := _) (by first | exact KT | exact KT.drew | exact KT.drewN _) k1; obtain ⟨a0, a1, a2, a3, a4, a5, a6, a7, a8, a9, a10, a11, a12⟩ := TB.kept TH.out KT; obtain ⟨⟨r0, r1, r2, r3, r4, r5, r6, r7, r8, r9, r10, r11, r12⟩, r13⟩ := VB.kept RH.out KT; have F0 : (∀ i, w1.frozen? ⟨w.heap.size + 1, i, none⟩ = false) := (fun i => KT.soft L0 (FH.out i)); obtain ⟨av, cv, rfl⟩ := wv.form))
  all_goals
    go_wp2
    refine put14_go (t := t) (v := .slice av n cv) (VB.kept RH.out KT) ?_
    rintro W9 ⟨⟨e0, e1, e2, e3, e4, e5, e6, e7, e8, e9, e10, e11, e12⟩, e13⟩ b9
    refine bodyPost_ret (v := viewV t (.slice av n cv)) (by simp [results, Tryz.results104, go_sem, e0, e1, e2, e3, e4, e5, e6, e7, e8, e9, e10, e11, e12, e13]) rfl ⟨_, rfl, ?_, fun g hg => ?_, ?_⟩
    · refine wv.but b9 (fun g hg e => ?_)
      have e : g = w.heap.size + 1 := e
      have h1 : W0.heap.size ≤ g := fv g hg
      omega
    · have h1 : W0.heap.size ≤ g := fv g hg
      have := K0.out.size
      omega
    · exact (((K0.out.trans KT).but (fun k => k = w.heap.size + 1)).trans b9 (fun _ _ h => h)).kept (fun i hi e => by have e : i = w.heap.size + 1 := e; omega)
end Go.Proofs.YtejiogggocnldaaGreat.Tw
