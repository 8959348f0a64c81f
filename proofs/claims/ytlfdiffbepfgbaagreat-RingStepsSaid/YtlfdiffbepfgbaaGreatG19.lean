/- What is told without an access: held; the numbers whose slots are full, one behind the other: the program's iterator. -/
import Derived.Test.YtlfdiffbepfgbaaGreatG09
import Derived.Test.YtlfdiffbepfgbaaGreatG13
import Derived.Test.YtlfdiffbepfgbaaGreatG04
import Derived.Test.YtlfdiffbepfgbaaGreatG18
import Derived.Deep.RegionHeld3
import Derived.WalkKit
set_option linter.unusedVariables false
set_option linter.unusedSimpArgs false

namespace Go.Proofs.YtlfdiffbepfgbaaGreat.Ri
set_option maxRecDepth 20000
open Go.RowKit Go.Shelf
open Wo (St acc wordAt PMem RefIs)
open Sk (Wd pmem_kept p_words Blk)
attribute [local go_sem] Oper.semAt_some

def Wds (w : World) (v : Value) (n : Nat) (f : Nat → Int) : Prop :=
  (n = 0 ∧ v = .slice none 0 0) ∨ ∃ g c, v = .slice (some ⟨g, 0, none⟩) n c ∧ g < w.heap.size ∧ ∀ i, i < n → w.cell? ⟨g, i, none⟩ = some (.int .u64 (f i))
theorem Wds.but {w w' : World} {v : Value} {n : Nat} {f : Nat → Int} (h : Wds w v n f) {T : Nat → Prop} (k : But T w w') (hT : ∀ g, v.ownBlock = some g → ¬ T g) : Wds w' v n f := by
  rcases h with h | ⟨g, c, rfl, h2, h3⟩
  · exact .inl h
  · exact .inr ⟨g, c, rfl, Nat.lt_of_lt_of_le h2 k.size, fun i hi => k.some (h3 i hi) (hT g rfl)⟩
theorem Wds.form {w : World} {v : Value} {n : Nat} {f : Nat → Int} (h : Wds w v n f) : ∃ a c, v = .slice a n c := by
  rcases h with ⟨rfl, rfl⟩ | ⟨g, c, rfl, _⟩
  · exact ⟨none, 0, rfl⟩
  · exact ⟨_, c, rfl⟩
theorem Wds.kept {w w' : World} {v : Value} {n : Nat} {f : Nat → Int} (h : Wds w v n f) (k : Kept w w') : Wds w' v n f := h.but (k.but (fun _ => False)) (fun _ _ => id)
def GivesWords (mv : Value) (n : Nat) (f : Nat → Int) (w : World) : Prop :=
  ∀ W, Kept w W → Calls Tryz.prog 14 #[mv] W fun e w' => ∃ v, e = .returned v ∧ Wds w' v n f ∧ (∀ g, v.ownBlock = some g → W.heap.size ≤ g) ∧ Kept W w'
theorem gives_words {w : World} {M B n : Nat} {s : St} (hm : PMem w M B n s) : GivesWords (.pointer (some ⟨M, 0, none⟩)) n s.ws w := fun W k =>
  (p_words M B n s W (pmem_kept hm k)).mono fun _ _ ⟨b, c, e, h1, h2, h3, _, k2⟩ => ⟨_, e, .inr ⟨b, c, rfl, h2, h3⟩, fun g hg => by
    have : b = g := by simpa [Value.ownBlock] using hg
    omega, k2⟩
def Wf (n : Nat) (f : Nat → Int) : Prop := ∀ i, i < n → 0 ≤ f i ∧ f i < 18446744073709551616
def hv (n : Nat) (f : Nat → Int) (x : Int) : Int := if 0 ≤ x ∧ x < n then f x.toNat else 0
theorem hv_word (n : Nat) (s : St) (x : Int) : hv n s.ws x = wordAt n s x := rfl
theorem hv_in {n : Nat} {f : Nat → Int} (h : Wf n f) (x : Int) : 0 ≤ hv n f x ∧ hv n f x < 18446744073709551616 := by
  unfold hv
  split
  · exact h _ (by omega)
  · omega
set_option maxHeartbeats 1000000 in
theorem held_any {w : World} {v : Value} {n : Nat} {f : Nat → Int} (h : Wds w v n f) (hf : Wf n f) (hn : n ≤ 100000) (x : Int) : Calls Tryz.prog 132 #[v, .int .i64 x] w fun e w' => e = .returned (.int .u64 (hv n f x)) ∧ Kept w w' := by
  by_cases h0 : x < 0
  · have E : Hid (hv n f x = 0) := Lib.hid (by unfold hv; rw [if_neg (by omega)])
    rcases h with ⟨rfl, rfl⟩ | ⟨g, cc, rfl, hg, hc⟩
    · go_enter Tryz.func132, Tryz.ntmps132
      go_wp2
      go_ret
      exact ⟨by rw [E.out]; rfl, by (go_light; repeat (first | (with_reducible exact Kept.refl _) | (with_reducible assumption) | (with_reducible refine Kept.alloc ?_ _ _) | (with_reducible refine Kept.drew ?_) | (with_reducible refine Kept.drewN ?_ _) | ((with_reducible refine Kept.setCell ?_ ?_ _); rotate_left; focus (first | (simp; done) | (simp; omega))) | refine Kept.trans ?_ (by assumption)))⟩
    · clear hc
      go_enter Tryz.func132, Tryz.ntmps132
      go_wp2
      go_ret
      exact ⟨by rw [E.out]; rfl, by (go_light; repeat (first | (with_reducible exact Kept.refl _) | (with_reducible assumption) | (with_reducible refine Kept.alloc ?_ _ _) | (with_reducible refine Kept.drew ?_) | (with_reducible refine Kept.drewN ?_ _) | ((with_reducible refine Kept.setCell ?_ ?_ _); rotate_left; focus (first | (simp; done) | (simp; omega))) | refine Kept.trans ?_ (by assumption)))⟩
  · obtain ⟨k, rfl⟩ := Int.eq_ofNat_of_zero_le (show 0 ≤ x by omega)
    by_cases h1 : n ≤ k
    · have E : Hid (hv n f k = 0) := Lib.hid (by unfold hv; rw [if_neg (by omega)])
      rcases h with ⟨rfl, rfl⟩ | ⟨g, cc, rfl, hg, hc⟩
      · go_enter Tryz.func132, Tryz.ntmps132
        go_wp2
        go_ret
        exact ⟨by rw [E.out]; rfl, by (go_light; repeat (first | (with_reducible exact Kept.refl _) | (with_reducible assumption) | (with_reducible refine Kept.alloc ?_ _ _) | (with_reducible refine Kept.drew ?_) | (with_reducible refine Kept.drewN ?_ _) | ((with_reducible refine Kept.setCell ?_ ?_ _); rotate_left; focus (first | (simp; done) | (simp; omega))) | refine Kept.trans ?_ (by assumption)))⟩
      · clear hc
        have h2 : (n : Int) ≤ (k : Int) := by omega
        go_enter Tryz.func132, Tryz.ntmps132
        go_wp2
        go_ret
        exact ⟨by rw [E.out]; rfl, by (go_light; repeat (first | (with_reducible exact Kept.refl _) | (with_reducible assumption) | (with_reducible refine Kept.alloc ?_ _ _) | (with_reducible refine Kept.drew ?_) | (with_reducible refine Kept.drewN ?_ _) | ((with_reducible refine Kept.setCell ?_ ?_ _); rotate_left; focus (first | (simp; done) | (simp; omega))) | refine Kept.trans ?_ (by assumption)))⟩
    · have h2 : k < n := by omega
      have E : Hid (hv n f k = f k) := Lib.hid (by unfold hv; rw [if_pos (by omega), Int.toNat_natCast])
      rcases h with ⟨rfl, rfl⟩ | ⟨g, cc, rfl, hg, hc⟩
      · omega
      · have ck := hc k h2
        have h3 : ¬ (n : Int) ≤ (k : Int) := by omega
        clear hc hf h0 h1
        go_enter Tryz.func132, Tryz.ntmps132
        go_wp2
        go_ret
        exact ⟨by rw [E.out]; rfl, by (go_light; repeat (first | (with_reducible exact Kept.refl _) | (with_reducible assumption) | (with_reducible refine Kept.alloc ?_ _ _) | (with_reducible refine Kept.drew ?_) | (with_reducible refine Kept.drewN ?_ _) | ((with_reducible refine Kept.setCell ?_ ?_ _); rotate_left; focus (first | (simp; done) | (simp; omega))) | refine Kept.trans ?_ (by assumption)))⟩

def wd (n : Nat) (f : Nat → Int) (R : Rng) (t : Int) : Int := hv n f (wrap64 (cell R t))
def num (h : Int) (i : Nat) : Int := (h + i) % 18446744073709551616
theorem num_lo (h : Int) (i : Nat) : 0 ≤ num h i := by unfold num; omega
theorem num_hi (h : Int) (i : Nat) : num h i < 18446744073709551616 := by unfold num; omega
def tkB (n : Nat) (f : Nat → Int) (R : Rng) (h : Int) (i : Nat) : Bool := taken R (num h i) (wd n f R (num h i))
def nums (h : Int) (k : Nat) : List Int := (List.range k).map (num h)
theorem nums_succ (h : Int) (k : Nat) : nums h (k + 1) = nums h k ++ [num h k] := by simp [nums, List.range_succ]
theorem nums_length (h : Int) (k : Nat) : (nums h k).length = k := by simp [nums]

structure Boxes (w : World) (a b : Nat) (R : Rng) (v : Value) (n : Nat) (f : Nat → Int) : Prop where
  a0 : w.cell? ⟨a, 0, none⟩ = some (.int .i64 R.H)
  a1 : w.cell? ⟨a, 1, none⟩ = some (.int .i64 R.T)
  a2 : w.cell? ⟨a, 2, none⟩ = some (.int .i64 R.K)
  a3 : w.cell? ⟨a, 3, none⟩ = some (.int .i64 R.N)
  b0 : w.cell? ⟨b, 0, none⟩ = some v
  ws : Wds w v n f
theorem Boxes.kept {w w' : World} {a b : Nat} {R : Rng} {v : Value} {n : Nat} {f : Nat → Int} (h : Boxes w a b R v n f) (k : Kept w w') : Boxes w' a b R v n f :=
  ⟨k.some h.a0, k.some h.a1, k.some h.a2, k.some h.a3, k.some h.b0, h.ws.kept k⟩
theorem Boxes.but {w w' : World} {a b : Nat} {R : Rng} {v : Value} {n : Nat} {f : Nat → Int} (h : Boxes w a b R v n f) {T : Nat → Prop} (k : But T w w') (ha : ¬ T a) (hb : ¬ T b) (hg : ∀ g, v.ownBlock = some g → ¬ T g) : Boxes w' a b R v n f :=
  ⟨k.some h.a0 ha, k.some h.a1 ha, k.some h.a2 ha, k.some h.a3 ha, k.some h.b0 hb, h.ws.but k hg⟩
theorem Boxes.blk {w w' : World} {a b : Nat} {R : Rng} {v : Value} {n : Nat} {f : Nat → Int} (h : Boxes w a b R v n f) {T : Nat → Prop} (k : Blk T w w') (ha : ¬ T a) (hb : ¬ T b) (hg : ∀ g, v.ownBlock = some g → ¬ T g) : Boxes w' a b R v n f := by
  have cell : ∀ {b o : Nat} {u : Value}, w.cell? ⟨b, o, none⟩ = some u → ¬ T b → w'.cell? ⟨b, o, none⟩ = some u := fun {b o u} hc hT => (World.cell?_of_block (k.block b (lt_of_cell hc) hT)).trans hc
  refine ⟨cell h.a0 ha, cell h.a1 ha, cell h.a2 ha, cell h.a3 ha, cell h.b0 hb, ?_⟩
  rcases h.ws with h | ⟨g, c, rfl, h2, h3⟩
  · exact .inl h
  · exact .inr ⟨g, c, rfl, Nat.lt_of_lt_of_le h2 k.size, fun i hi => cell (h3 i hi) (hg g rfl)⟩

set_option maxHeartbeats 400000 in
theorem filled_any (R : Rng) (v : Value) (n : Nat) (f : Nat → Int) (w : World) (h : Wds w v n f) : Calls Tryz.prog 131 #[ringV R, v] w fun e w' => ∃ a b, e = .returned (.func (.func 223) #[] #[.pointer (some ⟨b, 0, none⟩), .pointer (some ⟨a, 0, none⟩)]) ∧ w.heap.size ≤ a ∧ w.heap.size ≤ b ∧ a < w'.heap.size ∧ b < w'.heap.size ∧ Boxes w' a b R v n f ∧ Kept w w' := by
  have HW := Lib.hid h
  rcases h with ⟨rfl, rfl⟩ | ⟨g, cc, rfl, hg, hc⟩
  · go_enter Tryz.func131, Tryz.ntmps131
    go_wp2
    go_ret
    go_light
    refine ⟨w.heap.size, w.heap.size + 1, rfl, by omega, by omega, by simp; omega, by simp, ⟨?_, ?_, ?_, ?_, ?_, HW.out.kept (by (go_light; repeat (first | (with_reducible exact Kept.refl _) | (with_reducible assumption) | (with_reducible refine Kept.alloc ?_ _ _) | (with_reducible refine Kept.drew ?_) | (with_reducible refine Kept.drewN ?_ _) | ((with_reducible refine Kept.setCell ?_ ?_ _); rotate_left; focus (first | (simp; done) | (simp; omega))) | refine Kept.trans ?_ (by assumption))))⟩, by (go_light; repeat (first | (with_reducible exact Kept.refl _) | (with_reducible assumption) | (with_reducible refine Kept.alloc ?_ _ _) | (with_reducible refine Kept.drew ?_) | (with_reducible refine Kept.drewN ?_ _) | ((with_reducible refine Kept.setCell ?_ ?_ _); rotate_left; focus (first | (simp; done) | (simp; omega))) | refine Kept.trans ?_ (by assumption)))⟩
    · exact ((Kept.refl _).alloc _ _).some (cell_new w _ _ _ 0 rfl)
    · exact ((Kept.refl _).alloc _ _).some (cell_new w _ _ _ 1 rfl)
    · exact ((Kept.refl _).alloc _ _).some (cell_new w _ _ _ 2 rfl)
    · exact ((Kept.refl _).alloc _ _).some (cell_new w _ _ _ 3 rfl)
    · exact cell_new _ _ _ _ 0 (by simp)
  · clear hc
    go_enter Tryz.func131, Tryz.ntmps131
    go_wp2
    go_ret
    go_light
    refine ⟨w.heap.size, w.heap.size + 1, rfl, by omega, by omega, by simp; omega, by simp, ⟨?_, ?_, ?_, ?_, ?_, HW.out.kept (by (go_light; repeat (first | (with_reducible exact Kept.refl _) | (with_reducible assumption) | (with_reducible refine Kept.alloc ?_ _ _) | (with_reducible refine Kept.drew ?_) | (with_reducible refine Kept.drewN ?_ _) | ((with_reducible refine Kept.setCell ?_ ?_ _); rotate_left; focus (first | (simp; done) | (simp; omega))) | refine Kept.trans ?_ (by assumption))))⟩, by (go_light; repeat (first | (with_reducible exact Kept.refl _) | (with_reducible assumption) | (with_reducible refine Kept.alloc ?_ _ _) | (with_reducible refine Kept.drew ?_) | (with_reducible refine Kept.drewN ?_ _) | ((with_reducible refine Kept.setCell ?_ ?_ _); rotate_left; focus (first | (simp; done) | (simp; omega))) | refine Kept.trans ?_ (by assumption)))⟩
    · exact ((Kept.refl _).alloc _ _).some (cell_new w _ _ _ 0 rfl)
    · exact ((Kept.refl _).alloc _ _).some (cell_new w _ _ _ 1 rfl)
    · exact ((Kept.refl _).alloc _ _).some (cell_new w _ _ _ 2 rfl)
    · exact ((Kept.refl _).alloc _ _).some (cell_new w _ _ _ 3 rfl)
    · exact cell_new _ _ _ _ 0 (by simp)
end Go.Proofs.YtlfdiffbepfgbaaGreat.Ri

namespace Go.Proofs.YtlfdiffbepfgbaaGreat.Sk
open Go.RowKit
theorem three {a b c : Bool} (h : (a && b && c) = true) : a = true ∧ b = true ∧ c = true := by
  cases a <;> cases b <;> cases c <;> simp_all
section
variable {P : Program} {ops : Array Oper} {Q : Exit → Act → World → Prop} {md : Region.Mode} {S : World → Prop}
theorem take_on {i : Nat} {oi : Oper} {v : Value} {fuel : Nat} {listed : Array Bool} {a : Act} {w : World} (hi : ops[i]? = some oi)
    (h3 : (Region.noSelect ops && Region.free md ops listed i && (Region.ready md ops listed).contains i) = true)
    (hw : Region.wanted oi (yielded ops a.tmps) = true) (hv : ∀ w, S w → (execOp a.eval oi).run P w = .ok (.value v) w)
    (hQ : ∀ c a w, Q (.panic c) (a.put oi.dst v) w → Q (.panic c) a w) (hS : S w)
    (h : wpAnyH P md ops Q S fuel (listed.setIfInBounds i true) (a.put oi.dst v) w) : wpAnyH P md ops Q S (fuel + 1) listed a w :=
  wpAnyH_take hi (three h3).1 (three h3).2.1 (three h3).2.2 hQ (Or.inl ⟨hw, hv⟩) hS h
theorem take_off {i : Nat} {oi : Oper} {fuel : Nat} {listed : Array Bool} {a : Act} {w : World} (hi : ops[i]? = some oi)
    (h3 : (Region.noSelect ops && Region.free md ops listed i && (Region.ready md ops listed).contains i) = true)
    (hw : Region.wanted oi (yielded ops a.tmps) = false)
    (hQ : ∀ c a w, Q (.panic c) (a.put oi.dst undef) w → Q (.panic c) a w) (hS : S w)
    (h : wpAnyH P md ops Q S fuel (listed.setIfInBounds i true) (a.put oi.dst undef) w) : wpAnyH P md ops Q S (fuel + 1) listed a w :=
  wpAnyH_take hi (three h3).1 (three h3).2.1 (three h3).2.2 hQ (Or.inr ⟨hw, rfl⟩) hS h
theorem held_mono {S' : World → Prop} (hS : ∀ w, S' w → S w) : ∀ (fuel : Nat) (listed : Array Bool) (a : Act) (w : World), wpAnyH P md ops Q S' fuel listed a w → wpAnyH P md ops Q S fuel listed a w
  | 0, _, _, _, h => h
  | fuel + 1, _, _, _, h => ⟨h.1, fun i hi => wpOp_mono (fun _ _ h' => ⟨hS _ h'.1, held_mono hS fuel _ _ _ h'.2⟩) (h.2 i hi)⟩
end
end Go.Proofs.YtlfdiffbepfgbaaGreat.Sk

namespace Go.Proofs.YtlfdiffbepfgbaaGreat.Ri
set_option maxRecDepth 20000
open Go.RowKit Go.Shelf
open Wo (St acc wordAt PMem RefIs)
open Sk (Wd pmem_kept p_words Blk take_on take_off held_mono)
attribute [local go_sem] Oper.semAt_some

theorem loop_ghost {F : Fence} {n : Nat} {P : Program} {Q : Exit → Act → World → Prop} {a : Act} {w : World} {c : Code} (NN : Nat) (Rel : Nat → Act → World → Prop) (h0 : Rel 0 a w)
    (hstep : ∀ k a w, Rel k a w → k < NN ∧ ∀ K : Act → World → Prop, (∀ a' w', Rel (k + 1) a' w' → K a' w') → c.wpIn F n P (Exit.then K Q) a w) : (Code.loop c).wpIn F n P Q a w := by
  have key : ∀ m k a w, Rel k a w → NN ≤ k + m → Code.roundsIn F n P c Q m a w := by
    intro m
    induction m with
    | zero => intro k a w h hk; have := (hstep k a w h).1; omega
    | succ m ih => intro k a w h hk; exact (hstep k a w h).2 _ fun a' w' h' => ih (k + 1) a' w' h' (by omega)
  exact wpIn_loop_rounds NN (key NN 0 a w h0 (by omega))
def FAct (l a b : Nat) (R : Rng) (v : Value) (h : Int) (i : Nat) (x3 x5 x6 x15 x16 x17 x18 x19 x20 x21 x22 x23 x24 x25 x26 x27 x28 x29 x30 x31 x32 x33 x34 x35 x36 : Value) : Act :=
  { tmps := #[.func (.yield l) #[] #[], .pointer (some ⟨b, 0, none⟩), .pointer (some ⟨a, 0, none⟩), x3, .int .u64 h, x5, x6, v, .pointer (some ⟨a, 0, none⟩), .int .i64 R.H, .int .u64 h, .pointer (some ⟨a, 3, none⟩), .int .i64 R.N, .int .u64 R.N, .int .u64 (i : Int), x15, x16, x17, x18, x19, x20, x21, x22, x23, x24, x25, x26, x27, x28, x29, x30, x31, x32, x33, x34, x35, x36], defers := [] }
def FRel (J : List Int → World → Prop) (R : Rng) (v : Value) (h : Int) (l a b : Nat) (k : Nat) (A : Act) (w : World) : Prop :=
  k ≤ R.N.toNat ∧ J (nums h k) w ∧ ∃ x3 x5 x6 x15 x16 x17 x18 x19 x20 x21 x22 x23 x24 x25 x26 x27 x28 x29 x30 x31 x32 x33 x34 x35 x36, A = FAct l a b R v h k x3 x5 x6 x15 x16 x17 x18 x19 x20 x21 x22 x23 x24 x25 x26 x27 x28 x29 x30 x31 x32 x33 x34 x35 x36

set_option maxHeartbeats 4000000 in
theorem filled_in (m : Nat) (hm : 1 ≤ m) (l a b : Nat) (R : Rng) (v : Value) (n : Nat) (f : Nat → Int) (hf : Wf n f) (hn : n ≤ 100000) (N1 : 1 ≤ R.N) (N2 : R.N ≤ 4096) (J Jx : List Int → World → Prop)
    (hJk : ∀ pre W W', J pre W → Kept W W' → J pre W') (hJb : ∀ pre W, J pre W → Boxes W a b R v n f)
    (hY : ∀ pre x W, J pre W → (pre = nums (hv n f R.H) pre.length ∧ x = num (hv n f R.H) pre.length ∧ (pre.length : Int) < R.N ∧ tkB n f R (hv n f R.H) pre.length = true) → YieldAt Fence.wide (m - 1) Tryz.prog l #[.int .u64 x] W fun e W' =>
      (e = .returned (.bool true) ∧ J (pre ++ [x]) W') ∨ (e = .returned (.bool false) ∧ Jx (pre ++ [x]) W'))
    (W : World) (h0 : J [] W) :
    CallsIn Fence.wide m Tryz.prog 223 #[.func (.yield l) #[] #[], .pointer (some ⟨b, 0, none⟩), .pointer (some ⟨a, 0, none⟩)] W fun e W' => (∃ v, e = .returned v) ∧
      ((∃ xs, (∃ k, xs = nums (hv n f R.H) k ∧ k ≤ R.N.toNat ∧ (k = R.N.toNat ∨ tkB n f R (hv n f R.H) k = false)) ∧ J xs W') ∨ (∃ pre W1, Jx pre W1 ∧ Kept W1 W')) := by
  refine callsIn_of_wp Tryz.func223 rfl trivial ?_ rfl
  simp only [Tryz.ntmps223, List.size_toArray, List.length_cons, List.length_nil, Nat.reduceAdd, Nat.reduceSub, Array.replicate_succ, Array.replicate_zero, List.push_toArray, List.append_toArray, List.nil_append, List.cons_append]
  rw [wpIn_wide]
  obtain ⟨a0, a1, a2, a3, b0, ws⟩ := hJb _ _ h0
  have HY := Lib.hid hY
  have HK := Lib.hid hJk
  have HB := Lib.hid hJb
  have HF := Lib.hid hf
  have HH : ∀ X, Hid (Wds X v n f → Calls Tryz.prog 132 #[v, .int .i64 R.H] X fun e w' => e = .returned (.int .u64 (hv n f R.H)) ∧ Kept X w') := fun X => Lib.hid (fun k => held_any k hf hn R.H)
  have hv0 := (hv_in hf R.H).1
  have hv1 := (hv_in hf R.H).2
  have WS := Lib.hid ws
  have vo : v.oneCell' = true := by
    rcases ws with ⟨_, rfl⟩ | ⟨g, cc, rfl, _⟩ <;> rfl
  clear hY hJk hJb hf ws
  go_wp2_with fail
  refine ((HH _).out WS.out).mono ?_
  rintro e w1 ⟨rfl, k1⟩
  have j1 := HK.out _ _ _ h0 k1
  obtain ⟨a0, a1, a2, a3, b0, ws⟩ := HB.out _ _ j1
  have hfm : Tryz.prog.follows .mixedOrders = true := by kernel_rfl
  clear h0 k1 ws
  go_wp2_with fail
  clear a0 a1 a2 a3 b0 HH WS
  obtain ⟨h, hh⟩ : ∃ h, h = hv n f R.H := ⟨_, rfl⟩
  rw [← hh]
  rw [← hh] at HY hv0 hv1
  have HE0 := Lib.hid hh
  clear hh
  rw [← wpIn_wide (n := m)]
  refine loop_ghost (R.N.toNat + 1) (FRel J R v h l a b) ⟨Nat.zero_le _, j1, _, _, _, _, _, _, _, _, _, _, _, _, _, _, _, _, _, _, _, _, _, _, _, _, _, rfl⟩ ?_
  clear j1
  rintro k _ w ⟨hk, hj, x3, x5, x6, x15, x16, x17, x18, x19, x20, x21, x22, x23, x24, x25, x26, x27, x28, x29, x30, x31, x32, x33, x34, x35, x36, rfl⟩
  refine ⟨by omega, fun K hK => ?_⟩
  obtain ⟨a0, a1, a2, a3, b0, ws⟩ := HB.out _ _ hj
  have WS := Lib.hid ws
  unfold FAct
  by_cases hs : (k : Int) < R.N
  · obtain ⟨t, ht⟩ : ∃ t, t = num h k := ⟨_, rfl⟩
    have t0 : 0 ≤ t := by rw [ht]; exact num_lo _ _
    have t1 : t < 18446744073709551616 := by rw [ht]; exact num_hi _ _
    have wt : IntKind.u64.wrap (h + (k : Int)) = t := by rw [IntKind.wrap_u64, ht]; rfl
    obtain ⟨q, hq⟩ : ∃ q, q = wd n f R t := ⟨_, rfl⟩
    have q0 : 0 ≤ q := by rw [hq]; exact (hv_in HF.out _).1
    have q1 : q < 18446744073709551616 := by rw [hq]; exact (hv_in HF.out _).2
    have CE := fun X => Lib.hid (cell_wrap R t X N1 N2 t0 t1)
    have HE : ∀ X, Hid (Kept w X → Calls Tryz.prog 132 #[v, .int .i64 (wrap64 (cell R t))] X fun e w' => e = .returned (.int .u64 q) ∧ Kept X w') := fun X => Lib.hid (fun kk => by rw [hq]; exact held_any (WS.out.kept kk) HF.out hn _)
    have VA := fun X => Lib.hid (vacant_any R t X N1 N2 t0 t1)
    have eTk : tkB n f R h k = (full q && wlap q * 4294967296 == vac R t) := by unfold tkB taken; rw [← ht, ← hq]
    have TA := fun X => Lib.hid (taken_any q (vac R t) X q0 q1)
    have ET := Lib.hid eTk
    have HT := Lib.hid ht
    have HQ := Lib.hid hq
    cases htk : (full q && wlap q * 4294967296 == vac R t) with
    | false =>
      simp only [htk] at TA
      generalize wrap64 (cell R t) = ce at *
      have HTK := Lib.hid htk
      clear eTk ht hq htk
      generalize vac R t = V at *
      have KT : Kept w w := Kept.refl _
      gi_wp2_with fail
      rw [wpIn_wide]
      have KD : Kept w w.drew := (Kept.refl _).drew
      refine wp_region_held_drew (S := fun w' => w'.cell? ⟨a, 0, none⟩ = some (.int .i64 R.H) ∧ w'.cell? ⟨a, 1, none⟩ = some (.int .i64 R.T) ∧ w'.cell? ⟨a, 2, none⟩ = some (.int .i64 R.K) ∧ w'.cell? ⟨a, 3, none⟩ = some (.int .i64 R.N) ∧ w'.cell? ⟨b, 0, none⟩ = some v) (by kernel_rfl) ?_ (fun hHeld => ?_)
      · exact ⟨KD.some a0, KD.some a1, KD.some a2, KD.some a3, KD.some b0⟩
      refine take_on (i := 0) (oi := ?_) (v := ?_) ?_ (by kernel_rfl) ?_ ?_ ?_ hHeld ?_; rotate_left 2; (focus (simp only [List.getElem?_toArray, List.getElem?_cons_zero]; exact rfl)); (focus (rfl)); (focus (intro w hSw; (try dsimp only at hSw); go_simp <;> with_reducible rfl)); (focus (exact fun _ _ _ h => h)); simp only [Act.put, List.setIfInBounds_toArray, List.set_cons_zero, List.set_cons_succ]
      refine take_on (i := 1) (oi := ?_) (v := ?_) ?_ (by kernel_rfl) ?_ ?_ ?_ hHeld ?_; rotate_left 2; (focus (simp only [List.getElem?_toArray, List.getElem?_cons_succ, List.getElem?_cons_zero]; exact rfl)); (focus (rfl)); (focus (intro w hSw; (try dsimp only at hSw); go_simp <;> with_reducible rfl)); (focus (exact fun _ _ _ h => h)); simp only [Act.put, List.setIfInBounds_toArray, List.set_cons_zero, List.set_cons_succ]
      refine take_on (i := 2) (oi := ?_) (v := ?_) ?_ (by kernel_rfl) ?_ ?_ ?_ hHeld ?_; rotate_left 2; (focus (simp only [List.getElem?_toArray, List.getElem?_cons_succ, List.getElem?_cons_zero]; exact rfl)); (focus (rfl)); (focus (intro w hSw; (try dsimp only at hSw); go_simp <;> with_reducible rfl)); (focus (exact fun _ _ _ h => h)); simp only [Act.put, List.setIfInBounds_toArray, List.set_cons_zero, List.set_cons_succ]
      refine take_on (i := 5) (oi := ?_) (v := ?_) ?_ (by kernel_rfl) ?_ ?_ ?_ hHeld ?_; rotate_left 2; (focus (simp only [List.getElem?_toArray, List.getElem?_cons_succ, List.getElem?_cons_zero]; exact rfl)); (focus (rfl)); (focus (intro w hSw; (try dsimp only at hSw); go_simp <;> with_reducible rfl)); (focus (exact fun _ _ _ h => h)); simp only [Act.put, List.setIfInBounds_toArray, List.set_cons_zero, List.set_cons_succ]
      refine take_on (i := 6) (oi := ?_) (v := ?_) ?_ (by kernel_rfl) ?_ ?_ ?_ hHeld ?_; rotate_left 2; (focus (simp only [List.getElem?_toArray, List.getElem?_cons_succ, List.getElem?_cons_zero]; exact rfl)); (focus (rfl)); (focus (intro w hSw; (try dsimp only at hSw); go_simp <;> with_reducible rfl)); (focus (exact fun _ _ _ h => h)); simp only [Act.put, List.setIfInBounds_toArray, List.set_cons_zero, List.set_cons_succ]
      refine wpAnyH_ready (rs := [3]) (by kernel_rfl) (by simp) ?_
      refine AllReadyH.cons (o := ?_) ?_ ?_ AllReadyH.nil
      rotate_left 1
      · simp only [List.getElem?_toArray, List.getElem?_cons_succ, List.getElem?_cons_zero]; exact rfl
      intro K hK
      go_simp
      go_at_call 133; refine ((CE _).out).mono ?_; rintro e v3 ⟨rfl, kk3⟩; have KQ3 : Kept w v3 := KD.trans kk3
      go_wp2_with fail
      clear hHeld
      refine hK.out _ _ ?_ (fun hHeld => ?_)
      · exact ⟨KQ3.some a0, KQ3.some a1, KQ3.some a2, KQ3.some a3, KQ3.some b0⟩
      clear hK K
      try simp only [Act.put, List.setIfInBounds_toArray, List.set_cons_zero, List.set_cons_succ]
      refine wpAnyH_ready (rs := [4]) (by kernel_rfl) (by simp) ?_
      refine AllReadyH.cons (o := ?_) ?_ ?_ AllReadyH.nil
      rotate_left 1
      · simp only [List.getElem?_toArray, List.getElem?_cons_succ, List.getElem?_cons_zero]; exact rfl
      intro K hK
      go_simp
      go_at_call 132; refine ((HE _).out KQ3).mono ?_; rintro e v4 ⟨rfl, kk4⟩; have KQ4 : Kept w v4 := KQ3.trans kk4
      go_wp2_with fail
      clear hHeld
      refine hK.out _ _ ?_ (fun hHeld => ?_)
      · exact ⟨KQ4.some a0, KQ4.some a1, KQ4.some a2, KQ4.some a3, KQ4.some b0⟩
      clear hK K
      try simp only [Act.put, List.setIfInBounds_toArray, List.set_cons_zero, List.set_cons_succ]
      refine wpAnyH_ready (rs := [7]) (by kernel_rfl) (by simp) ?_
      refine AllReadyH.cons (o := ?_) ?_ ?_ AllReadyH.nil
      rotate_left 1
      · simp only [List.getElem?_toArray, List.getElem?_cons_succ, List.getElem?_cons_zero]; exact rfl
      intro K hK
      go_simp
      go_at_call 225; refine ((VA _).out).mono ?_; rintro e v7 ⟨rfl, kk7⟩; have KQ7 : Kept w v7 := KQ4.trans kk7
      go_wp2_with fail
      clear hHeld
      refine hK.out _ _ ?_ (fun hHeld => ?_)
      · exact ⟨KQ7.some a0, KQ7.some a1, KQ7.some a2, KQ7.some a3, KQ7.some b0⟩
      clear hK K
      try simp only [Act.put, List.setIfInBounds_toArray, List.set_cons_zero, List.set_cons_succ]
      refine wpAnyH_ready (rs := [8]) (by kernel_rfl) (by simp) ?_
      refine AllReadyH.cons (o := ?_) ?_ ?_ AllReadyH.nil
      rotate_left 1
      · simp only [List.getElem?_toArray, List.getElem?_cons_succ, List.getElem?_cons_zero]; exact rfl
      intro K hK
      go_simp
      go_at_call 224; refine ((TA _).out).mono ?_; rintro e v8 ⟨rfl, kk8⟩; have KQ8 : Kept w v8 := KQ7.trans kk8
      go_wp2_with fail
      clear hHeld
      refine hK.out _ _ ?_ (fun hHeld => ?_)
      · exact ⟨KQ8.some a0, KQ8.some a1, KQ8.some a2, KQ8.some a3, KQ8.some b0⟩
      clear hK K
      try simp only [Act.put, List.setIfInBounds_toArray, List.set_cons_zero, List.set_cons_succ]
      refine take_on (i := 9) (oi := ?_) (v := ?_) ?_ (by kernel_rfl) ?_ ?_ ?_ hHeld ?_; rotate_left 2; (focus (simp only [List.getElem?_toArray, List.getElem?_cons_succ, List.getElem?_cons_zero]; exact rfl)); (focus (rfl)); (focus (intro w hSw; (try dsimp only at hSw); go_simp <;> with_reducible rfl)); (focus (exact fun _ _ _ h => h)); simp only [Act.put, List.setIfInBounds_toArray, List.set_cons_zero, List.set_cons_succ]
      refine take_on (i := 10) (oi := ?_) (v := ?_) ?_ (by kernel_rfl) ?_ ?_ ?_ hHeld ?_; rotate_left 2; (focus (simp only [List.getElem?_toArray, List.getElem?_cons_succ, List.getElem?_cons_zero]; exact rfl)); (focus (rfl)); (focus (intro w hSw; (try dsimp only at hSw); go_simp <;> with_reducible rfl)); (focus (exact fun _ _ _ h => h)); simp only [Act.put, List.setIfInBounds_toArray, List.set_cons_zero, List.set_cons_succ]
      refine take_off (i := 11) (oi := ?_) ?_ (by kernel_rfl) ?_ ?_ hHeld ?_; rotate_left 1; (focus (simp only [List.getElem?_toArray, List.getElem?_cons_succ, List.getElem?_cons_zero]; exact rfl)); (focus (rfl)); (focus (exact fun _ _ _ h => h)); simp only [Act.put, List.setIfInBounds_toArray, List.set_cons_zero, List.set_cons_succ]
      refine take_off (i := 12) (oi := ?_) ?_ (by kernel_rfl) ?_ ?_ hHeld ?_; rotate_left 1; (focus (simp only [List.getElem?_toArray, List.getElem?_cons_succ, List.getElem?_cons_zero]; exact rfl)); (focus (rfl)); (focus (exact fun _ _ _ h => h)); simp only [Act.put, List.setIfInBounds_toArray, List.set_cons_zero, List.set_cons_succ]
      refine take_off (i := 13) (oi := ?_) ?_ (by kernel_rfl) ?_ ?_ hHeld ?_; rotate_left 1; (focus (simp only [List.getElem?_toArray, List.getElem?_cons_succ, List.getElem?_cons_zero]; exact rfl)); (focus (rfl)); (focus (exact fun _ _ _ h => h)); simp only [Act.put, List.setIfInBounds_toArray, List.set_cons_zero, List.set_cons_succ]
      refine take_off (i := 14) (oi := ?_) ?_ (by kernel_rfl) ?_ ?_ hHeld ?_; rotate_left 1; (focus (simp only [List.getElem?_toArray, List.getElem?_cons_succ, List.getElem?_cons_zero]; exact rfl)); (focus (rfl)); (focus (exact fun _ _ _ h => h)); simp only [Act.put, List.setIfInBounds_toArray, List.set_cons_zero, List.set_cons_succ]
      refine take_on (i := 15) (oi := ?_) (v := ?_) ?_ (by kernel_rfl) ?_ ?_ ?_ hHeld ?_; rotate_left 2; (focus (simp only [List.getElem?_toArray, List.getElem?_cons_succ, List.getElem?_cons_zero]; exact rfl)); (focus (rfl)); (focus (intro w hSw; (try dsimp only at hSw); go_simp <;> with_reducible rfl)); (focus (exact fun _ _ _ h => h)); simp only [Act.put, List.setIfInBounds_toArray, List.set_cons_zero, List.set_cons_succ]
      refine wpAnyH_done (by kernel_rfl) ?_ _
      gi_wp2
      obtain rfl := HE0.out
      exact bodyPost_ret (v := .tuple #[]) (by simp [results, Tryz.results223, go_sem]) rfl ⟨⟨_, rfl⟩, .inl ⟨_, ⟨k, rfl, hk, .inr (by rw [ET.out]; exact HTK.out)⟩, HK.out _ _ _ hj (by first | exact KQ8 | exact KQ8.drew | exact KQ8.drewN _)⟩⟩
    | true =>
      simp only [htk] at TA
      generalize wrap64 (cell R t) = ce at *
      have HTK := Lib.hid htk
      clear eTk ht hq htk
      generalize vac R t = V at *
      have KT : Kept w w := Kept.refl _
      have YY := Lib.hid (fun X (kk : Kept w X) => HY.out (nums h k) t X (HK.out _ _ _ hj kk) ⟨by rw [nums_length], by rw [nums_length]; exact HT.out, by rw [nums_length]; exact hs, by rw [nums_length, ET.out]; exact HTK.out⟩)
      gi_wp2_with fail
      gi_region_with_o (first
        | (refine ⟨trivial, ?_⟩; gi_at_call 133; refine (callsIn_wide.2 (CE _).out).mono ?_; rintro e w2 ⟨rfl, k2⟩; have KT : Kept w w2 := Kept.trans (b := _) (by first | exact KT | exact KT.drew | exact KT.drewN _) k2; have a0 := KT.some a0; have a1 := KT.some a1; have a2 := KT.some a2; have a3 := KT.some a3; have b0 := KT.some b0)
        | (refine ⟨trivial, ?_⟩; gi_at_call 132; refine (callsIn_wide.2 ((HE _).out (by first | exact KT | exact KT.drew | exact KT.drewN _))).mono ?_; rintro e w3 ⟨rfl, k3⟩; have KT : Kept w w3 := Kept.trans (b := _) (by first | exact KT | exact KT.drew | exact KT.drewN _) k3; have a0 := k3.some a0; have a1 := k3.some a1; have a2 := k3.some a2; have a3 := k3.some a3; have b0 := k3.some b0)
        | (refine ⟨trivial, ?_⟩; gi_at_call 225; refine (callsIn_wide.2 (VA _).out).mono ?_; rintro e w4 ⟨rfl, k4⟩; have KT : Kept w w4 := Kept.trans (b := _) (by first | exact KT | exact KT.drew | exact KT.drewN _) k4; have a0 := k4.some a0; have a1 := k4.some a1; have a2 := k4.some a2; have a3 := k4.some a3; have b0 := k4.some b0)
        | (refine ⟨trivial, ?_⟩; gi_at_call 224; refine (callsIn_wide.2 (TA _).out).mono ?_; rintro e w5 ⟨rfl, k5⟩; have KT : Kept w w5 := Kept.trans (b := _) (by first | exact KT | exact KT.drew | exact KT.drewN _) k5; obtain ⟨fn, tmps, assign, body, hy, hR⟩ := YY.out _ KT)
        | (refine hR.mono ?_; rintro e W3 hor; obtain ⟨bb, rfl, hor2⟩ : ∃ bb, e = .returned (.bool bb) ∧ ((bb = true ∧ J (nums h k ++ [t]) W3) ∨ (bb = false ∧ Jx (nums h k ++ [t]) W3)) := (hor.elim (fun ⟨x1, x2⟩ => ⟨true, x1, .inl ⟨rfl, x2⟩⟩) (fun ⟨x1, x2⟩ => ⟨false, x1, .inr ⟨rfl, x2⟩⟩))))
      all_goals rcases hor2 with ⟨rfl, hJ3⟩ | ⟨rfl, hJx3⟩
      all_goals gi_wp2
      all_goals first
        | (refine ⟨by omega, ?_, _, _, _, _, _, _, _, _, _, _, _, _, _, _, _, _, _, _, _, _, _, _, _, _, _, rfl⟩; rw [nums_succ, ← HT.out]; exact hJ3)
        | (exact bodyPost_ret (v := .tuple #[]) (by simp [results, Tryz.results223, go_sem]) rfl ⟨⟨_, rfl⟩, .inr ⟨_, _, hJx3, Kept.refl _⟩⟩)
  · have hkN : k = R.N.toNat := by omega
    have HKN := Lib.hid hkN
    clear hkN hk
    gi_wp2
    obtain rfl := HE0.out
    go_end0
    exact ⟨⟨_, rfl⟩, .inl ⟨_, ⟨k, rfl, by rw [HKN.out]; exact Nat.le_refl _, .inl HKN.out⟩, hj⟩⟩
end Go.Proofs.YtlfdiffbepfgbaaGreat.Ri
