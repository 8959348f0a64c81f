/- The indices on a stack: the program's closure 'at', its iterator, Chain; the document's Chain. -/
import Derived.Test.YtmbdgaflmiacnaaG09
import Derived.Test.YtmbdgaflmiacnaaG05
import Derived.Lib.Hide
import Derived.Deep.Light
import Derived.Deep.RegionHeld3
import Derived.Laws.EntriesVeiled
import Derived.Test.YtmbdgaflmiacnaaG08
set_option linter.unusedVariables false
set_option linter.unusedSimpArgs false

namespace Go.Proofs.Ytmbdgaflmiacnaa.Sk
set_option maxRecDepth 20000
open Go.RowKit Go.Shelf
open Wo (St acc wordAt PMem RefIs)
attribute [local go_sem] Oper.semAt_some

def Wds (w : World) (v : Value) (n : Nat) (f : Nat → Int) : Prop :=
  (n = 0 ∧ v = .slice none 0 0) ∨ ∃ g c, v = .slice (some ⟨g, 0, none⟩) n c ∧ g < w.heap.size ∧ ∀ i, i < n → w.cell? ⟨g, i, none⟩ = some (.int .u64 (f i))
theorem Wds.kept {w w' : World} {v : Value} {n : Nat} {f : Nat → Int} (h : Wds w v n f) (k : Kept w w') : Wds w' v n f := by
  rcases h with h | ⟨g, c, h1, h2, h3⟩
  · exact .inl h
  · exact .inr ⟨g, c, h1, Nat.lt_of_lt_of_le h2 k.size, fun i hi => k.some (h3 i hi)⟩

def atV (n : Nat) (f : Nat → Int) (N x : Int) : Int := if 0 ≤ x ∧ x < n then idx N (f x.toNat) else -1
theorem atV_lo (n : Nat) (f : Nat → Int) (N x : Int) : -1 ≤ atV n f N x := by
  unfold atV; split
  · exact idx_lo _ _
  · omega
theorem atV_le (n : Nat) (f : Nat → Int) (N x : Int) : atV n f N x ≤ 65534 := by
  unfold atV; split
  · exact idx_le _ _
  · omega

structure Boxes (w : World) (a b c : Nat) (S : Stk) (v : Value) (n : Nat) (f : Nat → Int) : Prop where
  a0 : w.cell? ⟨a, 0, none⟩ = some (.int .i64 S.T)
  a1 : w.cell? ⟨a, 1, none⟩ = some (.int .i64 S.K)
  a2 : w.cell? ⟨a, 2, none⟩ = some (.int .i64 S.N)
  b0 : w.cell? ⟨b, 0, none⟩ = some v
  c0 : w.cell? ⟨c, 0, none⟩ = some (.func (.func 67) #[] #[.pointer (some ⟨b, 0, none⟩), .pointer (some ⟨a, 0, none⟩)])
  ws : Wds w v n f
theorem Boxes.kept {w w' : World} {a b c : Nat} {S : Stk} {v : Value} {n : Nat} {f : Nat → Int} (h : Boxes w a b c S v n f) (k : Kept w w') : Boxes w' a b c S v n f :=
  ⟨k.some h.a0, k.some h.a1, k.some h.a2, k.some h.b0, k.some h.c0, h.ws.kept k⟩
theorem Boxes.but {w w' : World} {a b c : Nat} {S : Stk} {v : Value} {n : Nat} {f : Nat → Int} (h : Boxes w a b c S v n f) {T : Nat → Prop} (k : But T w w') (ha : ¬ T a) (hb : ¬ T b) (hc : ¬ T c) (hg : ∀ g, v.ownBlock = some g → ¬ T g) : Boxes w' a b c S v n f := by
  refine ⟨k.some h.a0 ha, k.some h.a1 ha, k.some h.a2 ha, k.some h.b0 hb, k.some h.c0 hc, ?_⟩
  rcases h.ws with h | ⟨g, c, rfl, h2, h3⟩
  · exact .inl h
  · exact .inr ⟨g, c, rfl, Nat.lt_of_lt_of_le h2 k.size, fun i hi => k.some (h3 i hi) (hg g rfl)⟩

theorem Boxes.blk {w w' : World} {a b c : Nat} {S : Stk} {v : Value} {n : Nat} {f : Nat → Int} (h : Boxes w a b c S v n f) {T : Nat → Prop} (k : Blk T w w') (ha : ¬ T a) (hb : ¬ T b) (hc : ¬ T c) (hg : ∀ g, v.ownBlock = some g → ¬ T g) : Boxes w' a b c S v n f := by
  have cell : ∀ {b o : Nat} {u : Value}, w.cell? ⟨b, o, none⟩ = some u → ¬ T b → w'.cell? ⟨b, o, none⟩ = some u := fun {b o u} hc hT => (World.cell?_of_block (k.block b (lt_of_cell hc) hT)).trans hc
  refine ⟨cell h.a0 ha, cell h.a1 ha, cell h.a2 ha, cell h.b0 hb, cell h.c0 hc, ?_⟩
  rcases h.ws with h | ⟨g, c, rfl, h2, h3⟩
  · exact .inl h
  · exact .inr ⟨g, c, rfl, Nat.lt_of_lt_of_le h2 k.size, fun i hi => cell (h3 i hi) (hg g rfl)⟩

def Wf (n : Nat) (f : Nat → Int) : Prop := ∀ i, i < n → 0 ≤ f i ∧ f i < 18446744073709551616

set_option maxHeartbeats 1000000 in
theorem at_any {w : World} {a b c : Nat} {S : Stk} {v : Value} {n : Nat} {f : Nat → Int} (h : Boxes w a b c S v n f) (hf : Wf n f) (x : Int) :
    Calls Try.prog 67 #[.int .i64 x, .pointer (some ⟨b, 0, none⟩), .pointer (some ⟨a, 0, none⟩)] w fun e w' => e = .returned (.int .i64 (atV n f S.N x)) ∧ Kept w w' := by
  obtain ⟨a0, a1, a2, b0, c0, ws⟩ := h
  by_cases h0 : x < 0
  · have E : Hid (atV n f S.N x = -1) := Lib.hid (by unfold atV; rw [if_neg (by omega)])
    rcases ws with ⟨rfl, rfl⟩ | ⟨g, cc, rfl, hg, hc⟩
    · go_enter Try.func67, Try.ntmps67
      go_wp2
      go_ret
      exact ⟨by rw [E.out]; rfl, by (go_light; repeat (first | (with_reducible exact Kept.refl _) | (with_reducible assumption) | (with_reducible refine Kept.alloc ?_ _ _) | (with_reducible refine Kept.drew ?_) | (with_reducible refine Kept.drewN ?_ _) | ((with_reducible refine Kept.setCell ?_ ?_ _); rotate_left; focus (first | (simp; done) | (simp; omega))) | refine Kept.trans ?_ (by assumption)))⟩
    · clear hc
      go_enter Try.func67, Try.ntmps67
      go_wp2
      go_ret
      exact ⟨by rw [E.out]; rfl, by (go_light; repeat (first | (with_reducible exact Kept.refl _) | (with_reducible assumption) | (with_reducible refine Kept.alloc ?_ _ _) | (with_reducible refine Kept.drew ?_) | (with_reducible refine Kept.drewN ?_ _) | ((with_reducible refine Kept.setCell ?_ ?_ _); rotate_left; focus (first | (simp; done) | (simp; omega))) | refine Kept.trans ?_ (by assumption)))⟩
  · obtain ⟨k, rfl⟩ := Int.eq_ofNat_of_zero_le (show 0 ≤ x by omega)
    by_cases h1 : n ≤ k
    · have E : Hid (atV n f S.N k = -1) := Lib.hid (by unfold atV; rw [if_neg (by omega)])
      rcases ws with ⟨rfl, rfl⟩ | ⟨g, cc, rfl, hg, hc⟩
      · go_enter Try.func67, Try.ntmps67
        go_wp2
        go_ret
        exact ⟨by rw [E.out]; rfl, by (go_light; repeat (first | (with_reducible exact Kept.refl _) | (with_reducible assumption) | (with_reducible refine Kept.alloc ?_ _ _) | (with_reducible refine Kept.drew ?_) | (with_reducible refine Kept.drewN ?_ _) | ((with_reducible refine Kept.setCell ?_ ?_ _); rotate_left; focus (first | (simp; done) | (simp; omega))) | refine Kept.trans ?_ (by assumption)))⟩
      · clear hc
        go_enter Try.func67, Try.ntmps67
        go_wp2
        go_ret
        exact ⟨by rw [E.out]; rfl, by (go_light; repeat (first | (with_reducible exact Kept.refl _) | (with_reducible assumption) | (with_reducible refine Kept.alloc ?_ _ _) | (with_reducible refine Kept.drew ?_) | (with_reducible refine Kept.drewN ?_ _) | ((with_reducible refine Kept.setCell ?_ ?_ _); rotate_left; focus (first | (simp; done) | (simp; omega))) | refine Kept.trans ?_ (by assumption)))⟩
    · have h2 : k < n := by omega
      have E : Hid (atV n f S.N k = idx S.N (f k)) := Lib.hid (by unfold atV; rw [if_pos (by omega), Int.toNat_natCast])
      rcases ws with ⟨rfl, rfl⟩ | ⟨g, cc, rfl, hg, hc⟩
      · omega
      · have ck := hc k h2
        obtain ⟨f0, f1⟩ := hf k h2
        clear hc hf h0 h1
        go_enter Try.func67, Try.ntmps67
        go_wp2_with fail
        go_region_held3 (fun w' => w'.cell? ⟨a, 0, none⟩ = some (.int .i64 S.T) ∧ w'.cell? ⟨a, 1, none⟩ = some (.int .i64 S.K) ∧ w'.cell? ⟨a, 2, none⟩ = some (.int .i64 S.N) ∧ w'.cell? ⟨b, 0, none⟩ = some (.slice (some ⟨g, 0, none⟩) n cc) ∧ w'.cell? ⟨g, k, none⟩ = some (.int .u64 (f k))) (first | go_keep | (exact ⟨k1.some a0, k1.some a1, k1.some a2, k1.some b0, k1.some ck⟩)) (first | (go_at_call 68; refine (read_any S.T S.K S.N (f k) _ f0 f1).mono ?_; rintro e w1 ⟨rfl, k1⟩))
        go_wp2
        go_ret
        exact ⟨by rw [E.out]; rfl, by (go_light; repeat (first | (with_reducible exact Kept.refl _) | (with_reducible assumption) | (with_reducible refine Kept.alloc ?_ _ _) | (with_reducible refine Kept.drew ?_) | (with_reducible refine Kept.drewN ?_ _) | ((with_reducible refine Kept.setCell ?_ ?_ _); rotate_left; focus (first | (simp; done) | (simp; omega))) | refine Kept.trans ?_ (by assumption)))⟩

def sq (n : Nat) (f : Nat → Int) (S : Stk) : Nat → Int
  | 0 => atV n f S.N S.T
  | k + 1 => atV n f S.N (wrap64 (S.K + sq n f S k))
theorem sq_lo (n : Nat) (f : Nat → Int) (S : Stk) (k : Nat) : -1 ≤ sq n f S k := by cases k <;> exact atV_lo _ _ _ _
def sqs (n : Nat) (f : Nat → Int) (S : Stk) (k : Nat) : List Int := (List.range k).map (sq n f S)
theorem sqs_succ (n : Nat) (f : Nat → Int) (S : Stk) (k : Nat) : sqs n f S (k + 1) = sqs n f S k ++ [sq n f S k] := by simp [sqs, List.range_succ]
theorem sqs_length (n : Nat) (f : Nat → Int) (S : Stk) (k : Nat) : (sqs n f S k).length = k := by simp [sqs]

theorem wpIn_loop_ghost {F : Fence} {n : Nat} {P : Program} {Q : Exit → Act → World → Prop} {a : Act} {w : World} {c : Code} (NN : Nat) (Rel : Nat → Act → World → Prop) (h0 : Rel 0 a w)
    (hstep : ∀ k a w, Rel k a w → k < NN ∧ ∀ K : Act → World → Prop, (∀ a' w', Rel (k + 1) a' w' → K a' w') → c.wpIn F n P (Exit.then K Q) a w) : (Code.loop c).wpIn F n P Q a w := by
  have key : ∀ m k a w, Rel k a w → NN ≤ k + m → Code.roundsIn F n P c Q m a w := by
    intro m
    induction m with
    | zero => intro k a w h hk; have := (hstep k a w h).1; omega
    | succ m ih => intro k a w h hk; exact (hstep k a w h).2 _ fun a' w' h' => ih (k + 1) a' w' h' (by omega)
  exact wpIn_loop_rounds NN (key NN 0 a w h0 (by omega))

def ItAct (l a c : Nat) (i : Int) (x5 x6 x7 x8 x9 x10 x11 x12 x13 x14 x15 x16 x17 x18 x19 x20 : Value) : Act :=
  { tmps := #[.func (.yield l) #[] #[], .pointer (some ⟨c, 0, none⟩), .pointer (some ⟨a, 0, none⟩), undef, .int .i64 i, x5, x6, x7, x8, x9, x10, x11, x12, x13, x14, x15, x16, x17, x18, x19, x20], defers := [] }
def ItRel (J : List Int → World → Prop) (n : Nat) (f : Nat → Int) (S : Stk) (l a c : Nat) (k : Nat) (A : Act) (w : World) : Prop :=
  J (sqs n f S k) w ∧ ∃ x5 x6 x7 x8 x9 x10 x11 x12 x13 x14 x15 x16 x17 x18 x19 x20, A = ItAct l a c (sq n f S k) x5 x6 x7 x8 x9 x10 x11 x12 x13 x14 x15 x16 x17 x18 x19 x20

set_option maxHeartbeats 4000000 in
theorem indices_in (m : Nat) (hm : 1 ≤ m) (l a b c : Nat) (S : Stk) (v : Value) (n : Nat) (f : Nat → Int) (hf : Wf n f) (NN : Nat) (J Jx : List Int → World → Prop)
    (hJk : ∀ pre W W', J pre W → Kept W W' → J pre W') (hJb : ∀ pre W, J pre W → Boxes W a b c S v n f ∧ pre.length < NN)
    (hY : ∀ pre x W, J pre W → (pre = sqs n f S pre.length ∧ x = sq n f S pre.length ∧ 0 ≤ x) → YieldAt Fence.wide (m - 1) Try.prog l #[.int .i64 x] W fun e W' =>
      (e = .returned (.bool true) ∧ J (pre ++ [x]) W') ∨ (e = .returned (.bool false) ∧ Jx (pre ++ [x]) W'))
    (W : World) (h0 : J [] W) :
    CallsIn Fence.wide m Try.prog 69 #[.func (.yield l) #[] #[], .pointer (some ⟨c, 0, none⟩), .pointer (some ⟨a, 0, none⟩)] W fun e W' => (∃ v, e = .returned v) ∧
      ((∃ xs, (∃ k, xs = sqs n f S k ∧ sq n f S k < 0) ∧ J xs W') ∨ (∃ pre W1, Jx pre W1 ∧ Kept W1 W')) := by
  refine callsIn_of_wp Try.func69 rfl trivial ?_ rfl
  simp only [Try.ntmps69, List.size_toArray, List.length_cons, List.length_nil, Nat.reduceAdd, Nat.reduceSub, Array.replicate_succ, Array.replicate_zero, List.push_toArray, List.append_toArray, List.nil_append, List.cons_append]
  rw [wpIn_wide]
  obtain ⟨a0, a1, a2, b0, c0, ws⟩ := (hJb _ _ h0).1
  have HY := Lib.hid hY
  have HK := Lib.hid hJk
  have HB := Lib.hid hJb
  have HF := Lib.hid hf
  clear hY hJk hJb hf ws
  go_wp2_with fail
  refine (at_any (HB.out _ _ h0).1 HF.out S.T).mono ?_
  rintro e w1 ⟨rfl, k1⟩
  have j1 := HK.out _ _ _ h0 k1
  have hfm : Try.prog.follows .mixedOrders = true := by kernel_rfl
  clear h0 a0 a1 a2 b0 c0 k1
  go_wp2_with fail
  rw [← wpIn_wide (n := m)]
  refine wpIn_loop_ghost NN (ItRel J n f S l a c) ⟨j1, _, _, _, _, _, _, _, _, _, _, _, _, _, _, _, _, rfl⟩ ?_
  clear j1
  rintro k _ w ⟨hj, x5, x6, x7, x8, x9, x10, x11, x12, x13, x14, x15, x16, x17, x18, x19, x20, rfl⟩
  obtain ⟨hb, hlt⟩ := HB.out _ _ hj
  rw [sqs_length] at hlt
  refine ⟨hlt, fun K hK => ?_⟩
  unfold ItAct
  by_cases hs : sq n f S k = -1
  · have hne : (sq n f S k != -1) = false := by simp [hs]
    have HS := Lib.hid hs
    clear hs hb
    gi_wp2
    refine ⟨fun _ h => (by cases h), ?_⟩
    gi_wp2
    go_end0
    exact ⟨⟨_, rfl⟩, .inl ⟨_, ⟨k, rfl, by rw [HS.out]; decide⟩, hj⟩⟩
  · have hne : (sq n f S k != -1) = true := by simp [hs]
    have hp : 0 ≤ sq n f S k := by have := sq_lo n f S k; omega
    obtain ⟨fn, tmps, assign, body, hy, hR⟩ := HY.out _ (sq n f S k) w hj ⟨by rw [sqs_length], by rw [sqs_length], hp⟩
    clear hs hb
    gi_wp2
    refine hR.mono ?_
    rintro e W3 (⟨rfl, hJ3⟩ | ⟨rfl, hJx3⟩)
    · obtain ⟨b3, hlt3⟩ := HB.out _ _ hJ3
      obtain ⟨a0, a1, a2, b0, c0, ws⟩ := b3
      have BX : Hid (Boxes W3 a b c S v n f) := Lib.hid ⟨a0, a1, a2, b0, c0, ws⟩
      have J3 := Lib.hid hJ3
      clear hJ3 hy hR ws hj hlt3
      gi_wp2_with fail
      rw [wpIn_wide]
      go_region_held3 (fun w' => w'.cell? ⟨a, 0, none⟩ = some (.int .i64 S.T) ∧ w'.cell? ⟨a, 1, none⟩ = some (.int .i64 S.K) ∧ w'.cell? ⟨a, 2, none⟩ = some (.int .i64 S.N) ∧ w'.cell? ⟨c, 0, none⟩ = some (.func (.func 67) #[] #[.pointer (some ⟨b, 0, none⟩), .pointer (some ⟨a, 0, none⟩)])) (first | go_keep | (exact ⟨k4.some a0, k4.some a1, k4.some a2, k4.some c0⟩) | (exact ⟨k5.some (k4.some a0), k5.some (k4.some a1), k5.some (k4.some a2), k5.some (k4.some c0)⟩)) (first
        | (go_at_call 47; refine (link_any S.T S.K S.N (sq n f S k) _).mono ?_; rintro e w4 ⟨rfl, k4⟩; have KT : Kept W3 w4 := Kept.trans (b := _) (by first | exact Kept.refl _ | exact (Kept.refl _).drew | exact (Kept.refl _).drewN _) k4)
        | (go_at_call 67; refine (at_any (BX.out.kept (by first | exact KT | exact KT.drew | exact KT.drewN _)) HF.out _).mono ?_; rintro e w5 ⟨rfl, k5⟩; have KU : Kept W3 w5 := Kept.trans (b := _) (by first | exact KT | exact KT.drew | exact KT.drewN _) k5))
      refine hK _ _ ⟨?_, _, _, _, _, _, _, _, _, _, _, _, _, _, _, _, _, rfl⟩
      rw [sqs_succ]
      exact HK.out _ _ _ J3.out KU
    · gi_wp2
      go_end0
      exact ⟨⟨_, rfl⟩, .inr ⟨_, _, hJx3, Kept.refl _⟩⟩

theorem indices_any (S : Stk) (v : Value) (n : Nat) (f : Nat → Int) (w : World) (h : Wds w v n f) :
    Calls Try.prog 50 #[.agg #[.int .i64 S.T, .int .i64 S.K, .int .i64 S.N], v] w fun e w' => ∃ a b c, e = .returned (.func (.func 69) #[] #[.pointer (some ⟨c, 0, none⟩), .pointer (some ⟨a, 0, none⟩)]) ∧ w.heap.size ≤ a ∧ w.heap.size ≤ b ∧ w.heap.size ≤ c ∧ a < w'.heap.size ∧ b < w'.heap.size ∧ c < w'.heap.size ∧ Boxes w' a b c S v n f ∧ Kept w w' := by
  have hv : v.oneCell' = true := by
    rcases h with ⟨_, rfl⟩ | ⟨g, cc, rfl, _⟩ <;> rfl
  have HW := Lib.hid h
  rcases h with ⟨rfl, rfl⟩ | ⟨g, cc, rfl, hg, hc⟩
  · go_enter Try.func50, Try.ntmps50
    go_wp2
    go_ret
    go_light
    refine ⟨w.heap.size, w.heap.size + 1, w.heap.size + 1 + 1, rfl, by omega, by omega, by omega, ?_, ?_, ?_, ⟨?_, ?_, ?_, ?_, ?_, ?_⟩, by (go_light; repeat (first | (with_reducible exact Kept.refl _) | (with_reducible assumption) | (with_reducible refine Kept.alloc ?_ _ _) | (with_reducible refine Kept.drew ?_) | (with_reducible refine Kept.drewN ?_ _) | ((with_reducible refine Kept.setCell ?_ ?_ _); rotate_left; focus (first | (simp; done) | (simp; omega))) | refine Kept.trans ?_ (by assumption)))⟩
    · simp; omega
    · simp
    · simp
    · exact (((Kept.refl _).alloc _ _).alloc _ _).some (cell_new w _ _ _ 0 rfl)
    · exact (((Kept.refl _).alloc _ _).alloc _ _).some (cell_new w _ _ _ 1 rfl)
    · exact (((Kept.refl _).alloc _ _).alloc _ _).some (cell_new w _ _ _ 2 rfl)
    · exact ((Kept.refl _).alloc _ _).some (cell_new _ _ _ _ 0 (by simp))
    · exact cell_new _ _ _ _ 0 (by simp)
    · exact HW.out.kept (by (go_light; repeat (first | (with_reducible exact Kept.refl _) | (with_reducible assumption) | (with_reducible refine Kept.alloc ?_ _ _) | (with_reducible refine Kept.drew ?_) | (with_reducible refine Kept.drewN ?_ _) | ((with_reducible refine Kept.setCell ?_ ?_ _); rotate_left; focus (first | (simp; done) | (simp; omega))) | refine Kept.trans ?_ (by assumption))))
  · clear hc
    go_enter Try.func50, Try.ntmps50
    go_wp2
    go_ret
    go_light
    refine ⟨w.heap.size, w.heap.size + 1, w.heap.size + 1 + 1, rfl, by omega, by omega, by omega, ?_, ?_, ?_, ⟨?_, ?_, ?_, ?_, ?_, ?_⟩, by (go_light; repeat (first | (with_reducible exact Kept.refl _) | (with_reducible assumption) | (with_reducible refine Kept.alloc ?_ _ _) | (with_reducible refine Kept.drew ?_) | (with_reducible refine Kept.drewN ?_ _) | ((with_reducible refine Kept.setCell ?_ ?_ _); rotate_left; focus (first | (simp; done) | (simp; omega))) | refine Kept.trans ?_ (by assumption)))⟩
    · simp; omega
    · simp
    · simp
    · exact (((Kept.refl _).alloc _ _).alloc _ _).some (cell_new w _ _ _ 0 rfl)
    · exact (((Kept.refl _).alloc _ _).alloc _ _).some (cell_new w _ _ _ 1 rfl)
    · exact (((Kept.refl _).alloc _ _).alloc _ _).some (cell_new w _ _ _ 2 rfl)
    · exact ((Kept.refl _).alloc _ _).some (cell_new _ _ _ _ 0 (by simp))
    · exact cell_new _ _ _ _ 0 (by simp)
    · exact HW.out.kept (by (go_light; repeat (first | (with_reducible exact Kept.refl _) | (with_reducible assumption) | (with_reducible refine Kept.alloc ?_ _ _) | (with_reducible refine Kept.drew ?_) | (with_reducible refine Kept.drewN ?_ _) | ((with_reducible refine Kept.setCell ?_ ?_ _); rotate_left; focus (first | (simp; done) | (simp; omega))) | refine Kept.trans ?_ (by assumption))))

def chnLen (n : Nat) (f : Nat → Int) (S : Stk) : Nat → Nat → Nat
  | 0, k => k
  | r + 1, k => if sq n f S k < 0 then k else chnLen n f S r (k + 1)
theorem chnLen_eq {n : Nat} {f : Nat → Int} {S : Stk} : ∀ (r j k : Nat), j ≤ k → k ≤ j + r → (∀ i, j ≤ i → i < k → 0 ≤ sq n f S i) → (sq n f S k < 0 ∨ k = j + r) → chnLen n f S r j = k
  | 0, j, k, h1, h2, _, _ => by unfold chnLen; omega
  | r + 1, j, k, h1, h2, h3, h4 => by
    unfold chnLen
    by_cases e : j = k
    · subst e
      rcases h4 with h4 | h4
      · rw [if_pos h4]
      · omega
    · have := h3 j (Nat.le_refl _) (by omega)
      rw [if_neg (by omega)]
      exact chnLen_eq r (j + 1) k (by omega) (by omega) (fun i h h' => h3 i (by omega) h') (by omega)
def chn (n : Nat) (f : Nat → Int) (S : Stk) : List Int := sqs n f S (chnLen n f S S.N.toNat 0)
theorem chn_eq {n : Nat} {f : Nat → Int} {S : Stk} {k : Nat} (h2 : k ≤ S.N.toNat) (h3 : ∀ i, i < k → 0 ≤ sq n f S i) (h4 : sq n f S k < 0 ∨ k = S.N.toNat) : chn n f S = sqs n f S k := by
  unfold chn
  rw [chnLen_eq S.N.toNat 0 k (Nat.zero_le _) (by omega) (fun i _ h => h3 i h) (by omega)]
theorem atV_pos {n : Nat} {f : Nat → Int} {N x : Int} (h : 0 ≤ atV n f N x) : atV n f N x < N := by
  unfold atV at *
  split at h
  · rename_i hx
    rw [if_pos hx]
    unfold idx at *
    split at h
    · rename_i hn
      rw [if_pos hn]; exact hn
    · omega
  · omega
theorem sq_pos {n : Nat} {f : Nat → Int} {S : Stk} {k : Nat} (h : 0 ≤ sq n f S k) : sq n f S k < S.N := by
  cases k with
  | zero => exact atV_pos h
  | succ k => exact atV_pos h

def RetI (w : World) (l : List Int) (ed : Ending) (w' : World) : Prop := ∃ a c, ed = .returned (.slice a l.length c) ∧ Kept w w' ∧ w'.ownsRow w.heap.size 3 1 (.slice a l.length c) l.length (ints l)
end Go.Proofs.Ytmbdgaflmiacnaa.Sk

namespace Go.Proofs.Ytmbdgaflmiacnaa.Sk
set_option maxRecDepth 20000
open Go.RowKit
open Wo (St acc wordAt)

def top (S : Stk) (f : Nat → Int) : Int := f S.T.toNat
def lk (S : Stk) (f : Nat → Int) (i : Int) : Int := f (S.K + i).toNat
def upd (f : Nat → Int) (a : Int) (v : Int) : Nat → Int := fun i => if i = a.toNat then v else f i
theorem acc_same (n : Nat) (s : St) (k a v : Int) : (acc n s k a false v).ws = s.ws := by
  unfold Wo.acc
  split <;> rfl
theorem acc_upd (n : Nat) (s : St) (k a v : Int) (h0 : 0 ≤ a) (h1 : a < n) : (acc n s k a true v).ws = upd s.ws a v := by
  unfold Wo.acc
  rw [if_pos ⟨h0, h1⟩]
  rfl
theorem word_in {n : Nat} {s : St} {a : Int} (h0 : 0 ≤ a) (h1 : a < n) : wordAt n s a = s.ws a.toNat := by unfold wordAt; rw [if_pos ⟨h0, h1⟩]
theorem top_upd (S : Stk) (f : Nat → Int) (v : Int) : top S (upd f S.T v) = v := by simp [top, upd]
theorem lk_upd_top {S : Stk} {n : Nat} (hS : S.Ok n) (f : Nat → Int) (v : Int) {i : Int} (h0 : 0 ≤ i) (h1 : i < S.N) : lk S (upd f S.T v) i = lk S f i := by
  unfold lk upd
  have := hS.T1; have := hS.K1; have := hS.ap
  rw [if_neg (by omega)]
theorem top_upd_link {S : Stk} {n : Nat} (hS : S.Ok n) (f : Nat → Int) (v : Int) {i : Int} (h0 : 0 ≤ i) (h1 : i < S.N) : top S (upd f (S.K + i) v) = top S f := by
  unfold top upd
  have := hS.T1; have := hS.K1; have := hS.ap
  rw [if_neg (by omega)]
theorem lk_upd_link {S : Stk} {n : Nat} (hS : S.Ok n) (f : Nat → Int) (v : Int) {i j : Int} (h0 : 0 ≤ i) (h2 : 0 ≤ j) (h : j ≠ i) : lk S (upd f (S.K + i) v) j = lk S f j := by
  unfold lk upd
  have := hS.K1
  rw [if_neg (by omega)]
theorem lk_upd_self {S : Stk} (f : Nat → Int) (v i : Int) : lk S (upd f (S.K + i) v) i = v := by simp [lk, upd]

def Run (S : Stk) (f : Nat → Int) : Int → List Int → Prop
  | i, [] => i = -1
  | i, j :: l => i = j ∧ 0 ≤ j ∧ j < S.N ∧ Run S f (idx S.N (lk S f j)) l
theorem Run.mem {S : Stk} {f : Nat → Int} : ∀ {l : List Int} {i : Int}, Run S f i l → ∀ j ∈ l, 0 ≤ j ∧ j < S.N
  | [], _, _, _, hj => by simp at hj
  | a :: l, _, ⟨_, h0, h1, h2⟩, j, hj => by
    rcases List.mem_cons.1 hj with rfl | hj
    · exact ⟨h0, h1⟩
    · exact Run.mem h2 j hj
theorem Run.same {S : Stk} {f g : Nat → Int} : ∀ {l : List Int} {i : Int}, Run S f i l → (∀ j ∈ l, lk S g j = lk S f j) → Run S g i l
  | [], _, h, _ => h
  | a :: l, _, ⟨h, h0, h1, h2⟩, hj => ⟨h, h0, h1, by rw [hj a List.mem_cons_self]; exact h2.same (fun j hm => hj j (List.mem_cons_of_mem _ hm))⟩
theorem Run.neg {S : Stk} {f : Nat → Int} {l : List Int} {i : Int} (h : Run S f i l) (hi : i < 0) : l = [] := by
  cases l with
  | nil => rfl
  | cons a l => obtain ⟨h, h0, _⟩ := h; omega
theorem Run.pos {S : Stk} {f : Nat → Int} {l : List Int} {i : Int} (h : Run S f i l) (hi : 0 ≤ i) : ∃ l', l = i :: l' ∧ i < S.N ∧ Run S f (idx S.N (lk S f i)) l' := by
  cases l with
  | nil => have : i = -1 := h; omega
  | cons a l => obtain ⟨rfl, h0, h1, h2⟩ := h; exact ⟨l, rfl, h1, h2⟩
theorem Run.sq {n : Nat} {S : Stk} {f : Nat → Int} (hS : S.Ok n) {ch : List Int} (h : Run S f (idx S.N (top S f)) ch) : ∀ k, k ≤ ch.length → sq n f S k = ((ch[k]?).getD (-1)) ∧ (k < ch.length → Run S f (sq n f S k) (ch.drop k)) ∧ (k = ch.length → sq n f S k = -1)
  | 0, _ => by
    have e : Sk.sq n f S 0 = idx S.N (top S f) := by
      show atV n f S.N S.T = _
      unfold atV
      rw [if_pos ⟨hS.T1, hS.T2⟩]
      rfl
    rw [e]
    cases ch with
    | nil => exact ⟨h, fun h => absurd h (Nat.not_lt_zero _), fun _ => h⟩
    | cons a l => exact ⟨h.1, fun _ => h, fun h => by simp at h⟩
  | k + 1, hk => by
    obtain ⟨e1, e2, _⟩ := h.sq hS k (by omega)
    have r := e2 (by omega)
    have hd : ch.drop k = ch[k] :: ch.drop (k + 1) := List.drop_eq_getElem_cons (by omega)
    rw [hd] at r
    obtain ⟨g1, g2, g3, g4⟩ := r
    have e : Sk.sq n f S (k + 1) = idx S.N (lk S f ch[k]) := by
      show atV n f S.N (wrap64 (S.K + Sk.sq n f S k)) = _
      rw [g1]
      have hw : wrap64 (S.K + ch[k]) = S.K + ch[k] := by
        have := hS.K1; have := hS.K2; have := hS.n2
        unfold wrap64; omega
      rw [hw]
      unfold atV
      rw [if_pos ⟨by have := hS.K1; omega, by have := hS.K2; omega⟩]
      rfl
    rw [e]
    rcases Nat.lt_or_ge (k + 1) ch.length with h1 | h1
    · have hd2 : ch.drop (k + 1) = ch[k + 1] :: ch.drop (k + 1 + 1) := List.drop_eq_getElem_cons h1
      have g5 := g4
      rw [hd2] at g5
      refine ⟨?_, fun _ => g4, fun h => by omega⟩
      rw [List.getElem?_eq_getElem h1]
      exact g5.1
    · have hn : ch.drop (k + 1) = [] := List.drop_eq_nil_of_le h1
      rw [hn] at g4
      refine ⟨?_, fun h => by omega, fun _ => g4⟩
      rw [List.getElem?_eq_none h1]
      exact g4
theorem Run.chn {n : Nat} {S : Stk} {f : Nat → Int} (hS : S.Ok n) {ch : List Int} (h : Run S f (idx S.N (top S f)) ch) (hl : ch.length ≤ S.N.toNat) : chn n f S = ch := by
  rw [chn_eq (k := ch.length) hl (fun i hi => by
    have := (h.sq hS i (by omega)).1
    rw [List.getElem?_eq_getElem hi] at this
    have hm := h.mem ch[i] (List.getElem_mem hi)
    rw [this]; exact hm.1) (.inl (by have := (h.sq hS ch.length (Nat.le_refl _)).2.2 rfl; omega))]
  apply List.ext_getElem?
  intro i
  unfold sqs
  rcases Nat.lt_or_ge i ch.length with hi | hi
  · have := (h.sq hS i (by omega)).1
    rw [List.getElem?_eq_getElem hi] at this ⊢
    simp [hi, this]
  · simp [hi]

inductive Kd where
  | idle : Kd
  | pop (x : Op) : Kd
  | push (x : Op) : Kd
  | all (x : Op) : Kd
structure Cr where
  k : Kd
  has : List Int
  lays : Int
def Cr.pend (c : Cr) : List Int := match c.k with
  | .push _ => [c.lays]
  | _ => []
def Cr.hold (c : Cr) : List Int := c.has ++ c.pend
def Seen (S : Stk) (f : Nat → Int) (t W : Int) : Prop := W / 65536 ≤ t ∧ (W / 65536 = t → W = top S f)
def Cr.Ok (S : Stk) (f : Nat → Int) (t : Int) (c : Cr) : Prop := match c.k with
  | .idle => True
  | .pop x => x.Good ∧ lines x ∧ x.line ≠ 9 ∧ took S x ∧ (x.line ≠ 1 → Seen S f t x.W) ∧ (x.line = 3 → x.W = top S f → x.L = lk S f (idx S.N x.W))
  | .push x => x.Good ∧ lines x ∧ x.line ≠ 9 ∧ 0 ≤ c.lays ∧ c.lays < S.N ∧ (x.line ≠ 1 → Seen S f t x.W) ∧ (x.line = 3 → lk S f c.lays = idx S.N x.W + 1)
  | .all x => x.Good ∧ lines x ∧ x.line ≠ 9 ∧ x.line ≠ 3 ∧ took S x ∧ (x.line ≠ 1 → Seen S f t x.W)

def full (S : Stk) : List Int := (List.range S.N.toNat).map Int.ofNat
structure Inv (n : Nat) (S : Stk) (s : St) (t : Int) (ch : List Int) (cs : List Cr) : Prop where
  run : Run S s.ws (idx S.N (top S s.ws)) ch
  perm : (ch ++ cs.flatMap Cr.hold).Perm (full S)
  tag : top S s.ws / 65536 = t
  wd : Wd n s
  core : ∀ c ∈ cs, c.Ok S s.ws t

theorem full_nodup (S : Stk) : (full S).Nodup := by
  unfold full List.Nodup
  rw [List.pairwise_map]
  exact List.nodup_range.imp (fun h e => h (Int.ofNat.inj e))
theorem full_mem {S : Stk} {i : Int} (h : i ∈ full S) : 0 ≤ i ∧ i < S.N := by
  simp only [full, List.mem_map, List.mem_range] at h
  obtain ⟨a, h, rfl⟩ := h
  simp only [Int.ofNat_eq_natCast]
  omega
theorem full_length (S : Stk) : (full S).length = S.N.toNat := by simp [full]
theorem Inv.len {n : Nat} {S : Stk} {s : St} {t : Int} {ch : List Int} {cs : List Cr} (h : Inv n S s t ch cs) : ch.length ≤ S.N.toNat := by
  have := h.perm.length_eq
  rw [full_length, List.length_append] at this
  omega
theorem Inv.chain {n : Nat} {S : Stk} {s : St} {t : Int} {ch : List Int} {cs : List Cr} (h : Inv n S s t ch cs) (hS : S.Ok n) : Sk.chn n s.ws S = ch := h.run.chn hS h.len

theorem hold_perm (ch : List Int) (A B : List Cr) (c : Cr) : (ch ++ (A ++ c :: B).flatMap Cr.hold).Perm (ch ++ c.hold ++ (A ++ B).flatMap Cr.hold) := by
  simp only [List.flatMap_append, List.flatMap_cons, List.append_assoc]
  refine List.Perm.append_left _ ?_
  rw [← List.append_assoc, ← List.append_assoc]
  exact List.Perm.append_right _ List.perm_append_comm
theorem swap_core {S : Stk} {ch ch' : List Int} {A B : List Cr} {c c' : Cr} (h : (ch ++ (A ++ c :: B).flatMap Cr.hold).Perm (full S)) (hp : (ch' ++ c'.hold).Perm (ch ++ c.hold)) :
    (ch' ++ (A ++ c' :: B).flatMap Cr.hold).Perm (full S) :=
  (hold_perm ch' A B c').trans ((hp.append_right _).trans ((hold_perm ch A B c).symm.trans h))
theorem apart {S : Stk} {ch : List Int} {A B : List Cr} {c : Cr} (h : (ch ++ (A ++ c :: B).flatMap Cr.hold).Perm (full S)) {i : Int} (hi : i ∈ c.hold) :
    0 ≤ i ∧ i < S.N ∧ i ∉ ch ∧ ∀ d ∈ A ++ B, i ∉ d.hold := by
  have hp := (hold_perm ch A B c).symm.trans h
  have nd := hp.nodup_iff.2 (full_nodup S)
  have hm : i ∈ full S := hp.mem_iff.1 (List.mem_append_left _ (List.mem_append_right _ hi))
  have b := full_mem hm
  rw [List.nodup_append] at nd
  obtain ⟨nd1, _, nd2⟩ := nd
  rw [List.nodup_append] at nd1
  refine ⟨b.1, b.2, fun hc => nd1.2.2 i hc i hi rfl, fun d hd hdi => nd2 i (List.mem_append_right _ hi) i (List.mem_flatMap.2 ⟨d, hd, hdi⟩) rfl⟩

theorem Cr.Ok.store {n : Nat} {S : Stk} (hS : S.Ok n) {f : Nat → Int} {t v i : Int} {ch : List Int} {d : Cr} (h : d.Ok S f t) (hr : Run S f (idx S.N (top S f)) ch) (h0 : 0 ≤ i) (h1 : i < S.N) (hc : i ∉ ch) (hd : i ∉ d.hold) :
    d.Ok S (upd f (S.K + i) v) t := by
  obtain ⟨k, has, lays⟩ := d
  cases k with
  | idle => trivial
  | pop x =>
    obtain ⟨a, b, c, e, g, k⟩ := h
    refine ⟨a, b, c, e, fun hl => ?_, fun hl hw => ?_⟩
    · unfold Seen; rw [top_upd_link hS _ _ h0 h1]; exact g hl
    · rw [top_upd_link hS _ _ h0 h1] at hw
      have p0 := e (.inr hl)
      have hm : idx S.N x.W ∈ ch := by
        obtain ⟨l', e', _⟩ := hr.pos (by rw [← hw]; exact p0)
        rw [e', hw]; exact List.mem_cons_self
      rw [lk_upd_link hS _ _ h0 p0 (fun e => hc (e ▸ hm))]
      exact k hl hw
  | push x =>
    obtain ⟨a, b, c, e, e', g, k⟩ := h
    refine ⟨a, b, c, e, e', fun hl => ?_, fun hl => ?_⟩
    · unfold Seen; rw [top_upd_link hS _ _ h0 h1]; exact g hl
    · have hne : lays ≠ i := fun e => hd (by simp [Cr.hold, Cr.pend, e])
      show lk S _ lays = _
      rw [lk_upd_link hS _ _ h0 e hne]
      exact k hl
  | all x =>
    obtain ⟨a, b, c, e, e', g⟩ := h
    refine ⟨a, b, c, e, e', fun hl => ?_⟩
    unfold Seen; rw [top_upd_link hS _ _ h0 h1]; exact g hl
theorem Cr.Ok.cas {n : Nat} {S : Stk} (hS : S.Ok n) {f : Nat → Int} {t v : Int} {d : Cr} (h : d.Ok S f t) (hv : v / 65536 = t + 1) : d.Ok S (upd f S.T v) (t + 1) := by
  have seen : ∀ W, Seen S f t W → Seen S (upd f S.T v) (t + 1) W := fun W h => ⟨by have := h.1; omega, fun e => by have := h.1; omega⟩
  obtain ⟨k, has, lays⟩ := d
  cases k with
  | idle => trivial
  | pop x =>
    obtain ⟨a, b, c, e, g, k⟩ := h
    refine ⟨a, b, c, e, fun hl => seen _ (g hl), fun hl hw => ?_⟩
    rw [top_upd] at hw
    have := (g (by omega)).1
    rw [hw] at this
    omega
  | push x =>
    obtain ⟨a, b, c, e, e', g, k⟩ := h
    refine ⟨a, b, c, e, e', fun hl => seen _ (g hl), fun hl => ?_⟩
    show lk S _ lays = _
    rw [lk_upd_top hS _ _ e e']
    exact k hl
  | all x =>
    obtain ⟨a, b, c, e, e', g⟩ := h
    exact ⟨a, b, c, e, e', fun hl => seen _ (g hl)⟩
theorem mid {A B : List Cr} {c : Cr} {P : Cr → Prop} (h : ∀ d ∈ A ++ c :: B, P d) : P c ∧ ∀ d ∈ A ++ B, P d :=
  ⟨h c (by simp), fun d hd => h d (by rcases List.mem_append.1 hd with h | h <;> simp [h])⟩
theorem mid_mk {A B : List Cr} {c : Cr} {P : Cr → Prop} (h : P c) (k : ∀ d ∈ A ++ B, P d) : ∀ d ∈ A ++ c :: B, P d := fun d hd => by
  rcases List.mem_append.1 hd with hd | hd
  · exact k d (List.mem_append_left _ hd)
  · rcases List.mem_cons.1 hd with rfl | hd
    · exact h
    · exact k d (List.mem_append_right _ hd)
theorem Inv.look {n : Nat} {S : Stk} {s s' : St} {t : Int} {ch : List Int} {A B : List Cr} {c c' : Cr} (h : Inv n S s t ch (A ++ c :: B)) (he : s'.ws = s.ws) (hh : c'.hold.Perm c.hold) (hc : c'.Ok S s.ws t) : Inv n S s' t ch (A ++ c' :: B) :=
  ⟨by rw [he]; exact h.run, swap_core h.perm (hh.append_left ch), by rw [he]; exact h.tag, ⟨fun i => by rw [he]; exact h.wd.lo i, fun i => by rw [he]; exact h.wd.hi i⟩, by rw [he]; exact mid_mk hc (mid h.core).2⟩
theorem Inv.cas {n : Nat} {S : Stk} (hS : S.Ok n) {s s' : St} {t v : Int} {ch ch' : List Int} {A B : List Cr} {c c' : Cr} (h : Inv n S s t ch (A ++ c :: B)) (he : s'.ws = upd s.ws S.T v) (hv : v / 65536 = t + 1) (hwd : Wd n s')
    (hr : Run S s.ws (idx S.N v) ch') (hp : (ch' ++ c'.hold).Perm (ch ++ c.hold)) (hc : c'.k = .idle) : Inv n S s' (t + 1) ch' (A ++ c' :: B) := by
  refine ⟨?_, swap_core h.perm hp, by rw [he, top_upd]; exact hv, hwd, ?_⟩
  · rw [he, top_upd]
    exact hr.same (fun j hj => lk_upd_top hS _ _ (hr.mem j hj).1 (hr.mem j hj).2)
  · rw [he]
    refine mid_mk ?_ (fun d hd => ((mid h.core).2 d hd).cas hS hv)
    unfold Cr.Ok; rw [hc]; trivial
end Go.Proofs.Ytmbdgaflmiacnaa.Sk

namespace Go.Proofs.Ytmbdgaflmiacnaa.Sk
set_option maxRecDepth 20000
open Go.RowKit
open Wo (St acc wordAt PMem RefIs)
end Go.Proofs.Ytmbdgaflmiacnaa.Sk

namespace Go.Proofs.Ytmbdgaflmiacnaa.Sk
set_option maxRecDepth 20000
open Go.RowKit
open Wo (St acc wordAt PMem RefIs)
end Go.Proofs.Ytmbdgaflmiacnaa.Sk

namespace Go.Proofs.Ytmbdgaflmiacnaa.Sk
set_option maxRecDepth 20000
open Go.RowKit
open Wo (St acc wordAt PMem RefIs)
end Go.Proofs.Ytmbdgaflmiacnaa.Sk

namespace Go.Proofs.Ytmbdgaflmiacnaa.Sk
set_option maxRecDepth 20000
open Go.RowKit
open Wo (St acc wordAt PMem RefIs)

def RPopC (w : World) (Q : Nat) (S : Stk) (l W I J : Int) : Prop := w.cell? ⟨Q, 0, none⟩ = some (.int .i64 S.T) ∧ w.cell? ⟨Q, 1, none⟩ = some (.int .i64 S.K) ∧ w.cell? ⟨Q, 2, none⟩ = some (.int .i64 S.N) ∧ w.cell? ⟨Q, 3, none⟩ = some (.int .i64 l) ∧ w.cell? ⟨Q, 4, none⟩ = some (.int .u64 W) ∧ w.cell? ⟨Q, 5, none⟩ = some (.int .i64 I) ∧ w.cell? ⟨Q, 6, none⟩ = some (.int .i64 J)
def RPushC (w : World) (Q : Nat) (S : Stk) (l W i E : Int) : Prop := w.cell? ⟨Q, 0, none⟩ = some (.int .i64 S.T) ∧ w.cell? ⟨Q, 1, none⟩ = some (.int .i64 S.K) ∧ w.cell? ⟨Q, 2, none⟩ = some (.int .i64 S.N) ∧ w.cell? ⟨Q, 3, none⟩ = some (.int .i64 l) ∧ w.cell? ⟨Q, 4, none⟩ = some (.int .u64 W) ∧ w.cell? ⟨Q, 5, none⟩ = some (.int .i64 i) ∧ w.cell? ⟨Q, 6, none⟩ = some (.int .i64 E)
def RAllC (w : World) (Q : Nat) (S : Stk) (l W I : Int) : Prop := w.cell? ⟨Q, 0, none⟩ = some (.int .i64 S.T) ∧ w.cell? ⟨Q, 1, none⟩ = some (.int .i64 S.K) ∧ w.cell? ⟨Q, 2, none⟩ = some (.int .i64 S.N) ∧ w.cell? ⟨Q, 3, none⟩ = some (.int .i64 l) ∧ w.cell? ⟨Q, 4, none⟩ = some (.int .u64 W) ∧ w.cell? ⟨Q, 5, none⟩ = some (.int .i64 I)
structure RPopAt (w : World) (Q : Nat) (S : Stk) (x : Op) : Prop where
  c : ∃ I J, RPopC w Q S x.line x.W I J ∧ (x.line ≠ 1 → I = idx S.N x.W) ∧ (x.line = 3 → J = idx S.N x.L)
  f : ∀ i, w.frozen? ⟨Q, i, none⟩ = false
structure RPushAt (w : World) (Q : Nat) (S : Stk) (i e0 : Int) (x : Op) : Prop where
  c : RPushC w Q S x.line x.W i e0
  f : ∀ i, w.frozen? ⟨Q, i, none⟩ = false
structure RAllAt (w : World) (Q : Nat) (S : Stk) (x : Op) : Prop where
  c : ∃ I, RAllC w Q S x.line x.W I ∧ (x.line ≠ 1 → I = idx S.N x.W)
  f : ∀ i, w.frozen? ⟨Q, i, none⟩ = false

theorem RPopC.frame {w w' : World} {Q : Nat} {S : Stk} {l W I J : Int} (h : RPopC w Q S l W I J) {T : Nat → Prop} (hb : But T w w') (hQ : ¬ T Q) : RPopC w' Q S l W I J := by
  obtain ⟨h0, h1, h2, h3, h4, h5, h6⟩ := h
  exact ⟨hb.some h0 hQ, hb.some h1 hQ, hb.some h2 hQ, hb.some h3 hQ, hb.some h4 hQ, hb.some h5 hQ, hb.some h6 hQ⟩
theorem RPopC.lt {w : World} {Q : Nat} {S : Stk} {l W I J : Int} (h : RPopC w Q S l W I J) : Q < w.heap.size := lt_of_cell h.1
theorem RPushC.frame {w w' : World} {Q : Nat} {S : Stk} {l W I J : Int} (h : RPushC w Q S l W I J) {T : Nat → Prop} (hb : But T w w') (hQ : ¬ T Q) : RPushC w' Q S l W I J := by
  obtain ⟨h0, h1, h2, h3, h4, h5, h6⟩ := h
  exact ⟨hb.some h0 hQ, hb.some h1 hQ, hb.some h2 hQ, hb.some h3 hQ, hb.some h4 hQ, hb.some h5 hQ, hb.some h6 hQ⟩
theorem RPushC.lt {w : World} {Q : Nat} {S : Stk} {l W I J : Int} (h : RPushC w Q S l W I J) : Q < w.heap.size := lt_of_cell h.1
theorem RAllC.frame {w w' : World} {Q : Nat} {S : Stk} {l W I : Int} (h : RAllC w Q S l W I) {T : Nat → Prop} (hb : But T w w') (hQ : ¬ T Q) : RAllC w' Q S l W I := by
  obtain ⟨h0, h1, h2, h3, h4, h5⟩ := h
  exact ⟨hb.some h0 hQ, hb.some h1 hQ, hb.some h2 hQ, hb.some h3 hQ, hb.some h4 hQ, hb.some h5 hQ⟩
theorem RAllC.lt {w : World} {Q : Nat} {S : Stk} {l W I : Int} (h : RAllC w Q S l W I) : Q < w.heap.size := lt_of_cell h.1
theorem RPopAt.lt {w : World} {Q : Nat} {S : Stk} {x : Op} (h : RPopAt w Q S x) : Q < w.heap.size := by
  obtain ⟨_, _, h, _⟩ := h.c
  exact h.lt
theorem RPushAt.lt {w : World} {Q : Nat} {S : Stk} {i e0 : Int} {x : Op} (h : RPushAt w Q S i e0 x) : Q < w.heap.size := h.c.lt
theorem RAllAt.lt {w : World} {Q : Nat} {S : Stk} {x : Op} (h : RAllAt w Q S x) : Q < w.heap.size := by
  obtain ⟨_, h, _⟩ := h.c
  exact h.lt
theorem RPopAt.frame {w w' : World} {Q : Nat} {S : Stk} {x : Op} (h : RPopAt w Q S x) {T : Nat → Prop} (hb : But T w w') (hQ : ¬ T Q) : RPopAt w' Q S x := by
  have hl := h.lt
  obtain ⟨⟨I, J, c, a, b⟩, f⟩ := h
  exact ⟨⟨I, J, c.frame hb hQ, a, b⟩, fun i => hb.soft hl (f i)⟩
theorem RPushAt.frame {w w' : World} {Q : Nat} {S : Stk} {i e0 : Int} {x : Op} (h : RPushAt w Q S i e0 x) {T : Nat → Prop} (hb : But T w w') (hQ : ¬ T Q) : RPushAt w' Q S i e0 x :=
  ⟨h.c.frame hb hQ, fun i => hb.soft h.lt (h.f i)⟩
theorem RAllAt.frame {w w' : World} {Q : Nat} {S : Stk} {x : Op} (h : RAllAt w Q S x) {T : Nat → Prop} (hb : But T w w') (hQ : ¬ T Q) : RAllAt w' Q S x := by
  have hl := h.lt
  obtain ⟨⟨I, c, a⟩, f⟩ := h
  exact ⟨⟨I, c.frame hb hQ, a⟩, fun i => hb.soft hl (f i)⟩

def RStepped (At : World → Prop) (M B n : Nat) (s' : St) (Q : Nat) (b : Bool) (w : World) (e : Ending) (w' : World) : Prop :=
  e = .returned (.bool b) ∧ At w' ∧ RefIs w' M B n s' ∧ But (fun k => k = Q ∨ k = M ∨ k = B) w w'

def rOver (w : World) (Q : Nat) (S : Stk) : Prop := ∃ i, RPushAt w Q S i 3 Op.over
end Go.Proofs.Ytmbdgaflmiacnaa.Sk
