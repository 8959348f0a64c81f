/- Calls in memory: their cells, lists of them; whole loads and stores of things of any type. -/
import Derived.Test.YtbfmmndpboagdaaGreatDoorProg
import Derived.Test.YtbfmmndpboagdaaGreatDoorGA
import Derived.Test.YtbfmmndpboagdaaGreatDoorGL0
import Derived.Deep.Slices
import Derived.Deep.MidRow
import Derived.WalkKit
import Derived.ProofKit
import Derived.Lib.Hide
import Derived.Laws.Tables
import Derived.Laws.IdiomCopy
import Derived.Laws.NewBlocks
import Derived.WalkLawsBesides
import Derived.Deep.QuietTactic
import Derived.BigQuiet
import Derived.Deep.RegionHeld3
import Derived.Deep.Light
import Derived.LoopN
import Derived.Laws.BitsAllLaws
import Derived.Test.YtbfmmndpboagdaaGreatDoorGF1
import Derived.Test.YtbfmmndpboagdaaGreatDoorGH1
namespace Go.Proofs.YtbfmmndpboagdaaGreatDoor
open Go.ChangeShapes Go.WideShapes Go.Deep Go.RowKit

theorem Kept.put {S : Nat → Prop} {w w1 w2 : World} (k : Kept w w1) (b : But S w1 w2) (h : ∀ j, S j → w.heap.size ≤ j) : Kept w w2 :=
  ((k.but S).trans b (fun _ _ h => h)).kept (fun j hj hS => by have := h j hS; omega)
theorem Kept.put1 {w w1 w2 : World} {n : Nat} (k : Kept w w1) (b : But (fun j => j = n) w1 w2) (h : w.heap.size ≤ n) : Kept w w2 := k.put b (fun j e => by subst e; exact h)
theorem own_kept {w w' : World} {base : Nat} {e : TypeId} {size : Nat} {v : Value} {n : Nat} {xs : List Value} (h : w.ownsRow base e size v n xs) (k : Kept w w') : w'.ownsRow base e size v n xs :=
  own_same h fun g hg => k.below.block g (h.lt g hg).2
theorem own_but {S : Nat → Prop} {w w' : World} {base : Nat} {e : TypeId} {size : Nat} {v : Value} {n : Nat} {xs : List Value} (h : w.ownsRow base e size v n xs) (k : But S w w') (hS : ∀ g, v.ownBlock = some g → ¬ S g) : w'.ownsRow base e size v n xs :=
  own_same h fun g hg => k.block g (h.lt g hg).2 (hS g hg)
theorem range_kept {w w' : World} {b o : Nat} {cs : List Value} (h : w.rangeAt b o cs) (k : Kept w w') : w'.rangeAt b o cs := fun j v hv => k.some (h j v hv)
theorem range_new (w : World) (R : Array Value) (t : TypeId) (n : Nat) (hn : n = w.heap.size) : (w.alloc (.cells R t)).rangeAt n 0 R.toList := fun j v hv => by
  subst hn
  rw [Nat.zero_add, cell_new _ _ _ _ _ rfl]
  simpa using hv
theorem soft_new (w : World) (R : Array Value) (t : TypeId) (n i : Nat) (hn : n = w.heap.size) : (w.alloc (.cells R t)).frozen? ⟨n, i, none⟩ = false := by subst hn; simp

theorem load_any {w : World} {b o : Nat} {T : TypeId} {d : TypeDesc} {cs : List Value} (hu : Tryz.prog.underlying T = some d) (hd : d.isRow = true) (hi : (Tryz.prog.info? T).map (·.size) = some cs.length) (hc : w.rangeAt b o cs) :
    (Instr.loadAt T (.pointer (some ⟨b, o, none⟩))).run Tryz.prog w = .ok (.agg cs.toArray) w := run_loadAt_mid (P := Tryz.prog) w b o T cs d hc hu hd hi
theorem loadVar_any {w : World} {b o : Nat} {T : TypeId} {d : TypeDesc} {cs : List Value} (hu : Tryz.prog.underlying T = some d) (hd : d.isRow = true) (hi : (Tryz.prog.info? T).map (·.size) = some cs.length) (hc : w.rangeAt b o cs) :
    (loadVar T ⟨b, o, none⟩).run Tryz.prog w = .ok (.agg cs.toArray) w := run_loadVar_mid (P := Tryz.prog) w b o T cs d hc hu hd hi
theorem setCells_new (w : World) (t : TypeId) : ∀ (vs pre post : List Value), post.length = vs.length →
    (w.alloc (.cells (pre ++ post).toArray t)).setCells w.heap.size pre.length vs = w.alloc (.cells (pre ++ vs).toArray t)
  | [], pre, post, h => by
    have : post = [] := List.eq_nil_of_length_eq_zero (by simpa using h)
    subst this
    rfl
  | v :: vs, pre, post, h => by
    cases post with
    | nil => simp at h
    | cons x post =>
      rw [World.setCells, World.setCell_alloc_at _ _ _ _ _ rfl]
      have e1 : (pre ++ x :: post).toArray.setIfInBounds pre.length v = ((pre ++ [v]) ++ post).toArray := by simp
      have e2 : pre.length + 1 = (pre ++ [v]).length := by simp
      rw [e1, e2, setCells_new w t vs (pre ++ [v]) post (by simpa using h)]
      simp
theorem storeNew_any {w : World} {b : Nat} {T : TypeId} {Z : Array Value} {R : Array Value} (hs : R.size = Z.size) (hi : (Tryz.prog.info? T).map (·.size) = some R.size) (h1 : ∀ v ∈ R.toList, v.oneCell' = true) (hb : b = w.heap.size) (t : TypeId) :
    (Instr.storeAt T (.pointer (some ⟨b, 0, none⟩)) (.agg R)).run Tryz.prog (w.alloc (.cells Z t)) = .ok () (w.alloc (.cells R t)) := by
  subst hb
  have := run_storeAt_mid (P := Tryz.prog) (w.alloc (.cells Z t)) w.heap.size 0 T R (fun j hj => by
    rw [Nat.zero_add, cell_new _ _ _ _ _ rfl]
    exact ⟨by rw [Array.getElem?_eq_getElem (by omega)]; rfl, soft_new _ _ _ _ _ rfl⟩) hi (Array.all_eq_true_iff_forall_mem.2 (fun v hv => h1 v (by simpa using hv)))
  rw [this]
  have e := setCells_new w t R.toList [] Z.toList (by simp [hs])
  simp at e
  rw [e]
theorem size_setCells {b : Nat} : ∀ (vs : List Value) (o : Nat) (w : World), (w.setCells b o vs).heap.size = w.heap.size
  | [], _, _ => rfl
  | v :: r, o, w => (size_setCells r (o + 1) _).trans (by simp)
theorem but_setCells {b : Nat} {a : World} : ∀ (vs : List Value) (o : Nat) (w : World), But (fun k => k = b) a w → But (fun k => k = b) a (w.setCells b o vs)
  | [], _, _, h => h
  | v :: r, o, _, h => but_setCells r (o + 1) _ (h.here o v)
theorem storeMid_any {w : World} {b o : Nat} {T : TypeId} {R : Array Value} (ht : w.there b o R.size) (hi : (Tryz.prog.info? T).map (·.size) = some R.size) (h1 : ∀ v ∈ R.toList, v.oneCell' = true) :
    (Instr.storeAt T (.pointer (some ⟨b, o, none⟩)) (.agg R)).run Tryz.prog w = .ok () (w.setCells b o R.toList) :=
  run_storeAt_mid (P := Tryz.prog) w b o T R ht hi (Array.all_eq_true_iff_forall_mem.2 (fun v hv => h1 v (by simpa using hv)))

def spc (s : Sp) : List Value := [.int .i64 s.id, .int .i64 s.from_, .int .i64 s.to, .int .i64 s.k, .int .i64 s.x, .int .i64 s.y, .int .u64 s.u, .int .i64 s.er, .int .i64 s.n, .int .u64 s.v]
def flatS (l : List Sp) : List Value := l.flatMap spc
theorem spc_length (s : Sp) : (spc s).length = 10 := rfl
theorem flatS_length (l : List Sp) : (flatS l).length = l.length * 10 := wide_length spc_length l
theorem flatS_get (l : List Sp) (i j : Nat) (e : Sp) (h : l[i]? = some e) (hj : j < 10) : (flatS l)[i * 10 + j]? = (spc e)[j]? := wide_get spc_length l i j e h hj
theorem flatS_one (l : List Sp) : ∀ u ∈ flatS l, u.oneCell' = true := wide_one (fun a u h => by simp [spc] at h; rcases h with h | h | h | h | h | h | h | h | h | h <;> subst h <;> rfl) l
structure SpAt (w : World) (g o : Nat) (e : Sp) : Prop where
  c0 : w.cell? ⟨g, o, none⟩ = some (.int .i64 e.id)
  c1 : w.cell? ⟨g, o + 1, none⟩ = some (.int .i64 e.from_)
  c2 : w.cell? ⟨g, o + 2, none⟩ = some (.int .i64 e.to)
  c3 : w.cell? ⟨g, o + 3, none⟩ = some (.int .i64 e.k)
  c4 : w.cell? ⟨g, o + 4, none⟩ = some (.int .i64 e.x)
  c5 : w.cell? ⟨g, o + 5, none⟩ = some (.int .i64 e.y)
  c6 : w.cell? ⟨g, o + 6, none⟩ = some (.int .u64 e.u)
  c7 : w.cell? ⟨g, o + 7, none⟩ = some (.int .i64 e.er)
  c8 : w.cell? ⟨g, o + 8, none⟩ = some (.int .i64 e.n)
  c9 : w.cell? ⟨g, o + 9, none⟩ = some (.int .u64 e.v)
structure SpBox (w : World) (g : Nat) (e : Sp) : Prop where
  c0 : w.cell? ⟨g, 0, none⟩ = some (.int .i64 e.id)
  c1 : w.cell? ⟨g, 1, none⟩ = some (.int .i64 e.from_)
  c2 : w.cell? ⟨g, 2, none⟩ = some (.int .i64 e.to)
  c3 : w.cell? ⟨g, 3, none⟩ = some (.int .i64 e.k)
  c4 : w.cell? ⟨g, 4, none⟩ = some (.int .i64 e.x)
  c5 : w.cell? ⟨g, 5, none⟩ = some (.int .i64 e.y)
  c6 : w.cell? ⟨g, 6, none⟩ = some (.int .u64 e.u)
  c7 : w.cell? ⟨g, 7, none⟩ = some (.int .i64 e.er)
  c8 : w.cell? ⟨g, 8, none⟩ = some (.int .i64 e.n)
  c9 : w.cell? ⟨g, 9, none⟩ = some (.int .u64 e.v)
theorem SpAt.kept {w w' : World} {g o : Nat} {e : Sp} (h : SpAt w g o e) (k : Kept w w') : SpAt w' g o e :=
  ⟨k.some h.c0, k.some h.c1, k.some h.c2, k.some h.c3, k.some h.c4, k.some h.c5, k.some h.c6, k.some h.c7, k.some h.c8, k.some h.c9⟩
theorem SpAt.but {S : Nat → Prop} {w w' : World} {g o : Nat} {e : Sp} (h : SpAt w g o e) (k : But S w w') (hS : ¬ S g) : SpAt w' g o e :=
  ⟨k.some h.c0 hS, k.some h.c1 hS, k.some h.c2 hS, k.some h.c3 hS, k.some h.c4 hS, k.some h.c5 hS, k.some h.c6 hS, k.some h.c7 hS, k.some h.c8 hS, k.some h.c9 hS⟩
theorem SpBox.kept {w w' : World} {g : Nat} {e : Sp} (h : SpBox w g e) (k : Kept w w') : SpBox w' g e :=
  ⟨k.some h.c0, k.some h.c1, k.some h.c2, k.some h.c3, k.some h.c4, k.some h.c5, k.some h.c6, k.some h.c7, k.some h.c8, k.some h.c9⟩
theorem SpBox.but {S : Nat → Prop} {w w' : World} {g : Nat} {e : Sp} (h : SpBox w g e) (k : But S w w') (hS : ¬ S g) : SpBox w' g e :=
  ⟨k.some h.c0 hS, k.some h.c1 hS, k.some h.c2 hS, k.some h.c3 hS, k.some h.c4 hS, k.some h.c5 hS, k.some h.c6 hS, k.some h.c7 hS, k.some h.c8 hS, k.some h.c9 hS⟩
theorem SpBox.at (w : World) (e : Sp) (t : TypeId) (n : Nat) (h : n = w.heap.size) : SpBox (w.alloc (.cells #[.int .i64 e.id, .int .i64 e.from_, .int .i64 e.to, .int .i64 e.k, .int .i64 e.x, .int .i64 e.y, .int .u64 e.u, .int .i64 e.er, .int .i64 e.n, .int .u64 e.v] t)) n e := by
  subst h
  exact ⟨cell_new _ _ _ _ 0 rfl, cell_new _ _ _ _ 1 rfl, cell_new _ _ _ _ 2 rfl, cell_new _ _ _ _ 3 rfl, cell_new _ _ _ _ 4 rfl, cell_new _ _ _ _ 5 rfl, cell_new _ _ _ _ 6 rfl, cell_new _ _ _ _ 7 rfl, cell_new _ _ _ _ 8 rfl, cell_new _ _ _ _ 9 rfl⟩
theorem Lay.sp {w : World} {v : Value} {l : List Sp} (h : Lay w v l.length (flatS l)) (hn : 0 < l.length) : ∃ g o c, v = .slice (some ⟨g, o, none⟩) l.length c ∧ l.length ≤ c ∧ c ≤ maxLen ∧ ∀ i e, l[i]? = some e → SpAt w g (o + i * 10) e := by
  obtain ⟨g, o, c, hv, h1, h2, hc⟩ := h.at hn
  refine ⟨g, o, c, hv, h1, h2, fun i e he => ?_⟩
  have H : ∀ j u, j < 10 → (spc e)[j]? = some u → w.cell? ⟨g, o + i * 10 + j, none⟩ = some u := fun j u hj hu => by
    rw [Nat.add_assoc]
    exact hc _ _ ((flatS_get l i j e he hj).trans hu)
  exact ⟨H 0 _ (by decide) rfl, H 1 _ (by decide) rfl, H 2 _ (by decide) rfl, H 3 _ (by decide) rfl, H 4 _ (by decide) rfl, H 5 _ (by decide) rfl, H 6 _ (by decide) rfl, H 7 _ (by decide) rfl, H 8 _ (by decide) rfl, H 9 _ (by decide) rfl⟩
theorem Lay.num {w : World} {v : Value} {l : List Int} (h : Lay w v l.length (ints l)) (hn : 0 < l.length) : ∃ g o c, v = .slice (some ⟨g, o, none⟩) l.length c ∧ l.length ≤ c ∧ c ≤ maxLen ∧ ∀ i d, l[i]? = some d → w.cell? ⟨g, o + i, none⟩ = some (.int .i64 d) := by
  obtain ⟨g, o, c, hv, h1, h2, hc⟩ := h.at hn
  exact ⟨g, o, c, hv, h1, h2, fun i d hd => hc _ _ (ints_get l i d hd)⟩
theorem Lay.wrd {w : World} {v : Value} {l : List Int} (h : Lay w v l.length (l.map (Value.int .u64))) (hn : 0 < l.length) : ∃ g o c, v = .slice (some ⟨g, o, none⟩) l.length c ∧ l.length ≤ c ∧ c ≤ maxLen ∧ ∀ i d, l[i]? = some d → w.cell? ⟨g, o + i, none⟩ = some (.int .u64 d) := by
  obtain ⟨g, o, c, hv, h1, h2, hc⟩ := h.at hn
  exact ⟨g, o, c, hv, h1, h2, fun i d hd => hc _ _ (by simp [hd])⟩

theorem infoSp : (Tryz.prog.info? 29).map (fun i => (i.zero, i.size, i.bytes)) = some (some (.agg #[.int .i64 0, .int .i64 0, .int .i64 0, .int .i64 0, .int .i64 0, .int .i64 0, .int .u64 0, .int .i64 0, .int .i64 0, .int .u64 0]), 10, 80) := by kernel_rfl
theorem infoI : (Tryz.prog.info? 3).map (fun i => (i.zero, i.size, i.bytes)) = some (some (.int .i64 0), 1, 8) := by kernel_rfl
theorem infoU : (Tryz.prog.info? 22).map (fun i => (i.zero, i.size, i.bytes)) = some (some (.int .u64 0), 1, 8) := by kernel_rfl
abbrev OwnI (w : World) (base : Nat) (v : Value) (l : List Int) : Prop := w.ownsRow base 3 1 v l.length (ints l)
def RetI (w : World) (l : List Int) (ed : Ending) (w' : World) : Prop := ∃ a c, ed = .returned (.slice a l.length c) ∧ Kept w w' ∧ OwnI w' w.heap.size (.slice a l.length c) l
theorem lay_new {w : World} {g : Nat} {xs : List Value} {n : Nat} {t : TypeId} {fr : Nat × Nat} (h : w.heap[g]? = some (.cells xs.toArray t fr)) (hn : n ≤ 100000) : Lay w (.slice (some ⟨g, 0, none⟩) n n) n xs :=
  .inl (.inr ⟨g, 0, n, rfl, Nat.le_refl _, by unfold maxLen; omega, fun j u hu => by
    have := World.news_of_block h j u (by simpa using hu)
    rwa [add_none] at this⟩)
end Go.Proofs.YtbfmmndpboagdaaGreatDoor

namespace Go.Proofs.YtbfmmndpboagdaaGreatDoor
open Go.RowKit

theorem pow16 (r : Nat) (h : r < 16) : 2 ^ r < 65536 := by
  have : 2 ^ r < 2 ^ 16 := Nat.pow_lt_pow_right (by decide) h
  omega
theorem wrap_pow16 (r : Nat) (h : r < 16) : IntKind.u16.wrap (2 ^ r) = ((2 ^ r : Nat) : Int) := by
  have h1 := pow16 r h
  have h2 : ((2 : Int) ^ r) = ((2 ^ r : Nat) : Int) := by simp
  rw [IntKind.wrap_u16, h2]
  generalize 2 ^ r = z at h1
  omega
theorem or16 {D i : Nat} (hD : D < 65536) (hi : i < 16) : D ||| 2 ^ i < 65536 := Nat.or_lt_two_pow (n := 16) hD (pow16 i hi)
theorem eq_of_bool {a b : Bool} (h : a = true ↔ b = true) : a = b := by cases a <;> cases b <;> simp_all
theorem bit_shift (D i : Nat) (hD : D < 65536) : (bits .and .u16 ((D / 2 ^ i : Nat) : Int) 1 == 1) = D.testBit i := by
  have h1 : D / 2 ^ i < 65536 := Nat.lt_of_le_of_lt (Nat.div_le_self ..) hD
  have := u16_and_nat (D / 2 ^ i) 1 h1 (by decide)
  rw [show ((1 : Nat) : Int) = 1 from rfl] at this
  rw [this, Nat.and_one_is_mod, Nat.testBit_eq_decide_div_mod_eq]
  have h2 : D / 2 ^ i % 2 < 2 := Nat.mod_lt _ (by decide)
  cases h : decide (D / 2 ^ i % 2 = 1) with
  | true => have := of_decide_eq_true h; rw [this]; rfl
  | false => have := of_decide_eq_false h; have : D / 2 ^ i % 2 = 0 := by omega
             rw [this]; rfl
def subB (D A : Nat) : Bool := A &&& (65535 - D) == 0
theorem subB_iff {D A : Nat} (hD : D < 65536) (hA : A < 65536) : subB D A = true ↔ ∀ j, A.testBit j = true → D.testBit j = true := by
  have hbit : ∀ j, (65535 - D).testBit j = (decide (j < 16) && !D.testBit j) := fun j => by
    have := Nat.testBit_two_pow_sub_succ (n := 16) (x := D) hD j
    rw [← this]; congr 1; omega
  unfold subB
  rw [beq_iff_eq]
  constructor
  · intro h j hj
    have h2 : (A &&& (65535 - D)).testBit j = false := by rw [h]; simp
    rw [Nat.testBit_and, hj, hbit] at h2
    have : j < 16 := by
      by_cases e : j < 16
      · exact e
      · have := Nat.testBit_lt_two_pow (x := A) (i := j) (Nat.lt_of_lt_of_le hA (Nat.pow_le_pow_right (n := 2) (by decide) (show 16 ≤ j by omega)))
        rw [this] at hj; cases hj
    simpa [this] using h2
  · intro h
    refine Nat.eq_of_testBit_eq fun j => ?_
    rw [Nat.testBit_and, hbit]
    cases ha : A.testBit j with
    | false => simp
    | true => simp [h j ha]

set_option maxHeartbeats 1000000 in
theorem with_set (D i : Nat) (hD : D < 65536) (hi : i < 16) (w : World) : Calls Tryz.prog 50 #[.int .u16 D, .int .i64 i] w fun e w' => e = .returned (.int .u16 ((D ||| 2 ^ i : Nat) : Int)) ∧ w = w' := by
  have H := u16_or_nat D (2 ^ i) hD (pow16 i hi)
  have h0 : ¬ ((i : Int) < 0) := by omega
  go_enter Tryz.func50, Tryz.ntmps50
  go_wp2
  go_ret
  refine ⟨?_, rfl⟩
  rw [← H, ← wrap_pow16 i hi]
  rfl
set_option maxHeartbeats 1000000 in
theorem has_set (D i : Nat) (hD : D < 65536) (hi : i < 16) (w : World) : Calls Tryz.prog 132 #[.int .u16 D, .int .i64 i] w fun e w' => e = .returned (.bool (D.testBit i)) ∧ w = w' := by
  have H := bit_shift D i hD
  go_enter Tryz.func132, Tryz.ntmps132
  go_wp2
  go_ret
  refine ⟨?_, rfl⟩
  show Ending.returned (.bool (bits .and .u16 ((D : Int) / 2 ^ i) 1 == 1)) = _
  rw [show ((D : Int) / 2 ^ i) = ((D / 2 ^ i : Nat) : Int) by simp, H]
set_option maxHeartbeats 1000000 in
theorem holds_set (D A : Nat) (hD : D < 65536) (hA : A < 65536) (w : World) : Calls Tryz.prog 136 #[.int .u16 D, .int .u16 A] w fun e w' => e = .returned (.bool (subB D A)) ∧ w = w' := by
  have H := u16_andNot_nat A D hA hD
  go_enter Tryz.func136, Tryz.ntmps136
  go_wp2
  go_ret
  refine ⟨?_, rfl⟩
  show Ending.returned (.bool (((A &&& (65535 - D) : Nat) : Int) == 0)) = _
  unfold subB
  congr 2
  exact eq_of_bool (by simp)
theorem pend_any (s : Sp) (w : World) : Calls Tryz.prog 48 #[.agg #[.int .i64 s.id, .int .i64 s.from_, .int .i64 s.to, .int .i64 s.k, .int .i64 s.x, .int .i64 s.y, .int .u64 s.u, .int .i64 s.er, .int .i64 s.n, .int .u64 s.v]] w fun e w' => e = .returned (.bool (pend s)) ∧ Kept w w' := by
  unfold pend
  by_cases h : s.to < 0
  · go_enter Tryz.func48, Tryz.ntmps48
    go_wp2
    go_ret
    exact ⟨by simp [h], (Kept.refl w).alloc _ _⟩
  · go_enter Tryz.func48, Tryz.ntmps48
    go_wp2
    go_ret
    exact ⟨by simp [h], (Kept.refl w).alloc _ _⟩
theorem refused_any (e n v : Int) (w : World) : Calls Tryz.prog 81 #[.agg #[.int .i64 e, .int .i64 n, .int .u64 v]] w fun ed w' => ed = .returned (.bool (e != 0)) ∧ Kept w w' := by
  go_enter Tryz.func81, Tryz.ntmps81
  go_wp2
  go_ret
  exact ⟨rfl, (Kept.refl w).alloc _ _⟩
end Go.Proofs.YtbfmmndpboagdaaGreatDoor

namespace Go.Proofs.YtbfmmndpboagdaaGreatDoor
open Go.RowKit

def whereI (l : List Int) (x : Int) : Option Nat := if x ∈ l then some (l.idxOf x) else none
theorem num_one {w : World} {a : Option Addr} {n c : Nat} {s : List Int} (h : Lay w (.slice a n c) n (ints s)) (hn : n = s.length) (i : Nat) (x : Int) (hx : s[i]? = some x) :
    ∃ g o, a = some ⟨g, o, none⟩ ∧ w.cell? ⟨g, o + i, none⟩ = some (.int .i64 x) := by
  have := (List.getElem?_eq_some_iff.1 hx).1
  subst hn
  obtain ⟨g, o, c', e, _, _, hc⟩ := h.num (by omega)
  cases e
  exact ⟨g, o, rfl, hc i x hx⟩
theorem wrd_one {w : World} {a : Option Addr} {n c : Nat} {s : List Int} (h : Lay w (.slice a n c) n (s.map (Value.int .u64))) (hn : n = s.length) (i : Nat) (x : Int) (hx : s[i]? = some x) :
    ∃ g o, a = some ⟨g, o, none⟩ ∧ w.cell? ⟨g, o + i, none⟩ = some (.int .u64 x) := by
  have := (List.getElem?_eq_some_iff.1 hx).1
  subst hn
  obtain ⟨g, o, c', e, _, _, hc⟩ := h.wrd (by omega)
  cases e
  exact ⟨g, o, rfl, hc i x hx⟩
theorem sp_one {w : World} {a : Option Addr} {n c : Nat} {s : List Sp} (h : Lay w (.slice a n c) n (flatS s)) (hn : n = s.length) (i : Nat) (x : Sp) (hx : s[i]? = some x) :
    ∃ g o, a = some ⟨g, o, none⟩ ∧ SpAt w g (o + i * 10) x := by
  have := (List.getElem?_eq_some_iff.1 hx).1
  subst hn
  obtain ⟨g, o, c', e, _, _, hc⟩ := h.sp (by omega)
  cases e
  exact ⟨g, o, rfl, hc i x hx⟩
theorem idx_first {l : List Int} {x : Int} {k : Nat} (hx : l[k]? = some x) (hb : ∀ j y, j < k → l[j]? = some y → x ≠ y) : whereI l x = some k := by
  have hm : x ∈ l := List.mem_iff_getElem?.2 ⟨k, hx⟩
  unfold whereI
  rw [if_pos hm]
  congr 1
  have h1 : l.idxOf x < l.length := List.idxOf_lt_length_of_mem hm
  have h2 : l[l.idxOf x]? = some x := by rw [List.getElem?_eq_getElem h1]; simp
  rcases Nat.lt_trichotomy (l.idxOf x) k with h | h | h
  · exact absurd rfl (hb _ _ h h2)
  · exact h
  · exfalso
    have h3 : l.idxOf x ≤ k := by
      clear h h1 h2 hb hm
      induction l generalizing k with
      | nil => simp at hx
      | cons y l ih =>
        rw [List.idxOf_cons]
        cases k with
        | zero => simp at hx; subst hx; simp
        | succ k =>
          cases hyx : (y == x) with
          | true => simp
          | false => simpa using ih (k := k) (by simpa using hx)
    omega
theorem idx_none {l : List Int} {x : Int} (hb : ∀ (j : Nat) y, l[j]? = some y → x ≠ y) : whereI l x = none := by
  unfold whereI
  rw [if_neg]
  intro hm
  obtain ⟨j, hj⟩ := List.mem_iff_getElem?.1 hm
  exact hb j x hj rfl
theorem whereI_ge {l : List Int} {x : Int} : decide (((whereI l x).elim (-1 : Int) (fun (i : Nat) => (i : Int))) ≥ 0) = decide (x ∈ l) := by
  unfold whereI
  by_cases h : x ∈ l
  · simp [h]
  · simp [h]

set_option maxHeartbeats 4000000 in
theorem num_index {w : World} {a : Option Addr} {n c : Nat} {s : List Int} (h : Lay w (.slice a n c) n (ints s)) (hn : n = s.length) (x : Int) :
    Calls Tryz.prog 40 #[.slice a n c, .int .i64 x] w fun e w' => e = .returned (.int .i64 ((whereI s x).elim (-1 : Int) (fun (i : Nat) => (i : Int)))) ∧ w = w' := by
  obtain ⟨a', c', e, hnc, hcm⟩ := h.form
  cases e
  unfold maxLen at hcm
  have CE := Lib.hid (fun i y hy => num_one h hn i y hy)
  have HN := Lib.hid hn
  clear h hn
  go_enter Tryz.func40, Tryz.ntmps40
  go_wp2
  go_loopw [8] (fun i wr => ∃ k : Nat, k ≤ n ∧ i = .int .i64 k ∧ (∀ j y, j < k → s[j]? = some y → x ≠ y) ∧ w = wr) (fun i _ => n - (intOf i).toNat)
  case atStart => exact ⟨0, Nat.zero_le _, rfl, fun j y hj => by omega, rfl⟩
  case round =>
    obtain ⟨k, hkn, rfl, hlo, rfl⟩ := hrel
    have LO := Lib.hid hlo
    clear hlo
    by_cases hlt : k < n
    · obtain ⟨y, hy⟩ : ∃ y, s[k]? = some y := ⟨_, List.getElem?_eq_getElem (by rw [← HN.out]; omega)⟩
      obtain ⟨g, o, rfl, c0⟩ := CE.out k y hy
      have HY := Lib.hid hy
      clear hy
      by_cases hxy : x = y
      · have HK := Lib.hid (show whereI s x = some k from idx_first (by rw [hxy]; exact HY.out) LO.out)
        have hq : (x == y) = true := by simpa using hxy
        clear hxy
        go_wp2
        go_ret
        rw [HK.out]
        exact ⟨rfl, rfl⟩
      · have HXY := Lib.hid hxy
        have hq : (x == y) = false := by simpa using hxy
        clear hxy
        go_wp2
        go_roundw
        case rel => exact ⟨k + 1, by omega, by go_num, fun j z hj hz => by
          by_cases e : j = k
          · subst e; have h1 := HY.out; rw [hz] at h1; cases h1; exact HXY.out
          · exact LO.out j z (by omega) hz, trivial⟩
        case measure => simp [intOf]; omega
    · have HK := Lib.hid (show whereI s x = none from idx_none fun j y hy => LO.out j y (by have := (List.getElem?_eq_some_iff.1 hy).1; have := HN.out; omega) hy)
      go_wp2
      go_ret
      rw [HK.out]
      exact ⟨rfl, rfl⟩
theorem num_has {w : World} {a : Option Addr} {n c : Nat} {s : List Int} (h : Lay w (.slice a n c) n (ints s)) (hn : n = s.length) (x : Int) :
    Calls Tryz.prog 49 #[.slice a n c, .int .i64 x] w fun e w' => e = .returned (.bool (decide (x ∈ s))) ∧ w = w' := by
  have IX := Lib.hid (num_index h hn x)
  have HG := Lib.hid (whereI_ge (l := s) (x := x))
  obtain ⟨r, hr⟩ : ∃ r : Int, r = (whereI s x).elim (-1 : Int) (fun (i : Nat) => (i : Int)) := ⟨_, rfl⟩
  rw [← hr] at IX HG
  clear h hn hr
  go_enter Tryz.func49, Tryz.ntmps49
  go_wp2_with fail; refine IX.out.mono ?_; rintro e w1 ⟨rfl, rfl⟩
  go_wp2
  go_ret
  exact ⟨by rw [← HG.out]; rfl, rfl⟩

set_option maxHeartbeats 4000000 in
theorem wrd_index {w : World} {a : Option Addr} {n c : Nat} {s : List Int} (h : Lay w (.slice a n c) n (s.map (Value.int .u64))) (hn : n = s.length) (x : Int) :
    Calls Tryz.prog 83 #[.slice a n c, .int .u64 x] w fun e w' => e = .returned (.int .i64 ((whereI s x).elim (-1 : Int) (fun (i : Nat) => (i : Int)))) ∧ w = w' := by
  obtain ⟨a', c', e, hnc, hcm⟩ := h.form
  cases e
  unfold maxLen at hcm
  have CE := Lib.hid (fun i y hy => wrd_one h hn i y hy)
  have HN := Lib.hid hn
  clear h hn
  go_enter Tryz.func83, Tryz.ntmps83
  go_wp2
  go_loopw [8] (fun i wr => ∃ k : Nat, k ≤ n ∧ i = .int .i64 k ∧ (∀ j y, j < k → s[j]? = some y → x ≠ y) ∧ w = wr) (fun i _ => n - (intOf i).toNat)
  case atStart => exact ⟨0, Nat.zero_le _, rfl, fun j y hj => by omega, rfl⟩
  case round =>
    obtain ⟨k, hkn, rfl, hlo, rfl⟩ := hrel
    have LO := Lib.hid hlo
    clear hlo
    by_cases hlt : k < n
    · obtain ⟨y, hy⟩ : ∃ y, s[k]? = some y := ⟨_, List.getElem?_eq_getElem (by rw [← HN.out]; omega)⟩
      obtain ⟨g, o, rfl, c0⟩ := CE.out k y hy
      have HY := Lib.hid hy
      clear hy
      by_cases hxy : x = y
      · have HK := Lib.hid (show whereI s x = some k from idx_first (by rw [hxy]; exact HY.out) LO.out)
        have hq : (x == y) = true := by simpa using hxy
        clear hxy
        go_wp2
        go_ret
        rw [HK.out]
        exact ⟨rfl, rfl⟩
      · have HXY := Lib.hid hxy
        have hq : (x == y) = false := by simpa using hxy
        clear hxy
        go_wp2
        go_roundw
        case rel => exact ⟨k + 1, by omega, by go_num, fun j z hj hz => by
          by_cases e : j = k
          · subst e; have h1 := HY.out; rw [hz] at h1; cases h1; exact HXY.out
          · exact LO.out j z (by omega) hz, trivial⟩
        case measure => simp [intOf]; omega
    · have HK := Lib.hid (show whereI s x = none from idx_none fun j y hy => LO.out j y (by have := (List.getElem?_eq_some_iff.1 hy).1; have := HN.out; omega) hy)
      go_wp2
      go_ret
      rw [HK.out]
      exact ⟨rfl, rfl⟩
theorem wrd_has {w : World} {a : Option Addr} {n c : Nat} {s : List Int} (h : Lay w (.slice a n c) n (s.map (Value.int .u64))) (hn : n = s.length) (x : Int) :
    Calls Tryz.prog 56 #[.slice a n c, .int .u64 x] w fun e w' => e = .returned (.bool (decide (x ∈ s))) ∧ w = w' := by
  have IX := Lib.hid (wrd_index h hn x)
  have HG := Lib.hid (whereI_ge (l := s) (x := x))
  obtain ⟨r, hr⟩ : ∃ r : Int, r = (whereI s x).elim (-1 : Int) (fun (i : Nat) => (i : Int)) := ⟨_, rfl⟩
  rw [← hr] at IX HG
  clear h hn hr
  go_enter Tryz.func56, Tryz.ntmps56
  go_wp2_with fail; refine IX.out.mono ?_; rintro e w1 ⟨rfl, rfl⟩
  go_wp2
  go_ret
  exact ⟨by rw [← HG.out]; rfl, rfl⟩
end Go.Proofs.YtbfmmndpboagdaaGreatDoor

namespace Go.Proofs.YtbfmmndpboagdaaGreatDoor
open Go.RowKit

def idsM (l : List Sp) : List Int := l.map (·.id)
def nAll (l : List Sp) : Nat := l.countP fun s => decide (s.k = 7) && pend s
def twiceM (l : List Int) : Bool := (List.range l.length).any fun i => (l[i]?).any fun x => decide (x ∈ l.take i)
theorem twice_iff {l : List Int} : twiceM l = false ↔ l.Nodup := by
  unfold twiceM
  rw [List.any_eq_false]
  have E : l.Nodup ↔ ∀ (i j : Nat) (x : Int), i < j → l[i]? = some x → l[j]? = some x → False := by
    rw [List.Nodup, List.pairwise_iff_getElem]
    constructor
    · intro h i j x hij h1 h2
      obtain ⟨g1, e1⟩ := List.getElem?_eq_some_iff.1 h1
      obtain ⟨g2, e2⟩ := List.getElem?_eq_some_iff.1 h2
      exact h i j g1 g2 hij (e1.trans e2.symm)
    · intro h i j g1 g2 hij e
      exact h i j l[i] hij (List.getElem?_eq_getElem g1) (by rw [List.getElem?_eq_getElem g2, e])
  rw [E]
  constructor
  · intro h i j x hij h1 h2
    have hj := (List.getElem?_eq_some_iff.1 h2).1
    have := h j (List.mem_range.2 hj)
    rw [h2] at this
    simp at this
    refine this ?_
    rw [List.mem_iff_getElem?]
    exact ⟨i, by rw [List.getElem?_take_of_lt hij]; exact h1⟩
  · intro h i hi
    have hi' := List.mem_range.1 hi
    rw [List.getElem?_eq_getElem hi']
    simp
    intro hm
    obtain ⟨j, hj⟩ := List.mem_iff_getElem?.1 hm
    have hlt : j < i := by have := (List.getElem?_eq_some_iff.1 hj).1; simp at this; omega
    rw [List.getElem?_take_of_lt hlt] at hj
    exact h j i _ hlt hj (List.getElem?_eq_getElem hi')

theorem make_ints (n : Nat) (hn : n ≤ 1000000) : ∃ Z : Array Value, Z.size = n ∧
    ∀ w : World, (Instr.makeSlice 35 (.int .i64 (n : Int)) (.int .i64 (n : Int))).run Tryz.prog w = .ok (.slice (some ⟨w.heap.size, 0, none⟩) n n) (w.alloc (.cells Z 3)) := by
  obtain ⟨i0, hi, hz0, hz1, hz2⟩ := info_parts infoI
  refine ⟨madeCells #[.int .i64 0] n, size_madeCells _ _, fun w => ?_⟩
  have h := run_makeSlice (P := Tryz.prog) w 35 3 i0 (.int .i64 0) Tryz.underlying35 hi hz0 .i64 .i64 (n : Int) (n : Int) (by omega) (Int.le_refl _) (by rw [hz1]; omega) (by rw [hz2]; omega) (by omega)
  rw [h, hz1]
  simp [Value.cells]

theorem take_snoc' {α : Type} (l : List α) (k : Nat) (d : α) (h : l[k]? = some d) : l.take (k + 1) = l.take k ++ [d] := by rw [List.take_add_one, h]; rfl
def IdsRel (W : World) (l : List Sp) (n g : Nat) (i : Value) (wr : World) : Prop := ∃ k : Nat, k ≤ n ∧ i = .int .i64 k ∧ Fi.Filled wr g 3 n (ints (idsM (l.take k))) ∧ Kept W wr
set_option maxRecDepth 100000 in
set_option maxHeartbeats 4000000 in
theorem ids_any {w : World} {a : Option Addr} {n c : Nat} {l : List Sp} (h : Lay w (.slice a n c) n (flatS l)) (hn : n = l.length) (h10 : n ≤ 1000) : Calls Tryz.prog 32 #[.slice a n c] w (RetI w (idsM l)) := by
  obtain ⟨Z, hZ, hmake⟩ := make_ints n (by omega)
  have F0 := Fi.Filled.new w Z 3 n hZ
  have CE := Lib.hid (fun W (k : Kept w W) i y hy => sp_one (h.kept k) hn i y hy)
  have HN := Lib.hid hn
  have HZ := Lib.hid hZ
  have hF := Lib.hid F0
  clear h hn hZ F0
  go_enter Tryz.func32, Tryz.ntmps32
  go_wp2
  go_loopw [11] (IdsRel w l n w.heap.size) (fun i _ => n - (intOf i).toNat)
  case atStart => exact ⟨0, Nat.zero_le _, rfl, hF.out, (Kept.refl w).alloc _ _⟩
  case round =>
    obtain ⟨k, hkn, rfl, hfi, hk⟩ := hrel
    have FI := Lib.hid hfi
    have KE := Lib.hid hk
    clear hfi hk
    by_cases hlt : k < n
    · obtain ⟨y, hy⟩ : ∃ y, l[k]? = some y := ⟨_, List.getElem?_eq_getElem (by rw [← HN.out]; omega)⟩
      obtain ⟨g, o, rfl, c0, c1, c2, c3, c4, c5, c6, c7, c8, c9⟩ := CE.out _ KE.out k y hy
      obtain ⟨v, hv⟩ := FI.out.cell k hlt
      have sv := FI.out.soft k
      have lv := FI.out.lt
      have HY := Lib.hid hy
      have HL := Lib.hid (show (ints (idsM (l.take k))).length = k by simp [ints, idsM]; have := HN.out; omega)
      clear hy
      go_wp2
      go_roundw
      case rel =>
        refine ⟨k + 1, by omega, by go_num, ?_, by
          exact ((KE.out.setCell (p := ⟨w.heap.size, k, none⟩) (Nat.le_refl _) _).alloc _ _)⟩
        have e : ints (idsM (l.take (k + 1))) = ints (idsM (l.take k)) ++ [.int .i64 y.id] := by rw [take_snoc' l k y HY.out]; simp [idsM, ints]
        rw [e]
        exact (FI.out.set (.int .i64 y.id) k HL.out.symm (by rw [HL.out]; omega)).kept ((Kept.refl _).alloc _ _)
      case measure => simp [intOf]; omega
    · obtain rfl : k = n := by omega
      have FO := Lib.hid (FI.out.own (base := w.heap.size) (size := 1) (m := k) (by simp [ints, idsM]; have := HN.out; omega) (by omega) (Nat.le_refl _) (by unfold maxLen; omega))
      have HL := Lib.hid (show l.take k = l by rw [HN.out, List.take_length])
      have HI := Lib.hid (show (idsM l).length = k by simp [idsM, HN.out])
      go_wp2
      go_ret
      refine ⟨some ⟨w.heap.size, 0, none⟩, k, by rw [HI.out]; rfl, KE.out, ?_⟩
      have := FO.out
      rw [HL.out] at this
      unfold OwnI
      rw [HI.out]
      exact this

def CountRel (W : World) (l : List Sp) (n : Nat) (m i : Value) (wr : World) : Prop := ∃ k : Nat, k ≤ n ∧ i = .int .i64 k ∧ m = .int .i64 (nAll (l.take k) : Nat) ∧ Kept W wr
set_option maxRecDepth 100000 in
set_option maxHeartbeats 4000000 in
theorem allocs_any {w : World} {a : Option Addr} {n c : Nat} {l : List Sp} (h : Lay w (.slice a n c) n (flatS l)) (hn : n = l.length) (h10 : n ≤ 1000) : Calls Tryz.prog 30 #[.slice a n c] w fun e w' => e = .returned (.int .i64 (nAll l : Nat)) ∧ Kept w w' := by
  have CE := Lib.hid (fun W (k : Kept w W) i y hy => sp_one (h.kept k) hn i y hy)
  have HN := Lib.hid hn
  clear h hn
  go_enter Tryz.func30, Tryz.ntmps30
  go_wp2
  go_loopw [3, 8] (CountRel w l n) (fun _ i _ => n - (intOf i).toNat)
  case atStart => exact ⟨0, Nat.zero_le _, rfl, rfl, Kept.refl w⟩
  case round =>
    obtain ⟨k, hkn, rfl, rfl, hk⟩ := hrel
    have KE := Lib.hid hk
    clear hk
    by_cases hlt : k < n
    · obtain ⟨y, hy⟩ : ∃ y, l[k]? = some y := ⟨_, List.getElem?_eq_getElem (by rw [← HN.out]; omega)⟩
      obtain ⟨g, o, rfl, c0, c1, c2, c3, c4, c5, c6, c7, c8, c9⟩ := CE.out _ KE.out k y hy
      have HY := Lib.hid (take_snoc' l k y hy)
      obtain ⟨m, hm⟩ : ∃ m, nAll (l.take k) = m := ⟨_, rfl⟩
      have HM := Lib.hid hm
      have m1 : m ≤ 1000 := by rw [← hm]; unfold nAll; exact Nat.le_trans List.countP_le_length (by simp; omega)
      rw [hm]
      have PE := Lib.hid (fun W => pend_any y W)
      clear hy hm
      by_cases h7 : y.k = 7
      · cases hp : pend y with
        | true =>
          have HS := Lib.hid (show nAll (l.take (k + 1)) = m + 1 by rw [HY.out]; unfold nAll; rw [List.countP_append]; simp [h7, hp]; exact HM.out)
          rw [hp] at PE
          have h7' : (y.k == 7) = true := by simpa using h7
          clear hp h7
          go_wp2_with fail; refine (PE.out _).mono ?_; rintro e w1 ⟨rfl, k1⟩
          go_wp2
          go_roundw
          case rel => exact ⟨k + 1, by omega, by go_num, by rw [HS.out]; go_num, (KE.out.alloc _ _).trans k1⟩
          case measure => simp [intOf]; omega
        | false =>
          have HS := Lib.hid (show nAll (l.take (k + 1)) = m by rw [HY.out]; unfold nAll; rw [List.countP_append]; simp [hp]; exact HM.out)
          rw [hp] at PE
          have h7' : (y.k == 7) = true := by simpa using h7
          clear hp h7
          go_wp2_with fail; refine (PE.out _).mono ?_; rintro e w1 ⟨rfl, k1⟩
          go_wp2
          go_roundw
          case rel => exact ⟨k + 1, by omega, by go_num, by rw [HS.out], (KE.out.alloc _ _).trans k1⟩
          case measure => simp [intOf]; omega
      · have HS := Lib.hid (show nAll (l.take (k + 1)) = m by rw [HY.out]; unfold nAll; rw [List.countP_append]; simp [h7]; exact HM.out)
        have h7' : (y.k == 7) = false := by simpa using h7
        go_wp2
        go_roundw
        case rel => exact ⟨k + 1, by omega, by go_num, by rw [HS.out], (KE.out.alloc _ _)⟩
        case measure => simp [intOf]; omega
    · obtain rfl : k = n := by omega
      have HL := Lib.hid (show l.take k = l by rw [HN.out, List.take_length])
      go_wp2
      go_ret
      exact ⟨by rw [HL.out]; rfl, KE.out⟩

def TwRel (W : World) (l : List Int) (n : Nat) (i : Value) (wr : World) : Prop := ∃ k : Nat, k ≤ n ∧ i = .int .i64 k ∧ (∀ j x, j < k → l[j]? = some x → x ∉ l.take j) ∧ W = wr
theorem twice_any {w : World} {a : Option Addr} {n c : Nat} {l : List Int} (h : Lay w (.slice a n c) n (ints l)) (hn : n = l.length) : Calls Tryz.prog 31 #[.slice a n c] w fun e w' => e = .returned (.bool (twiceM l)) ∧ w = w' := by
  obtain ⟨a', c', e, hnc, hcm⟩ := h.form
  cases e
  unfold maxLen at hcm
  have CE := Lib.hid (fun i y hy => num_one h hn i y hy)
  have HH := Lib.hid (fun k (hk : k ≤ n) x => num_has (h.pre (m := k) (ys := ints (l.take k)) hk (fun e => by subst e; simp [ints]) (fun j u hu => by
    have hj := (List.getElem?_eq_some_iff.1 hu).1
    simp [ints] at hj
    rw [← hu]; simp [ints]; rw [List.getElem?_take_of_lt (by omega)]; simp)) (by simp; omega) x)
  have HN := Lib.hid hn
  clear h hn
  go_enter Tryz.func31, Tryz.ntmps31
  go_wp2
  go_loopw [7] (TwRel w l n) (fun i _ => n - (intOf i).toNat)
  case atStart => exact ⟨0, Nat.zero_le _, rfl, fun j x hj => by omega, rfl⟩
  case round =>
    obtain ⟨k, hkn, rfl, hlo, rfl⟩ := hrel
    have LO := Lib.hid hlo
    clear hlo
    by_cases hlt : k < n
    · obtain ⟨y, hy⟩ : ∃ y, l[k]? = some y := ⟨_, List.getElem?_eq_getElem (by rw [← HN.out]; omega)⟩
      obtain ⟨g, o, rfl, c0⟩ := CE.out k y hy
      have HY := Lib.hid hy
      have HK := Lib.hid (HH.out k hkn y)
      clear hy
      by_cases hm : y ∈ l.take k
      · have HT := Lib.hid (show twiceM l = true by
          unfold twiceM
          rw [List.any_eq_true]
          refine ⟨k, List.mem_range.2 (by rw [← HN.out]; exact hlt), ?_⟩
          rw [HY.out]
          simpa using hm)
        rw [decide_eq_true hm] at HK
        clear hm
        go_wp2_with fail; refine HK.out.mono ?_; rintro e w1 ⟨rfl, rfl⟩
        go_wp2
        go_ret
        exact ⟨by rw [HT.out]; rfl, rfl⟩
      · have HM := Lib.hid hm
        rw [decide_eq_false hm] at HK
        clear hm
        go_wp2_with fail; refine HK.out.mono ?_; rintro e w1 ⟨rfl, rfl⟩
        go_wp2
        go_roundw
        case rel => exact ⟨k + 1, by omega, by go_num, fun j z hj hz => by
          by_cases e : j = k
          · subst e; have h1 := HY.out; rw [hz] at h1; cases h1; exact HM.out
          · exact LO.out j z (by omega) hz, rfl⟩
        case measure => simp [intOf]; omega
    · have HT := Lib.hid (show twiceM l = false by
        unfold twiceM
        rw [List.any_eq_false]
        intro i hi
        cases hx : l[i]? with
        | none => simp
        | some x =>
          have := LO.out i x (by have := List.mem_range.1 hi; have := HN.out; omega) hx
          simpa using this)
      go_wp2
      go_ret
      exact ⟨by rw [HT.out]; rfl, rfl⟩

def chkL (model room : Int) (l : List Sp) : Int :=
  if model < 1 ∨ 3 < model then 2 else if room < 1 ∨ 64 < room then 3 else if 10 < l.length ∨ (model = 3 ∧ 2 < nAll l) then 4 else if twiceM (idsM l) = true then 8 else 0
end Go.Proofs.YtbfmmndpboagdaaGreatDoor

namespace Go.Proofs.YtbfmmndpboagdaaGreatDoor
open Go.RowKit

set_option maxRecDepth 100000 in
set_option maxHeartbeats 4000000 in
theorem check_any {w : World} {a : Option Addr} {n c : Nat} {l : List Sp} (model room : Int) (h : Lay w (.slice a n c) n (flatS l)) (hn : n = l.length) :
    Calls Tryz.prog 22 #[.int .i64 model, .int .i64 room, .slice a n c] w fun e w' => e = .returned (.int .i64 (chkL model room l)) ∧ Kept w w' := by
  obtain ⟨a', c', e, hnc, hcm⟩ := h.form
  cases e
  unfold maxLen at hcm
  by_cases hm : model < 1 ∨ 3 < model
  · have HC := Lib.hid (show chkL model room l = 2 by unfold chkL; rw [if_pos hm])
    have m1 : (model != 1) = true := by simp; omega
    have m2 : (model != 2) = true := by simp; omega
    have m3 : (model != 3) = true := by simp; omega
    clear h hn hm
    go_enter Tryz.func22, Tryz.ntmps22
    go_wp2
    go_ret
    exact ⟨by rw [HC.out]; rfl, Kept.refl w⟩
  · have mm : model = 1 ∨ model = 2 ∨ model = 3 := by omega
    by_cases hr : room < 1 ∨ 64 < room
    · have HC := Lib.hid (show chkL model room l = 3 by unfold chkL; rw [if_neg hm, if_pos hr])
      clear h hn hm
      have rr : room < 1 ∨ (¬ room < 1 ∧ 64 < room) := by omega
      clear hr
      rcases mm with rfl | rfl | rfl <;> rcases rr with hr | ⟨h1, hr⟩ <;>
      · go_enter Tryz.func22, Tryz.ntmps22
        go_wp2
        go_ret
        exact ⟨by rw [HC.out]; rfl, Kept.refl w⟩
    · have r1 : ¬ room < 1 := by omega
      have r2 : ¬ 64 < room := by omega
      by_cases hl : 10 < l.length
      · have HC := Lib.hid (show chkL model room l = 4 by unfold chkL; rw [if_neg hm, if_neg hr, if_pos (.inl hl)])
        have l1 : (10 : Int) < (n : Int) := by omega
        clear h hn hm hr hl
        rcases mm with rfl | rfl | rfl <;>
        · go_enter Tryz.func22, Tryz.ntmps22
          go_wp2
          go_ret
          exact ⟨by rw [HC.out]; rfl, Kept.refl w⟩
      · have l1 : ¬ (10 : Int) < (n : Int) := by omega
        have ID := Lib.hid (fun W (k : Kept w W) => ids_any (h.kept k) hn (by omega))
        have AL := Lib.hid (allocs_any h hn (by omega))
        by_cases h3 : model = 3 ∧ 2 < nAll l
        · have HC := Lib.hid (show chkL model room l = 4 by unfold chkL; rw [if_neg hm, if_neg hr, if_pos (.inr h3)])
          obtain ⟨rfl, h2⟩ := h3
          obtain ⟨q, hq⟩ : ∃ q, nAll l = q := ⟨_, rfl⟩
          have q2 : (2 : Int) < (q : Int) := by omega
          rw [hq] at AL
          clear h hn hm hr hl mm h2 hq
          go_enter Tryz.func22, Tryz.ntmps22
          go_wp2_with fail; refine AL.out.mono ?_; rintro e w1 ⟨rfl, k1⟩
          go_wp2
          go_ret
          exact ⟨by rw [HC.out]; rfl, k1⟩
        · have HC := Lib.hid (show chkL model room l = if twiceM (idsM l) = true then 8 else 0 by unfold chkL; rw [if_neg hm, if_neg hr, if_neg (fun h => h.elim hl h3)])
          obtain ⟨d, hd⟩ : ∃ d, twiceM (idsM l) = d := ⟨_, rfl⟩
          have HD := Lib.hid hd
          have TW := Lib.hid (fun W a c (hl : Lay W (.slice a (idsM l).length c) (idsM l).length (ints (idsM l))) => twice_any hl rfl)
          rw [hd] at HC TW
          clear hd
          by_cases hm3 : model = 3
          · subst hm3
            obtain ⟨q, hq⟩ : ∃ q, nAll l = q := ⟨_, rfl⟩
            have q2 : ¬ (2 : Int) < (q : Int) := by omega
            rw [hq] at AL
            clear h hn hm hr hl mm h3 hq
            cases d <;>
            · go_enter Tryz.func22, Tryz.ntmps22
              go_wp2_with fail; refine AL.out.mono ?_; rintro e w1 ⟨rfl, k1⟩
              go_wp2_with fail; refine (ID.out _ k1).mono ?_; rintro e w2 ⟨a2, c2, rfl, k2, own2⟩
              have L2 := Lib.hid (own_lies own2).lay
              clear own2
              go_wp2_with fail; refine (TW.out _ _ _ L2.out).mono ?_; rintro e w3 ⟨rfl, rfl⟩
              go_wp2
              go_ret
              exact ⟨by rw [HC.out]; rfl, k1.trans k2⟩
          · have e3 : (model == 3) = false := by simpa using hm3
            have mm : model = 1 ∨ model = 2 := by omega
            clear h hn hm hr hl h3 hm3
            rcases mm with rfl | rfl <;> cases d <;>
            · go_enter Tryz.func22, Tryz.ntmps22
              go_wp2_with fail; refine (ID.out _ (Kept.refl w)).mono ?_; rintro e w2 ⟨a2, c2, rfl, k2, own2⟩
              have L2 := Lib.hid (own_lies own2).lay
              clear own2
              go_wp2_with fail; refine (TW.out _ _ _ L2.out).mono ?_; rintro e w3 ⟨rfl, rfl⟩
              go_wp2
              go_ret
              exact ⟨by rw [HC.out]; rfl, k2⟩
end Go.Proofs.YtbfmmndpboagdaaGreatDoor

namespace Go.Proofs.YtbfmmndpboagdaaGreatDoor
open Go.RowKit

theorem setCells_mid (w : World) (t : TypeId) (vs pre mid post : List Value) (h : mid.length = vs.length) :
    (w.alloc (.cells (pre ++ mid ++ post).toArray t)).setCells w.heap.size pre.length vs = w.alloc (.cells (pre ++ vs ++ post).toArray t) := by
  induction vs generalizing pre mid with
  | nil => have : mid = [] := List.eq_nil_of_length_eq_zero (by simpa using h)
           subst this
           rfl
  | cons v vs ih =>
    cases mid with
    | nil => simp at h
    | cons x mid =>
      rw [World.setCells, World.setCell_alloc_at _ _ _ _ _ rfl]
      have e1 : (pre ++ x :: mid ++ post).toArray.setIfInBounds pre.length v = ((pre ++ [v]) ++ mid ++ post).toArray := by simp
      have e2 : pre.length + 1 = (pre ++ [v]).length := by simp
      rw [e1, e2, ih (pre ++ [v]) mid (by simpa using h)]
      simp
theorem setCells_past (w : World) (X : Obj) (b : Nat) (hb : b < w.heap.size) : ∀ (vs : List Value) (o : Nat), (w.alloc X).setCells b o vs = (w.setCells b o vs).alloc X := by
  intro vs
  induction vs generalizing w with
  | nil => intro o; rfl
  | cons v vs ih =>
    intro o
    rw [World.setCells, World.setCells, World.setCell_alloc_past _ _ _ _ hb]
    exact ih _ (by simpa using hb) _
theorem storeOld_any {w : World} {b : Nat} {T : TypeId} {Z : Array Value} {R : Array Value} (hs : R.size = Z.size) (hi : (Tryz.prog.info? T).map (·.size) = some R.size) (h1 : ∀ v ∈ R.toList, v.oneCell' = true) (hb : b = w.heap.size) (t : TypeId) (X : Obj) :
    (Instr.storeAt T (.pointer (some ⟨b, 0, none⟩)) (.agg R)).run Tryz.prog ((w.alloc (.cells Z t)).alloc X) = .ok () ((w.alloc (.cells R t)).alloc X) := by
  subst hb
  have hlt : w.heap.size < (w.alloc (.cells Z t)).heap.size := by simp
  rw [storeMid_any (w := (w.alloc (.cells Z t)).alloc X) (fun j hj => by
    rw [Nat.zero_add, World.cell?_alloc_past _ _ _ hlt, cell_new _ _ _ _ _ rfl]
    refine ⟨by rw [Array.getElem?_eq_getElem (by omega)]; rfl, ?_⟩
    have k : Kept (w.alloc (.cells Z t)) ((w.alloc (.cells Z t)).alloc X) := ⟨(Below.refl _ _).alloc (Nat.le_refl _) _⟩
    exact k.soft hlt (soft_new _ _ _ _ _ rfl)) hi h1, setCells_past _ _ _ hlt]
  have e := setCells_new w t R.toList [] Z.toList (by simp [hs])
  simp at e
  rw [e]

theorem copy_any (w : World) (dT sT ty elem : TypeId) (b o dLen dCap : Nat) (v : Value) (n m : Nat) (cs : List Value) (hu : Tryz.prog.underlying dT = some (.slice elem)) (hs : (Tryz.prog.info? elem).map (·.size) = some m)
    (hl : Lay w v n cs) (hm : cs.length = n * m) (hn : n ≤ dLen) (ht : w.there b o cs.length) (h1 : ∀ v ∈ cs, v.oneCell' = true) :
    (Builtin.copy_ #[dT, sT] ty #[.slice (some ⟨b, o, none⟩) dLen dCap, v]).run Tryz.prog w = .ok (goInt n) (w.setCells b o cs) := by
  obtain ⟨i, hi, hi2⟩ := Option.map_eq_some_iff.1 hs
  have hst := run_storeCells_cells (P := Tryz.prog) b o cs 0 w (by simpa using fun j hj => (ht j hj).1) (by simpa using fun j hj => (ht j hj).2) h1
  rw [Nat.add_zero] at hst
  obtain ⟨a, c, rfl, _, _⟩ := hl.form
  have hmin : Nat.min n dLen = n := Nat.min_eq_left hn
  by_cases h0 : n = 0
  · subst h0
    have hcs : cs = [] := List.eq_nil_of_length_eq_zero (by simpa using hm)
    subst hcs
    have hl0 : ∀ (x : Addr), (loadCells x 0).run Tryz.prog w = .ok #[] w := fun x => by simpa using run_loadCells_list (P := Tryz.prog) w x [] (by simp)
    cases a <;> simp [Builtin.copy_, run_underlying hu, Builtin.lenOf, Builtin.firstCells, sizeOf, typeInfo, hi, storeCells, hl0, World.setCells]
  · obtain ⟨g, p, c', e, _, _, hc⟩ := hl.at (by omega)
    cases e
    have hld := run_loadCells_list (P := Tryz.prog) w ⟨g, p, none⟩ cs (fun j u hu => by rw [add_none]; exact hc j u hu)
    rw [hm] at hld
    simp [Builtin.copy_, run_underlying hu, Builtin.lenOf, Builtin.firstCells, sizeOf, typeInfo, hi, hi2, hmin, hld, hst]

theorem push_any {W : World} {base : Nat} {T e : TypeId} {i : TypeInfo} {z : Value} {size bytes : Nat} (ht : Tryz.prog.underlying T = some (.slice e)) (hi : Tryz.prog.info? e = some i) (hz : i.zero = some z)
    (hsize : i.size = size) (hby : i.bytes = bytes) (hzs : z.cells.size = size) (hsz : 0 < size) (hb1 : bytes ≤ 1000)
    {v : Value} {n m : Nat} {xs : List Value} (hrow : W.ownsRow base e size v n xs) (hb : base ≤ W.heap.size) (R : List Value) (hR : R.length = m * size) (h1 : ∀ u ∈ R, u.oneCell' = true) (hn : n + m ≤ 100000000) (hm : m ≤ 1000) :
    ∃ a c w1, (Builtin.append_ #[T, T] T #[v, .slice (some ⟨W.heap.size, 0, none⟩) m m]).run Tryz.prog (W.alloc (.cells R.toArray e)) = .ok (.slice a (n + m) c) w1 ∧ w1.ownsRow base e size (.slice a (n + m) c) (n + m) (xs ++ R) ∧
      But (fun k => v.ownBlock = some k) W w1 ∧ ((Value.slice a (n + m) c).ownBlock = v.ownBlock ∨ (Value.slice a (n + m) c).ownBlock = some (W.heap.size + 1)) := by
  have kA : Kept W (W.alloc (.cells R.toArray e)) := (Kept.refl W).alloc _ _
  have hB : (n + m) * bytes ≤ 100000000 * 1000 := Nat.mul_le_mul hn hb1
  obtain ⟨a, c, w1, hr, own, but, at_⟩ := append_lay (P := Tryz.prog) (W.alloc (.cells R.toArray e)) base T T e i z size bytes ht hi hz hsize hby hzs hsz v n xs (own_kept hrow kA) (.slice (some ⟨W.heap.size, 0, none⟩) m m) m R
    hR (lay_new (heap_alloc_new _ _) (by omega)) h1 (by unfold maxLen; omega) (by omega) (by simp; omega)
  refine ⟨a, c, w1, hr, own, (kA.but _).trans but (fun _ _ h => h), ?_⟩
  simpa using at_
theorem push_kept {w W w1 : World} {v : Value} {e : TypeId} {size n : Nat} {xs : List Value} (k : Kept w W) (hrow : W.ownsRow w.heap.size e size v n xs) (b : But (fun k => v.ownBlock = some k) W w1) : Kept w w1 :=
  k.put b fun j e => (hrow.lt j e).1

def ldS (p : Value) : Sem Value := Instr.loadAt 29 p
theorem ldS_named (p : Value) : Instr.loadAt 29 p = ldS p := rfl
theorem ldS_run {w : World} {b o : Nat} {s : Sp} (h : SpAt w b o s) : (ldS (.pointer (some ⟨b, o, none⟩))).run Tryz.prog w = .ok (.agg #[.int .i64 s.id, .int .i64 s.from_, .int .i64 s.to, .int .i64 s.k, .int .i64 s.x, .int .i64 s.y, .int .u64 s.u, .int .i64 s.er, .int .i64 s.n, .int .u64 s.v]) w :=
  load_any (cs := spc s) Tryz.underlying29 rfl (by kernel_rfl) fun j v hv => by
    obtain ⟨c0, c1, c2, c3, c4, c5, c6, c7, c8, c9⟩ := h
    match j, hv with
    | 0, hv => cases hv; exact c0
    | 1, hv => cases hv; exact c1
    | 2, hv => cases hv; exact c2
    | 3, hv => cases hv; exact c3
    | 4, hv => cases hv; exact c4
    | 5, hv => cases hv; exact c5
    | 6, hv => cases hv; exact c6
    | 7, hv => cases hv; exact c7
    | 8, hv => cases hv; exact c8
    | 9, hv => cases hv; exact c9
theorem adds_length {σ : Type} [DecidableEq σ] : ∀ (l acc : List σ), (l.foldl addNew acc).length ≤ acc.length + l.length := by
  intro l
  induction l with
  | nil => intro acc; simp
  | cons x l ih =>
    intro acc
    rw [List.foldl_cons]
    have h1 := ih (addNew acc x)
    have h2 : (addNew acc x).length ≤ acc.length + 1 := by unfold addNew; split <;> simp
    simp only [List.length_cons]
    omega
theorem flatMap_le {α β : Type} {f : α → List β} {N : Nat} : ∀ (l : List α), (∀ x ∈ l, (f x).length ≤ N) → (l.flatMap f).length ≤ l.length * N := by
  intro l
  induction l with
  | nil => simp
  | cons x l ih =>
    intro h
    rw [List.flatMap_cons, List.length_append, List.length_cons, Nat.add_mul]
    have h1 := h x (List.mem_cons_self ..)
    have h2 := ih fun y hy => h y (List.mem_cons_of_mem _ hy)
    omega
end Go.Proofs.YtbfmmndpboagdaaGreatDoor

namespace Go.Proofs.YtbfmmndpboagdaaGreatDoor
open Go.RowKit

section
variable {α : Type} {m : Nat} {f : α → List Value}
theorem wide_take (hf : ∀ a, (f a).length = m) (l : List α) : ∀ k, (l.flatMap f).take (k * m) = (l.take k).flatMap f := by
  induction l with
  | nil => intro k; simp
  | cons a l ih =>
    intro k
    cases k with
    | zero => simp
    | succ k =>
      rw [List.flatMap_cons, List.take_succ_cons, List.flatMap_cons, show (k + 1) * m = (f a).length + k * m by rw [hf, Nat.add_mul]; omega, List.take_length_add_append, ih]
theorem wide_drop (hf : ∀ a, (f a).length = m) (l : List α) : ∀ k, (l.flatMap f).drop (k * m) = (l.drop k).flatMap f := by
  induction l with
  | nil => intro k; simp
  | cons a l ih =>
    intro k
    cases k with
    | zero => simp
    | succ k =>
      rw [List.flatMap_cons, List.drop_succ_cons, show (k + 1) * m = (f a).length + k * m by rw [hf, Nat.add_mul]; omega, ← List.drop_drop, List.drop_left, ih]
theorem wide_set (hf : ∀ a, (f a).length = m) (l : List α) (k : Nat) (x : α) (hk : k < l.length) : (l.set k x).flatMap f = (l.flatMap f).take (k * m) ++ f x ++ (l.flatMap f).drop (k * m + m) := by
  rw [wide_take hf, show k * m + m = (k + 1) * m by rw [Nat.add_mul]; omega, wide_drop hf, List.set_eq_take_append_cons_drop, if_pos hk]
  simp
end

theorem setCells_row (g : Nat) (t : TypeId) (fr : Nat × Nat) : ∀ (vs : List Value) (o : Nat) (w : World) (cur : Array Value), w.heap[g]? = some (.cells cur t fr) → o + vs.length ≤ cur.size →
    ∃ cur' : Array Value, (w.setCells g o vs).heap[g]? = some (.cells cur' t fr) ∧ cur'.size = cur.size ∧ ∀ j, cur'[j]? = if o ≤ j ∧ j < o + vs.length then vs[j - o]? else cur[j]?
  | [], o, w, cur, h, _ => ⟨cur, h, rfl, fun j => by rw [if_neg (by simp only [List.length_nil]; omega)]⟩
  | v :: vs, o, w, cur, h, hl => by
    have h1 : (w.setCell ⟨g, o, none⟩ v).heap[g]? = some (.cells (cur.setIfInBounds o v) t fr) := by
      unfold World.setCell
      simp only [Array.getElem?_modify, if_true]
      rw [h]
      rfl
    simp at hl
    obtain ⟨cur', h2, h3, h4⟩ := setCells_row g t fr vs (o + 1) _ _ h1 (by simp; omega)
    refine ⟨cur', h2, by rw [h3]; simp, fun j => ?_⟩
    rw [h4]
    by_cases e : j = o
    · subst e
      rw [if_neg (by omega), if_pos (by simp), Array.getElem?_setIfInBounds, if_pos rfl, if_pos (by omega)]
      simp
    · by_cases e2 : o + 1 ≤ j ∧ j < o + 1 + vs.length
      · rw [if_pos e2, if_pos (by simp; omega), show j - o = (j - (o + 1)) + 1 by omega]
        simp
      · rw [if_neg e2, if_neg (by simp; omega), Array.getElem?_setIfInBounds, if_neg (fun h => e h.symm)]
theorem filled_mid {w : World} {g N : Nat} {t : TypeId} {xs : List Value} (h : Fi.Filled w g t N xs) (o : Nat) (vs : List Value) (ho : o + vs.length ≤ xs.length) (hx : xs.length ≤ N) : Fi.Filled (w.setCells g o vs) g t N (xs.take o ++ vs ++ xs.drop (o + vs.length)) := by
  obtain ⟨cur, h1, h2, h3⟩ := h
  obtain ⟨cur', g1, g2, g3⟩ := setCells_row g t _ vs o w cur h1 (by omega)
  refine ⟨cur', g1, g2.trans h2, fun j u hu => ?_⟩
  rw [g3]
  by_cases e1 : j < o
  · rw [if_neg (by omega)]
    rw [List.append_assoc, List.getElem?_append_left (by simp; omega), List.getElem?_take_of_lt e1] at hu
    exact h3 j u hu
  · by_cases e2 : j < o + vs.length
    · rw [if_pos (by omega)]
      rw [List.append_assoc, List.getElem?_append_right (by simp; omega), List.getElem?_append_left (by simp; omega)] at hu
      rw [← hu]
      congr 1
      simp
      omega
    · rw [if_neg (by omega)]
      rw [List.getElem?_append_right (by simp; omega), List.getElem?_drop] at hu
      refine h3 j u ?_
      rw [← hu]
      congr 1
      simp
      omega
theorem filled_cut {w : World} {g N : Nat} {t : TypeId} {xs : List Value} (h : Fi.Filled w g t N xs) (k : Nat) : Fi.Filled w g t N (xs.take k) := by
  obtain ⟨cur, h1, h2, h3⟩ := h
  exact ⟨cur, h1, h2, fun j u hu => h3 j u (by
    have hj := (List.getElem?_eq_some_iff.1 hu).1
    rw [List.length_take] at hj
    rw [List.getElem?_take_of_lt (by omega)] at hu
    exact hu)⟩
theorem filled_of_own {w : World} {base e size g o n cap : Nat} {xs : List Value} (h : w.ownsRow base e size (.slice (some ⟨g, o, none⟩) n cap) n xs) : o = 0 ∧ n ≤ cap ∧ cap ≤ maxLen ∧ base ≤ g ∧ xs.length = n * size ∧ Fi.Filled w g e (cap * size) xs := by
  obtain ⟨h0, ⟨h, _⟩ | ⟨g', cap', cur, hv, hb, hg, h1, h2, h3, h4⟩⟩ := h
  · cases h
  · cases hv
    refine ⟨rfl, h1, h2, hb, h0, cur, hg, h3, fun j u hu => ?_⟩
    rw [← h4] at hu
    have hj := (List.getElem?_eq_some_iff.1 hu).1
    rw [List.length_take] at hj
    rw [List.getElem?_take_of_lt (by omega)] at hu
    simpa using hu
theorem own_of_filled {w : World} {base e size g n cap : Nat} {xs : List Value} (h : Fi.Filled w g e (cap * size) xs) (hl : xs.length = n * size) (hn : n ≤ cap) (hm : cap ≤ maxLen) (hb : base ≤ g) : w.ownsRow base e size (.slice (some ⟨g, 0, none⟩) n cap) n xs := by
  obtain ⟨cur, h1, h2, h3⟩ := h
  have hle : n * size ≤ cap * size := Nat.mul_le_mul_right _ hn
  refine ⟨hl, .inr ⟨g, cap, cur, rfl, hb, h1, hn, hm, h2, ?_⟩⟩
  apply List.ext_getElem?
  intro j
  by_cases hj : j < n * size
  · rw [List.getElem?_take_of_lt hj]
    have hx : xs[j]? = some (xs[j]'(by omega)) := List.getElem?_eq_getElem (by omega)
    rw [hx]
    have := h3 j _ hx
    simpa using this
  · rw [List.getElem?_eq_none (by rw [List.length_take]; omega), List.getElem?_eq_none (by omega)]
theorem filled_there {w : World} {g N : Nat} {t : TypeId} {xs : List Value} (h : Fi.Filled w g t N xs) (o n : Nat) (hn : o + n ≤ N) : w.there g o n := fun j hj => by
  obtain ⟨v, hv⟩ := h.cell (o + j) (by omega)
  exact ⟨by rw [hv]; rfl, h.soft _⟩
theorem filled_range {w : World} {g N o : Nat} {t : TypeId} {xs cs : List Value} (h : Fi.Filled w g t N xs) (hc : ∀ j u, cs[j]? = some u → xs[o + j]? = some u) : w.rangeAt g o cs := fun j u hu => by
  obtain ⟨cur, h1, _, h3⟩ := h
  rw [cell_of_row w g (o + j) cur t _ h1]
  exact h3 _ _ (hc j u hu)

theorem clear_any {w : World} {g N o : Nat} {t T e : TypeId} {i : TypeInfo} {z : Value} {xs : List Value} (h : Fi.Filled w g t N xs) (hT : Tryz.prog.underlying T = some (.slice e)) (hi : Tryz.prog.info? e = some i) (hz : i.zero = some z) (hz1 : ∀ u ∈ z.cells.toList, u.oneCell' = true) (n c : Nat) (ho : xs.length ≤ o) (hn : o + n * z.cells.size ≤ N) (ty : TypeId) :
    ∃ w', (Builtin.clear_ #[T] ty #[.slice (some ⟨g, o, none⟩) n c]).run Tryz.prog w = .ok (.tuple #[]) w' ∧ Fi.Filled w' g t N xs ∧ But (fun k => k = g) w w' := by
  by_cases h0 : n = 0
  · subst h0
    exact ⟨w, by simp [Builtin.clear_, run_underlying hT], h, But.refl _ _⟩
  · obtain ⟨ZS, hZ⟩ : ∃ ZS, (Builtin.zeroCells z.cells n).toList = ZS := ⟨_, rfl⟩
    have hl : ZS.length = n * z.cells.size := by rw [← hZ]; simp [Builtin.zeroCells]
    have h1 : ∀ u ∈ ZS, u.oneCell' = true := by
      intro u hu
      rw [← hZ] at hu
      simp only [Builtin.zeroCells, Array.toList_map, List.mem_map] at hu
      obtain ⟨j, hj, rfl⟩ := hu
      have hj' : j < n * z.cells.size := by simpa using hj
      have hs : 0 < z.cells.size := by
        rcases Nat.eq_zero_or_pos z.cells.size with h | h
        · rw [h] at hj'; omega
        · exact h
      have hm := Nat.mod_lt j hs
      rw [getElem!_pos z.cells _ hm]
      exact hz1 _ (by simp)
    refine ⟨w.setCells g o ZS, ?_, ?_, but_setCells _ _ _ (But.refl _ _)⟩
    · have ht := filled_there h o ZS.length (by omega)
      have hst := run_storeCells_cells (P := Tryz.prog) g o ZS 0 w (by simpa using fun j hj => (ht j hj).1) (by simpa using fun j hj => (ht j hj).2) h1
      rw [Nat.add_zero] at hst
      simp [Builtin.clear_, run_underlying hT, zeroValue, typeInfo, hi, hz, hZ, hst, h0]
    · obtain ⟨cur, g1, g2, g3⟩ := h
      obtain ⟨cur', k1, k2, k3⟩ := setCells_row g t _ ZS o w cur g1 (by omega)
      refine ⟨cur', k1, k2.trans g2, fun j u hu => ?_⟩
      have hj := (List.getElem?_eq_some_iff.1 hu).1
      rw [k3, if_neg (by omega)]
      exact g3 j u hu
end Go.Proofs.YtbfmmndpboagdaaGreatDoor

namespace Go.Proofs.YtbfmmndpboagdaaGreatDoor.SA
open Go.RowKit

abbrev Stt := Fi.Ann
def enc (q : Stt) : List Value := [.int .i64 q.e, .int .i64 q.n, .int .u64 q.v]
def Okq (_ : Stt) : Prop := True
theorem enc_len (q : Stt) : (enc q).length = 3 := rfl
def flatQ (S : List Stt) : List Value := S.flatMap enc
theorem flatQ_length (S : List Stt) : (flatQ S).length = S.length * 3 := wide_length enc_len S
theorem flatQ_get (S : List Stt) (i j : Nat) (q : Stt) (h : S[i]? = some q) (hj : j < 3) : (flatQ S)[i * 3 + j]? = (enc q)[j]? := wide_get enc_len S i j q h hj
theorem flatQ_snoc (S : List Stt) (q : Stt) : flatQ (S ++ [q]) = flatQ S ++ enc q := wide_snoc S q
theorem enc_one (q : Stt) : ∀ u ∈ enc q, u.oneCell' = true := by intro u h; simp [enc] at h; rcases h with h | h | h <;> subst h <;> rfl
def ldQ (p : Value) : Sem Value := Instr.loadAt 27 p
def stQ (p v : Value) : Sem Unit := Instr.storeAt 27 p v
def apE (ts : Array TypeId) (ty : TypeId) (args : Array Value) : Sem Value := Builtin.append_ ts ty args
theorem ldQ_named (p : Value) : Instr.loadAt 27 p = ldQ p := rfl
theorem stQ_named (p v : Value) : Instr.storeAt 27 p v = stQ p v := rfl
theorem apE_named (ts : Array TypeId) (ty : TypeId) (args : Array Value) : Builtin.append_ ts ty args = apE ts ty args := rfl
theorem infoQ : (Tryz.prog.info? 27).map (fun i => (i.zero, i.size, i.bytes)) = some (some (.agg (enc ⟨0, 0, 0⟩).toArray), 3, 24) := by kernel_rfl
theorem sizeQ : (Tryz.prog.info? 27).map (·.size) = some 3 := by kernel_rfl
theorem ldQ_ok {w : World} {b o : Nat} {q : Stt} (_ : Okq q) (hc : w.rangeAt b o (enc q)) : (ldQ (.pointer (some ⟨b, o, none⟩))).run Tryz.prog w = .ok (.agg (enc q).toArray) w :=
  load_any Tryz.underlying27 rfl sizeQ hc
theorem stQ_fresh {w : World} {b : Nat} {q : Stt} (_ : Okq q) (Z : Array Value) (t : TypeId) (hb : b = w.heap.size) (hZ : Z.size = 3) : (stQ (.pointer (some ⟨b, 0, none⟩)) (.agg (enc q).toArray)).run Tryz.prog (w.alloc (.cells Z t)) = .ok () (w.alloc (.cells (enc q).toArray t)) :=
  storeNew_any (by simp [enc_len, hZ]) sizeQ (by simpa using enc_one q) hb t
theorem stQ_mid {w : World} {b o : Nat} {q : Stt} (_ : Okq q) (ht : w.there b o 3) : (stQ (.pointer (some ⟨b, o, none⟩)) (.agg (enc q).toArray)).run Tryz.prog w = .ok () (w.setCells b o (enc q)) := by
  have := storeMid_any (w := w) (b := b) (o := o) (T := 27) (R := (enc q).toArray) (by simpa [enc_len] using ht) sizeQ (by simpa using enc_one q)
  unfold stQ
  simpa using this
theorem st_one {w : World} {a : Option Addr} {n c : Nat} {S : List Stt} (h : Lay w (.slice a n c) n (flatQ S)) (hn : n = S.length) (i : Nat) (q : Stt) (hq : S[i]? = some q) :
    ∃ g o, a = some ⟨g, o, none⟩ ∧ w.rangeAt g (o + i * 3) (enc q) := by
  have hi := (List.getElem?_eq_some_iff.1 hq).1
  obtain ⟨g, o, c', e, _, _, hc⟩ := h.at (by omega)
  cases e
  refine ⟨g, o, rfl, fun j v hv => ?_⟩
  have hj : j < 3 := by have := (List.getElem?_eq_some_iff.1 hv).1; rw [enc_len] at this; exact this
  rw [Nat.add_assoc]
  exact hc _ _ ((flatQ_get S i j q hq hj).trans hv)
theorem cells3 {w : World} {g o : Nat} {q : Stt} (h : w.rangeAt g o (enc q)) : w.cell? ⟨g, o, none⟩ = some (.int .i64 q.e) ∧ w.cell? ⟨g, o + 1, none⟩ = some (.int .i64 q.n) ∧ w.cell? ⟨g, o + 2, none⟩ = some (.int .u64 q.v) :=
  ⟨h 0 _ rfl, h 1 _ rfl, h 2 _ rfl⟩
end Go.Proofs.YtbfmmndpboagdaaGreatDoor.SA

namespace Go.Proofs.YtbfmmndpboagdaaGreatDoor
set_option maxRecDepth 20000
open Go.RowKit

def Grew (W w1 : World) (v v' : Value) : Prop :=
  (∃ g n c, v = .slice (some ⟨g, 0, none⟩) n c ∧ v' = .slice (some ⟨g, 0, none⟩) (n + 1) c ∧ But (fun k => k = g) W w1) ∨ (Kept W w1 ∧ ∃ g, v'.ownBlock = some g ∧ W.heap.size ≤ g)
theorem push_two {W W1 : World} {base : Nat} {v : Value} {n : Nat} {xs : List Int} (hrow : W.ownsRow base 3 1 v n (ints xs)) (k1 : Kept W W1) (hb : base ≤ W.heap.size) {y : Value} (x : Int) (hy : ∃ g o c, y = .slice (some ⟨g, o, none⟩) 1 c ∧ W1.cell? ⟨g, o, none⟩ = some (.int .i64 x) ∧ c ≤ maxLen ∧ 1 ≤ c) (hn : n ≤ 1000) :
    ∃ a c w1, (Builtin.append_ #[35, 35] 35 #[v, y]).run Tryz.prog W1 = .ok (.slice a (n + 1) c) w1 ∧ w1.ownsRow base 3 1 (.slice a (n + 1) c) (n + 1) (ints (xs ++ [x])) ∧ Grew W1 w1 v (.slice a (n + 1) c) := by
  obtain ⟨i0, hi, hz0, hz1, hz2⟩ := info_parts infoI
  obtain ⟨g, o, cy, rfl, hcell, hcy, hcy1⟩ := hy
  have row1 := own_kept hrow k1
  have e : ints (xs ++ [x]) = ints xs ++ [.int .i64 x] := by simp [ints]
  have hL : Lay W1 (.slice (some ⟨g, o, none⟩) 1 cy) 1 [.int .i64 x] := .inl (.inr ⟨g, o, cy, rfl, hcy1, hcy, fun j u hu => by
    cases j with
    | zero => simp at hu; subst hu; simpa using hcell
    | succ j => simp at hu⟩)
  have h1 : ∀ u ∈ [Value.int .i64 x], u.oneCell' = true := by intro u hu; simp at hu; subst hu; rfl
  have full : (∃ a c, v = .slice a n c ∧ c < n + 1) → ∃ a c w1, (Builtin.append_ #[35, 35] 35 #[v, .slice (some ⟨g, o, none⟩) 1 cy]).run Tryz.prog W1 = .ok (.slice a (n + 1) c) w1 ∧ w1.ownsRow base 3 1 (.slice a (n + 1) c) (n + 1) (ints (xs ++ [x])) ∧ Grew W1 w1 v (.slice a (n + 1) c) := by
    rintro ⟨a, c, rfl, hc⟩
    obtain ⟨cap, w1, hr, hown, hk⟩ := He.append_full (P := Tryz.prog) W1 35 35 3 i0 _ 1 8 Tryz.underlying35 hi hz0 hz1 hz2 (by rfl) a n c (ints xs) row1.1 (own_lies row1).lay _ 1 [.int .i64 x] (by rfl) hL h1 (by omega) (by unfold maxLen; omega) (by omega)
    refine ⟨_, cap, w1, hr, ?_, .inr ⟨hk, W1.heap.size, rfl, Nat.le_refl _⟩⟩
    rw [e]
    exact own_mono hown (Nat.le_trans hb k1.size)
  rcases row1.2 with ⟨rfl, rfl⟩ | ⟨gv, cap, cur, rfl, hbv, hg, hnc, hcm, hcs, htake⟩
  · exact full ⟨none, 0, rfl, by omega⟩
  · by_cases hroom : n + 1 ≤ cap
    · have hr := run_append_room (P := Tryz.prog) W1 35 35 3 i0 Tryz.underlying35 hi gv n cap cur hg ⟨g, o, none⟩ 1 cy [.int .i64 x] (by rw [hz1]; rfl) (fun j u hu => by
        cases j with
        | zero => simp at hu; subst hu; rw [add_none]; simpa using hcell
        | succ j => simp at hu) h1 hroom (by rw [hz1, hcs]; simp; omega)
      obtain ⟨a, c, w1, hr2, hown, hbut, _⟩ := append_lay (P := Tryz.prog) W1 base 35 35 3 i0 _ 1 8 Tryz.underlying35 hi hz0 hz1 hz2 (by rfl) (by decide) _ n (ints xs) row1 _ 1 [.int .i64 x] (by rfl) hL h1 (by unfold maxLen; omega) (by omega) (Nat.le_trans hb k1.size)
      have hr3 := hr2
      rw [hr] at hr3
      injection hr3 with h3 h4
      injection h3 with h5 h6 h7
      subst h5
      subst h7
      refine ⟨_, _, w1, hr2, by rw [e]; exact hown, .inl ⟨gv, n, cap, rfl, rfl, hbut.mono fun k _ hk => by simpa [Value.ownBlock] using hk.symm⟩⟩
    · exact full ⟨_, cap, rfl, by omega⟩

theorem own_less {w : World} {base g n c : Nat} {xs : List Int} {x : Int} (h : w.ownsRow base 3 1 (.slice (some ⟨g, 0, none⟩) (n + 1) c) (n + 1) (ints (xs ++ [x]))) : w.ownsRow base 3 1 (.slice (some ⟨g, 0, none⟩) n c) n (ints xs) := by
  obtain ⟨_, h2, h3, h4, h5, h6⟩ := filled_of_own h
  have hl : xs.length = n := by simpa [ints] using h5
  refine own_of_filled (filled_cut h6 n |> fun h => by
    have e : (ints (xs ++ [x])).take n = ints xs := by rw [ints_append, List.take_left' (by simp [ints, hl])]
    rw [e] at h; exact h) (by simp [ints, hl]) (by omega) h3 h4
def apS (ts : Array TypeId) (ty : TypeId) (args : Array Value) : Sem Value := Builtin.append_ ts ty args
theorem apS_named (ts : Array TypeId) (ty : TypeId) (args : Array Value) : Builtin.append_ ts ty args = apS ts ty args := rfl
theorem own_empty (w : World) (e : TypeId) (size : Nat) : (w.alloc (.cells #[] e)).ownsRow w.heap.size e size (.slice (some ⟨w.heap.size, 0, none⟩) 0 0) 0 [] :=
  ⟨by simp, .inr ⟨w.heap.size, 0, #[], rfl, Nat.le_refl _, heap_alloc_new _ _, Nat.le_refl _, Nat.zero_le _, by simp, by simp⟩⟩
section
attribute [local go_sem ↓] apS_named
set_option maxHeartbeats 1000000 in
theorem cloneI_any {w : World} {a : Option Addr} {n c : Nat} {l : List Int} (h : Lay w (.slice a n c) n (ints l)) (hn : n = l.length) (h3 : n ≤ 1000) :
    Calls Tryz.prog 139 #[.slice a n c] w (RetI w l) := by
  have q22 : ∀ (w : World) (a : Option Addr) (n c n' c' : Nat), (binOp .eql 35 (.slice a n c) (.slice none n' c')).run Tryz.prog w = .ok (.bool a.isNone) w := fun w a n c n' c' => Lib.run_eql_slice_nil w _ _ a n c n' c' Tryz.underlying35
  have HN := Lib.hid hn
  cases a with
  | none =>
    have h0 : n = 0 := by
      rcases Nat.eq_zero_or_pos n with h0 | h0
      · exact h0
      · obtain ⟨g, o, c', e, _⟩ := h.at h0
        cases e
    have hl := Lib.hid (show l = [] from List.eq_nil_of_length_eq_zero (by omega))
    subst h0
    clear h hn
    go_enter Tryz.func139, Tryz.ntmps139
    go_wp2
    go_ret
    rw [hl.out]
    exact ⟨none, 0, rfl, Kept.refl _, World.ownsRow_nil _ _ _ _⟩
  | some x =>
    obtain ⟨i0, hi, hz0, hz1, hz2⟩ := info_parts infoI
    obtain ⟨a2, c2, w2, hr, hown, hbut, _⟩ := append_lay (P := Tryz.prog) (w.alloc (.cells #[] 3)) w.heap.size 35 35 3 i0 _ 1 8 Tryz.underlying35 hi hz0 hz1 hz2 (by rfl) (by decide) _ 0 [] (own_empty w 3 1) (.slice (some x) n c) n (ints l) (by simp [ints, hn]) (h.kept ((Kept.refl w).alloc _ _)) (ints_one l) (by unfold maxLen; omega) (by omega) (by simp)
    have AP : (apS #[35, 35] 35 #[.slice (some ⟨w.heap.size, 0, none⟩) 0 0, .slice (some x) n c]).run Tryz.prog (w.alloc (.cells #[] 3)) = .ok (.slice a2 (0 + n) c2) w2 := hr
    rw [Nat.zero_add] at AP hown
    have KW := Lib.hid (show Kept w w2 from ((Kept.refl w).alloc _ _).put hbut fun j e => by simp [Value.ownBlock] at e; omega)
    have OW := Lib.hid hown
    clear h hn hr hown hbut
    go_enter Tryz.func139, Tryz.ntmps139
    go_wp2
    go_ret
    refine ⟨a2, c2, by rw [← HN.out]; rfl, KW.out, ?_⟩
    unfold OwnI
    rw [← HN.out]
    simpa using OW.out
set_option maxHeartbeats 1000000 in
theorem cloneS_any {w : World} {a : Option Addr} {n c : Nat} {l : List Sp} (h : Lay w (.slice a n c) n (flatS l)) (hn : n = l.length) (h3 : n ≤ 1000) :
    Calls Tryz.prog 57 #[.slice a n c] w fun e w' => ∃ a c, e = .returned (.slice a n c) ∧ Kept w w' ∧ w'.ownsRow w.heap.size 29 10 (.slice a n c) n (flatS l) := by
  have q22 : ∀ (w : World) (a : Option Addr) (n c n' c' : Nat), (binOp .eql 38 (.slice a n c) (.slice none n' c')).run Tryz.prog w = .ok (.bool a.isNone) w := fun w a n c n' c' => Lib.run_eql_slice_nil w _ _ a n c n' c' Tryz.underlying38
  have HN := Lib.hid hn
  cases a with
  | none =>
    have h0 : n = 0 := by
      rcases Nat.eq_zero_or_pos n with h0 | h0
      · exact h0
      · obtain ⟨g, o, c', e, _⟩ := h.at h0
        cases e
    have hl := Lib.hid (show l = [] from List.eq_nil_of_length_eq_zero (by omega))
    subst h0
    clear h hn
    go_enter Tryz.func57, Tryz.ntmps57
    go_wp2
    go_ret
    rw [hl.out]
    exact ⟨none, 0, rfl, Kept.refl _, World.ownsRow_nil _ _ _ _⟩
  | some x =>
    obtain ⟨i0, hi, hz0, hz1, hz2⟩ := info_parts infoSp
    obtain ⟨a2, c2, w2, hr, hown, hbut, _⟩ := append_lay (P := Tryz.prog) (w.alloc (.cells #[] 29)) w.heap.size 38 38 29 i0 _ 10 80 Tryz.underlying38 hi hz0 hz1 hz2 (by rfl) (by decide) _ 0 [] (own_empty w 29 10) (.slice (some x) n c) n (flatS l) (by rw [flatS_length, hn]) (h.kept ((Kept.refl w).alloc _ _)) (flatS_one l) (by unfold maxLen; omega) (by omega) (by simp)
    have AP : (apS #[38, 38] 38 #[.slice (some ⟨w.heap.size, 0, none⟩) 0 0, .slice (some x) n c]).run Tryz.prog (w.alloc (.cells #[] 29)) = .ok (.slice a2 (0 + n) c2) w2 := hr
    rw [Nat.zero_add] at AP hown
    have KW := Lib.hid (show Kept w w2 from ((Kept.refl w).alloc _ _).put hbut fun j e => by simp [Value.ownBlock] at e; omega)
    have OW := Lib.hid hown
    clear h hn hr hown hbut
    go_enter Tryz.func57, Tryz.ntmps57
    go_wp2
    go_ret
    exact ⟨a2, c2, rfl, KW.out, by simpa using OW.out⟩
end
end Go.Proofs.YtbfmmndpboagdaaGreatDoor
