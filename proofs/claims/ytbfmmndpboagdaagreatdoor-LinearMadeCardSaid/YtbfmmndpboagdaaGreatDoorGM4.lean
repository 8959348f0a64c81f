/- LinearKnown. -/
import Derived.Test.YtbfmmndpboagdaaGreatDoorGM3
set_option maxRecDepth 20000
namespace Go.Proofs.YtbfmmndpboagdaaGreatDoor
open Go.RowKit

def sD : List Sp := [⟨1, 0, 9, 4, 0, 0, 4, 0, 0, 0⟩, ⟨2, 1, 2, 4, 0, 0, 3, 0, 0, 0⟩, ⟨3, 3, 4, 5, 0, 0, 0, 0, 0, 4⟩, ⟨4, 5, 6, 6, 0, 0, 0, 0, 0, 3⟩]
def sE : List Sp := [⟨1, 0, 1, 7, 0, 0, 0, 0, 0, 0⟩, ⟨2, 4, 5, 7, 0, 0, 0, 0, 0, 0⟩, ⟨3, 2, -1, 8, 0, 0, 0, 0, 0, 0⟩]
def sF : List Sp := [⟨1, 0, 1, 7, 0, 0, 0, 0, 0, 0⟩, ⟨2, 4, 5, 7, 0, 0, 0, 0, 0, 0⟩]
def sP : List Sp := [⟨1, 0, -1, 7, 0, 0, 0, 0, 0, 0⟩, ⟨2, 0, -1, 7, 0, 0, 0, 0, 0, 0⟩, ⟨3, 0, -1, 7, 0, 0, 0, 0, 0, 0⟩]
def sQ : List Sp := [⟨1, 0, 3, 1, 0, 0, 5, 0, 0, 0⟩]
theorem firstOf_at {α : Type} {f : Nat → Option α} {x : α} {i : Nat} : ∀ {m k : Nat}, k ≤ i → i < k + m → (∀ j, k ≤ j → j < i → f j = none) → f i = some x → firstOf f m k = some x := by
  intro m
  induction m with
  | zero => intro k h1 h2; omega
  | succ m ih =>
    intro k h1 h2 h3 h4
    unfold firstOf
    by_cases e : k = i
    · subst e; rw [h4]
    · rw [h3 k (Nat.le_refl _) (by omega)]
      exact ih (by omega) (by omega) (fun j g1 g2 => h3 j (by omega) g2) h4
section
variable {σ : Type} [DecidableEq σ] {next : σ → Sp → List σ} {l : List Sp}
theorem dfs_at {f D i : Nat} {S : List σ} {o : List Nat} (hf : full l D = false) (hi : i < l.length) (h1 : ∀ j, j < i → dfs next l f (D ||| 2 ^ j) (aftM next l D S j) = none) (h2 : dfs next l f (D ||| 2 ^ i) (aftM next l D S i) = some o) : dfs next l (f + 1) D S = some (i :: o) := by
  rw [dfs_step next l hf]
  refine firstOf_at (m := l.length) (Nat.zero_le _) (by rw [Nat.zero_add]; exact hi) (fun j _ hj => ?_) ?_
  · rw [h1 j hj]; rfl
  · rw [h2]; rfl
theorem dfs_nil {f D : Nat} : dfs next l f D [] = none := (dfs_none next l).2 fun x hx => by cases hx
theorem ev {f D D' i : Nat} {S T : List σ} {r : Option (List Nat)} (h : aftM next l D S i = T) (hD : D ||| 2 ^ i = D') (h2 : dfs next l f D' T = r) : dfs next l f (D ||| 2 ^ i) (aftM next l D S i) = r := by rw [h, hD, h2]
theorem ev0 {f D i : Nat} {S : List σ} (h : aftM next l D S i = []) : dfs next l f (D ||| 2 ^ i) (aftM next l D S i) = none := by rw [h]; exact dfs_nil
end
theorem spbox_all {w' : World} {g : Nat} {a b c d e f g' h i j : Int} (H : SpBox w' g ⟨a, b, c, d, e, f, g', h, i, j⟩) : w'.cell? ⟨g, 0, none⟩ = some (.int .i64 a) ∧ w'.cell? ⟨g, 1, none⟩ = some (.int .i64 b) ∧ w'.cell? ⟨g, 2, none⟩ = some (.int .i64 c) ∧ w'.cell? ⟨g, 3, none⟩ = some (.int .i64 d) ∧ w'.cell? ⟨g, 4, none⟩ = some (.int .i64 e) ∧ w'.cell? ⟨g, 5, none⟩ = some (.int .i64 f) ∧ w'.cell? ⟨g, 6, none⟩ = some (.int .u64 g') ∧ w'.cell? ⟨g, 7, none⟩ = some (.int .i64 h) ∧ w'.cell? ⟨g, 8, none⟩ = some (.int .i64 i) ∧ w'.cell? ⟨g, 9, none⟩ = some (.int .u64 j) := ⟨H.c0, H.c1, H.c2, H.c3, H.c4, H.c5, H.c6, H.c7, H.c8, H.c9⟩
def KnRel (W2 : World) (v : Value) (wx : World) : Prop := v = .bool true ∧ Kept W2 wx
theorem dD3 : dfs (SH.nextM 1) sD 8 3 [[⟨3, 0⟩, ⟨4, 0⟩]] = none := by
  refine (dfs_step_none _ _ (by decide +kernel)).2 fun i hi => ?_
  rcases (by have : i < 4 := hi; omega : i = 0 ∨ i = 1 ∨ i = 2 ∨ i = 3) with rfl | rfl | rfl | rfl <;> exact ev0 (by decide +kernel)
theorem dD : dfs (SH.nextM 1) sD 10 0 [[]] = none := by
  refine (dfs_step_none _ _ (by decide +kernel)).2 fun i hi => ?_
  rcases (by have : i < 4 := hi; omega : i = 0 ∨ i = 1 ∨ i = 2 ∨ i = 3) with rfl | rfl | rfl | rfl
  · refine ev (T := [[⟨4, 0⟩]]) (by decide +kernel) (by decide : _ = 1) ?_
    refine (dfs_step_none _ _ (by decide +kernel)).2 fun i hi => ?_
    rcases (by have : i < 4 := hi; omega : i = 0 ∨ i = 1 ∨ i = 2 ∨ i = 3) with rfl | rfl | rfl | rfl
    · exact ev0 (by decide +kernel)
    · exact ev (by decide +kernel) (by decide : _ = 3) dD3
    · exact ev0 (by decide +kernel)
    · exact ev0 (by decide +kernel)
  · refine ev (T := [[⟨3, 0⟩]]) (by decide +kernel) (by decide : _ = 2) ?_
    refine (dfs_step_none _ _ (by decide +kernel)).2 fun i hi => ?_
    rcases (by have : i < 4 := hi; omega : i = 0 ∨ i = 1 ∨ i = 2 ∨ i = 3) with rfl | rfl | rfl | rfl
    · exact ev (by decide +kernel) (by decide : _ = 3) dD3
    · exact ev0 (by decide +kernel)
    · exact ev0 (by decide +kernel)
    · exact ev0 (by decide +kernel)
  · exact ev0 (by decide +kernel)
  · exact ev0 (by decide +kernel)
theorem fE : firstN 1 sE = [0] := by decide +kernel
theorem fF : firstN 1 sF = [0] := by decide +kernel
theorem dE : dfs (SN.nextM 1) sE 10 0 [firstN 1 sE] = some [0, 2, 1] := by
  rw [fE]
  refine dfs_at (by decide +kernel) (by decide) (fun j hj => by omega) (ev (T := [[]]) (by decide +kernel) (by decide : _ = 1) ?_)
  refine dfs_at (by decide +kernel) (by decide) (fun j hj => ?_) (ev (T := [[0]]) (by decide +kernel) (by decide : _ = 5) ?_)
  · rcases (by omega : j = 0 ∨ j = 1) with rfl | rfl <;> exact ev0 (by decide +kernel)
  refine dfs_at (by decide +kernel) (by decide) (fun j hj => ?_) (ev (T := [[]]) (by decide +kernel) (by decide : _ = 7) ?_)
  · rcases (by omega : j = 0) with rfl; exact ev0 (by decide +kernel)
  rw [dfs_full _ _ (by decide +kernel)]
  rfl
theorem dF : dfs (SN.nextM 1) sF 10 0 [firstN 1 sF] = none := by
  rw [fF]
  refine (dfs_step_none _ _ (by decide +kernel)).2 fun i hi => ?_
  rcases (by have : i < 2 := hi; omega : i = 0 ∨ i = 1) with rfl | rfl
  · refine ev (T := [[]]) (by decide +kernel) (by decide : _ = 1) ?_
    refine (dfs_step_none _ _ (by decide +kernel)).2 fun i hi => ?_
    rcases (by have : i < 2 := hi; omega : i = 0 ∨ i = 1) with rfl | rfl <;> exact ev0 (by decide +kernel)
  · exact ev0 (by decide +kernel)
theorem wD : SH.Wf sD := by unfold SH.Wf; decide +kernel
theorem wQ : SU.Wf sQ := by unfold SU.Wf; decide +kernel
theorem no9 : ¬ (∀ x ∈ ([9] : List Int), x ∈ idsM sQ) := by decide +kernel
theorem yes1 : (∀ x ∈ ([1, 1] : List Int), x ∈ idsM sQ) ∧ twiceM (([1, 1] : List Int).map (wh sQ)) = true := by decide +kernel

set_option maxRecDepth 100000 in
set_option maxHeartbeats 16000000 in
theorem known_any (w : World) (hT : Po.Tab w) : Calls Tryz.prog 3 #[] w fun e w' => e = .returned (.bool true) ∧ Kept w w' := by
  have T := Lib.hid hT
  clear hT
  obtain ⟨Z11, h11⟩ : ∃ Z, madeCells #[.int .i64 0, .int .i64 0, .int .i64 0, .int .i64 0, .int .i64 0, .int .i64 0, .int .u64 0, .int .i64 0, .int .i64 0, .int .u64 0] (11 * 10) = Z := ⟨_, rfl⟩
  obtain ⟨Z2, h2⟩ : ∃ Z, madeCells #[.int .i64 0, .int .i64 0, .int .i64 0, .int .i64 0, .int .i64 0, .int .i64 0, .int .u64 0, .int .i64 0, .int .i64 0, .int .u64 0] (2 * 10) = Z := ⟨_, rfl⟩
  have MS11 : ∀ W : World, (Instr.makeSlice 38 (.int .i64 11) (.int .i64 11)).run Tryz.prog W = .ok (.slice (some ⟨W.heap.size, 0, none⟩) 11 11) (W.alloc (.cells Z11 29)) := fun W => by rw [← h11]; exact make_spans 11 (by decide) W
  have MS2 : ∀ W : World, (Instr.makeSlice 38 (.int .i64 2) (.int .i64 2)).run Tryz.prog W = .ok (.slice (some ⟨W.heap.size, 0, none⟩) 2 2) (W.alloc (.cells Z2 29)) := fun W => by rw [← h2]; exact make_spans 2 (by decide) W
  have LS11 := Lib.hid (show ∀ W : World, Lay (W.alloc (.cells Z11 29)) (.slice (some ⟨W.heap.size, 0, none⟩) 11 11) 11 (flatS (List.replicate 11 z10)) from fun W => by rw [← h11]; exact made_spans W _ 11 (by decide) made11)
  have LS2 := Lib.hid (show ∀ W : World, Lay (W.alloc (.cells Z2 29)) (.slice (some ⟨W.heap.size, 0, none⟩) 2 2) 2 (flatS (List.replicate 2 z10)) from fun W => by rw [← h2]; exact made_spans W _ 2 (by decide) made2)
  clear h11 h2
  go_enter Tryz.func3, Tryz.ntmps3
  go_wp2_with fail; refine (call_any _ _ _ _ _ _ _ _ _ _ _).mono ?_; rintro e v1 ⟨rfl, kv1⟩
  have Kv1 := Lib.hid ((Kept.refl w).trans kv1)
  clear kv1
  have HLK := Lib.hid (show SpBox (v1.alloc (.cells #[.int .i64 4, .int .i64 5, .int .i64 6, .int .i64 6, .int .i64 0, .int .i64 0, .int .u64 0, .int .i64 0, .int .i64 0, .int .u64 3] 29)) v1.heap.size ⟨4, 5, 6, 6, 0, 0, 0, 0, 0, 3⟩ from SpBox.at v1 ⟨4, 5, 6, 6, 0, 0, 0, 0, 0, 3⟩ _ _ rfl)
  go_wp2_with fail; refine (call_any _ _ _ _ _ _ _ _ _ _ _).mono ?_; rintro e v2 ⟨rfl, kv2⟩
  have Lv2 := Lib.hid (HLK.out.kept kv2)
  have Kv2 := Lib.hid ((Kv1.out.alloc _ _).trans kv2)
  clear kv2
  have HLK := Lib.hid Lv2.out
  have LD := Lib.hid (show ∀ (W : World) (t : TypeId), Lay (W.alloc (.cells #[.int .i64 1, .int .i64 0, .int .i64 9, .int .i64 4, .int .i64 0, .int .i64 0, .int .u64 4, .int .i64 0, .int .i64 0, .int .u64 0, .int .i64 2, .int .i64 1, .int .i64 2, .int .i64 4, .int .i64 0, .int .i64 0, .int .u64 3, .int .i64 0, .int .i64 0, .int .u64 0, .int .i64 3, .int .i64 3, .int .i64 4, .int .i64 5, .int .i64 0, .int .i64 0, .int .u64 0, .int .i64 0, .int .i64 0, .int .u64 4, .int .i64 4, .int .i64 5, .int .i64 6, .int .i64 6, .int .i64 0, .int .i64 0, .int .u64 0, .int .i64 0, .int .i64 0, .int .u64 3] t)) (.slice (some ⟨W.heap.size, 0, none⟩) 4 4) 4 (flatS sD) from fun W t => lay_new (heap_alloc_new _ _) (by decide))
  have LE := Lib.hid (show ∀ (W : World) (t : TypeId), Lay (W.alloc (.cells #[.int .i64 1, .int .i64 0, .int .i64 1, .int .i64 7, .int .i64 0, .int .i64 0, .int .u64 0, .int .i64 0, .int .i64 0, .int .u64 0, .int .i64 2, .int .i64 4, .int .i64 5, .int .i64 7, .int .i64 0, .int .i64 0, .int .u64 0, .int .i64 0, .int .i64 0, .int .u64 0, .int .i64 3, .int .i64 2, .int .i64 (-1), .int .i64 8, .int .i64 0, .int .i64 0, .int .u64 0, .int .i64 0, .int .i64 0, .int .u64 0] t)) (.slice (some ⟨W.heap.size, 0, none⟩) 3 3) 3 (flatS sE) from fun W t => lay_new (heap_alloc_new _ _) (by decide))
  have LF := Lib.hid (show ∀ (W : World) (t : TypeId), Lay (W.alloc (.cells #[.int .i64 1, .int .i64 0, .int .i64 1, .int .i64 7, .int .i64 0, .int .i64 0, .int .u64 0, .int .i64 0, .int .i64 0, .int .u64 0, .int .i64 2, .int .i64 4, .int .i64 5, .int .i64 7, .int .i64 0, .int .i64 0, .int .u64 0, .int .i64 0, .int .i64 0, .int .u64 0] t)) (.slice (some ⟨W.heap.size, 0, none⟩) 2 2) 2 (flatS sF) from fun W t => lay_new (heap_alloc_new _ _) (by decide))
  have LWW := Lib.hid (show ∀ (W : World) (t : TypeId), Lay (W.alloc (.cells #[.int .i64 1, .int .i64 3, .int .i64 2] t)) (.slice (some ⟨W.heap.size, 0, none⟩) 3 3) 3 (ints [1, 3, 2]) from fun W t => lay_new (heap_alloc_new _ _) (by decide))
  have FU8 := Lib.hid (show ∀ (W : World) (t t1 : TypeId), Calls Tryz.prog 13 #[.int .i64 1, .int .i64 2, .slice (some ⟨W.heap.size, 0, none⟩) 1 1, .slice (some ⟨W.heap.size + 1, 0, none⟩) 2 2] ((W.alloc (.cells #[.int .i64 1, .int .i64 0, .int .i64 3, .int .i64 1, .int .i64 0, .int .i64 0, .int .u64 5, .int .i64 0, .int .i64 0, .int .u64 0] t)).alloc (.cells #[.int .i64 1, .int .i64 1] t1)) (fun e w' => e = .returned (.tuple #[.bool false, .int .i64 8]) ∧ Kept ((W.alloc (.cells #[.int .i64 1, .int .i64 0, .int .i64 3, .int .i64 1, .int .i64 0, .int .i64 0, .int .u64 5, .int .i64 0, .int .i64 0, .int .u64 0] t)).alloc (.cells #[.int .i64 1, .int .i64 1] t1)) w') from fun W t t1 => by have l1 : Lay (W.alloc (.cells #[.int .i64 1, .int .i64 0, .int .i64 3, .int .i64 1, .int .i64 0, .int .i64 0, .int .u64 5, .int .i64 0, .int .i64 0, .int .u64 0] t)) (.slice (some ⟨W.heap.size, 0, none⟩) 1 1) 1 (flatS sQ) := lay_new (heap_alloc_new _ _) (by decide); have l2 : Lay ((W.alloc (.cells #[.int .i64 1, .int .i64 0, .int .i64 3, .int .i64 1, .int .i64 0, .int .i64 0, .int .u64 5, .int .i64 0, .int .i64 0, .int .u64 0] t)).alloc (.cells #[.int .i64 1, .int .i64 1] t1)) (.slice (some ⟨(W.alloc (.cells #[.int .i64 1, .int .i64 0, .int .i64 3, .int .i64 1, .int .i64 0, .int .i64 0, .int .u64 5, .int .i64 0, .int .i64 0, .int .u64 0] t)).heap.size, 0, none⟩) 2 2) 2 (ints [1, 1]) := lay_new (heap_alloc_new _ _) (by decide); rw [World.size_alloc] at l2; exact fitsU (l1.kept ((Kept.refl _).alloc _ _)) rfl (by decide) 2 (by decide +kernel) wQ l2 rfl (by decide) (.inr ⟨yes1.1, yes1.2, rfl⟩))
  have FU10 := Lib.hid (show ∀ (W : World) (t t1 : TypeId), Calls Tryz.prog 13 #[.int .i64 1, .int .i64 2, .slice (some ⟨W.heap.size, 0, none⟩) 1 1, .slice (some ⟨W.heap.size + 1, 0, none⟩) 1 1] ((W.alloc (.cells #[.int .i64 1, .int .i64 0, .int .i64 3, .int .i64 1, .int .i64 0, .int .i64 0, .int .u64 5, .int .i64 0, .int .i64 0, .int .u64 0] t)).alloc (.cells #[.int .i64 9] t1)) (fun e w' => e = .returned (.tuple #[.bool false, .int .i64 10]) ∧ Kept ((W.alloc (.cells #[.int .i64 1, .int .i64 0, .int .i64 3, .int .i64 1, .int .i64 0, .int .i64 0, .int .u64 5, .int .i64 0, .int .i64 0, .int .u64 0] t)).alloc (.cells #[.int .i64 9] t1)) w') from fun W t t1 => by have l1 : Lay (W.alloc (.cells #[.int .i64 1, .int .i64 0, .int .i64 3, .int .i64 1, .int .i64 0, .int .i64 0, .int .u64 5, .int .i64 0, .int .i64 0, .int .u64 0] t)) (.slice (some ⟨W.heap.size, 0, none⟩) 1 1) 1 (flatS sQ) := lay_new (heap_alloc_new _ _) (by decide); have l2 : Lay ((W.alloc (.cells #[.int .i64 1, .int .i64 0, .int .i64 3, .int .i64 1, .int .i64 0, .int .i64 0, .int .u64 5, .int .i64 0, .int .i64 0, .int .u64 0] t)).alloc (.cells #[.int .i64 9] t1)) (.slice (some ⟨(W.alloc (.cells #[.int .i64 1, .int .i64 0, .int .i64 3, .int .i64 1, .int .i64 0, .int .i64 0, .int .u64 5, .int .i64 0, .int .i64 0, .int .u64 0] t)).heap.size, 0, none⟩) 1 1) 1 (ints [9]) := lay_new (heap_alloc_new _ _) (by decide); rw [World.size_alloc] at l2; exact fitsU (l1.kept ((Kept.refl _).alloc _ _)) rfl (by decide) 2 (by decide +kernel) wQ l2 rfl (by decide) (.inl ⟨no9, rfl⟩))
  have nD : chkL 2 1 sD = 0 := by decide +kernel
  have nE : chkL 3 1 sE = 0 := by decide +kernel
  have nF : chkL 3 1 sF = 0 := by decide +kernel
  have AD := Lib.hid (show ∀ (W : World) (t : TypeId), Calls Tryz.prog 8 #[.int .i64 2, .int .i64 1, .slice none 0 0, .slice (some ⟨W.heap.size, 0, none⟩) 4 4] (W.alloc (.cells #[.int .i64 1, .int .i64 0, .int .i64 9, .int .i64 4, .int .i64 0, .int .i64 0, .int .u64 4, .int .i64 0, .int .i64 0, .int .u64 0, .int .i64 2, .int .i64 1, .int .i64 2, .int .i64 4, .int .i64 0, .int .i64 0, .int .u64 3, .int .i64 0, .int .i64 0, .int .u64 0, .int .i64 3, .int .i64 3, .int .i64 4, .int .i64 5, .int .i64 0, .int .i64 0, .int .u64 0, .int .i64 0, .int .i64 0, .int .u64 4, .int .i64 4, .int .i64 5, .int .i64 6, .int .i64 6, .int .i64 0, .int .i64 0, .int .u64 0, .int .i64 0, .int .i64 0, .int .u64 3] t)) (fun e w' => e = .returned (.bool true) ∧ Kept (W.alloc (.cells #[.int .i64 1, .int .i64 0, .int .i64 9, .int .i64 4, .int .i64 0, .int .i64 0, .int .u64 4, .int .i64 0, .int .i64 0, .int .u64 0, .int .i64 2, .int .i64 1, .int .i64 2, .int .i64 4, .int .i64 0, .int .i64 0, .int .u64 3, .int .i64 0, .int .i64 0, .int .u64 0, .int .i64 3, .int .i64 3, .int .i64 4, .int .i64 5, .int .i64 0, .int .i64 0, .int .u64 0, .int .i64 0, .int .i64 0, .int .u64 4, .int .i64 4, .int .i64 5, .int .i64 6, .int .i64 6, .int .i64 0, .int .i64 0, .int .u64 0, .int .i64 0, .int .i64 0, .int .u64 3] t)) w') from fun W t => orders_at (ordH (LD.out W t) rfl (by decide) 1 nD wD dD) (want := []) (.inl (.inl ⟨rfl, rfl, rfl⟩)) rfl (by decide) (.inl ⟨rfl, rfl⟩))
  have AE := Lib.hid (show ∀ (W : World) (t : TypeId) (a : Option Addr) (c : Nat), Po.Tab W → Lay W (.slice a 3 c) 3 (ints [1, 3, 2]) → Calls Tryz.prog 8 #[.int .i64 3, .int .i64 1, .slice a 3 c, .slice (some ⟨W.heap.size, 0, none⟩) 3 3] (W.alloc (.cells #[.int .i64 1, .int .i64 0, .int .i64 1, .int .i64 7, .int .i64 0, .int .i64 0, .int .u64 0, .int .i64 0, .int .i64 0, .int .u64 0, .int .i64 2, .int .i64 4, .int .i64 5, .int .i64 7, .int .i64 0, .int .i64 0, .int .u64 0, .int .i64 0, .int .i64 0, .int .u64 0, .int .i64 3, .int .i64 2, .int .i64 (-1), .int .i64 8, .int .i64 0, .int .i64 0, .int .u64 0, .int .i64 0, .int .i64 0, .int .u64 0] t)) (fun e w' => e = .returned (.bool true) ∧ Kept (W.alloc (.cells #[.int .i64 1, .int .i64 0, .int .i64 1, .int .i64 7, .int .i64 0, .int .i64 0, .int .u64 0, .int .i64 0, .int .i64 0, .int .u64 0, .int .i64 2, .int .i64 4, .int .i64 5, .int .i64 7, .int .i64 0, .int .i64 0, .int .u64 0, .int .i64 0, .int .i64 0, .int .u64 0, .int .i64 3, .int .i64 2, .int .i64 (-1), .int .i64 8, .int .i64 0, .int .i64 0, .int .u64 0, .int .i64 0, .int .i64 0, .int .u64 0] t)) w') from fun W t a c hT hw => orders_at (ordN (LE.out W t) rfl (by decide) 1 nE (hT.kept ((Kept.refl _).alloc _ _)) dE) (want := [1, 3, 2]) (hw.kept ((Kept.refl _).alloc _ _)) rfl (by decide) (.inr ⟨_, rfl, by decide, by decide⟩))
  have AE2 := Lib.hid (show ∀ (W : World) (t t1 : TypeId), Po.Tab W → Calls Tryz.prog 8 #[.int .i64 3, .int .i64 1, .slice (some ⟨W.heap.size, 0, none⟩) 3 3, .slice (some ⟨W.heap.size + 1, 0, none⟩) 3 3] ((W.alloc (.cells #[.int .i64 1, .int .i64 3, .int .i64 2] t1)).alloc (.cells #[.int .i64 1, .int .i64 0, .int .i64 1, .int .i64 7, .int .i64 0, .int .i64 0, .int .u64 0, .int .i64 0, .int .i64 0, .int .u64 0, .int .i64 2, .int .i64 4, .int .i64 5, .int .i64 7, .int .i64 0, .int .i64 0, .int .u64 0, .int .i64 0, .int .i64 0, .int .u64 0, .int .i64 3, .int .i64 2, .int .i64 (-1), .int .i64 8, .int .i64 0, .int .i64 0, .int .u64 0, .int .i64 0, .int .i64 0, .int .u64 0] t)) (fun e w' => e = .returned (.bool true) ∧ Kept ((W.alloc (.cells #[.int .i64 1, .int .i64 3, .int .i64 2] t1)).alloc (.cells #[.int .i64 1, .int .i64 0, .int .i64 1, .int .i64 7, .int .i64 0, .int .i64 0, .int .u64 0, .int .i64 0, .int .i64 0, .int .u64 0, .int .i64 2, .int .i64 4, .int .i64 5, .int .i64 7, .int .i64 0, .int .i64 0, .int .u64 0, .int .i64 0, .int .i64 0, .int .u64 0, .int .i64 3, .int .i64 2, .int .i64 (-1), .int .i64 8, .int .i64 0, .int .i64 0, .int .u64 0, .int .i64 0, .int .i64 0, .int .u64 0] t)) w') from fun W t t1 hT => by have := orders_at (ordN ((LE.out (W.alloc (.cells #[.int .i64 1, .int .i64 3, .int .i64 2] t1)) t)) rfl (by decide) 1 nE (hT.kept (((Kept.refl _).alloc _ _).alloc _ _)) dE) (want := [1, 3, 2]) ((LWW.out W t1).kept ((Kept.refl _).alloc _ _)) rfl (by decide) (.inr ⟨_, rfl, by decide, by decide⟩); rw [World.size_alloc] at this; exact this)
  have AE3 := Lib.hid (show ∀ (W : World) (t t1 : TypeId), Po.Tab W → Calls Tryz.prog 8 #[.int .i64 3, .int .i64 1, .slice (some ⟨W.heap.size + 1, 0, none⟩) 3 3, .slice (some ⟨W.heap.size, 0, none⟩) 3 3] ((W.alloc (.cells #[.int .i64 1, .int .i64 0, .int .i64 1, .int .i64 7, .int .i64 0, .int .i64 0, .int .u64 0, .int .i64 0, .int .i64 0, .int .u64 0, .int .i64 2, .int .i64 4, .int .i64 5, .int .i64 7, .int .i64 0, .int .i64 0, .int .u64 0, .int .i64 0, .int .i64 0, .int .u64 0, .int .i64 3, .int .i64 2, .int .i64 (-1), .int .i64 8, .int .i64 0, .int .i64 0, .int .u64 0, .int .i64 0, .int .i64 0, .int .u64 0] t)).alloc (.cells #[.int .i64 1, .int .i64 3, .int .i64 2] t1)) (fun e w' => e = .returned (.bool true) ∧ Kept ((W.alloc (.cells #[.int .i64 1, .int .i64 0, .int .i64 1, .int .i64 7, .int .i64 0, .int .i64 0, .int .u64 0, .int .i64 0, .int .i64 0, .int .u64 0, .int .i64 2, .int .i64 4, .int .i64 5, .int .i64 7, .int .i64 0, .int .i64 0, .int .u64 0, .int .i64 0, .int .i64 0, .int .u64 0, .int .i64 3, .int .i64 2, .int .i64 (-1), .int .i64 8, .int .i64 0, .int .i64 0, .int .u64 0, .int .i64 0, .int .i64 0, .int .u64 0] t)).alloc (.cells #[.int .i64 1, .int .i64 3, .int .i64 2] t1)) w') from fun W t t1 hT => by have := orders_at (ordN ((LE.out W t).kept ((Kept.refl _).alloc _ _)) rfl (by decide) 1 nE (hT.kept (((Kept.refl _).alloc _ _).alloc _ _)) dE) (want := [1, 3, 2]) (LWW.out (W.alloc (.cells #[.int .i64 1, .int .i64 0, .int .i64 1, .int .i64 7, .int .i64 0, .int .i64 0, .int .u64 0, .int .i64 0, .int .i64 0, .int .u64 0, .int .i64 2, .int .i64 4, .int .i64 5, .int .i64 7, .int .i64 0, .int .i64 0, .int .u64 0, .int .i64 0, .int .i64 0, .int .u64 0, .int .i64 3, .int .i64 2, .int .i64 (-1), .int .i64 8, .int .i64 0, .int .i64 0, .int .u64 0, .int .i64 0, .int .i64 0, .int .u64 0] t)) t1) rfl (by decide) (.inr ⟨_, rfl, by decide, by decide⟩); rw [World.size_alloc] at this; exact this)
  have AF := Lib.hid (show ∀ (W : World) (t : TypeId), Po.Tab W → Calls Tryz.prog 8 #[.int .i64 3, .int .i64 1, .slice none 0 0, .slice (some ⟨W.heap.size, 0, none⟩) 2 2] (W.alloc (.cells #[.int .i64 1, .int .i64 0, .int .i64 1, .int .i64 7, .int .i64 0, .int .i64 0, .int .u64 0, .int .i64 0, .int .i64 0, .int .u64 0, .int .i64 2, .int .i64 4, .int .i64 5, .int .i64 7, .int .i64 0, .int .i64 0, .int .u64 0, .int .i64 0, .int .i64 0, .int .u64 0] t)) (fun e w' => e = .returned (.bool true) ∧ Kept (W.alloc (.cells #[.int .i64 1, .int .i64 0, .int .i64 1, .int .i64 7, .int .i64 0, .int .i64 0, .int .u64 0, .int .i64 0, .int .i64 0, .int .u64 0, .int .i64 2, .int .i64 4, .int .i64 5, .int .i64 7, .int .i64 0, .int .i64 0, .int .u64 0, .int .i64 0, .int .i64 0, .int .u64 0] t)) w') from fun W t hT => orders_at (ordN (LF.out W t) rfl (by decide) 1 nF (hT.kept ((Kept.refl _).alloc _ _)) dF) (want := []) (.inl (.inl ⟨rfl, rfl, rfl⟩)) rfl (by decide) (.inl ⟨rfl, rfl⟩))
  clear nD nE nF LD LE LF
  go_upto_region 4 with fail
  obtain ⟨W2, hW2⟩ : ∃ W2, v2.alloc (.cells #[.int .i64 3, .int .i64 2, .int .i64 (-1), .int .i64 8, .int .i64 0, .int .i64 0, .int .u64 0, .int .i64 0, .int .i64 0, .int .u64 0] 29) = W2 := ⟨_, rfl⟩
  have OC := Lib.hid (show SpBox W2 v2.heap.size ⟨3, 2, -1, 8, 0, 0, 0, 0, 0, 0⟩ by rw [← hW2]; exact SpBox.at v2 ⟨3, 2, -1, 8, 0, 0, 0, 0, 0, 0⟩ _ _ rfl)
  have OB := Lib.hid (show SpBox W2 v1.heap.size ⟨4, 5, 6, 6, 0, 0, 0, 0, 0, 3⟩ by rw [← hW2]; exact (HLK.out.kept ((Kept.refl _).alloc _ _)))
  have KW := Lib.hid (show Kept w W2 by rw [← hW2]; exact Kv2.out.alloc _ _)
  rw [hW2]
  clear hW2
  obtain ⟨p0, p1, p2, p3, p4, p5, p6, p7, p8, p9⟩ := OB.out
  obtain ⟨q0, q1, q2, q3, q4, q5, q6, q7, q8, q9⟩ := OC.out
  dsimp only at p0 p1 p2 p3 p4 p5 p6 p7 p8 p9 q0 q1 q2 q3 q4 q5 q6 q7 q8 q9
  have sz1 := lt_of_cell p0
  have sz2 := lt_of_cell q0
  go_cut [4] (KnRel W2)
  case first =>
    go_upto_region 4 with fail
    have KT : Kept W2 W2.drew := (Kept.refl W2).drew
    go_region_held3 (fun w' => (w'.cell? ⟨v1.heap.size, 0, none⟩ = some (.int .i64 4) ∧ w'.cell? ⟨v1.heap.size, 1, none⟩ = some (.int .i64 5) ∧ w'.cell? ⟨v1.heap.size, 2, none⟩ = some (.int .i64 6) ∧ w'.cell? ⟨v1.heap.size, 3, none⟩ = some (.int .i64 6) ∧ w'.cell? ⟨v1.heap.size, 4, none⟩ = some (.int .i64 0) ∧ w'.cell? ⟨v1.heap.size, 5, none⟩ = some (.int .i64 0) ∧ w'.cell? ⟨v1.heap.size, 6, none⟩ = some (.int .u64 0) ∧ w'.cell? ⟨v1.heap.size, 7, none⟩ = some (.int .i64 0) ∧ w'.cell? ⟨v1.heap.size, 8, none⟩ = some (.int .i64 0) ∧ w'.cell? ⟨v1.heap.size, 9, none⟩ = some (.int .u64 3)) ∧ (w'.cell? ⟨v2.heap.size, 0, none⟩ = some (.int .i64 3) ∧ w'.cell? ⟨v2.heap.size, 1, none⟩ = some (.int .i64 2) ∧ w'.cell? ⟨v2.heap.size, 2, none⟩ = some (.int .i64 (-1)) ∧ w'.cell? ⟨v2.heap.size, 3, none⟩ = some (.int .i64 8) ∧ w'.cell? ⟨v2.heap.size, 4, none⟩ = some (.int .i64 0) ∧ w'.cell? ⟨v2.heap.size, 5, none⟩ = some (.int .i64 0) ∧ w'.cell? ⟨v2.heap.size, 6, none⟩ = some (.int .u64 0) ∧ w'.cell? ⟨v2.heap.size, 7, none⟩ = some (.int .i64 0) ∧ w'.cell? ⟨v2.heap.size, 8, none⟩ = some (.int .i64 0) ∧ w'.cell? ⟨v2.heap.size, 9, none⟩ = some (.int .u64 0)))
      (first | with_reducible exact ⟨spbox_all (OB.out.kept KT), spbox_all (OC.out.kept KT)⟩ | with_reducible exact ⟨spbox_all (OB.out.kept (KT.alloc _ _)), spbox_all (OC.out.kept (KT.alloc _ _))⟩ | with_reducible exact ⟨spbox_all (OB.out.kept ((KT.alloc _ _).alloc _ _)), spbox_all (OC.out.kept ((KT.alloc _ _).alloc _ _))⟩)
      (first
        | (go_at_call 9; refine (put_call _ _ _ _ _).mono ?_; rintro e v ⟨rfl, k⟩; have KT := KT.trans k)
        | (go_at_call 10; refine (pick_call _).mono ?_; rintro e v ⟨rfl, k⟩; have KT := KT.trans k)
        | (go_at_call 7; refine (alloc_call _ _ _ _).mono ?_; rintro e v ⟨rfl, k⟩; have KT2 : Kept W2 v := (Kept.trans (by repeat (first | with_reducible exact KT | with_reducible exact Kept.refl _ | with_reducible refine Kept.alloc ?_ _ _ | with_reducible refine Kept.drew ?_)) k); have KT := KT2; (first | (have LW := Lib.hid (LW.out.kept k)) | (have LW := Lib.hid ((LWW.out _ _).kept k)) | skip))
        | (go_at_call 8; with_reducible refine (AD.out _ _).mono ?_; rintro e v ⟨rfl, k⟩; have KT2 : Kept W2 v := (Kept.trans (by repeat (first | with_reducible exact KT | with_reducible exact Kept.refl _ | with_reducible refine Kept.alloc ?_ _ _ | with_reducible refine Kept.drew ?_)) k); have KT := KT2)
        | (go_at_call 8; with_reducible refine (AE.out _ _ _ _ (T.out.kept (KW.out.trans KT)) LW.out).mono ?_; rintro e v ⟨rfl, k⟩; have KT2 : Kept W2 v := (Kept.trans (by repeat (first | with_reducible exact KT | with_reducible exact Kept.refl _ | with_reducible refine Kept.alloc ?_ _ _ | with_reducible refine Kept.drew ?_)) k); have KT := KT2)
        | (go_at_call 8; with_reducible refine (AE2.out _ _ _ (T.out.kept (KW.out.trans KT))).mono ?_; rintro e v ⟨rfl, k⟩; have KT2 : Kept W2 v := (Kept.trans (by repeat (first | with_reducible exact KT | with_reducible exact Kept.refl _ | with_reducible refine Kept.alloc ?_ _ _ | with_reducible refine Kept.drew ?_)) k); have KT := KT2)
        | (go_at_call 8; with_reducible refine (AE3.out _ _ _ (T.out.kept (KW.out.trans KT))).mono ?_; rintro e v ⟨rfl, k⟩; have KT2 : Kept W2 v := (Kept.trans (by repeat (first | with_reducible exact KT | with_reducible exact Kept.refl _ | with_reducible refine Kept.alloc ?_ _ _ | with_reducible refine Kept.drew ?_)) k); have KT := KT2)
        | (go_at_call 8; with_reducible refine (AF.out _ _ (T.out.kept (KW.out.trans KT))).mono ?_; rintro e v ⟨rfl, k⟩; have KT2 : Kept W2 v := (Kept.trans (by repeat (first | with_reducible exact KT | with_reducible exact Kept.refl _ | with_reducible refine Kept.alloc ?_ _ _ | with_reducible refine Kept.drew ?_)) k); have KT := KT2)
        | fail)
    all_goals go_wp2
    all_goals go_meet
    all_goals exact ⟨rfl, KT⟩
  case rest =>
  obtain ⟨rfl, kc⟩ := hcut
  have KX := Lib.hid (KW.out.trans kc)
  clear kc p0 p1 p2 p3 p4 p5 p6 p7 p8 p9 q0 q1 q2 q3 q4 q5 q6 q7 q8 q9 sz1 sz2 AD AE AE2 AE3 AF OB OC HLK
  go_wp2_with fail; refine (order_err (l := []) (v := 2) (.inl (.inl ⟨rfl, rfl, rfl⟩)) rfl 4 1 (by decide) rfl).mono ?_; rintro e v3 ⟨rfl, kv3⟩
  have Kv3 := Lib.hid (KX.out.trans kv3)
  clear kv3
  go_wp2_with fail; refine (order_err (l := []) (v := 3) (.inl (.inl ⟨rfl, rfl, rfl⟩)) rfl 1 0 (by decide) rfl).mono ?_; rintro e v4 ⟨rfl, kv4⟩
  have Kv4 := Lib.hid (Kv3.out.trans kv4)
  clear kv4
  go_wp2_with fail; refine (order_err (l := List.replicate 11 z10) (v := 4) (LS11.out _) rfl 1 1 (by decide) rfl).mono ?_; rintro e v5 ⟨rfl, kv5⟩
  have Kv5 := Lib.hid ((Kv4.out.alloc _ _).trans kv5)
  clear kv5
  go_wp2_with fail; refine (order_err (l := List.replicate 2 z10) (v := 8) (LS2.out _) rfl 1 1 (by decide +kernel) rfl).mono ?_; rintro e v6 ⟨rfl, kv6⟩
  have Kv6 := Lib.hid ((Kv5.out.alloc _ _).trans kv6)
  clear kv6
  go_wp2_with fail; refine (pending_call _ _).mono ?_; rintro e v7 ⟨rfl, kv7⟩
  have Kv7 := Lib.hid (Kv6.out.trans kv7)
  clear kv7
  go_wp2_with fail; refine (pending_call _ _).mono ?_; rintro e v8 ⟨rfl, kv8⟩
  have Kv8 := Lib.hid (Kv7.out.trans kv8)
  clear kv8
  go_wp2_with fail; refine (pending_call _ _).mono ?_; rintro e v9 ⟨rfl, kv9⟩
  have Kv9 := Lib.hid (Kv8.out.trans kv9)
  clear kv9
  go_wp2_with fail; refine (order_err (l := sP) (v := 4) (lay_new (heap_alloc_new _ _) (by decide)) rfl 3 4 (by decide +kernel) rfl).mono ?_; rintro e v10 ⟨rfl, kv10⟩
  have Kv10 := Lib.hid ((Kv9.out.alloc _ _).trans kv10)
  clear kv10
  go_wp2_with fail; refine (push_call _ _ _).mono ?_; rintro e v11 ⟨rfl, kv11⟩
  have Kv11 := Lib.hid (Kv10.out.trans kv11)
  clear kv11
  go_wp2_with fail; refine (FU8.out _ _ _).mono ?_; rintro e v12 ⟨rfl, kv12⟩
  have Kv12 := Lib.hid (((Kv11.out.alloc _ _).alloc _ _).trans kv12)
  clear kv12
  go_wp2_with fail; refine (push_call _ _ _).mono ?_; rintro e v13 ⟨rfl, kv13⟩
  have Kv13 := Lib.hid (Kv12.out.trans kv13)
  clear kv13
  go_wp2_with fail; refine (FU10.out _ _ _).mono ?_; rintro e v14 ⟨rfl, kv14⟩
  have Kv14 := Lib.hid (((Kv13.out.alloc _ _).alloc _ _).trans kv14)
  clear kv14
  go_wp2_with fail; refine (awake_any _).mono ?_; rintro e v15 ⟨rfl, kv15⟩
  have Kv15 := Lib.hid (Kv14.out.trans kv15)
  clear kv15
  go_wp2
  go_ret
  exact ⟨rfl, Kv15.out⟩
end Go.Proofs.YtbfmmndpboagdaaGreatDoor
