/- 'does', over the model. -/
import Derived.Test.YtfndjklpjjcelaaKnown
namespace Go.Proofs.Ytfndjklpjjcelaa
open Go.RowKit

def doesSt (n : Nat) (s : St) (a0 a1 a2 a3 : Int) : St :=
  if a0 = 1 then acc n s 1 a1 false 0
  else if a0 = 2 then acc n s 2 a1 true a2
  else if a0 = 3 then acc n s 3 a1 (wordAt n s a1 == a2) a3
  else if a0 = 4 then acc n s 4 a1 true (IntKind.u64.wrap (wordAt n s a1 + a2))
  else s
def doesVal (n : Nat) (s : St) (a0 a1 a2 a3 : Int) : Int :=
  if a0 = 1 then (acc n s 1 a1 false 0).new
  else if a0 = 3 then (bif (acc n s 3 a1 (wordAt n s a1 == a2) a3).held then 1 else 0)
  else if a0 = 4 then (acc n s 4 a1 true (IntKind.u64.wrap (wordAt n s a1 + a2))).new
  else 0

def DoesPost (C : Cells) (M : Nat) (S : Nat → Prop) (n : Nat) (s : St) (a0 a1 a2 a3 : Int) (w : World) (e : Ending) (w' : World) : Prop :=
  e = .returned (.int .u64 (doesVal n s a0 a1 a2 a3)) ∧ C.Is w' M S n (doesSt n s a0 a1 a2 a3) ∧ But S w w'

set_option maxHeartbeats 2000000 in
theorem does_any (C : Cells) (M : Nat) (S : Nat → Prop) (n : Nat) (s : St) (a0 a1 a2 a3 : Int) (w : World) (hi : C.Is w M S n s) (hs0 : 0 ≤ s.cnt) (hs1 : s.cnt ≤ 1000000) :
    Calls Try.prog 28 #[.pointer (some ⟨M, 0, none⟩), .agg #[.int .i64 a0, .int .i64 a1, .int .u64 a2, .int .u64 a3]] w (DoesPost C M S n s a0 a1 a2 a3 w) := by
  have HX : Hid (∀ x : Array Value, ∀ t, C.Is (w.alloc (.cells x t)) M S n s) := Lib.hid (fun x t => C.frame hi (((Kept.refl w).alloc x t).but (fun _ => False)) (fun _ _ h => h))
  have NS : Hid (¬ S w.heap.size) := Lib.hid (fun h => by have := C.low hi _ h; omega)
  have HI := Lib.hid hi
  clear hi
  by_cases q1 : a0 = 1
  · subst q1
    go_enter Try.func28, Try.ntmps28
    go_wp2_with fail
    refine (C.load M S n s a1 _ (HX.out _ _) hs0 hs1).mono ?_
    rintro e w1 ⟨rfl, h1, b1⟩
    have H1 := Lib.hid h1
    clear h1
    go_wp2
    go_ret
    exact ⟨rfl, H1.out, (((Kept.refl w).alloc _ _).but S).trans b1 (fun _ _ h => h)⟩
  by_cases q2 : a0 = 2
  · subst q2
    clear q1
    go_enter Try.func28, Try.ntmps28
    go_wp2_with fail
    refine (C.store M S n s a1 a2 _ (HX.out _ _) hs0 hs1).mono ?_
    rintro e w1 ⟨rfl, h1, b1⟩
    have H1 := Lib.hid h1
    clear h1
    go_wp2
    go_ret
    exact ⟨rfl, H1.out, (((Kept.refl w).alloc _ _).but S).trans b1 (fun _ _ h => h)⟩
  by_cases q3 : a0 = 3
  · subst q3
    clear q1 q2
    have e1 : ∀ b, (acc n s 3 a1 (wordAt n s a1 == a2) a3).held = b → doesVal n s 3 a1 a2 a3 = bif b then 1 else 0 := fun b h => by unfold doesVal; rw [if_neg (by decide), if_pos rfl, h]
    have E1 := Lib.hid e1
    clear e1
    cases hh : (acc n s 3 a1 (wordAt n s a1 == a2) a3).held
    all_goals
      have EH := Lib.hid hh
      clear hh
      go_enter Try.func28, Try.ntmps28
      go_wp2_with fail
      refine (C.cas M S n s a1 a2 a3 _ (HX.out _ _) hs0 hs1).mono ?_
      rintro e w1 ⟨rfl, h1, b1⟩
      have H1 := Lib.hid h1
      clear h1
      rw [EH.out]
      go_wp2
      go_ret
      exact ⟨by rw [E1.out _ EH.out]; rfl, H1.out, (((Kept.refl w).alloc _ _).but S).trans b1 (fun _ _ h => h)⟩
  by_cases q4 : a0 = 4
  · subst q4
    clear q1 q2 q3
    go_enter Try.func28, Try.ntmps28
    go_wp2_with fail
    refine (C.add M S n s a1 a2 _ (HX.out _ _) hs0 hs1).mono ?_
    rintro e w1 ⟨rfl, h1, b1⟩
    have H1 := Lib.hid h1
    clear h1
    go_wp2
    go_ret
    exact ⟨rfl, H1.out, (((Kept.refl w).alloc _ _).but S).trans b1 (fun _ _ h => h)⟩
  · have x1 : (a0 == 1) = false := by simp [q1]
    have x2 : (a0 == 2) = false := by simp [q2]
    have x3 : (a0 == 3) = false := by simp [q3]
    have x4 : (a0 == 4) = false := by simp [q4]
    have EV : Hid (doesVal n s a0 a1 a2 a3 = 0 ∧ doesSt n s a0 a1 a2 a3 = s) := Lib.hid ⟨by unfold doesVal; rw [if_neg q1, if_neg q3, if_neg q4], by unfold doesSt; rw [if_neg q1, if_neg q2, if_neg q3, if_neg q4]⟩
    clear q1 q2 q3 q4
    go_enter Try.func28, Try.ntmps28
    go_wp2
    go_ret
    exact ⟨by rw [EV.out.1]; rfl, by rw [EV.out.2]; exact HX.out _ _, ((Kept.refl w).alloc _ _).but S⟩
end Go.Proofs.Ytfndjklpjjcelaa
