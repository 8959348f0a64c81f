/- The program's frame with all that lies around it: a contract of each call. -/
import Derived.Test.YtdgajkimepgljaaFNew
import Derived.Test.YtdgajkimepgljaaFEnd
import Derived.Test.YtdgajkimepgljaaFDeeds
import Derived.Test.YtdgajkimepgljaaFInts
namespace Go.Proofs.Ytdgajkimepgljaa
open Go.RowKit

/-- A frame of the call's own, in the blocks S; u: the world ahead of all. -/
def One (u w : World) (F n m : Nat) (s : St) (S : Nat → Prop) : Prop := ∃ G T dv, S = MineP F G T dv ∧ PF w F G T dv u.heap.size n m s ∧ Kept u w
theorem One.lt {u w : World} {F n m : Nat} {s : St} {S : Nat → Prop} (h : One u w F n m s S) : ∀ k, S k → k < w.heap.size := by
  obtain ⟨G, T, dv, rfl, h, _⟩ := h; exact h.lt
theorem One.ge {u w : World} {F n m : Nat} {s : St} {S : Nat → Prop} (h : One u w F n m s S) : ∀ k, S k → u.heap.size ≤ k := by
  obtain ⟨G, T, dv, rfl, h, _⟩ := h; exact h.ge
theorem One.fine {u w : World} {F n m : Nat} {s : St} {S : Nat → Prop} (h : One u w F n m s S) : Fine n m s := by
  obtain ⟨G, T, dv, rfl, h, _⟩ := h; exact h.fine
theorem One.frame {u w : World} {F n m : Nat} {s : St} {S : Nat → Prop} (h : One u w F n m s S) : Kept u w := by
  obtain ⟨G, T, dv, _, _, h⟩ := h; exact h
theorem One.kept {u w w' : World} {F n m : Nat} {s : St} {S : Nat → Prop} (h : One u w F n m s S) (k : Kept w w') : One u w' F n m s S := by
  obtain ⟨G, T, dv, rfl, h, hk⟩ := h; exact ⟨G, T, dv, rfl, h.kept k, hk.trans k⟩
theorem One.but {u w w' : World} {F n m : Nat} {s : St} {S X : Nat → Prop} (h : One u w F n m s S) (k : But X w w') (hX : ∀ b, S b → ¬ X b) (hu : ∀ b, X b → u.heap.size ≤ b) : One u w' F n m s S := by
  obtain ⟨G, T, dv, rfl, h, hk⟩ := h
  exact ⟨G, T, dv, rfl, h.but k hX, ((hk.but X).trans k (fun _ _ h => h)).kept (fun b hb hx => Nat.lt_irrefl _ (Nat.lt_of_lt_of_le hb (hu b hx)))⟩
theorem One.mono {u w : World} {F n m m' : Nat} {s : St} {S : Nat → Prop} (h : One u w F n m s S) (hm : m ≤ m') : One u w F n m' s S := by
  obtain ⟨G, T, dv, e, h, hk⟩ := h; exact ⟨G, T, dv, e, h.mono hm, hk⟩

/-- What a call that changes the frame leaves. -/
def Went (u w w' : World) (F n m : Nat) (s' : St) (S : Nat → Prop) : Prop := ∃ S', One u w' F n m s' S' ∧ But S w w' ∧ ∀ k, S' k → S k ∨ w.heap.size ≤ k

theorem one_new {w : World} (n : Nat) (h1 : 1 ≤ n) (h2 : n ≤ 64) :
    Calls Try.prog 8 #[.int .i64 n] w fun e w' => ∃ F S, e = .returned (.tuple #[.pointer (some ⟨F, 0, none⟩), .int .i64 0]) ∧ Kept w w' ∧ One w w' F n 0 St.zero S ∧ ∀ k, S k → w.heap.size ≤ k :=
  (new_in n h1 h2).mono fun _ _ ⟨F, G, T, he, hk, h⟩ => ⟨F, _, he, hk, ⟨G, T, _, rfl, h, hk⟩, h.ge⟩
theorem One.begin {u w : World} {F n m : Nat} {s : St} {S : Nat → Prop} (h : One u w F n m s S) (c x : Int) :
    Calls Try.prog 10 #[.pointer (some ⟨F, 0, none⟩), .int .i64 c, .int .i64 x] w fun e w' => e = .returned (.int .i64 (bErr s n c)) ∧ Went u w w' F n (m + 1) (bSt s n c x) S := by
  obtain ⟨G, T, dv, rfl, h, hk⟩ := h
  exact (begin_any h c x).mono fun _ w' ⟨he, hb, hp⟩ => ⟨he, _, ⟨G, T, dv, rfl, hp, ((hk.but _).trans hb (fun _ _ h => h)).kept (fun b hb' hx => Nat.lt_irrefl _ (Nat.lt_of_lt_of_le hb' (h.ge b hx)))⟩, hb, fun _ h => .inl h⟩
theorem One.step {u w : World} {F n m : Nat} {s : St} {S : Nat → Prop} (h : One u w F n m s S) (hm : m ≤ 1000) (c : Int) :
    Calls Try.prog 12 #[.pointer (some ⟨F, 0, none⟩), .int .i64 c] w fun e w' => e = .returned (.int .i64 (sErr s n c)) ∧ Went u w w' F n (m + 1) (sSt s c) S := by
  obtain ⟨G, T, dv, rfl, h, hk⟩ := h
  exact (step_any h hm c).mono fun _ w' ⟨he, hb, hp⟩ => ⟨he, _, ⟨G, T, dv, rfl, hp, ((hk.but _).trans hb (fun _ _ h => h)).kept (fun b hb' hx => Nat.lt_irrefl _ (Nat.lt_of_lt_of_le hb' (h.ge b hx)))⟩, hb, fun _ h => .inl h⟩
theorem One.fin {u w : World} {F n m : Nat} {s : St} {S : Nat → Prop} (h : One u w F n m s S) (hm : m ≤ 1000) (c : Int) :
    Calls Try.prog 14 #[.pointer (some ⟨F, 0, none⟩), .int .i64 c] w fun e w' => e = .returned (.int .i64 (sErr s n c)) ∧ Went u w w' F n (m + 1) (eSt s c) S := by
  obtain ⟨G, T, dv, rfl, h, hk⟩ := h
  exact (end_any h hk.size hm c).mono fun _ w' ⟨he, hb, dv', hp, hd⟩ => ⟨he, _, ⟨G, T, dv', rfl, hp, ((hk.but _).trans hb (fun _ _ h => h)).kept (fun b hb' hx => Nat.lt_irrefl _ (Nat.lt_of_lt_of_le hb' (h.ge b hx)))⟩, hb, by
    rintro k (h | h | h | h)
    · exact .inl (.inl h)
    · exact .inl (.inr (.inl h))
    · exact .inl (.inr (.inr (.inl h)))
    · exact (hd k h).imp (fun h => .inr (.inr (.inr h))) id⟩
theorem One.what {u w : World} {F n m : Nat} {s : St} {S : Nat → Prop} (h : One u w F n m s S) (c : Int) :
    Calls Try.prog 16 #[.pointer (some ⟨F, 0, none⟩), .int .i64 c] w fun e w' => e = .returned (.tuple #[.int .i64 (s.what c), .bool (s.on c)]) ∧ Kept w w' := by
  obtain ⟨G, T, dv, rfl, h, hk⟩ := h; exact what_any h c
theorem One.steps {u w : World} {F n m : Nat} {s : St} {S : Nat → Prop} (h : One u w F n m s S) (c : Int) :
    Calls Try.prog 20 #[.pointer (some ⟨F, 0, none⟩), .int .i64 c] w fun e w' => e = .returned (.int .i64 (s.steps c)) ∧ Kept w w' := by
  obtain ⟨G, T, dv, rfl, h, hk⟩ := h; exact steps_any h c
theorem One.all {u w : World} {F n m : Nat} {s : St} {S : Nat → Prop} (h : One u w F n m s S) :
    Calls Try.prog 25 #[.pointer (some ⟨F, 0, none⟩)] w fun e w' => e = .returned (.int .i64 s.all) ∧ w' = w := by
  obtain ⟨G, T, dv, rfl, h, hk⟩ := h; exact all_any h
theorem One.busy {u w : World} {F n m : Nat} {s : St} {S : Nat → Prop} (h : One u w F n m s S) :
    Calls Try.prog 18 #[.pointer (some ⟨F, 0, none⟩)] w fun e w' => ∃ a c, e = .returned (.slice a (cores s n).length c) ∧ Kept w w' ∧ OwnI w' w.heap.size (.slice a (cores s n).length c) (cores s n) := by
  obtain ⟨G, T, dv, rfl, h, hk⟩ := h; exact busyL_held h
theorem One.turn {u w : World} {F n m : Nat} {s : St} {S : Nat → Prop} (h : One u w F n m s S) (x : Int) (h1 : -9223372036854775808 ≤ x) (h2 : x ≤ 9223372036854775807) :
    Calls Try.prog 23 #[.pointer (some ⟨F, 0, none⟩), .int .i64 x] w fun e w' => e = .returned (.int .i64 (turnOf s n x)) ∧ Kept w w' := by
  obtain ⟨G, T, dv, rfl, h, hk⟩ := h; exact turn_any h x h1 h2
theorem One.deeds {u w : World} {F n m : Nat} {s : St} {S : Nat → Prop} (h : One u w F n m s S) (hm : m ≤ 1000) :
    Calls Try.prog 19 #[.pointer (some ⟨F, 0, none⟩)] w fun e w' => ∃ a c, e = .returned (.slice a s.D.length c) ∧ Kept w w' ∧ OwnD w' w.heap.size (.slice a s.D.length c) s.D := by
  obtain ⟨G, T, dv, rfl, h, hk⟩ := h; exact deeds_any h hm
theorem cores_len {u w : World} {F n m : Nat} {s : St} {S : Nat → Prop} (h : One u w F n m s S) : (cores s n).length ≤ 64 := cores_length h.fine
end Go.Proofs.Ytdgajkimepgljaa
