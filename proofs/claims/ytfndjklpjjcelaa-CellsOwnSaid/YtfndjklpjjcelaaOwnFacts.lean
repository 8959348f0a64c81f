/- What an access does to a memory, as CellsOwn asks it; and 'fits'. -/
import Derived.Test.YtfndjklpjjcelaaCopies
import Derived.Test.YtfndjklpjjcelaaPWords
namespace Go.Proofs.Ytfndjklpjjcelaa
open Go.RowKit

structure Acted (n : Nat) (s s' : St) (a0 a1 told : Int) : Prop where
  cnt : s'.cnt = s.cnt + 1
  kind : s'.kind = a0
  at_ : s'.at_ = a1
  out : ¬ (0 ≤ a1 ∧ a1 < n) → s'.held = false ∧ s'.old = 0 ∧ s'.new = 0 ∧ told = 0
  old : 0 ≤ a1 → a1 < n → s'.old = s.ws a1.toNat ∧ s'.new = s'.ws a1.toNat
  other : ∀ k, s'.ws k ≠ s.ws k → (k : Int) = a1 ∧ s'.held = true

theorem acc_acted (n : Nat) (s : St) (kind a1 : Int) (wr : Bool) (v told : Int) (ht : ¬ (0 ≤ a1 ∧ a1 < n) → told = 0) : Acted n s (acc n s kind a1 wr v) kind a1 told := by
  unfold acc
  by_cases h : 0 ≤ a1 ∧ a1 < n
  · rw [if_pos h]
    cases wr with
    | false => exact ⟨rfl, rfl, rfl, fun h' => absurd h h', fun _ _ => ⟨rfl, rfl⟩, fun k hk => absurd rfl hk⟩
    | true =>
      refine ⟨rfl, rfl, rfl, fun h' => absurd h h', fun _ _ => ⟨rfl, ?_⟩, fun k hk => ⟨?_, rfl⟩⟩
      · simp
      · by_cases e : k = a1.toNat
        · omega
        · exact absurd (by simp [e]) hk
  · rw [if_neg h]
    exact ⟨rfl, rfl, rfl, fun _ => ⟨rfl, rfl, rfl, ht h⟩, fun a b => absurd ⟨a, b⟩ h, fun k hk => absurd rfl hk⟩
theorem acc_out_new {n : Nat} {s : St} {kind a1 : Int} {wr : Bool} {v : Int} (h : ¬ (0 ≤ a1 ∧ a1 < n)) : (acc n s kind a1 wr v).new = 0 ∧ (acc n s kind a1 wr v).held = false := by
  unfold acc; rw [if_neg h]; exact ⟨rfl, rfl⟩

theorem acted (n : Nat) (s : St) (a0 a1 a2 a3 : Int) (h : 1 ≤ a0) (h' : a0 ≤ 4) : Acted n s (doesSt n s a0 a1 a2 a3) a0 a1 (doesVal n s a0 a1 a2 a3) := by
  rcases (show a0 = 1 ∨ a0 = 2 ∨ a0 = 3 ∨ a0 = 4 by omega) with rfl | rfl | rfl | rfl
  · exact acc_acted n s 1 a1 false 0 _ (fun h => (acc_out_new h).1)
  · exact acc_acted n s 2 a1 true a2 _ (fun h => rfl)
  · exact acc_acted n s 3 a1 (wordAt n s a1 == a2) a3 _ (fun h => by
      have e := (acc_out_new (kind := 3) (wr := wordAt n s a1 == a2) (v := a3) (s := s) h).2
      show (bif (acc n s 3 a1 (wordAt n s a1 == a2) a3).held then 1 else 0) = (0 : Int)
      rw [e]; rfl)
  · exact acc_acted n s 4 a1 true (IntKind.u64.wrap (wordAt n s a1 + a2)) _ (fun h => (acc_out_new h).1)

theorem bad_kind (n : Nat) (s : St) (a0 a1 a2 a3 : Int) (h : a0 < 1 ∨ 4 < a0) : doesSt n s a0 a1 a2 a3 = s := by
  unfold doesSt
  rw [if_neg (by omega), if_neg (by omega), if_neg (by omega), if_neg (by omega)]

/-- What 'fits' asks. -/
def Fit (a0 a2 a3 old new : Int) (held : Bool) (told : Int) : Prop :=
  (a0 = 1 ∧ held = false ∧ new = old ∧ told = old) ∨ (a0 = 2 ∧ held = true ∧ new = a2) ∨ (a0 = 3 ∧ held = true ∧ old = a2 ∧ new = a3 ∧ told = 1) ∨
  (a0 = 3 ∧ held = false ∧ old ≠ a2 ∧ new = old ∧ told = 0) ∨ (a0 = 4 ∧ held = true ∧ new = IntKind.u64.wrap (old + a2) ∧ told = new)

theorem fitted (n : Nat) (s : St) (a0 a2 a3 : Int) (a : Nat) (ha : a < n) (h : 1 ≤ a0) (h' : a0 ≤ 4) :
    Fit a0 a2 a3 (doesSt n s a0 a a2 a3).old (doesSt n s a0 a a2 a3).new (doesSt n s a0 a a2 a3).held (doesVal n s a0 a a2 a3) := by
  rcases (show a0 = 1 ∨ a0 = 2 ∨ a0 = 3 ∨ a0 = 4 by omega) with rfl | rfl | rfl | rfl
  · refine .inl ⟨rfl, ?_, ?_, ?_⟩
    · show (acc n s 1 a false 0).held = false; rw [acc_read ha]
    · show (acc n s 1 a false 0).new = (acc n s 1 a false 0).old; rw [acc_read ha]
    · show (acc n s 1 a false 0).new = (acc n s 1 a false 0).old; rw [acc_read ha]
  · refine .inr (.inl ⟨rfl, ?_, ?_⟩)
    · show (acc n s 2 a true a2).held = true; rw [acc_write ha]
    · show (acc n s 2 a true a2).new = a2; rw [acc_write ha]
  · have e0 : doesSt n s 3 a a2 a3 = acc n s 3 a (s.ws a == a2) a3 := by
      show acc n s 3 a (wordAt n s a == a2) a3 = _; rw [wordAt_in ha]
    have e1 : doesVal n s 3 a a2 a3 = (bif (acc n s 3 a (s.ws a == a2) a3).held then 1 else 0) := by
      show (bif (acc n s 3 a (wordAt n s a == a2) a3).held then 1 else 0) = _; rw [wordAt_in ha]
    rw [e0, e1]
    by_cases hq : s.ws a = a2
    · rw [show (s.ws a == a2) = true by simp [hq], acc_write ha]
      exact .inr (.inr (.inl ⟨rfl, rfl, hq, rfl, rfl⟩))
    · rw [show (s.ws a == a2) = false by simp [hq], acc_read ha]
      exact .inr (.inr (.inr (.inl ⟨rfl, rfl, hq, rfl, rfl⟩)))
  · have e0 : doesSt n s 4 a a2 a3 = acc n s 4 a true (IntKind.u64.wrap (s.ws a + a2)) := by
      show acc n s 4 a true (IntKind.u64.wrap (wordAt n s a + a2)) = _; rw [wordAt_in ha]
    have e1 : doesVal n s 4 a a2 a3 = (acc n s 4 a true (IntKind.u64.wrap (s.ws a + a2))).new := by
      show (acc n s 4 a true (IntKind.u64.wrap (wordAt n s a + a2))).new = _; rw [wordAt_in ha]
    rw [e0, e1, acc_write ha]
    exact .inr (.inr (.inr (.inr ⟨rfl, rfl, rfl, rfl⟩)))

set_option maxHeartbeats 2000000 in
set_option maxRecDepth 100000 in
theorem fits_yes (a0 a1 a2 a3 x0 x1 old new told : Int) (held : Bool) (w : World) (hf : Fit a0 a2 a3 old new held told) :
    Calls Try.prog 29 #[.agg #[.int .i64 a0, .int .i64 a1, .int .u64 a2, .int .u64 a3], .agg #[.int .i64 x0, .int .i64 x1, .int .u64 old, .int .u64 new, .bool held], .int .u64 told] w fun e w' => e = .returned (.bool true) ∧ Kept w w' := by
  rcases hf with ⟨rfl, rfl, rfl, rfl⟩ | ⟨rfl, rfl, rfl⟩ | ⟨rfl, rfl, rfl, rfl, rfl⟩ | ⟨rfl, rfl, hne, rfl, rfl⟩ | ⟨rfl, rfl, rfl, rfl⟩
  · go_enter Try.func29, Try.ntmps29
    go_wp2
    go_ret
    exact ⟨rfl, by (go_light; repeat (first | (with_reducible exact Kept.refl _) | (with_reducible assumption) | (with_reducible refine Kept.alloc ?_ _ _) | (with_reducible refine Kept.drew ?_) | (with_reducible refine Kept.drewN ?_ _) | ((with_reducible refine Kept.setCell ?_ ?_ _); rotate_left; focus (first | (simp; done) | (simp; omega))) | refine Kept.trans ?_ (by assumption)))⟩
  · go_enter Try.func29, Try.ntmps29
    go_wp2
    go_ret
    exact ⟨rfl, by (go_light; repeat (first | (with_reducible exact Kept.refl _) | (with_reducible assumption) | (with_reducible refine Kept.alloc ?_ _ _) | (with_reducible refine Kept.drew ?_) | (with_reducible refine Kept.drewN ?_ _) | ((with_reducible refine Kept.setCell ?_ ?_ _); rotate_left; focus (first | (simp; done) | (simp; omega))) | refine Kept.trans ?_ (by assumption)))⟩
  · go_enter Try.func29, Try.ntmps29
    go_wp2
    go_ret
    exact ⟨rfl, by (go_light; repeat (first | (with_reducible exact Kept.refl _) | (with_reducible assumption) | (with_reducible refine Kept.alloc ?_ _ _) | (with_reducible refine Kept.drew ?_) | (with_reducible refine Kept.drewN ?_ _) | ((with_reducible refine Kept.setCell ?_ ?_ _); rotate_left; focus (first | (simp; done) | (simp; omega))) | refine Kept.trans ?_ (by assumption)))⟩
  · have hne1 : (new == a2) = false := by simp [hne]
    clear hne
    go_enter Try.func29, Try.ntmps29
    go_wp2
    go_ret
    exact ⟨rfl, by (go_light; repeat (first | (with_reducible exact Kept.refl _) | (with_reducible assumption) | (with_reducible refine Kept.alloc ?_ _ _) | (with_reducible refine Kept.drew ?_) | (with_reducible refine Kept.drewN ?_ _) | ((with_reducible refine Kept.setCell ?_ ?_ _); rotate_left; focus (first | (simp; done) | (simp; omega))) | refine Kept.trans ?_ (by assumption)))⟩
  · go_enter Try.func29, Try.ntmps29
    go_wp2
    go_ret
    exact ⟨rfl, by (go_light; repeat (first | (with_reducible exact Kept.refl _) | (with_reducible assumption) | (with_reducible refine Kept.alloc ?_ _ _) | (with_reducible refine Kept.drew ?_) | (with_reducible refine Kept.drewN ?_ _) | ((with_reducible refine Kept.setCell ?_ ?_ _); rotate_left; focus (first | (simp; done) | (simp; omega))) | refine Kept.trans ?_ (by assumption)))⟩
end Go.Proofs.Ytfndjklpjjcelaa
