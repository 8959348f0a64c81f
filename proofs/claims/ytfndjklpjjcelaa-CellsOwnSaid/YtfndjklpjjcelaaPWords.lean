/- The program's Words; and the program's memory as a 'Cells'. -/
import Derived.Test.YtfndjklpjjcelaaPMade
namespace Go.Proofs.Ytfndjklpjjcelaa
open Go.RowKit

set_option maxHeartbeats 2000000 in
theorem words_any (M B n : Nat) (s : St) (w : World) (hm : PMem w M B n s) : Calls Try.prog 19 #[.pointer (some ⟨M, 0, none⟩)] w (WordsPost n s w) := by
  have hp := hm.p
  have hs := hm.size
  have hn := hm.hn
  have hM := hm.lt.1
  have hB := hm.lt.2
  obtain ⟨Z, hZ, hmk⟩ := make_words n (by omega)
  have HZ := Lib.hid hZ
  have HM := Lib.hid hm
  clear hm hZ
  go_enter Try.func19, Try.ntmps19
  go_wp2_with fail
  refine (valid_yes M _ _ hp).mono ?_
  rintro e w' ⟨rfl, rfl⟩
  go_wp2_with fail
  go_loopw [18] (fun i wr => ∃ k : Nat, k ≤ n ∧ i = .int .i64 k ∧ Kept w wr ∧ w.heap.size < wr.heap.size ∧ (∀ j, wr.frozen? ⟨w.heap.size, j, none⟩ = false) ∧ (∀ j, j < k → wr.cell? ⟨w.heap.size, j, none⟩ = some (.int .u64 (s.ws j))) ∧
    (∀ j, k ≤ j → j < n → wr.cell? ⟨w.heap.size, j, none⟩ = some (.int .u64 0))) (fun i _ => n - (intOf i).toNat)
  case atStart =>
    refine ⟨0, Nat.zero_le _, rfl, ?_, by simp, fun j => by simp, fun j h => absurd h (by omega), fun j _ h => ?_⟩
    · (go_light; repeat (first | (with_reducible exact Kept.refl _) | (with_reducible assumption) | (with_reducible refine Kept.alloc ?_ _ _) | (with_reducible refine Kept.drew ?_) | (with_reducible refine Kept.drewN ?_ _) | ((with_reducible refine Kept.setCell ?_ ?_ _); rotate_left; focus (first | (simp; done) | (simp; omega))) | refine Kept.trans ?_ (by assumption)))
    · rw [cell_new _ _ _ _ _ rfl]; exact HZ.out j h
  case round =>
    obtain ⟨k, hk, rfl, kw, hz, hf, h1, h2⟩ := hrel
    have H1 := Lib.hid h1
    have H2 := Lib.hid h2
    clear h1 h2
    by_cases hlt : k < n
    · have c1 := kw.some hp
      have c2 := H2.out k (Nat.le_refl _) hlt
      obtain ⟨x, hx, hxs⟩ := HM.out.words k (by omega)
      obtain rfl := hxs hlt
      have c3 := kw.some hx
      clear hx hxs
      go_wp2_with fail
      refine (word_at B k _ _ c3).mono ?_
      rintro e w' ⟨rfl, rfl⟩
      go_wp2
      go_roundw
      case rel => exact ⟨k + 1, by omega, by go_num, kw.setCell (Nat.le_refl _) _, by simpa using hz, fun j => by rw [World.frozen?_setCell]; exact hf j, fun j h => by
        rw [cell_set]
        by_cases e : k = j
        · subst e; simp [c2]
        · rw [if_neg e]; exact H1.out j (by omega), fun j h h' => by
        rw [cell_set, if_neg (by omega)]; exact H2.out j (by omega) h'⟩
      case measure => simp [intOf]; omega
    · have e : k = n := by omega
      go_wp2
      go_ret
      exact ⟨w.heap.size, n, rfl, Nat.le_refl _, hz, fun i hi => H1.out i (by omega), hf, kw⟩

def Has (w : World) (M : Nat) (S : Nat → Prop) (n : Nat) (s : St) : Prop := ∃ B, (∀ k, S k ↔ k = M ∨ k = B) ∧ PMem w M B n s

theorem Has.op {w w' : World} {M B n : Nat} {S : Nat → Prop} {s : St} (hS : ∀ k, S k ↔ k = M ∨ k = B) (hm : PMem w' M B n s) (hb : But (fun k => k = B) w w') : Has w' M S n s ∧ But S w w' :=
  ⟨⟨B, hS, hm⟩, hb.mono (fun k _ h => (hS k).2 (Or.inr h))⟩

/-- The program's memory does what is asked. -/
def here : Cells where
  Is := Has
  frame := fun ⟨B, hS, hm⟩ hb hT => ⟨B, hS, hm.frame hb (hT _ ((hS _).2 (Or.inl rfl))) (hT _ ((hS _).2 (Or.inr rfl)))⟩
  low := fun ⟨B, hS, hm⟩ k hk => by
    rcases (hS k).1 hk with rfl | rfl
    · exact hm.lt.1
    · exact hm.lt.2
  new_no := fun n w h => (new_no_any n h w).mono fun e w' ⟨h1, h2⟩ => ⟨h1, h2 ▸ Kept.refl _⟩
  new_yes := fun n w h h' => (new_yes_any n h h' w).mono fun e w' ⟨h1, h2, h3, h4⟩ =>
    ⟨_, fun k => k = w.heap.size + 1 ∨ k = w.heap.size, h1, ⟨_, fun k => Iff.rfl, h2⟩, fun k hk => by omega, h4⟩
  load := fun M S n s at_ w ⟨B, hS, hm⟩ h0 h1 => (pLoad M B n s at_ w hm h0 h1).mono fun e w' ⟨a, b, c⟩ => ⟨a, Has.op hS b c⟩
  store := fun M S n s at_ v w ⟨B, hS, hm⟩ h0 h1 => (pStore M B n s at_ v w hm h0 h1).mono fun e w' ⟨a, b, c⟩ => ⟨a, Has.op hS b c⟩
  cas := fun M S n s at_ o v w ⟨B, hS, hm⟩ h0 h1 => (pCAS M B n s at_ o v w hm h0 h1).mono fun e w' ⟨a, b, c⟩ => ⟨a, Has.op hS b c⟩
  add := fun M S n s at_ v w ⟨B, hS, hm⟩ h0 h1 => (pAdd M B n s at_ v w hm h0 h1).mono fun e w' ⟨a, b, c⟩ => ⟨a, Has.op hS b c⟩
  words := fun M S n s w ⟨B, _, hm⟩ => words_any M B n s w hm
  last := fun M S n s w ⟨B, _, hm⟩ => last_any M B n s w hm
  count := fun M S n s w ⟨B, _, hm⟩ => (count_any M B _ w hm.p hm.cnt).mono fun e w' ⟨h1, h2⟩ => ⟨h1, h2 ▸ Kept.refl _⟩
  size := fun M S n s w ⟨B, _, hm⟩ => (size_any M B n w hm.p hm.size).mono fun e w' ⟨h1, h2⟩ => ⟨h1, h2 ▸ Kept.refl _⟩
  copy := fun M S n s w ⟨B, _, hm⟩ => (copy_any M B n s w hm).mono fun e w' ⟨h1, h2, h3, h4⟩ =>
    ⟨_, fun k => k = w.heap.size + 1 ∨ k = w.heap.size, h1, ⟨_, fun k => Iff.rfl, h2⟩, fun k hk => by omega, h4⟩
end Go.Proofs.Ytfndjklpjjcelaa
