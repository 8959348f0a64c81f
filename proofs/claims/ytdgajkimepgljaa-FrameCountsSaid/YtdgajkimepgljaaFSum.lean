/- All steps: those of the deeds, and those of the busy cores. Nothing of the program. -/
import Derived.Test.YtdgajkimepgljaaFMod
namespace Go.Proofs.Ytdgajkimepgljaa

def dsum (l : List Dd) : Int := (l.map fun d => d.2.2).sum
def csum (s : St) (k : Nat) : Int := ((List.range k).map fun (i : Nat) => s.steps i).sum
theorem sum_snoc (l : List Int) (x : Int) : (l ++ [x]).sum = l.sum + x := by
  induction l with
  | nil => simp
  | cons y l ih => simp [ih]; omega
theorem dsum_snoc (l : List Dd) (d : Dd) : dsum (l ++ [d]) = dsum l + d.2.2 := by
  unfold dsum; rw [List.map_append]; exact sum_snoc _ _
theorem csum_succ (s : St) (k : Nat) : csum s (k + 1) = csum s k + s.steps k := by
  unfold csum; rw [List.range_succ, List.map_append]; exact sum_snoc _ _
theorem dsum_take (l : List Dd) (k : Nat) (d : Dd) (h : l[k]? = some d) : dsum (l.take (k + 1)) = dsum (l.take k) + d.2.2 := by
  rw [List.take_add_one, h]
  exact dsum_snoc _ _

structure Sums (n : Nat) (s : St) : Prop where
  sum : dsum s.D + csum s n = s.all
  pos : ∀ d ∈ s.D, 0 ≤ d.2.2

theorem csum_put_far (s : St) (i : Nat) (o : Bool) (x k : Int) (D : List Dd) (all : Int) : ∀ j, j ≤ i → csum (s.put i o x k D all) j = csum s j := by
  intro j
  induction j with
  | zero => intro _; rfl
  | succ j ih =>
    intro h
    have e : ¬ ((j : Int) = i) := by omega
    rw [csum_succ, csum_succ, ih (by omega)]
    simp [St.put, e]
theorem csum_put (s : St) (i : Nat) (o : Bool) (x k : Int) (D : List Dd) (all : Int) : ∀ j, i < j → csum (s.put i o x k D all) j = csum s j - s.steps i + k := by
  intro j
  induction j with
  | zero => intro h; omega
  | succ j ih =>
    intro h
    rw [csum_succ, csum_succ]
    by_cases e : i = j
    · subst e
      rw [csum_put_far s i o x k D all i (Nat.le_refl _)]
      have e2 : (s.put i o x k D all).steps i = k := by simp [St.put]
      omega
    · have e' : ¬ ((j : Int) = i) := by omega
      rw [ih (by omega)]
      simp [St.put, e']
      omega

theorem Sums.zero (n : Nat) : Sums n St.zero := by
  refine ⟨?_, fun d h => by cases h⟩
  have : ∀ k, csum St.zero k = 0 := by
    intro k
    induction k with
    | zero => rfl
    | succ k ih => rw [csum_succ, ih]; rfl
  rw [this]; rfl
theorem Sums.bSt {n m : Nat} {s : St} (h : Sums n s) (hf : Fine n m s) (c : Nat) (hc : c < n) (x : Int) : Sums n (bSt s n c x) := by
  unfold Proofs.Ytdgajkimepgljaa.bSt
  split
  · rename_i hh
    have hz := (hf.off c hh.2.2).2
    refine ⟨?_, h.pos⟩
    have := h.sum
    unfold St.begin
    rw [csum_put _ _ _ _ _ _ _ _ hc]
    simp only [St.put]
    omega
  · exact h
theorem Sums.sSt {n : Nat} {s : St} (h : Sums n s) (c : Nat) (hc : c < n) : Sums n (sSt s c) := by
  unfold Proofs.Ytdgajkimepgljaa.sSt
  split
  · refine ⟨?_, h.pos⟩
    have := h.sum
    unfold St.step
    rw [csum_put _ _ _ _ _ _ _ _ hc]
    simp only [St.put]
    omega
  · exact h
theorem Sums.eSt {n m : Nat} {s : St} (h : Sums n s) (hf : Fine n m s) (c : Nat) (hc : c < n) : Sums n (eSt s c) := by
  unfold Proofs.Ytdgajkimepgljaa.eSt
  split
  · refine ⟨?_, ?_⟩
    · have := h.sum
      unfold St.fin
      rw [csum_put _ _ _ _ _ _ _ _ hc]
      simp only [St.put]
      rw [dsum_snoc]
      dsimp only
      omega
    · intro d hd
      unfold St.fin at hd
      simp only [St.put, List.mem_append, List.mem_singleton] at hd
      rcases hd with hd | rfl
      · exact h.pos d hd
      · exact hf.st0 c
  · exact h

/-- Partial sums lie between 0 and all. -/
theorem csum_pos {n m : Nat} {s : St} (hf : Fine n m s) : ∀ k, 0 ≤ csum s k := by
  intro k
  induction k with
  | zero => exact Int.le_refl _
  | succ k ih => rw [csum_succ]; have := hf.st0 k; omega
theorem csum_mono {n m : Nat} {s : St} (hf : Fine n m s) (k : Nat) : ∀ j, csum s k ≤ csum s (k + j) := by
  intro j
  induction j with
  | zero => exact Int.le_refl _
  | succ j ih => rw [← Nat.add_assoc, csum_succ]; have := hf.st0 ((k + j : Nat) : Int); omega
theorem dsum_pos (l : List Dd) (h : ∀ d ∈ l, 0 ≤ d.2.2) : 0 ≤ dsum l := by
  induction l with
  | nil => exact Int.le_refl _
  | cons d l ih =>
    have h1 := h d (by simp)
    have h2 := ih fun e he => h e (by simp [he])
    unfold dsum at *
    simp only [List.map_cons, List.sum_cons]
    omega
theorem dsum_split (l : List Dd) (k : Nat) : dsum l = dsum (l.take k) + dsum (l.drop k) := by
  have e : l = l.take k ++ l.drop k := (List.take_append_drop k l).symm
  have : ∀ a b : List Dd, dsum (a ++ b) = dsum a + dsum b := by
    intro a b
    induction a with
    | nil => simp [dsum]
    | cons x a ih => unfold dsum at *; simp only [List.cons_append, List.map_cons, List.sum_cons, ih]; omega
  rw [← this, ← e]
theorem Sums.part {n m : Nat} {s : St} (h : Sums n s) (hf : Fine n m s) (k : Nat) : 0 ≤ dsum (s.D.take k) ∧ dsum (s.D.take k) ≤ s.all := by
  have h1 := dsum_pos (s.D.take k) fun d hd => h.pos d (List.mem_of_mem_take hd)
  have h2 := dsum_pos (s.D.drop k) fun d hd => h.pos d (List.mem_of_mem_drop hd)
  have h3 := dsum_split s.D k
  have h4 := h.sum
  have h5 := csum_pos hf n
  omega
theorem Sums.mid {n m : Nat} {s : St} (h : Sums n s) (hf : Fine n m s) (k : Nat) (hk : k ≤ n) : 0 ≤ dsum s.D + csum s k ∧ dsum s.D + csum s k ≤ s.all := by
  have h1 := dsum_pos s.D h.pos
  have h2 := csum_pos hf k
  have h3 := csum_mono hf k (n - k)
  rw [show k + (n - k) = n by omega] at h3
  have h4 := h.sum
  omega
end Go.Proofs.Ytdgajkimepgljaa
