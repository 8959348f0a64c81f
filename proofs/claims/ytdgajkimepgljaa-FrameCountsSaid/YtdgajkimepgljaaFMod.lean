/- A frame as the document says it: which cores are busy, within what, with how many steps; the deeds; all steps. Nothing of the program. -/
import Derived.WalkKit
namespace Go.Proofs.Ytdgajkimepgljaa

abbrev Dd := Int × Int × Int
structure St where
  on : Int → Bool
  what : Int → Int
  steps : Int → Int
  D : List Dd
  all : Int

def St.put (s : St) (i : Int) (o : Bool) (x k : Int) (D : List Dd) (all : Int) : St :=
  ⟨fun j => if j = i then o else s.on j, fun j => if j = i then x else s.what j, fun j => if j = i then k else s.steps j, D, all⟩
def St.begin (s : St) (i x : Int) : St := s.put i true x 0 s.D s.all
def St.step (s : St) (i : Int) : St := s.put i true (s.what i) (s.steps i + 1) s.D (s.all + 1)
def St.fin (s : St) (i : Int) : St := s.put i false 0 0 (s.D ++ [(i, s.what i, s.steps i)]) s.all
def St.zero : St := ⟨fun _ => false, fun _ => 0, fun _ => 0, [], 0⟩

/-- What calls answer, and what is so behind them. -/
def bErr (s : St) (n : Nat) (c : Int) : Int := if 0 ≤ c ∧ c < n then (if s.on c then 14 else 0) else 3
def sErr (s : St) (n : Nat) (c : Int) : Int := if 0 ≤ c ∧ c < n then (if s.on c then 0 else 15) else 3
def bSt (s : St) (n : Nat) (c x : Int) : St := if 0 ≤ c ∧ c < n ∧ s.on c = false then s.begin c x else s
def sSt (s : St) (c : Int) : St := if s.on c then s.step c else s
def eSt (s : St) (c : Int) : St := if s.on c then s.fin c else s

structure Fine (n m : Nat) (s : St) : Prop where
  n1 : 1 ≤ n
  n64 : n ≤ 64
  inn : ∀ i, s.on i = true → 0 ≤ i ∧ i < n
  off : ∀ i, s.on i = false → s.what i = 0 ∧ s.steps i = 0
  st0 : ∀ i, 0 ≤ s.steps i
  stm : ∀ i, s.steps i ≤ s.all
  am : s.all ≤ m
  dm : s.D.length ≤ m

theorem Fine.zero (n : Nat) (h1 : 1 ≤ n) (h2 : n ≤ 64) : Fine n 0 St.zero :=
  ⟨h1, h2, fun i h => (Bool.false_ne_true h).elim, fun i _ => ⟨rfl, rfl⟩, fun i => Int.le_refl _, fun i => Int.le_refl _, Int.le_refl _, Nat.le_refl _⟩
theorem Fine.mono {n m m' : Nat} {s : St} (h : Fine n m s) (hm : m ≤ m') : Fine n m' s :=
  ⟨h.n1, h.n64, h.inn, h.off, h.st0, h.stm, by have := h.am; omega, by have := h.dm; omega⟩
theorem Fine.all0 {n m : Nat} {s : St} (h : Fine n m s) : 0 ≤ s.all := Int.le_trans (h.st0 0) (h.stm 0)

theorem Fine.begin {n m : Nat} {s : St} (h : Fine n m s) (i x : Int) (h0 : 0 ≤ i) (h1 : i < n) : Fine n (m + 1) (s.begin i x) := by
  have ha := h.all0
  have hm := h.am
  have hd := h.dm
  refine ⟨h.n1, h.n64, fun j hj => ?_, fun j hj => ?_, fun j => ?_, fun j => ?_, ?_, ?_⟩
  · by_cases e : j = i
    · subst e; exact ⟨h0, h1⟩
    · exact h.inn j (by simpa [St.begin, St.put, e] using hj)
  · by_cases e : j = i
    · subst e; simp [St.begin, St.put] at hj
    · have := h.off j (by simpa [St.begin, St.put, e] using hj)
      simpa [St.begin, St.put, e] using this
  · by_cases e : j = i
    · subst e; simp [St.begin, St.put]
    · simpa [St.begin, St.put, e] using h.st0 j
  · by_cases e : j = i
    · subst e; simpa [St.begin, St.put] using ha
    · simpa [St.begin, St.put, e] using h.stm j
  · simp only [St.begin, St.put]; omega
  · simp only [St.begin, St.put]; omega

theorem Fine.step {n m : Nat} {s : St} (h : Fine n m s) (i : Int) (ho : s.on i = true) : Fine n (m + 1) (s.step i) := by
  have ha := h.all0
  have hm := h.am
  have hd := h.dm
  have hi := h.inn i ho
  refine ⟨h.n1, h.n64, fun j hj => ?_, fun j hj => ?_, fun j => ?_, fun j => ?_, ?_, ?_⟩
  · by_cases e : j = i
    · subst e; exact hi
    · exact h.inn j (by simpa [St.step, St.put, e] using hj)
  · by_cases e : j = i
    · subst e; simp [St.step, St.put] at hj
    · have := h.off j (by simpa [St.step, St.put, e] using hj)
      simpa [St.step, St.put, e] using this
  · have h1 := h.st0 i
    have h2 := h.st0 j
    by_cases e : j = i
    · subst e; simp [St.step, St.put]; omega
    · simpa [St.step, St.put, e] using h2
  · have h1 := h.stm i
    have h2 := h.stm j
    by_cases e : j = i
    · subst e; simp [St.step, St.put]; omega
    · simp [St.step, St.put, e]; omega
  · simp only [St.step, St.put]; omega
  · simp only [St.step, St.put]; omega

theorem Fine.fin {n m : Nat} {s : St} (h : Fine n m s) (i : Int) : Fine n (m + 1) (s.fin i) := by
  have ha := h.all0
  have hm := h.am
  have hd := h.dm
  refine ⟨h.n1, h.n64, fun j hj => ?_, fun j hj => ?_, fun j => ?_, fun j => ?_, ?_, ?_⟩
  · by_cases e : j = i
    · subst e; simp [St.fin, St.put] at hj
    · exact h.inn j (by simpa [St.fin, St.put, e] using hj)
  · by_cases e : j = i
    · subst e; simp [St.fin, St.put]
    · have := h.off j (by simpa [St.fin, St.put, e] using hj)
      simpa [St.fin, St.put, e] using this
  · by_cases e : j = i
    · subst e; simp [St.fin, St.put]
    · simpa [St.fin, St.put, e] using h.st0 j
  · by_cases e : j = i
    · subst e; simpa [St.fin, St.put] using ha
    · simpa [St.fin, St.put, e] using h.stm j
  · simp only [St.fin, St.put]; omega
  · simp only [St.fin, St.put, List.length_append, List.length_singleton]; omega

theorem Fine.bSt {n m : Nat} {s : St} (h : Fine n m s) (c x : Int) : Fine n (m + 1) (bSt s n c x) := by
  unfold Proofs.Ytdgajkimepgljaa.bSt
  split
  · rename_i hc; exact h.begin c x hc.1 hc.2.1
  · exact h.mono (Nat.le_succ _)
theorem Fine.sSt {n m : Nat} {s : St} (h : Fine n m s) (c : Int) : Fine n (m + 1) (sSt s c) := by
  unfold Proofs.Ytdgajkimepgljaa.sSt
  split
  · rename_i hc; exact h.step c hc
  · exact h.mono (Nat.le_succ _)
theorem Fine.eSt {n m : Nat} {s : St} (h : Fine n m s) (c : Int) : Fine n (m + 1) (eSt s c) := by
  unfold Proofs.Ytdgajkimepgljaa.eSt
  split
  · exact h.fin c
  · exact h.mono (Nat.le_succ _)

/-! ### the busy cores, as a list -/
def ent (s : St) (i : Nat) : Dd := ((i : Int), s.what i, s.steps i)
/-- The busy ones of the k cores from lo on. -/
def ents (s : St) (lo k : Nat) : List Dd := ((List.range' lo k).filter fun (i : Nat) => s.on (i : Int)).map (ent s)
def Lf (s : St) (n : Nat) : List Dd := ents s 0 n
def cores (s : St) (n : Nat) : List Int := (Lf s n).map (·.1)

theorem ents_add (s : St) (lo a b : Nat) : ents s lo (a + b) = ents s lo a ++ ents s (lo + a) b := by
  unfold ents
  rw [← List.range'_append_1 (s := lo) (m := a) (n := b), List.filter_append, List.map_append]
theorem ents_one (s : St) (i : Nat) : ents s i 1 = if s.on i then [ent s i] else [] := by
  unfold ents
  simp [List.range'_one, List.filter_cons]
  split <;> simp
theorem ents_snoc (s : St) (k : Nat) : ents s 0 (k + 1) = ents s 0 k ++ (if s.on k then [ent s k] else []) := by
  rw [ents_add, Nat.zero_add, ents_one]
theorem Lf_split (s : St) (n i : Nat) (h : i < n) : Lf s n = ents s 0 i ++ ((if s.on i then [ent s i] else []) ++ ents s (i + 1) (n - i - 1)) := by
  have e : n = i + (1 + (n - i - 1)) := by omega
  have h1 := ents_add s 0 i (1 + (n - i - 1))
  have h2 := ents_add s i 1 (n - i - 1)
  rw [Nat.zero_add] at h1
  rw [← e] at h1
  unfold Lf
  rw [h1, h2, ents_one]
theorem ents_same (s t : St) (lo k : Nat) (h : ∀ j : Nat, lo ≤ j → j < lo + k → t.on j = s.on j ∧ t.what j = s.what j ∧ t.steps j = s.steps j) : ents t lo k = ents s lo k := by
  unfold ents
  have e : (List.range' lo k).filter (fun (i : Nat) => t.on (i : Int)) = (List.range' lo k).filter (fun (i : Nat) => s.on (i : Int)) := by
    apply List.filter_congr
    intro j hj
    rw [List.mem_range'_1] at hj
    rw [(h j hj.1 hj.2).1]
  rw [e]
  apply List.map_congr_left
  intro j hj
  have hj := (List.mem_filter.1 hj).1
  rw [List.mem_range'_1] at hj
  unfold ent
  rw [(h j hj.1 hj.2).2.1, (h j hj.1 hj.2).2.2]
theorem ents_mem (s : St) (lo k : Nat) (d : Dd) (h : d ∈ ents s lo k) : ∃ j : Nat, lo ≤ j ∧ j < lo + k ∧ s.on j = true ∧ d = ent s j := by
  unfold ents at h
  obtain ⟨j, hj, rfl⟩ := List.mem_map.1 h
  obtain ⟨h1, h2⟩ := List.mem_filter.1 hj
  rw [List.mem_range'_1] at h1
  exact ⟨j, h1.1, h1.2, h2, rfl⟩
theorem ents_length (s : St) (lo k : Nat) : (ents s lo k).length ≤ k := by
  unfold ents
  rw [List.length_map]
  have h := List.length_filter_le (fun i : Nat => s.on (i : Int)) (List.range' lo k)
  simpa using h
theorem put_same (s : St) (i : Nat) (o : Bool) (x k : Int) (D : List Dd) (all : Int) (lo c : Nat) (h : i < lo ∨ lo + c ≤ i) : ents (s.put i o x k D all) lo c = ents s lo c := by
  apply ents_same
  intro j h1 h2
  have e : ¬ ((j : Int) = i) := by omega
  simp [St.put, e]
theorem Lf_put (s : St) (n i : Nat) (h : i < n) (o : Bool) (x k : Int) (D : List Dd) (all : Int) :
    Lf (s.put i o x k D all) n = ents s 0 i ++ ((if o then [((i : Int), x, k)] else []) ++ ents s (i + 1) (n - i - 1)) := by
  rw [Lf_split _ n i h, put_same _ _ _ _ _ _ _ _ _ (.inr (by omega)), put_same _ _ _ _ _ _ _ _ _ (.inl (by omega))]
  simp [St.put, ent]
end Go.Proofs.Ytdgajkimepgljaa
