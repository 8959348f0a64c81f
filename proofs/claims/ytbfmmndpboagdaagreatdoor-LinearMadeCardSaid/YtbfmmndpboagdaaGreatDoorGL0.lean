/- The search for an order of calls, as lists: which calls may be next, which states are possible behind them, which order is the first. Nothing of the program. -/
namespace Go.Proofs.YtbfmmndpboagdaaGreatDoor

structure Sp where
  id : Int
  from_ : Int
  to : Int
  k : Int
  x : Int
  y : Int
  u : Int
  er : Int
  n : Int
  v : Int
def pend (s : Sp) : Bool := decide (s.to < 0)
def ahd (s t : Sp) : Bool := decide (0 ≤ s.to) && decide (s.to < t.from_)

def allAt (l : List Sp) (p : Nat → Sp → Bool) : Bool := (List.range l.length).all fun j => (l[j]?).all (p j)
theorem allAt_iff {l : List Sp} {p : Nat → Sp → Bool} : allAt l p = true ↔ ∀ j s, l[j]? = some s → p j s = true := by
  unfold allAt
  rw [List.all_eq_true]
  constructor
  · intro h j s hs
    have := h j (List.mem_range.2 (List.getElem?_eq_some_iff.1 hs).1)
    rw [hs] at this
    simpa using this
  · intro h j _
    cases hs : l[j]? with
    | none => rfl
    | some s => simpa using h j s hs
def rdy (l : List Sp) (D i : Nat) : Bool := !D.testBit i && (l[i]?).elim false (fun c => allAt l fun j s => j == i || !ahd s c || D.testBit j)
def full (l : List Sp) (D : Nat) : Bool := allAt l fun j s => pend s || D.testBit j
def addNew {σ : Type} [DecidableEq σ] (acc : List σ) (x : σ) : List σ := if x ∈ acc then acc else acc ++ [x]

theorem mem_addNew {σ : Type} [DecidableEq σ] {acc : List σ} {x y : σ} : y ∈ addNew acc x ↔ y ∈ acc ∨ y = x := by
  unfold addNew
  split
  · constructor
    · exact .inl
    · rintro (h | rfl) <;> assumption
  · simp
theorem mem_adds {σ : Type} [DecidableEq σ] : ∀ {l acc : List σ} {y : σ}, y ∈ l.foldl addNew acc ↔ y ∈ acc ∨ y ∈ l := by
  intro l
  induction l with
  | nil => simp
  | cons x l ih =>
    intro acc y
    rw [List.foldl_cons, ih, mem_addNew, List.mem_cons, or_assoc]
theorem nodup_adds {σ : Type} [DecidableEq σ] : ∀ {l acc : List σ}, acc.Nodup → (l.foldl addNew acc).Nodup := by
  intro l
  induction l with
  | nil => exact fun h => h
  | cons x l ih =>
    intro acc h
    rw [List.foldl_cons]
    refine ih ?_
    unfold addNew
    split
    · exact h
    · rename_i hx
      refine List.nodup_append.2 ⟨h, by simp, fun a ha b hb => ?_⟩
      simp at hb
      subst hb
      intro e
      subst e
      exact hx ha

section
variable {σ : Type} [DecidableEq σ] (next : σ → Sp → List σ) (l : List Sp)

def aftM (D : Nat) (S : List σ) (i : Nat) : List σ := if rdy l D i = true then (l[i]?).elim [] (fun c => (S.flatMap fun x => next x c).foldl addNew []) else []
theorem mem_aft {D : Nat} {S : List σ} {i : Nat} {y : σ} : y ∈ aftM next l D S i ↔ rdy l D i = true ∧ ∃ c, l[i]? = some c ∧ ∃ x ∈ S, y ∈ next x c := by
  unfold aftM
  split
  · rename_i h
    cases hc : l[i]? with
    | none => simp
    | some c => simp [mem_adds, h]
  · rename_i h
    simp [h]
theorem aft_nodup {D : Nat} {S : List σ} {i : Nat} : (aftM next l D S i).Nodup := by
  unfold aftM
  split
  · cases l[i]? with
    | none => exact List.nodup_nil
    | some c => exact nodup_adds List.nodup_nil
  · exact List.nodup_nil

def firstOf {α : Type} (f : Nat → Option α) : Nat → Nat → Option α
  | 0, _ => none
  | m + 1, i => match f i with | some x => some x | none => firstOf f m (i + 1)
theorem firstOf_none {α : Type} {f : Nat → Option α} : ∀ {m i : Nat}, firstOf f m i = none ↔ ∀ j, i ≤ j → j < i + m → f j = none := by
  intro m
  induction m with
  | zero => intro i; simp [firstOf]; intro j h1 h2; omega
  | succ m ih =>
    intro i
    unfold firstOf
    cases h : f i with
    | some x =>
      simp only [reduceCtorEq, false_iff]
      intro H
      have := H i (Nat.le_refl _) (by omega)
      rw [h] at this
      cases this
    | none =>
      simp only [ih]
      constructor
      · intro H j h1 h2
        by_cases e : j = i
        · subst e; exact h
        · exact H j (by omega) (by omega)
      · intro H j h1 h2; exact H j (by omega) (by omega)
theorem firstOf_some {α : Type} {f : Nat → Option α} {x : α} : ∀ {m i : Nat}, firstOf f m i = some x → ∃ j, i ≤ j ∧ j < i + m ∧ f j = some x := by
  intro m
  induction m with
  | zero => intro i h; cases h
  | succ m ih =>
    intro i h
    unfold firstOf at h
    cases hf : f i with
    | some y => rw [hf] at h; exact ⟨i, Nat.le_refl _, by omega, by rw [hf]; exact h⟩
    | none =>
      rw [hf] at h
      obtain ⟨j, h1, h2, h3⟩ := ih h
      exact ⟨j, by omega, by omega, h3⟩
theorem firstOf_congr {α : Type} {f g : Nat → Option α} : ∀ {m i : Nat}, (∀ j, i ≤ j → j < i + m → f j = g j) → firstOf f m i = firstOf g m i := by
  intro m
  induction m with
  | zero => intro i _; rfl
  | succ m ih =>
    intro i h
    unfold firstOf
    rw [h i (Nat.le_refl _) (by omega), ih fun j h1 h2 => h j (by omega) (by omega)]

def dfs : Nat → Nat → List σ → Option (List Nat)
  | 0, D, S => if full l D = true then (if S.isEmpty then none else some []) else none
  | f + 1, D, S => if full l D = true then (if S.isEmpty then none else some []) else firstOf (fun i => (dfs f (D ||| 2 ^ i) (aftM next l D S i)).map (i :: ·)) l.length 0

theorem dfs_full {f D : Nat} {S : List σ} (h : full l D = true) : dfs next l f D S = if S.isEmpty then none else some [] := by
  cases f <;> simp [dfs, h]
theorem dfs_step {f D : Nat} {S : List σ} (h : full l D = false) : dfs next l (f + 1) D S = firstOf (fun i => (dfs next l f (D ||| 2 ^ i) (aftM next l D S i)).map (i :: ·)) l.length 0 := by
  simp [dfs, h]
theorem dfs_step_none {f D : Nat} {S : List σ} (h : full l D = false) : dfs next l (f + 1) D S = none ↔ ∀ i, i < l.length → dfs next l f (D ||| 2 ^ i) (aftM next l D S i) = none := by
  rw [dfs_step next l h, firstOf_none]
  simp
theorem dfs_none : ∀ {f D : Nat} {S : List σ}, dfs next l f D S = none ↔ ∀ x ∈ S, dfs next l f D [x] = none := by
  intro f
  induction f with
  | zero =>
    intro D S
    unfold dfs
    by_cases h : full l D = true
    · simp only [h, if_true]
      cases S with
      | nil => simp
      | cons x S =>
        simp only [List.isEmpty_cons, Bool.false_eq_true, if_false, reduceCtorEq, false_iff]
        intro H
        have := H x (List.mem_cons_self ..)
        simp at this
    · simp [h]
  | succ f ih =>
    intro D S
    by_cases h : full l D = true
    · rw [dfs_full next l h]
      cases S with
      | nil => simp
      | cons x S =>
        simp only [List.isEmpty_cons, Bool.false_eq_true, if_false, reduceCtorEq, false_iff]
        intro H
        have := H x (List.mem_cons_self ..)
        rw [dfs_full next l h] at this
        simp at this
    · have h' : full l D = false := by simpa using h
      rw [dfs_step_none next l h']
      constructor
      · intro H x hx
        rw [dfs_step_none next l h']
        intro i hi
        rw [ih]
        intro y hy
        refine (ih.1 (H i hi)) y ?_
        rw [mem_aft] at hy ⊢
        obtain ⟨h1, c, h2, x', hx', h3⟩ := hy
        rw [List.mem_singleton] at hx'
        subst hx'
        exact ⟨h1, c, h2, _, hx, h3⟩
      · intro H i hi
        rw [ih]
        intro y hy
        rw [mem_aft] at hy
        obtain ⟨h1, c, h2, x, hx, h3⟩ := hy
        refine (ih.1 ((dfs_step_none next l h').1 (H x hx) i hi)) y ?_
        rw [mem_aft]
        exact ⟨h1, c, h2, x, List.mem_singleton_self _, h3⟩
theorem dfs_same : ∀ {f D : Nat} {S T : List σ}, (∀ x ∈ S, x ∈ T ∨ dfs next l f D [x] = none) → (∀ x ∈ T, x ∈ S ∨ dfs next l f D [x] = none) → dfs next l f D S = dfs next l f D T := by
  intro f
  induction f with
  | zero =>
    intro D S T h1 h2
    by_cases h : full l D = true
    · have H : ∀ x : σ, dfs next l 0 D [x] ≠ none := fun x => by rw [dfs_full next l h]; simp
      rw [dfs_full next l h, dfs_full next l h]
      cases S with
      | nil =>
        cases T with
        | nil => rfl
        | cons y T => rcases h2 y (List.mem_cons_self ..) with h | h; · cases h
                      · exact absurd h (H y)
      | cons x S =>
        cases T with
        | nil => rcases h1 x (List.mem_cons_self ..) with h | h; · cases h
                 · exact absurd h (H x)
        | cons y T => rfl
    · unfold dfs; simp [h]
  | succ f ih =>
    intro D S T h1 h2
    by_cases h : full l D = true
    · have H : ∀ x : σ, dfs next l (f + 1) D [x] ≠ none := fun x => by rw [dfs_full next l h]; simp
      rw [dfs_full next l h, dfs_full next l h]
      cases S with
      | nil =>
        cases T with
        | nil => rfl
        | cons y T => rcases h2 y (List.mem_cons_self ..) with h | h; · cases h
                      · exact absurd h (H y)
      | cons x S =>
        cases T with
        | nil => rcases h1 x (List.mem_cons_self ..) with h | h; · cases h
                 · exact absurd h (H x)
        | cons y T => rfl
    · have h' : full l D = false := by simpa using h
      rw [dfs_step next l h', dfs_step next l h']
      have half : ∀ {S T : List σ}, (∀ x ∈ S, x ∈ T ∨ dfs next l (f + 1) D [x] = none) → ∀ j, j < l.length → ∀ y ∈ aftM next l D S j, y ∈ aftM next l D T j ∨ dfs next l f (D ||| 2 ^ j) [y] = none := by
        intro S T hs j hj y hy
        rw [mem_aft] at hy
        obtain ⟨g1, c, g2, x, hx, g3⟩ := hy
        rcases hs x hx with hT | hn
        · exact .inl ((mem_aft next l).2 ⟨g1, c, g2, x, hT, g3⟩)
        · refine .inr ((dfs_none next l).1 ((dfs_step_none next l h').1 hn j hj) y ?_)
          rw [mem_aft]
          exact ⟨g1, c, g2, x, List.mem_singleton_self _, g3⟩
      refine firstOf_congr fun j _ hj => ?_
      rw [ih (half h1 j (by omega)) (half h2 j (by omega))]

def runM (D : Nat) (S : List σ) : List Nat → Nat × List σ
  | [] => (D, S)
  | i :: o => runM (D ||| 2 ^ i) (aftM next l D S i) o
def fitsM (S : List σ) (o : List Nat) : Bool := !(runM next l 0 S o).2.isEmpty && full l (runM next l 0 S o).1
theorem aft_nil {D i : Nat} : aftM next l D [] i = [] := by
  cases h : aftM next l D [] i with
  | nil => rfl
  | cons y t =>
    have := (mem_aft next l (D := D) (S := []) (i := i) (y := y)).1 (by rw [h]; exact List.mem_cons_self ..)
    obtain ⟨_, c, _, x, hx, _⟩ := this
    cases hx
theorem run_nil {o : List Nat} : ∀ {D : Nat}, (runM next l D [] o).2 = [] := by
  induction o with
  | nil => intro D; rfl
  | cons i o ih => intro D; rw [runM, aft_nil]; exact ih
theorem dfs_sound : ∀ {f D : Nat} {S : List σ} {o : List Nat}, dfs next l f D S = some o → (runM next l D S o).2 ≠ [] ∧ full l (runM next l D S o).1 = true := by
  intro f
  induction f with
  | zero =>
    intro D S o h
    by_cases hf : full l D = true
    · rw [dfs_full next l hf] at h
      cases S with
      | nil => simp at h
      | cons x S => simp at h; subst h; exact ⟨by simp [runM], hf⟩
    · simp [dfs, hf] at h
  | succ f ih =>
    intro D S o h
    by_cases hf : full l D = true
    · rw [dfs_full next l hf] at h
      cases S with
      | nil => simp at h
      | cons x S => simp at h; subst h; exact ⟨by simp [runM], hf⟩
    · rw [dfs_step next l (by simpa using hf)] at h
      obtain ⟨j, _, _, hj⟩ := firstOf_some h
      obtain ⟨o', ho', rfl⟩ := Option.map_eq_some_iff.1 hj
      rw [runM]
      exact ih ho'
def leftN (n D : Nat) : Nat := (List.range n).countP fun i => !D.testBit i
theorem countP_lt {α : Type} {p q : α → Bool} {a : α} : ∀ {t : List α}, (∀ x ∈ t, p x = true → q x = true) → a ∈ t → q a = true → p a = false → t.countP p < t.countP q := by
  intro t
  induction t with
  | nil => intro _ h; cases h
  | cons x t ih =>
    intro h1 h2 h3 h4
    have hle : t.countP p ≤ t.countP q := List.countP_mono_left fun y hy => h1 y (List.mem_cons_of_mem _ hy)
    rw [List.countP_cons, List.countP_cons]
    rcases List.mem_cons.1 h2 with rfl | h
    · rw [h3, h4]; simp; omega
    · have := ih (fun y hy => h1 y (List.mem_cons_of_mem _ hy)) h h3 h4
      cases hp : p x with
      | false => simp; cases q x <;> simp <;> omega
      | true => rw [h1 x (List.mem_cons_self ..) hp]; simp; omega
theorem bit_or {D i j : Nat} : (D ||| 2 ^ i).testBit j = (D.testBit j || decide (i = j)) := by
  rw [Nat.testBit_or, Nat.testBit_two_pow]
theorem left_lt {n D i : Nat} (hi : i < n) (h : D.testBit i = false) : leftN n (D ||| 2 ^ i) < leftN n D := by
  unfold leftN
  refine countP_lt (a := i) (fun x _ hx => ?_) (List.mem_range.2 hi) (by simp [h]) (by simp)
  rw [bit_or] at hx
  simp at hx
  simp [hx.1]
theorem left_full {D : Nat} (h : leftN l.length D = 0) : full l D = true := by
  unfold full
  rw [allAt_iff]
  intro j s hs
  have hj := (List.getElem?_eq_some_iff.1 hs).1
  have := List.countP_eq_zero.1 h j (List.mem_range.2 hj)
  simp at this
  simp [this]
theorem rdy_parts {D i : Nat} (h : rdy l D i = true) : D.testBit i = false ∧ ∃ c, l[i]? = some c ∧ ∀ j s, l[j]? = some s → j ≠ i → ahd s c = true → D.testBit j = true := by
  unfold rdy at h
  rw [Bool.and_eq_true] at h
  refine ⟨by simpa using h.1, ?_⟩
  cases hc : l[i]? with
  | none => rw [hc] at h; simp at h
  | some c =>
    rw [hc] at h
    refine ⟨c, rfl, fun j s hs hj ha => ?_⟩
    have := (allAt_iff.1 h.2) j s hs
    simp [hj, ha] at this
    exact this
theorem rdy_of {D i : Nat} {c : Sp} (h1 : D.testBit i = false) (h2 : l[i]? = some c) (h3 : ∀ j s, l[j]? = some s → j ≠ i → ahd s c = true → D.testBit j = true) : rdy l D i = true := by
  unfold rdy
  rw [h1, h2]
  simp only [Bool.not_false, Bool.true_and, Option.elim_some]
  rw [allAt_iff]
  intro j s hs
  by_cases e : j = i
  · simp [e]
  · cases ha : ahd s c with
    | false => simp
    | true => simp [h3 j s hs e ha]
theorem aft_mem_lt {D : Nat} {S : List σ} {i : Nat} (h : aftM next l D S i ≠ []) : rdy l D i = true ∧ i < l.length ∧ S ≠ [] := by
  obtain ⟨y, hy⟩ := List.exists_mem_of_ne_nil _ h
  rw [mem_aft] at hy
  obtain ⟨h1, c, h2, x, hx, _⟩ := hy
  exact ⟨h1, (List.getElem?_eq_some_iff.1 h2).1, List.ne_nil_of_mem hx⟩
theorem run_ne {o : List Nat} : ∀ {D : Nat} {S : List σ}, (runM next l D S o).2 ≠ [] → S ≠ [] := by
  intro D S h e
  subst e
  exact h (run_nil next l)
theorem dfs_complete : ∀ {f D : Nat} {S : List σ} {o : List Nat}, leftN l.length D ≤ f → (runM next l D S o).2 ≠ [] → full l (runM next l D S o).1 = true → dfs next l f D S ≠ none := by
  intro f
  induction f with
  | zero =>
    intro D S o hf h1 h2
    have hS := run_ne next l h1
    rw [dfs_full next l (left_full l (by omega))]
    cases S with
    | nil => exact absurd rfl hS
    | cons x S => simp
  | succ f ih =>
    intro D S o hf h1 h2
    have hS := run_ne next l h1
    by_cases hfu : full l D = true
    · rw [dfs_full next l hfu]
      cases S with
      | nil => exact absurd rfl hS
      | cons x S => simp
    · rw [Ne, dfs_step_none next l (by simpa using hfu)]
      cases o with
      | nil => exact absurd h2 hfu
      | cons i o =>
        intro H
        rw [runM] at h1 h2
        obtain ⟨g1, g2, _⟩ := aft_mem_lt next l (run_ne next l h1)
        have := left_lt g2 (rdy_parts l g1).1
        exact ih (by omega) h1 h2 (H i g2)

theorem run_done : ∀ {o : List Nat} {D : Nat} {S : List σ}, ∀ j, (runM next l D S o).1.testBit j = (D.testBit j || decide (j ∈ o)) := by
  intro o
  induction o with
  | nil => intro D S j; simp [runM]
  | cons i o ih =>
    intro D S j
    rw [runM, ih, bit_or]
    by_cases e : i = j
    · subst e; simp
    · have e' : ¬ j = i := fun h => e h.symm
      simp [e, e']
theorem run_rdy : ∀ {o : List Nat} {D : Nat} {S : List σ}, (runM next l D S o).2 ≠ [] → o.Nodup ∧ (∀ i ∈ o, D.testBit i = false ∧ i < l.length) ∧
    ∀ p i, o[p]? = some i → ∃ c, l[i]? = some c ∧ ∀ j s, l[j]? = some s → j ≠ i → ahd s c = true → D.testBit j = true ∨ j ∈ o.take p := by
  intro o
  induction o with
  | nil => intro D S _; simp
  | cons i o ih =>
    intro D S h
    rw [runM] at h
    obtain ⟨g1, g2, _⟩ := aft_mem_lt next l (run_ne next l h)
    obtain ⟨r1, c, r2, r3⟩ := rdy_parts l g1
    obtain ⟨q1, q2, q3⟩ := ih h
    refine ⟨List.nodup_cons.2 ⟨fun hi => ?_, q1⟩, fun x hx => ?_, fun p x hx => ?_⟩
    · have := (q2 i hi).1
      rw [bit_or] at this
      simp at this
    · rcases List.mem_cons.1 hx with rfl | hx
      · exact ⟨r1, g2⟩
      · have := q2 x hx
        rw [bit_or] at this
        simp at this
        exact ⟨this.1.1, this.2⟩
    · cases p with
      | zero =>
        simp at hx
        subst hx
        exact ⟨c, r2, fun j s hs hj ha => .inl (r3 j s hs hj ha)⟩
      | succ p =>
        obtain ⟨c', h1, h2⟩ := q3 p x (by simpa using hx)
        refine ⟨c', h1, fun j s hs hj ha => ?_⟩
        rcases h2 j s hs hj ha with hb | hm
        · rw [bit_or] at hb
          simp at hb
          rcases hb with hb | rfl
          · exact .inl hb
          · exact .inr (by simp)
        · exact .inr (by rw [List.take_succ_cons]; exact List.mem_cons_of_mem _ hm)
end
end Go.Proofs.YtbfmmndpboagdaaGreatDoor
