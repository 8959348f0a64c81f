/- The model of a set: which lists may be, where a key stands, what may be answered, and what a set is behind it. Nothing of the program. -/
namespace Go.Proofs.Yteomggjkdaddhaa

structure It where
  k : Int
  a : Int
deriving DecidableEq
structure Opn where
  k : Int
  a : Int
  b : Int
  u : Int
structure Ann where
  e : Int
  n : Int
  v : Int
deriving DecidableEq
def noAnn : Ann := ⟨0, 0, 0⟩

/-- Are the keys strictly ascending? -/
def asc : List It → Bool
  | [] => true
  | [_] => true
  | x :: y :: l => decide (x.k < y.k) && asc (y :: l)
def chk (l : List It) : Int := if 1024 < l.length then 7 else if asc l = true then 0 else 9
/-- Where the first item is whose key is not less; is it the same? -/
def pl (key : Int) : List It → Nat
  | [] => 0
  | x :: l => if x.k < key then pl key l + 1 else 0
def hs (key : Int) (l : List It) : Bool := (l[pl key l]?).elim false (fun x => decide (x.k = key))
def least (n : Int) (l : List It) : List It := l.take n.toNat
def ins (x : It) (l : List It) : List It := l.take (pl x.k l) ++ x :: l.drop (pl x.k l)
/-- What may be answered, and what is behind it. -/
def outs (l : List It) (o : Opn) : List (Ann × List It) :=
  if chk l = 0 then
    if o.k = 4 then (if hs o.u l = true then [(⟨7, 0, 0⟩, l), (⟨12, 0, 0⟩, l), (⟨8, 0, 0⟩, l)] else if l.length < 1024 then [(⟨7, 0, 0⟩, l), (⟨12, 0, 0⟩, l), (⟨0, 0, 0⟩, ins ⟨o.u, o.a⟩ l)] else [(⟨7, 0, 0⟩, l), (⟨12, 0, 0⟩, l)])
    else if o.k = 5 then (match l with | [] => [(⟨15, 0, 0⟩, [])] | x :: r => [(⟨0, x.a, x.k⟩, r)])
    else if o.k = 6 then (match l with | [] => [(⟨15, 0, 0⟩, [])] | x :: r => [(⟨0, x.a, x.k⟩, x :: r)])
    else []
  else []
def refd (x : Ann) : Bool := decide (x.e = 7) || decide (x.e = 12)
def nextS (l : List It) (o : Opn) (a : Ann) : Option (List It) := ((outs l o).find? (fun p => decide (p.1 = a))).map (·.2)
def tellS (l : List It) (o : Opn) : Option Ann := ((outs l o).find? (fun p => !refd p.1)).map (·.1)

/-! ### ascending -/
theorem asc_iff (l : List It) : asc l = true ↔ ∀ i x y, l[i]? = some x → l[i + 1]? = some y → x.k < y.k := by
  induction l with
  | nil => simp [asc]
  | cons x l ih =>
    cases l with
    | nil => simp [asc]
    | cons y l =>
      constructor
      · intro h i a b ha hb
        simp only [asc, Bool.and_eq_true, decide_eq_true_eq] at h
        cases i with
        | zero => simp at ha hb; subst ha; subst hb; exact h.1
        | succ i => exact ih.1 h.2 i a b (by simpa using ha) (by simpa using hb)
      · intro h
        simp only [asc, Bool.and_eq_true, decide_eq_true_eq]
        exact ⟨h 0 x y rfl rfl, ih.2 fun i a b ha hb => h (i + 1) a b (by simpa using ha) (by simpa using hb)⟩
theorem asc_tail {x : It} {l : List It} (h : asc (x :: l) = true) : asc l = true := by
  rw [asc_iff] at h ⊢
  exact fun i a b ha hb => h (i + 1) a b (by simpa using ha) (by simpa using hb)
theorem asc_no {l : List It} {i : Nat} {x y : It} (hx : l[i]? = some x) (hy : l[i + 1]? = some y) (h : ¬ x.k < y.k) : asc l = false := by
  cases ha : asc l with
  | false => rfl
  | true => exact absurd ((asc_iff l).1 ha i x y hx hy) h
/-- All pairs, not only neighbours. -/
theorem asc_lt {l : List It} (h : asc l = true) : ∀ {i j : Nat} {x y : It}, l[i]? = some x → l[j]? = some y → i < j → x.k < y.k := by
  rw [asc_iff] at h
  intro i j
  induction j with
  | zero => intro x y _ _ hij; omega
  | succ j ih =>
    intro x y hx hy hij
    have hj : j < l.length := by have := (List.getElem?_eq_some_iff.1 hy).1; omega
    have hz : l[j]? = some l[j] := List.getElem?_eq_getElem hj
    have h1 := h j _ _ hz hy
    by_cases e : i = j
    · subst e
      rw [hx] at hz
      cases hz
      exact h1
    · have := ih hx hz (by omega)
      omega
theorem chk_zero {l : List It} (h : chk l = 0) : l.length ≤ 1024 ∧ asc l = true := by
  unfold chk at h
  split at h
  · cases h
  · split at h
    · exact ⟨by omega, by assumption⟩
    · cases h
theorem chk_of {l : List It} (h1 : l.length ≤ 1024) (h2 : asc l = true) : chk l = 0 := by
  unfold chk; rw [if_neg (by omega), if_pos h2]

/-! ### where a key stands -/
theorem pl_le (key : Int) (l : List It) : pl key l ≤ l.length := by
  induction l with
  | nil => exact Nat.le_refl _
  | cons x l ih => unfold pl; split <;> simp <;> omega
theorem pl_before (key : Int) (l : List It) : ∀ i x, i < pl key l → l[i]? = some x → x.k < key := by
  induction l with
  | nil => intro i x h; simp [pl] at h
  | cons y l ih =>
    intro i x hi hx
    unfold pl at hi
    split at hi
    · cases i with
      | zero => simp at hx; subst hx; assumption
      | succ i => exact ih i x (by omega) (by simpa using hx)
    · omega
theorem pl_at (key : Int) (l : List It) : ∀ x, l[pl key l]? = some x → ¬ x.k < key := by
  induction l with
  | nil => intro x h; simp at h
  | cons y l ih =>
    intro x hx
    unfold pl at hx
    split at hx
    · exact ih x (by simpa using hx)
    · simp at hx; subst hx; assumption
theorem pl_eq {key : Int} {l : List It} {f : Nat} (h1 : ∀ i x, i < f → l[i]? = some x → x.k < key) (h2 : ∀ x, l[f]? = some x → ¬ x.k < key) (h3 : f ≤ l.length) : pl key l = f := by
  rcases Nat.lt_trichotomy (pl key l) f with h | h | h
  · have hz : l[pl key l]? = some (l[pl key l]'(by omega)) := List.getElem?_eq_getElem (by omega)
    exact absurd (h1 _ _ h hz) (pl_at key l _ hz)
  · exact h
  · have := pl_le key l
    have hz : l[f]? = some (l[f]'(by omega)) := List.getElem?_eq_getElem (by omega)
    exact absurd (pl_before key l _ _ h hz) (h2 _ hz)
theorem hs_some {key : Int} {l : List It} {x : It} (h : l[pl key l]? = some x) : hs key l = decide (x.k = key) := by unfold hs; rw [h]; rfl
theorem hs_none {key : Int} {l : List It} (h : pl key l = l.length) : hs key l = false := by unfold hs; rw [h, List.getElem?_eq_none (Nat.le_refl _)]; rfl
theorem hs_end {key : Int} {l : List It} (h : l[pl key l]? = none) : hs key l = false := by unfold hs; rw [h]; rfl

/-! ### one item more -/
theorem ins_length (x : It) (l : List It) : (ins x l).length = l.length + 1 := by
  unfold ins
  rw [List.length_append, List.length_take, List.length_cons, List.length_drop]
  have := pl_le x.k l
  omega
theorem ins_lo {x : It} {l : List It} {i : Nat} (h : i < pl x.k l) : (ins x l)[i]? = l[i]? := by
  have := pl_le x.k l
  unfold ins
  rw [List.getElem?_append_left (by rw [List.length_take]; omega), List.getElem?_take_of_lt h]
theorem ins_at (x : It) (l : List It) : (ins x l)[pl x.k l]? = some x := by
  have := pl_le x.k l
  unfold ins
  rw [List.getElem?_append_right (by rw [List.length_take]; omega), List.length_take]
  simp [Nat.min_eq_left this]
theorem ins_hi {x : It} {l : List It} {i : Nat} (h : pl x.k l ≤ i) : (ins x l)[i + 1]? = l[i]? := by
  have := pl_le x.k l
  unfold ins
  rw [List.getElem?_append_right (by rw [List.length_take]; omega), List.length_take, Nat.min_eq_left this, show i + 1 - pl x.k l = (i - pl x.k l) + 1 by omega, List.getElem?_cons_succ, List.getElem?_drop]
  congr 1
  omega
theorem ins_pl (x : It) (l : List It) : pl x.k (ins x l) = pl x.k l :=
  pl_eq (fun i y hi hy => pl_before x.k l i y hi (by rw [← ins_lo hi]; exact hy)) (fun y hy => by rw [ins_at] at hy; cases hy; omega) (by rw [ins_length]; have := pl_le x.k l; omega)
theorem ins_hs (x : It) (l : List It) : hs x.k (ins x l) = true := by
  rw [hs_some (x := x) (by rw [ins_pl]; exact ins_at x l)]; simp
theorem ins_out (x : It) (l : List It) : (ins x l).take (pl x.k l) ++ (ins x l).drop (pl x.k l + 1) = l := by
  have h := pl_le x.k l
  have e1 : (l.take (pl x.k l)).length = pl x.k l := by rw [List.length_take]; omega
  have h1 : (ins x l).take (pl x.k l) = l.take (pl x.k l) := by
    unfold ins
    rw [List.take_append_of_le_length (by omega), List.take_of_length_le (by omega)]
  have h2 : (ins x l).drop (pl x.k l + 1) = l.drop (pl x.k l) := by
    unfold ins
    rw [List.drop_append, e1, List.drop_eq_nil_of_le (by omega), show pl x.k l + 1 - pl x.k l = 1 by omega]
    simp
  rw [h1, h2, List.take_append_drop]
theorem ins_asc {x : It} {l : List It} (h : asc l = true) (hn : hs x.k l = false) : asc (ins x l) = true := by
  rw [asc_iff]
  intro i a b ha hb
  have hp := pl_le x.k l
  rcases Nat.lt_trichotomy (i + 1) (pl x.k l) with h1 | h1 | h1
  · rw [ins_lo (by omega)] at ha
    rw [ins_lo h1] at hb
    exact (asc_iff l).1 h i a b ha hb
  · rw [ins_lo (by omega)] at ha
    rw [h1, ins_at] at hb
    cases hb
    exact pl_before x.k l i a (by omega) ha
  · rw [ins_hi (by omega)] at hb
    by_cases e : i = pl x.k l
    · rw [e, ins_at] at ha
      cases ha
      rw [e] at hb
      have h2 := pl_at x.k l b hb
      rw [hs_some hb] at hn
      have h3 : ¬ b.k = x.k := by simpa using hn
      omega
    · obtain ⟨j, rfl⟩ : ∃ j, i = j + 1 := ⟨i - 1, by omega⟩
      rw [ins_hi (by omega)] at ha
      exact (asc_iff l).1 h j a b ha hb

/-! ### what may be answered -/
section
variable {l : List It} {o : Opn} {a : Ann}
theorem outs_bad (h : chk l ≠ 0) : outs l o = [] := by unfold outs; rw [if_neg h]
theorem outs_double (h : chk l = 0) (hk : o.k = 4) (hd : hs o.u l = true) : outs l o = [(⟨7, 0, 0⟩, l), (⟨12, 0, 0⟩, l), (⟨8, 0, 0⟩, l)] := by unfold outs; rw [if_pos h, if_pos hk, if_pos hd]
theorem outs_put (h : chk l = 0) (hk : o.k = 4) (hd : hs o.u l = false) (hr : l.length < 1024) : outs l o = [(⟨7, 0, 0⟩, l), (⟨12, 0, 0⟩, l), (⟨0, 0, 0⟩, ins ⟨o.u, o.a⟩ l)] := by
  unfold outs; rw [if_pos h, if_pos hk, if_neg (by rw [hd]; decide), if_pos hr]
theorem outs_full (h : chk l = 0) (hk : o.k = 4) (hd : hs o.u l = false) (hr : ¬ l.length < 1024) : outs l o = [(⟨7, 0, 0⟩, l), (⟨12, 0, 0⟩, l)] := by
  unfold outs; rw [if_pos h, if_pos hk, if_neg (by rw [hd]; decide), if_neg hr]
theorem outs_pick0 (hk : o.k = 5) : outs [] o = [(⟨15, 0, 0⟩, [])] := by unfold outs; rw [if_pos (by decide), if_neg (by omega), if_pos hk]
theorem outs_pick {x : It} {r : List It} (h : chk (x :: r) = 0) (hk : o.k = 5) : outs (x :: r) o = [(⟨0, x.a, x.k⟩, r)] := by unfold outs; rw [if_pos h, if_neg (by omega), if_pos hk]
theorem outs_look0 (hk : o.k = 6) : outs [] o = [(⟨15, 0, 0⟩, [])] := by unfold outs; rw [if_pos (by decide), if_neg (by omega), if_neg (by omega), if_pos hk]
theorem outs_look {x : It} {r : List It} (h : chk (x :: r) = 0) (hk : o.k = 6) : outs (x :: r) o = [(⟨0, x.a, x.k⟩, x :: r)] := by unfold outs; rw [if_pos h, if_neg (by omega), if_neg (by omega), if_pos hk]
theorem outs_else (h4 : o.k ≠ 4) (h5 : o.k ≠ 5) (h6 : o.k ≠ 6) : outs l o = [] := by unfold outs; rw [if_neg h4, if_neg h5, if_neg h6]; simp
theorem outs_few : ∀ p ∈ outs l o, p.2.length ≤ 1024 := by
  intro p hp
  by_cases h : chk l = 0
  · have hl := (chk_zero h).1
    unfold outs at hp
    rw [if_pos h] at hp
    repeat' split at hp
    all_goals simp at hp
    all_goals first
      | (rcases hp with rfl | rfl | rfl <;> simp_all [ins_length] <;> omega)
      | (rcases hp with rfl | rfl <;> simp_all)
      | (subst hp; simp_all <;> omega)
  · rw [outs_bad h] at hp; cases hp
theorem outs_len : (outs l o).length ≤ 3 := by
  unfold outs
  repeat' split
  all_goals simp
end
theorem find_cons {α : Type} (p : α → Bool) (x : α) (l : List α) : (x :: l).find? p = if p x = true then some x else l.find? p := by
  rw [List.find?_cons]; cases p x <;> rfl

/-- The answer of a valid set, in the reader's words. -/
theorem tell_put {l : List It} {o : Opn} (h : chk l = 0) (hk : o.k = 4) : tellS l o = if hs o.u l = true then some ⟨8, 0, 0⟩ else if l.length < 1024 then some ⟨0, 0, 0⟩ else none := by
  unfold tellS
  cases hd : hs o.u l with
  | true => rw [outs_double h hk hd, if_pos rfl]; rfl
  | false =>
    rw [if_neg (by decide)]
    by_cases hr : l.length < 1024
    · rw [outs_put h hk hd hr, if_pos hr]; rfl
    · rw [outs_full h hk hd hr, if_neg hr]; rfl
theorem tell_pick0 {o : Opn} (hk : o.k = 5 ∨ o.k = 6) : tellS [] o = some ⟨15, 0, 0⟩ := by
  unfold tellS
  rcases hk with hk | hk
  · rw [outs_pick0 hk]; rfl
  · rw [outs_look0 hk]; rfl
theorem tell_pick {x : It} {r : List It} {o : Opn} (h : chk (x :: r) = 0) (hk : o.k = 5 ∨ o.k = 6) : tellS (x :: r) o = some ⟨0, x.a, x.k⟩ := by
  unfold tellS
  rcases hk with hk | hk
  · rw [outs_pick h hk]; rfl
  · rw [outs_look h hk]; rfl
theorem tell_else {l : List It} {o : Opn} (h4 : o.k ≠ 4) (h5 : o.k ≠ 5) (h6 : o.k ≠ 6) : tellS l o = none := by unfold tellS; rw [outs_else h4 h5 h6]; rfl
theorem tell_bad {l : List It} {o : Opn} (h : chk l ≠ 0) : tellS l o = none := by unfold tellS; rw [outs_bad h]; rfl
theorem next_bad {l : List It} {o : Opn} {a : Ann} (h : chk l ≠ 0) : nextS l o a = none := by unfold nextS; rw [outs_bad h]; rfl
/-- Whoever puts may be told that there is no room. -/
theorem next_refd {l : List It} {o : Opn} {a : Ann} (h : chk l = 0) (hk : o.k = 4) (ha : a = ⟨7, 0, 0⟩ ∨ a = ⟨12, 0, 0⟩) : nextS l o a = some l := by
  unfold nextS
  cases hd : hs o.u l with
  | true => rw [outs_double h hk hd]; rcases ha with rfl | rfl <;> rfl
  | false =>
    by_cases hr : l.length < 1024
    · rw [outs_put h hk hd hr]; rcases ha with rfl | rfl <;> rfl
    · rw [outs_full h hk hd hr]; rcases ha with rfl | rfl <;> rfl
/-- Else it is what Answer tells, or nothing. -/
theorem next_tell {l : List It} {o : Opn} {a : Ann} (hr : ¬ (o.k = 4 ∧ (a = ⟨7, 0, 0⟩ ∨ a = ⟨12, 0, 0⟩))) (h : tellS l o ≠ some a) : nextS l o a = none := by
  have hx : ∀ (x y : Ann) (q : List It), x ≠ y → [(x, q)].find? (fun p => decide (p.1 = y)) = none := fun x y q hne => by simp [hne]
  by_cases hc : chk l = 0
  · by_cases h4 : o.k = 4
    · have h7 : (⟨7, 0, 0⟩ : Ann) ≠ a := fun e => hr ⟨h4, .inl e.symm⟩
      have h12 : (⟨12, 0, 0⟩ : Ann) ≠ a := fun e => hr ⟨h4, .inr e.symm⟩
      rw [tell_put hc h4] at h
      unfold nextS
      cases hd : hs o.u l with
      | true =>
        rw [hd, if_pos rfl] at h
        have h8 : (⟨8, 0, 0⟩ : Ann) ≠ a := fun e => h (by rw [e])
        rw [outs_double hc h4 hd]; simp [h7, h12, h8]
      | false =>
        rw [hd, if_neg (by decide)] at h
        by_cases hf : l.length < 1024
        · rw [if_pos hf] at h
          have h0 : (⟨0, 0, 0⟩ : Ann) ≠ a := fun e => h (by rw [e])
          rw [outs_put hc h4 hd hf]; simp [h7, h12, h0]
        · rw [outs_full hc h4 hd hf]; simp [h7, h12]
    · by_cases h56 : o.k = 5 ∨ o.k = 6
      · unfold nextS
        cases l with
        | nil =>
          rw [tell_pick0 h56] at h
          have h0 : (⟨15, 0, 0⟩ : Ann) ≠ a := fun e => h (by rw [e])
          rcases h56 with h5 | h5
          · rw [outs_pick0 h5, hx _ _ _ h0]; rfl
          · rw [outs_look0 h5, hx _ _ _ h0]; rfl
        | cons x r =>
          rw [tell_pick hc h56] at h
          have h0 : (⟨0, x.a, x.k⟩ : Ann) ≠ a := fun e => h (by rw [e])
          rcases h56 with h5 | h5
          · rw [outs_pick hc h5, hx _ _ _ h0]; rfl
          · rw [outs_look hc h5, hx _ _ _ h0]; rfl
      · unfold nextS
        rw [outs_else h4 (fun e => h56 (.inl e)) (fun e => h56 (.inr e))]; rfl
  · exact next_bad hc
/-- What a set is behind what Answer tells. -/
theorem next_double {l : List It} {o : Opn} (h : chk l = 0) (hk : o.k = 4) (hd : hs o.u l = true) : nextS l o ⟨8, 0, 0⟩ = some l := by unfold nextS; rw [outs_double h hk hd]; rfl
theorem next_put {l : List It} {o : Opn} (h : chk l = 0) (hk : o.k = 4) (hd : hs o.u l = false) (hr : l.length < 1024) : nextS l o ⟨0, 0, 0⟩ = some (ins ⟨o.u, o.a⟩ l) := by unfold nextS; rw [outs_put h hk hd hr]; rfl
theorem next_none {o : Opn} (hk : o.k = 5 ∨ o.k = 6) : nextS [] o ⟨15, 0, 0⟩ = some [] := by
  unfold nextS
  rcases hk with hk | hk
  · rw [outs_pick0 hk]; rfl
  · rw [outs_look0 hk]; rfl
theorem next_pick {x : It} {r : List It} {o : Opn} (h : chk (x :: r) = 0) (hk : o.k = 5) : nextS (x :: r) o ⟨0, x.a, x.k⟩ = some r := by unfold nextS; rw [outs_pick h hk]; simp
theorem next_look {x : It} {r : List It} {o : Opn} (h : chk (x :: r) = 0) (hk : o.k = 6) : nextS (x :: r) o ⟨0, x.a, x.k⟩ = some (x :: r) := by unfold nextS; rw [outs_look h hk]; simp
theorem next_few {l l' : List It} {o : Opn} {a : Ann} (h : nextS l o a = some l') : l'.length ≤ 1024 := by
  unfold nextS at h
  cases hf : (outs l o).find? (fun p => decide (p.1 = a)) with
  | none => rw [hf] at h; cases h
  | some p =>
    rw [hf] at h
    cases h
    exact outs_few p (List.mem_of_find?_eq_some hf)
theorem next_getD (l : List It) (o : Opn) (a : Ann) : ((nextS l o a).getD []).length ≤ 1024 := by
  cases h : nextS l o a with
  | none => exact Nat.zero_le _
  | some q => exact next_few h
end Go.Proofs.Yteomggjkdaddhaa
