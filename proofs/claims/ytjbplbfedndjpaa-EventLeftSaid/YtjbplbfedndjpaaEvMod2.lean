/- What is left of a history may be; how many calls are answered; the order of spans. Nothing of the program. -/
import Derived.Test.YtjbplbfedndjpaaEvMod
namespace Go.Proofs.Ytjbplbfedndjpaa

/-! ### what is left may be -/
theorem has_filter (P : Int → Bool) (p : List Ev) (id : Int) (a : Bool) : has (p.filter fun e => P e.id) id a = (P id && has p id a) := by
  induction p with
  | nil => simp [has]
  | cons e p ih =>
    unfold has at ih ⊢
    cases he : P e.id with
    | false =>
      rw [List.filter_cons_of_neg (by simp [he]), ih, List.any_cons]
      by_cases hid : e.id = id
      · subst hid; simp [he]
      · have : is id a e = false := by simp [is]; intro h; exact absurd h hid
        simp [this]
    | true =>
      rw [List.filter_cons_of_pos (by simpa using he), List.any_cons, List.any_cons, ih]
      by_cases hid : e.id = id
      · subst hid; simp [he]
      · have : is id a e = false := by simp [is]; intro h; exact absurd h hid
        simp [this]
/-- Some IDs' events of a history that may be, may be. -/
theorem vd_filter (P : Int → Bool) : ∀ h, Vd h → Vd (h.filter fun e => P e.id) := by
  refine snoc_ind (fun _ => vd_nil) fun p e ih hv => ?_
  obtain ⟨hp, hs⟩ := (vd_snoc p e).1 hv
  rw [List.filter_append]
  cases he : P e.id with
  | false => simpa [he] using ih hp
  | true =>
    have e1 : [e].filter (fun e => P e.id) = [e] := by simp [he]
    rw [e1]
    refine (vd_snoc _ _).2 ⟨ih hp, ?_⟩
    unfold stp at hs ⊢
    rw [has_filter, has_filter, he]
    simpa using hs
theorem chk_of_vd {h : List Ev} (hv : Vd h) (hl : h.length ≤ 4096) : chk h = 0 := by
  unfold chk
  rw [if_neg (by omega)]
  exact hv
theorem vd_keep {h : List Ev} (hv : Vd h) : Vd (keep h) := vd_filter (fun id => has h id true) h hv
theorem vd_onl {h : List Ev} (hv : Vd h) (l : List Int) : Vd (onl h l) := vd_filter (fun id => among l id) h hv
theorem keep_le (h : List Ev) : (keep h).length ≤ h.length := List.length_filter_le _ _
theorem onl_le (h : List Ev) (l : List Int) : (onl h l).length ≤ h.length := List.length_filter_le _ _

/-- What is whole has nothing pending. -/
theorem pend_keep {h : List Ev} : pend (keep h) = [] := by
  refine List.eq_nil_iff_forall_not_mem.2 fun id hm => ?_
  obtain ⟨x, hx, rfl, hn⟩ := mem_pend.1 hm
  obtain ⟨h1, _⟩ := cls_at _ x hx
  have h2 : x.2 ∈ keep h := List.mem_of_getElem? h1
  have h3 : has h x.2.id true = true := (List.mem_filter.1 h2).2
  have h4 := has_filter (fun id => has h id true) h x.2.id true
  rw [h3] at h4
  have h5 : has (keep h) x.2.id true = true := by unfold keep; rw [h4]; rfl
  rw [h5] at hn
  cases hn

/-! ### how many -/
def nAns (h : List Ev) : Nat := (h.filter fun e => e.ans).length
def nPend (h : List Ev) : Nat := ((cls h).filter fun x => !has h x.2.id true).length
theorem pend_length (h : List Ev) : (pend h).length = nPend h := by
  unfold pend pendOf spans nPend
  rw [List.length_map, List.filter_map, List.length_map]
  congr 1
  refine List.filter_congr fun x _ => ?_
  show decide ((sp h x).to < 0) = _
  rw [sp_to, too_neg]
/-- One more is kept where just one has the key. -/
theorem one_more {α : Type} (f : α → Int) (k : Int) (Q : Int → Bool) (hQ : Q k = false) : ∀ (l : List α), (l.filter fun x => f x == k).length = 1 →
    (l.filter fun x => Q (f x) || f x == k).length = (l.filter fun x => Q (f x)).length + 1 := by
  have gen : ∀ l : List α, (l.filter fun x => Q (f x) || f x == k).length = (l.filter fun x => Q (f x)).length + (l.filter fun x => f x == k).length := by
    intro l
    induction l with
    | nil => rfl
    | cons x l ih =>
      simp only [List.filter_cons]
      by_cases hx : f x = k
      · rw [hx, hQ]
        simp [ih]
        omega
      · have : (f x == k) = false := by simpa using hx
        rw [this]
        cases Q (f x) <;> simp [ih]
        omega
  intro l h
  rw [gen, h]
/-- An ID has one call at most, and one answer. -/
theorem one_call : ∀ h, Vd h → ∀ id, has h id false = true → ((cls h).filter fun x => x.2.id == id).length = 1 := by
  have none : ∀ h, ∀ id, has h id false = false → ((cls h).filter fun x => x.2.id == id) = [] := by
    intro h id hn
    rw [List.filter_eq_nil_iff]
    intro x hx
    obtain ⟨h1, h2⟩ := cls_at h x hx
    intro he
    have : has h id false = true := by
      unfold has
      rw [List.any_eq_true]
      exact ⟨x.2, List.mem_of_getElem? h1, by simp [is, h2]; simpa using he⟩
    rw [hn] at this
    cases this
  refine snoc_ind (by intro _ id h; simp [has] at h) fun p e ih hv id h => ?_
  obtain ⟨hp, hs⟩ := (vd_snoc p e).1 hv
  rw [has_snoc] at h
  rw [cls_snoc, List.filter_append, List.length_append]
  cases h1 : has p id false with
  | true =>
    rw [ih hp id h1]
    cases ha : e.ans with
    | true => simp
    | false =>
      have hne : e.id ≠ id := by
        intro he
        have := (stp_zero hs).1
        rw [ha, he, h1] at this
        cases this
      simp [hne]
  | false =>
    rw [none p id h1]
    rw [h1, Bool.false_or] at h
    obtain ⟨e1, e2⟩ : e.id = id ∧ e.ans = false := by simpa [is] using h
    simp [e2, e1]
theorem one_event : ∀ h, Vd h → ∀ id, has h id false = true → has h id true = false → (h.filter fun e => e.id == id).length = 1 := by
  have none : ∀ h : List Ev, ∀ id, has h id false = false → has h id true = false → (h.filter fun e => e.id == id) = [] := by
    intro h id h1 h2
    rw [List.filter_eq_nil_iff]
    intro e he hid
    have : has h id e.ans = true := by
      unfold has
      rw [List.any_eq_true]
      exact ⟨e, he, by simpa [is] using hid⟩
    cases ha : e.ans with
    | false => rw [ha, h1] at this; cases this
    | true => rw [ha, h2] at this; cases this
  refine snoc_ind (by intro _ id h; simp [has] at h) fun p e ih hv id h h' => ?_
  obtain ⟨hp, hs⟩ := (vd_snoc p e).1 hv
  rw [has_snoc] at h h'
  obtain ⟨h2, h3⟩ := Bool.or_eq_false_iff.1 h'
  rw [List.filter_append, List.length_append]
  cases h1 : has p id false with
  | true =>
    rw [ih hp id h1 h2]
    have hne : e.id ≠ id := by
      intro he
      cases ha : e.ans with
      | true => simp [is, he, ha] at h3
      | false =>
        have := (stp_zero hs).1
        rw [ha, he, h1] at this
        cases this
    simp [hne]
  | false =>
    rw [none p id h1 h2]
    rw [h1, Bool.false_or] at h
    obtain ⟨e1, e2⟩ : e.id = id ∧ e.ans = false := by simpa [is] using h
    simp [e1]
theorem counts : ∀ h, Vd h → (cls h).length = nPend h + nAns h ∧ (keep h).length = 2 * nAns h := by
  refine snoc_ind (fun _ => ⟨rfl, rfl⟩) fun p e ih hv => ?_
  obtain ⟨hp, hs⟩ := (vd_snoc p e).1 hv
  obtain ⟨i1, i2⟩ := ih hp
  obtain ⟨z1, z2⟩ := stp_zero hs
  cases ha : e.ans with
  | false =>
    rw [ha] at z1
    have hno : has p e.id true = false := by
      cases h : has p e.id true with
      | false => rfl
      | true => rw [has_call p hp e.id h] at z1; cases z1
    have eh : ∀ id, has (p ++ [e]) id true = has p id true := by
      intro id; rw [has_snoc]; simp [is, ha]
    refine ⟨?_, ?_⟩
    · unfold nPend nAns
      rw [cls_snoc, ha]
      simp only [eh, List.filter_append, List.length_append]
      unfold nPend nAns at i1
      simp [hno, ha]
      omega
    · unfold keep nAns
      simp only [eh, List.filter_append, List.length_append]
      unfold keep nAns at i2
      simp [hno, ha]
      omega
  | true =>
    rw [ha] at z1
    have hc := z2 ha
    have eh : ∀ id, has (p ++ [e]) id true = (has p id true || id == e.id) := by
      intro id
      rw [has_snoc]
      congr 1
      simp [is, ha, BEq.comm]
    refine ⟨?_, ?_⟩
    · have o1 := one_more (fun x : Nat × Ev => x.2.id) e.id (fun id => has p id true) z1 (cls p) (one_call p hp e.id hc)
      have o2 : ∀ (l : List (Nat × Ev)) (q : Nat × Ev → Bool), l.length = (l.filter q).length + (l.filter fun x => !q x).length := by
        intro l q
        induction l with
        | nil => rfl
        | cons x l ih => simp only [List.filter_cons]; cases q x <;> simp [ih] <;> omega
      have a1 := o2 (cls p) (fun x => has p x.2.id true)
      have a2 := o2 (cls p) (fun x => has p x.2.id true || x.2.id == e.id)
      unfold nPend nAns at i1 ⊢
      rw [cls_snoc, ha]
      simp only [eh, List.filter_append, List.length_append, List.append_nil, if_true]
      simp only [ha, List.filter_cons, List.filter_nil, if_true, List.length_cons, List.length_nil]
      omega
    · have o1 := one_more (fun x : Ev => x.id) e.id (fun id => has p id true) z1 p (one_event p hp e.id hc z1)
      unfold keep nAns at i2 ⊢
      simp only [eh, List.filter_append, List.length_append]
      simp only [ha, List.filter_cons, List.filter_nil, beq_self_eq_true, Bool.or_true, if_true, List.length_cons, List.length_nil]
      omega
theorem left_count {h : List Ev} (hv : Vd h) : ((keep h).length : Int) = 2 * (((spans h).length : Int) - ((pend h).length : Int)) := by
  obtain ⟨h1, h2⟩ := counts h hv
  rw [pend_length, h2]
  have : (spans h).length = (cls h).length := by simp [spans]
  rw [this, h1]
  omega

/-! ### the order of spans -/
theorem span_order {h : List Ev} (hv : Vd h) {i : Nat} {s : Sp} (hs : (spans h)[i]? = some s) : 0 ≤ s.from_ ∧ (0 ≤ s.to → s.from_ < s.to) := by
  obtain ⟨x, hx, rfl⟩ := List.mem_map.1 (List.mem_of_getElem? hs)
  obtain ⟨h1, h2⟩ := cls_at h x hx
  rw [sp_from, sp_to]
  refine ⟨by omega, fun ht => ?_⟩
  unfold too pos at ht ⊢
  cases hj : ix h x.2.id true with
  | none => rw [hj] at ht; simp at ht
  | some j =>
    have h3 := ix_of h hv x.1 x.2 h1
    rw [h2] at h3
    have := ix_order h hv x.2.id _ _ h3 hj
    simp
    omega
def ahd (a b : Sp) : Bool := decide (0 ≤ a.to) && decide (a.to < b.from_)
end Go.Proofs.Ytjbplbfedndjpaa
