/- Histories in plain mathematics: events, whether a history may be, its calls, what is left of it. Nothing of the program. -/
namespace Go.Proofs.Ytjbplbfedndjpaa

structure Ev where
  id : Int
  ans : Bool
  k : Int
  x : Int
  y : Int
  u : Int
  er : Int
  n : Int
  v : Int

theorem snoc_ind {α : Type} {P : List α → Prop} (h0 : P []) (hs : ∀ l a, P l → P (l ++ [a])) : ∀ l, P l := by
  intro l
  have h : ∀ r : List α, P r.reverse := by
    intro r
    induction r with
    | nil => simpa using h0
    | cons a r ih => simpa using hs _ a ih
  simpa using h l.reverse
theorem take_snoc {α : Type} (l : List α) (k : Nat) (e : α) (h : l[k]? = some e) : l.take (k + 1) = l.take k ++ [e] := by
  rw [List.take_add_one, h]; rfl
theorem drop_cons {α : Type} (l : List α) (k : Nat) (e : α) (h : l[k]? = some e) : l.drop k = e :: l.drop (k + 1) := by
  obtain ⟨hk, rfl⟩ := List.getElem?_eq_some_iff.1 h
  exact List.drop_eq_getElem_cons hk

def is (id : Int) (a : Bool) (e : Ev) : Bool := e.id == id && e.ans == a
def has (p : List Ev) (id : Int) (a : Bool) : Bool := p.any (is id a)
def ix (p : List Ev) (id : Int) (a : Bool) : Option Nat := p.findIdx? (is id a)
theorem has_snoc (p : List Ev) (e : Ev) (id : Int) (a : Bool) : has (p ++ [e]) id a = (has p id a || is id a e) := by simp [has]
theorem ix_some (p : List Ev) (id : Int) (a : Bool) : (ix p id a).isSome = has p id a := by
  unfold ix has
  cases h : List.findIdx? (is id a) p with
  | none =>
    rw [List.findIdx?_eq_none_iff] at h
    symm
    simpa using h
  | some i =>
    obtain ⟨hi, h1, _⟩ := List.findIdx?_eq_some_iff_getElem.1 h
    symm
    simpa using ⟨p[i], List.getElem_mem hi, h1⟩
theorem ix_snoc (p : List Ev) (e : Ev) (id : Int) (a : Bool) : ix (p ++ [e]) id a = (ix p id a).or (if is id a e then some p.length else none) := by
  unfold ix
  rw [List.findIdx?_append]
  cases h : is id a e <;> simp [List.findIdx?_cons, h]
theorem ix_lt {p : List Ev} {id : Int} {a : Bool} {i : Nat} (h : ix p id a = some i) : i < p.length := by
  unfold ix at h
  exact (List.findIdx?_eq_some_iff_getElem.1 h).1
theorem ix_at {p : List Ev} {id : Int} {a : Bool} {i : Nat} (h : ix p id a = some i) : ∃ e, p[i]? = some e ∧ e.id = id ∧ e.ans = a := by
  unfold ix at h
  obtain ⟨hi, h1, _⟩ := List.findIdx?_eq_some_iff_getElem.1 h
  refine ⟨p[i], List.getElem?_eq_getElem hi, ?_⟩
  simpa [is] using h1
theorem ix_none {p : List Ev} {id : Int} {a : Bool} (h : has p id a = false) : ix p id a = none := by
  have := ix_some p id a
  rw [h] at this
  simpa using this

/-! ### whether a history may be -/
def stp (p : List Ev) (e : Ev) : Int := if has p e.id e.ans then 8 else if e.ans && !has p e.id false then 10 else 0
def chks : List Ev → List Ev → Int
  | _, [] => 0
  | p, e :: r => if stp p e = 0 then chks (p ++ [e]) r else stp p e
def chk (h : List Ev) : Int := if 4096 < h.length then 4 else chks [] h
def Vd (h : List Ev) : Prop := chks [] h = 0
theorem chks_snoc (r : List Ev) (e : Ev) : ∀ p, chks p (r ++ [e]) = if chks p r = 0 then stp (p ++ r) e else chks p r := by
  induction r with
  | nil =>
    intro p
    by_cases h : stp p e = 0 <;> simp [chks, h]
  | cons f r ih =>
    intro p
    by_cases h : stp p f = 0
    · simp [chks, h, ih]
    · simp [chks, h]
theorem vd_nil : Vd [] := rfl
theorem vd_snoc (p : List Ev) (e : Ev) : Vd (p ++ [e]) ↔ Vd p ∧ stp p e = 0 := by
  unfold Vd
  rw [chks_snoc, List.nil_append]
  by_cases h : chks [] p = 0
  · rw [if_pos h]; simp [h]
  · rw [if_neg h]; simp [h]
theorem vd_pre (a : List Ev) : ∀ b, Vd (a ++ b) → Vd a := by
  refine snoc_ind (by simp) fun b e ih h => ?_
  rw [← List.append_assoc, vd_snoc] at h
  exact ih h.1
theorem vd_take {h : List Ev} (hv : Vd h) (k : Nat) : Vd (h.take k) := vd_pre _ (h.drop k) (by rwa [List.take_append_drop])
theorem stp_zero {p : List Ev} {e : Ev} (h : stp p e = 0) : has p e.id e.ans = false ∧ (e.ans = true → has p e.id false = true) := by
  unfold stp at h
  cases h1 : has p e.id e.ans with
  | true => simp [h1] at h
  | false =>
    refine ⟨rfl, fun ha => ?_⟩
    cases h2 : has p e.id false with
    | true => rfl
    | false =>
      rw [h1, h2, ha] at h
      simp at h
/-- An answer that has come has its call ahead of it. -/
theorem has_call : ∀ p, Vd p → ∀ id, has p id true = true → has p id false = true := by
  refine snoc_ind (by intro _ id h; simp [has] at h) fun p e ih hv id h => ?_
  obtain ⟨hp, hs⟩ := (vd_snoc p e).1 hv
  rw [has_snoc] at h ⊢
  cases h1 : has p id true with
  | true => rw [ih hp id h1]; rfl
  | false =>
    rw [h1, Bool.false_or] at h
    obtain ⟨e1, e2⟩ : e.id = id ∧ e.ans = true := by simpa [is] using h
    subst e1
    rw [(stp_zero hs).2 e2]; rfl
/-- Whoever is there is the first one. -/
theorem ix_of : ∀ h, Vd h → ∀ i e, h[i]? = some e → ix h e.id e.ans = some i := by
  refine snoc_ind (by intro _ i e h; simp at h) fun p f ih hv i e h => ?_
  obtain ⟨hp, hs⟩ := (vd_snoc p f).1 hv
  rw [ix_snoc]
  by_cases hi : i < p.length
  · rw [List.getElem?_append_left hi] at h
    rw [ih hp i e h]; rfl
  · have hl := (List.getElem?_eq_some_iff.1 h).1
    have e1 : i = p.length := by simp at hl; omega
    subst e1
    have e2 : f = e := by simpa using h
    subst e2
    rw [ix_none (stp_zero hs).1]
    simp [is]
/-- An answer stands behind its call. -/
theorem ix_order : ∀ h, Vd h → ∀ id i j, ix h id false = some i → ix h id true = some j → i < j := by
  refine snoc_ind (by intro _ id i j h; simp [ix] at h) fun p e ih hv id i j h h' => ?_
  obtain ⟨hp, hs⟩ := (vd_snoc p e).1 hv
  rw [ix_snoc] at h h'
  cases h1 : ix p id true with
  | some j' =>
    have hc : has p id false = true := has_call p hp id (by rw [← ix_some, h1]; rfl)
    obtain ⟨i', h2⟩ : ∃ i', ix p id false = some i' := Option.isSome_iff_exists.1 (by rw [ix_some]; exact hc)
    rw [h1] at h'
    rw [h2] at h
    simp at h h'
    subst h; subst h'
    exact ih hp id _ _ h2 h1
  | none =>
    rw [h1] at h'
    cases hi : is id true e with
    | false => simp [hi] at h'
    | true =>
      obtain ⟨e1, e2⟩ : e.id = id ∧ e.ans = true := by simpa [is] using hi
      subst e1
      obtain ⟨i', h2⟩ : ∃ i', ix p e.id false = some i' := Option.isSome_iff_exists.1 (by rw [ix_some]; exact (stp_zero hs).2 e2)
      rw [h2] at h
      simp [hi] at h h'
      subst h
      have := ix_lt h2
      omega
/-- An index that a beginning has, the whole has. -/
theorem ix_pre {a b : List Ev} {id : Int} {x : Bool} {i : Nat} (h : ix a id x = some i) : ix (a ++ b) id x = some i := by
  unfold ix at *
  rw [List.findIdx?_append, h]; rfl

/-- Where the first one is, or -1. -/
def pos (h : List Ev) (id : Int) (a : Bool) : Int := match ix h id a with | some j => (j : Int) | none => -1
theorem ix_hit {p : List Ev} {k : Nat} {e : Ev} {id : Int} {a : Bool} (h : ix (p.take k) id a = none) (he : p[k]? = some e) (hi : is id a e = true) : ix p id a = some k := by
  have h1 : ix (p.take (k + 1)) id a = some k := by
    have hk := (List.getElem?_eq_some_iff.1 he).1
    rw [take_snoc p k e he, ix_snoc, h, hi]
    simp; omega
  have := ix_pre (b := p.drop (k + 1)) h1
  rwa [List.take_append_drop] at this
theorem ix_miss {p : List Ev} {k : Nat} {e : Ev} {id : Int} {a : Bool} (h : ix (p.take k) id a = none) (he : p[k]? = some e) (hi : is id a e = false) : ix (p.take (k + 1)) id a = none := by
  rw [take_snoc p k e he, ix_snoc, h, hi]; rfl
theorem pos_neg (h : List Ev) (id : Int) (a : Bool) : decide (pos h id a < 0) = !has h id a := by
  unfold pos
  rw [← ix_some]
  cases ix h id a with
  | none => simp
  | some j => simp
theorem pos_le (h : List Ev) (id : Int) (a : Bool) : -1 ≤ pos h id a ∧ pos h id a < h.length := by
  unfold pos
  cases hx : ix h id a with
  | none => simp; omega
  | some j => have := ix_lt hx; simp; omega

/-! ### what the program's map says -/
/-- Where the call of an ID is, and where its answer is, or -1. -/
def too (h : List Ev) (id : Int) : Int := pos h id true
def mp (h : List Ev) (id : Int) : Option (Int × Int) := (ix h id false).map fun (i : Nat) => ((i : Int), too h id)
def upd (m : Int → Option (Int × Int)) (id : Int) (x : Int × Int) : Int → Option (Int × Int) := fun k => if k = id then some x else m k
theorem mp_nil : mp [] = fun _ => none := by funext k; simp [mp, ix]
theorem mp_some (h : List Ev) (id : Int) : (mp h id).isSome = has h id false := by simp [mp, ix_some]
theorem too_neg (h : List Ev) (id : Int) : decide (too h id < 0) = !has h id true := pos_neg h id true
theorem mp_call {p : List Ev} {e : Ev} (hp : Vd p) (hs : stp p e = 0) (ha : e.ans = false) : mp (p ++ [e]) = upd (mp p) e.id (p.length, -1) := by
  have h1 := (stp_zero hs).1
  rw [ha] at h1
  have h2 : has p e.id true = false := by
    cases h : has p e.id true with
    | false => rfl
    | true => rw [has_call p hp e.id h] at h1; cases h1
  funext k
  unfold upd mp too pos
  rw [ix_snoc, ix_snoc]
  by_cases hk : k = e.id
  · subst hk
    rw [ix_none h1, ix_none h2]
    simp [is, ha]
  · have e1 : ∀ a, is k a e = false := fun a => by simp [is]; intro h; exact absurd h.symm hk
    simp [e1, hk]
theorem mp_ans {p : List Ev} {e : Ev} (hs : stp p e = 0) (ha : e.ans = true) : mp (p ++ [e]) = upd (mp p) e.id (((mp p e.id).getD (0, 0)).1, p.length) := by
  obtain ⟨h1, h2⟩ := stp_zero hs
  rw [ha] at h1
  obtain ⟨i, hi⟩ : ∃ i, ix p e.id false = some i := Option.isSome_iff_exists.1 (by rw [ix_some]; exact h2 ha)
  funext k
  unfold upd mp too pos
  rw [ix_snoc, ix_snoc]
  by_cases hk : k = e.id
  · subst hk
    rw [ix_none h1, hi]
    simp [is, ha]
  · have e1 : ∀ a, is k a e = false := fun a => by simp [is]; intro h; exact absurd h.symm hk
    simp [e1, hk]
/-- What the program's three rules say, over its map. -/
def r1 (m : Int → Option (Int × Int)) (e : Ev) : Int := if (m e.id).isSome && !e.ans then 8 else 0
def r2 (m : Int → Option (Int × Int)) (e : Ev) : Int := if (m e.id).isSome && (!decide (((m e.id).getD (0, 0)).2 < 0) && e.ans) then 8 else 0
def r3 (m : Int → Option (Int × Int)) (e : Ev) : Int := if !(m e.id).isSome && e.ans then 10 else 0
def brk (m : Int → Option (Int × Int)) (e : Ev) : Int := if r1 m e = 0 then if r2 m e = 0 then r3 m e else r2 m e else r1 m e
theorem brk_eq {p : List Ev} (hp : Vd p) (e : Ev) : brk (mp p) e = stp p e := by
  unfold brk r1 r2 r3 stp
  rw [mp_some]
  cases ha : e.ans with
  | false => cases h1 : has p e.id false <;> simp
  | true =>
    cases h1 : has p e.id false with
    | false =>
      cases h2 : has p e.id true with
      | false => simp
      | true => rw [has_call p hp _ h2] at h1; cases h1
    | true =>
      obtain ⟨i, hi⟩ : ∃ i, ix p e.id false = some i := Option.isSome_iff_exists.1 (by rw [ix_some]; exact h1)
      have e1 : ((mp p e.id).getD (0, 0)).2 = too p e.id := by simp [mp, hi]
      rw [e1, too_neg]
      cases h2 : has p e.id true <;> simp

/-! ### the calls -/
structure Sp where
  id : Int
  from_ : Int
  to : Int
  k : Int
  x : Int
  y : Int
  u : Int
  er : Int
  n : Int
  v : Int
/-- The calls, each with its place. -/
def clsAt : Nat → List Ev → List (Nat × Ev)
  | _, [] => []
  | i, e :: r => (if e.ans then [] else [(i, e)]) ++ clsAt (i + 1) r
def cls (h : List Ev) : List (Nat × Ev) := clsAt 0 h
theorem clsAt_snoc (e : Ev) : ∀ (h : List Ev) (i : Nat), clsAt i (h ++ [e]) = clsAt i h ++ (if e.ans then [] else [(i + h.length, e)])
  | [], i => by simp [clsAt]
  | f :: r, i => by
    simp only [List.cons_append, clsAt, clsAt_snoc e r, List.append_assoc, List.length_cons]
    rw [show i + 1 + r.length = i + (r.length + 1) by omega]
theorem cls_snoc (h : List Ev) (e : Ev) : cls (h ++ [e]) = cls h ++ (if e.ans then [] else [(h.length, e)]) := by
  unfold cls; rw [clsAt_snoc, Nat.zero_add]
theorem cls_at : ∀ h, ∀ x ∈ cls h, h[x.1]? = some x.2 ∧ x.2.ans = false := by
  refine snoc_ind (by intro x h; simp [cls, clsAt] at h) fun h e ih x hx => ?_
  rw [cls_snoc, List.mem_append] at hx
  rcases hx with hx | hx
  · obtain ⟨h1, h2⟩ := ih x hx
    refine ⟨?_, h2⟩
    rw [List.getElem?_append_left (List.getElem?_eq_some_iff.1 h1).1]
    exact h1
  · cases ha : e.ans with
    | true => simp [ha] at hx
    | false =>
      simp [ha] at hx
      subst hx
      exact ⟨by simp, ha⟩
theorem cls_length (h : List Ev) : (cls h).length ≤ h.length := by
  revert h
  refine snoc_ind (by simp [cls, clsAt]) fun h e ih => ?_
  rw [cls_snoc]
  cases e.ans <;> simp <;> omega
def sp (h : List Ev) (x : Nat × Ev) : Sp :=
  match ix h x.2.id true with
  | some j => { id := x.2.id, from_ := x.1, to := j, k := x.2.k, x := x.2.x, y := x.2.y, u := x.2.u, er := (h[j]?.map (·.er)).getD 0, n := (h[j]?.map (·.n)).getD 0, v := (h[j]?.map (·.v)).getD 0 }
  | none => { id := x.2.id, from_ := x.1, to := -1, k := x.2.k, x := x.2.x, y := x.2.y, u := x.2.u, er := 0, n := 0, v := 0 }
theorem sp_id (h : List Ev) (x : Nat × Ev) : (sp h x).id = x.2.id := by unfold sp; split <;> rfl
theorem sp_from (h : List Ev) (x : Nat × Ev) : (sp h x).from_ = x.1 := by unfold sp; split <;> rfl
theorem sp_to (h : List Ev) (x : Nat × Ev) : (sp h x).to = too h x.2.id := by unfold sp too pos; split <;> simp_all
theorem sp_open {h : List Ev} {x : Nat × Ev} (hx : has h x.2.id true = false) : sp h x = { id := x.2.id, from_ := x.1, to := -1, k := x.2.k, x := x.2.x, y := x.2.y, u := x.2.u, er := 0, n := 0, v := 0 } := by
  unfold sp; rw [ix_none hx]
theorem sp_shut {h : List Ev} {x : Nat × Ev} {j : Nat} {f : Ev} (hj : ix h x.2.id true = some j) (hf : h[j]? = some f) : sp h x = { id := x.2.id, from_ := x.1, to := j, k := x.2.k, x := x.2.x, y := x.2.y, u := x.2.u, er := f.er, n := f.n, v := f.v } := by
  unfold sp; rw [hj]; simp [hf]
theorem cls_take (h : List Ev) (k : Nat) (e : Ev) (he : h[k]? = some e) : cls (h.take (k + 1)) = cls (h.take k) ++ (if e.ans then [] else [(k, e)]) := by
  have hk := (List.getElem?_eq_some_iff.1 he).1
  have e1 : (h.take k).length = k := by rw [List.length_take]; omega
  rw [take_snoc h k e he, cls_snoc, e1]
def spans (h : List Ev) : List Sp := (cls h).map (sp h)
/-- The IDs of those that have no answer, among calls with their spans. -/
def pendOf (l : List Sp) : List Int := (l.filter fun s => decide (s.to < 0)).map (·.id)
def pend (h : List Ev) : List Int := pendOf (spans h)
theorem pendOf_snoc (l : List Sp) (s : Sp) : pendOf (l ++ [s]) = pendOf l ++ (if s.to < 0 then [s.id] else []) := by
  unfold pendOf
  rw [List.filter_append, List.map_append]
  congr 1
  by_cases h : s.to < 0 <;> simp [h]
theorem pendOf_length (l : List Sp) : (pendOf l).length ≤ l.length := by
  unfold pendOf
  rw [List.length_map]
  exact List.length_filter_le _ _
theorem mem_pend {h : List Ev} {id : Int} : id ∈ pend h ↔ ∃ x ∈ cls h, x.2.id = id ∧ has h id true = false := by
  unfold pend pendOf spans
  simp only [List.mem_map, List.mem_filter]
  constructor
  · rintro ⟨s, ⟨⟨x, hx, rfl⟩, h2⟩, rfl⟩
    rw [sp_to, too_neg] at h2
    rw [sp_id]
    exact ⟨x, hx, rfl, by simpa using h2⟩
  · rintro ⟨x, hx, rfl, h2⟩
    exact ⟨sp h x, ⟨⟨x, hx, rfl⟩, by rw [sp_to, too_neg, h2]; rfl⟩, sp_id _ _⟩
theorem mem_cls : ∀ (h : List Ev) {i : Nat} {e : Ev}, h[i]? = some e → e.ans = false → (i, e) ∈ cls h := by
  refine snoc_ind (by intro i e h; simp at h) fun h f ih i e hi ha => ?_
  rw [cls_snoc, List.mem_append]
  by_cases hl : i < h.length
  · rw [List.getElem?_append_left hl] at hi
    exact .inl (ih hi ha)
  · have := (List.getElem?_eq_some_iff.1 hi).1
    have e1 : i = h.length := by simp at this; omega
    subst e1
    have e2 : f = e := by simpa using hi
    subst e2
    right
    simp [ha]

/-! ### the calls as they come out of an iterator -/
abbrev Cl (h : List Ev) : Type := { x : Nat × Ev // h[x.1]? = some x.2 ∧ x.2.ans = false }
def oneCl (h : List Ev) (k : Nat) : List (Cl h) :=
  match hx : h[k]? with
  | none => []
  | some e => match ha : e.ans with
    | true => []
    | false => [⟨(k, e), hx, ha⟩]
def clsA (h : List Ev) : Nat → List (Cl h)
  | 0 => []
  | k + 1 => clsA h k ++ oneCl h k
theorem clsA_zero (h : List Ev) : clsA h 0 = [] := rfl
theorem oneCl_call {h : List Ev} {k : Nat} {e : Ev} (he : h[k]? = some e) (ha : e.ans = false) : oneCl h k = [⟨(k, e), he, ha⟩] := by
  unfold oneCl
  split
  · rename_i hx; rw [he] at hx; cases hx
  · rename_i f hx
    have e1 : e = f := by rw [he] at hx; exact Option.some.inj hx
    subst e1
    split
    · rename_i hb; rw [ha] at hb; cases hb
    · rfl
theorem oneCl_ans {h : List Ev} {k : Nat} {e : Ev} (he : h[k]? = some e) (ha : e.ans = true) : oneCl h k = [] := by
  unfold oneCl
  split
  · rfl
  · rename_i f hx
    have e1 : e = f := by rw [he] at hx; exact Option.some.inj hx
    subst e1
    split
    · rfl
    · rename_i hb; rw [ha] at hb; cases hb
theorem clsA_call {h : List Ev} {k : Nat} {e : Ev} (he : h[k]? = some e) (ha : e.ans = false) : clsA h (k + 1) = clsA h k ++ [⟨(k, e), he, ha⟩] := by
  rw [clsA, oneCl_call he ha]
theorem clsA_ans {h : List Ev} {k : Nat} {e : Ev} (he : h[k]? = some e) (ha : e.ans = true) : clsA h (k + 1) = clsA h k := by
  rw [clsA, oneCl_ans he ha, List.append_nil]
theorem clsA_upto (h : List Ev) (k : Nat) (hk : k ≤ h.length) : (clsA h k).map (fun x => x.1) = cls (h.take k) := by
  induction k with
  | zero => simp [clsA, cls, clsAt]
  | succ k ih =>
    obtain ⟨e, he⟩ : ∃ e, h[k]? = some e := ⟨_, List.getElem?_eq_getElem (by omega)⟩
    rw [cls_take h k e he]
    cases ha : e.ans with
    | true => rw [clsA_ans he ha, ih (by omega)]; simp
    | false => rw [clsA_call he ha, List.map_append, ih (by omega)]; simp
theorem clsA_le (h : List Ev) (k : Nat) : (clsA h k).length ≤ k := by
  induction k with
  | zero => simp [clsA]
  | succ k ih =>
    have h1 : (oneCl h k).length ≤ 1 := by
      unfold oneCl
      split
      · simp
      · split <;> simp
    rw [clsA, List.length_append]
    omega
theorem clsA_val (h : List Ev) : (clsA h h.length).map (fun x => x.1) = cls h := by
  rw [clsA_upto h _ (Nat.le_refl _), List.take_length]
/-- The spans, and the pending IDs, of calls that have come. -/
def spA {h : List Ev} (l : List (Cl h)) : List Sp := l.map fun x => sp h x.1
theorem spA_all (h : List Ev) : spA (clsA h h.length) = spans h := by
  unfold spA spans
  rw [← clsA_val h, List.map_map]
  rfl
theorem spA_snoc {h : List Ev} (l : List (Cl h)) (x : Cl h) : spA (l ++ [x]) = spA l ++ [sp h x.1] := by simp [spA]
theorem spA_length {h : List Ev} (l : List (Cl h)) : (spA l).length = l.length := by simp [spA]

/-! ### what is left -/
def keep (h : List Ev) : List Ev := h.filter fun e => has h e.id true
def among (l : List Int) (id : Int) : Bool := l.any (· == id)
def onl (h : List Ev) (l : List Int) : List Ev := h.filter fun e => among l e.id
theorem among_pend {h : List Ev} (hv : Vd h) {i : Nat} {e : Ev} (he : h[i]? = some e) : (!among (pend h) e.id) = has h e.id true := by
  have e1 : among (pend h) e.id = decide (e.id ∈ pend h) := by
    unfold among
    rw [Bool.eq_iff_iff]
    simp
  rw [e1]
  cases h2 : has h e.id true with
  | true =>
    have : ¬ e.id ∈ pend h := fun hm => by obtain ⟨x, _, _, h3⟩ := mem_pend.1 hm; rw [h2] at h3; cases h3
    simp [this]
  | false =>
    have : e.id ∈ pend h := by
      have ha : e.ans = false := by
        cases ha : e.ans with
        | false => rfl
        | true =>
          have := ix_some h e.id e.ans
          rw [ix_of h hv i e he, ha, h2] at this
          cases this
      exact mem_pend.2 ⟨_, mem_cls h he ha, rfl, h2⟩
    simp [this]

/-! ### how many are under way -/
def mst (s : Int × Int) (e : Ev) : Int × Int := if e.ans then (s.1 - 1, s.2) else (s.1 + 1, max s.2 (s.1 + 1))
def most (h : List Ev) : Int × Int := h.foldl mst (0, 0)
theorem most_snoc (h : List Ev) (e : Ev) : most (h ++ [e]) = mst (most h) e := by simp [most]
theorem most_le : ∀ h, (most h).1 ≤ (most h).2 ∧ -(h.length : Int) ≤ (most h).1 ∧ (most h).2 ≤ h.length ∧ 0 ≤ (most h).2 := by
  refine snoc_ind (by simp [most]) fun h e ih => ?_
  rw [most_snoc]
  unfold mst
  cases e.ans <;> simp <;> omega
end Go.Proofs.Ytjbplbfedndjpaa
