/- The model of a queue with a room: what is answered, and what the queue is behind it. Nothing of the program. -/
namespace Go.Proofs.Ytpmalbdnjpbijaa

structure Opn where
  k : Int
  a : Int
  b : Int
  u : Int
structure Ann where
  e : Int
  n : Int
  v : Int
deriving DecidableEq
def noAnn : Ann := ⟨0, 0, 0⟩

/-- What is answered, and what the queue is behind it, of a queue that may be. -/
def act (room : Nat) (q : List Int) (o : Opn) : Option (Ann × List Int) :=
  if o.k = 1 then (if q.length = room then some (⟨7, 0, 0⟩, q) else some (⟨0, 0, 0⟩, q ++ [o.u]))
  else if o.k = 2 then (match q with | [] => some (⟨15, 0, 0⟩, []) | x :: r => some (⟨0, 0, x⟩, x :: r))
  else if o.k = 3 then (match q with | [] => some (⟨15, 0, 0⟩, []) | _ :: r => some (⟨0, 0, 0⟩, r))
  else none
/-- What is told, and what is left. -/
def tell (room : Nat) (q : List Int) (o : Opn) : Ann := (act room q o).elim noAnn (·.1)
def after (room : Nat) (q : List Int) (o : Opn) : List Int := (act room q o).elim q (·.2)
/-- Many operations: the answers so far, and the queue. -/
def playQ (room : Nat) (l : List Opn) : List Int := l.foldl (after room) []
def playA (room : Nat) (l : List Opn) : List Ann := (l.foldl (fun (p : List Ann × List Int) o => (p.1 ++ [tell room p.2 o], after room p.2 o)) ([], [])).1
def chkF (room : Int) (n : Nat) : Int := if room < 1 ∨ 1024 < room then 3 else if room < n then 7 else 0
/-- Of any room and any queue. -/
def actI (room : Int) (q : List Int) (o : Opn) : Option (Ann × List Int) := if chkF room q.length = 0 then act room.toNat q o else none
def nextI (room : Int) (q : List Int) (o : Opn) (a : Ann) : Option (List Int) := (actI room q o).elim none (fun p => if a = p.1 then some p.2 else none)

theorem act_room {room : Nat} {q : List Int} {o : Opn} {a : Ann} {q' : List Int} (hq : q.length ≤ room) (h : act room q o = some (a, q')) : q'.length ≤ room := by
  unfold act at h
  split at h
  · split at h
    · cases h; exact hq
    · cases h; rw [List.length_append]; simp; omega
  · split at h
    · split at h <;> cases h <;> simp_all
    · split at h
      · split at h <;> cases h <;> simp_all <;> omega
      · cases h
theorem after_room {room : Nat} {q : List Int} {o : Opn} (hq : q.length ≤ room) : (after room q o).length ≤ room := by
  unfold after
  cases h : act room q o with
  | none => exact hq
  | some p => exact act_room hq h
theorem play_fst (room : Nat) (l : List Opn) : (l.foldl (fun (p : List Ann × List Int) o => (p.1 ++ [tell room p.2 o], after room p.2 o)) ([], [])).2 = playQ room l := by
  have H : ∀ (l : List Opn) (p : List Ann × List Int), (l.foldl (fun (p : List Ann × List Int) o => (p.1 ++ [tell room p.2 o], after room p.2 o)) p).2 = l.foldl (after room) p.2 := by
    intro l
    induction l with
    | nil => intro p; rfl
    | cons o l ih => intro p; rw [List.foldl_cons, List.foldl_cons, ih]
  exact H l _
theorem playQ_snoc (room : Nat) (l : List Opn) (o : Opn) : playQ room (l ++ [o]) = after room (playQ room l) o := by simp [playQ, List.foldl_append]
theorem playA_snoc (room : Nat) (l : List Opn) (o : Opn) : playA room (l ++ [o]) = playA room l ++ [tell room (playQ room l) o] := by
  rw [← play_fst]
  simp [playA, List.foldl_append]
theorem snoc_ind {α : Type} {P : List α → Prop} (h0 : P []) (h1 : ∀ l a, P l → P (l ++ [a])) : ∀ l, P l := by
  intro l
  rw [← List.reverse_reverse l]
  induction l.reverse with
  | nil => exact h0
  | cons a l ih => rw [List.reverse_cons]; exact h1 _ _ ih
theorem playA_length (room : Nat) (l : List Opn) : (playA room l).length = l.length := by
  induction l using snoc_ind with
  | h0 => rfl
  | h1 l o ih => rw [playA_snoc, List.length_append, List.length_append, ih]; rfl
theorem playQ_room (room : Nat) (l : List Opn) : (playQ room l).length ≤ room := by
  induction l using snoc_ind with
  | h0 => exact Nat.zero_le _
  | h1 l o ih => rw [playQ_snoc]; exact after_room ih
theorem take_snoc {α : Type} (l : List α) (k : Nat) (d : α) (h : l[k]? = some d) : l.take (k + 1) = l.take k ++ [d] := by rw [List.take_add_one, h]; rfl
theorem playA_take (room : Nat) (l : List Opn) (k : Nat) (h : k ≤ l.length) : (playA room l).take k = playA room (l.take k) := by
  induction l using snoc_ind with
  | h0 => simp [playA]
  | h1 l o ih =>
    by_cases hk : k ≤ l.length
    · rw [playA_snoc, List.take_append_of_le_length (by rw [playA_length]; exact hk), ih hk, List.take_append_of_le_length hk]
    · have e : k = (l ++ [o]).length := by simp at h ⊢; omega
      rw [e, List.take_length, List.take_of_length_le (by rw [playA_length]; exact Nat.le_refl _)]
/-- The answer to the operation at k. -/
theorem playA_get (room : Nat) (l : List Opn) (k : Nat) (o : Opn) (h : l[k]? = some o) : (playA room l)[k]? = some (tell room (playQ room (l.take k)) o) := by
  have hk : k < l.length := (List.getElem?_eq_some_iff.1 h).1
  have e := playA_take room l (k + 1) hk
  rw [take_snoc l k o h, playA_snoc] at e
  have h1 : ((playA room l).take (k + 1))[k]? = (playA room l)[k]? := List.getElem?_take_of_lt (by omega)
  rw [← h1, e, List.getElem?_append_right (by rw [playA_length]; simp; omega), playA_length]
  simp [Nat.min_eq_left (Nat.le_of_lt hk)]
end Go.Proofs.Ytpmalbdnjpbijaa
