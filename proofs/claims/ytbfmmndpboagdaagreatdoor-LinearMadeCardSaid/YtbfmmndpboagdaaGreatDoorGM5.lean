/- What is told of calls, whatever the model: the first order, whether one fits; what so an order says; a pending call more. Nothing of the program. -/
import Derived.Test.YtbfmmndpboagdaaGreatDoorGM2
import Derived.Test.YtbfmmndpboagdaaGreatDoorGM4
import Derived.WalkKit
import Derived.ProofKit
import Derived.Lib.SmallJoins
set_option maxRecDepth 20000
namespace Go.Proofs.YtbfmmndpboagdaaGreatDoor

def dM (mo r : Int) (l : List Sp) : Option (List Nat) :=
  if mo = 1 then dfs (SU.nextM r) (alikeM l) 10 0 [[]] else if mo = 2 then dfs (SH.nextM r) l 10 0 [[]] else dfs (SN.nextM r) l 10 0 [firstN r l]
def fM (mo r : Int) (l : List Sp) (o : List Nat) : Bool :=
  if mo = 1 then fitsM (SU.nextM r) (alikeM l) [[]] o else if mo = 2 then fitsM (SH.nextM r) l [[]] o else fitsM (SN.nextM r) l [firstN r l] o

structure Said (l : List Sp) (o : List Nat) : Prop where
  nodup : o.Nodup
  lt : ∀ i ∈ o, i < l.length
  done : ∀ i s, l[i]? = some s → pend s = false → i ∈ o
  ord : ∀ (p i : Nat), o[p]? = some i → ∀ j s c, l[j]? = some s → l[i]? = some c → j ≠ i → ahd s c = true → j ∈ o.take p
theorem said_of {σ : Type} [DecidableEq σ] {next : σ → Sp → List σ} {l : List Sp} {S : List σ} {o : List Nat} {f : Nat} (h : dfs next l f 0 S = some o) : Said l o ∧ fitsM next l S o = true := by
  obtain ⟨h1, h2⟩ := dfs_sound next l h
  obtain ⟨g1, g2, g3⟩ := run_rdy next l h1
  refine ⟨⟨g1, fun i hi => (g2 i hi).2, fun i s hs hp => ?_, fun p i hp j s c hs hc hj ha => ?_⟩, ?_⟩
  · have := (allAt_iff.1 h2) i s hs
    rw [hp, run_done] at this
    simpa using this
  · obtain ⟨c', hc', H⟩ := g3 p i hp
    rw [hc] at hc'
    obtain rfl := Option.some.inj hc'
    rcases H j s hs hj ha with h | h
    · simp at h
    · exact h
  · unfold fitsM
    rw [h2, Bool.and_true]
    cases hh : (runM next l 0 S o).2 with
    | nil => exact absurd hh h1
    | cons => rfl
theorem like_to (T : List Int) (u : Int) (s : Sp) : (like T u s).to = s.to ∧ (like T u s).from_ = s.from_ := by unfold like; split <;> exact ⟨rfl, rfl⟩
theorem said_alike {l : List Sp} {o : List Nat} (h : Said (alikeM l) o) : Said l o := by
  have g : ∀ (i : Nat) (s : Sp), l[i]? = some s → (alikeM l)[i]? = some (like (frontsM l) (otherM (frontsM l) : Nat) s) := fun i s hs => by
    unfold alikeM
    rw [List.getElem?_map, hs]
    rfl
  refine ⟨h.nodup, fun i hi => by have := h.lt i hi; rwa [alike_len] at this, fun i s hs hp => h.done i _ (g i s hs) ?_, fun p i hp j s c hs hc hj ha => h.ord p i hp j _ _ (g j s hs) (g i c hc) hj ?_⟩
  · unfold pend at hp ⊢
    rw [(like_to _ _ s).1]
    exact hp
  · unfold ahd at ha ⊢
    rw [(like_to _ _ s).1, (like_to _ _ c).2]
    exact ha
theorem dM_said {mo r : Int} {l : List Sp} {o : List Nat} (h : dM mo r l = some o) : Said l o ∧ fM mo r l o = true := by
  unfold dM at h
  unfold fM
  split at h
  · rename_i e
    rw [if_pos e]
    have := said_of h
    exact ⟨said_alike this.1, this.2⟩
  · rename_i e
    rw [if_neg e]
    split at h
    · rename_i e2
      rw [if_pos e2]
      exact said_of h
    · rename_i e2
      rw [if_neg e2]
      exact said_of h

namespace SN
structure Rel (e : Int) (x x' : List Int) : Prop where
  ok : Po.chk x = 0
  ok' : Po.chk x' = 0
  out : ¬ e ∈ x
  mem : ∀ v, v ∈ x' ↔ v ∈ x ∨ v = e
theorem in_range {x : List Int} (h : Po.chk x = 0) {v : Int} (hv : v ∈ x) : ∃ i : Nat, i < 1024 ∧ v = i := Po.any_noIdx.1 (Po.chk_ok h).1 v hv
theorem mem_upd {x : List Int} (h : Po.chk x = 0) (i : Int) (b : Bool) (v : Int) : v ∈ Po.memI (Po.upd (Po.setOf x) i b) ↔ (v = i ∧ b = true ∧ ∃ j : Nat, j < 1024 ∧ v = j) ∨ (v ≠ i ∧ v ∈ x) := by
  rw [Po.memI_mem]
  constructor
  · rintro ⟨j, h1, h2, rfl⟩
    unfold Po.upd at h2
    split at h2
    · rename_i e; exact .inl ⟨e, h2, j, h1, rfl⟩
    · rename_i e; exact .inr ⟨e, by simpa [Po.setOf] using h2⟩
  · rintro (⟨rfl, rfl, j, h1, h2⟩ | ⟨h1, h2⟩)
    · exact ⟨j, h1, by unfold Po.upd; rw [if_pos h2.symm], h2⟩
    · obtain ⟨j, h3, rfl⟩ := in_range h h2
      exact ⟨j, h3, by unfold Po.upd; rw [if_neg h1]; simpa [Po.setOf] using h2, rfl⟩
theorem Rel.upd {e : Int} {x x' : List Int} (h : Rel e x x') (i : Int) (b : Bool) (hi : e ≠ i) : Rel e (Po.memI (Po.upd (Po.setOf x) i b)) (Po.memI (Po.upd (Po.setOf x') i b)) where
  ok := Po.chk_memI _
  ok' := Po.chk_memI _
  out := fun he => by
    rcases (mem_upd h.ok i b e).1 he with ⟨h1, _⟩ | ⟨_, h2⟩
    · exact hi h1
    · exact h.out h2
  mem := fun v => by
    rw [mem_upd h.ok', mem_upd h.ok, h.mem]
    constructor
    · rintro (h1 | ⟨h1, h2 | h2⟩)
      · exact .inl (.inl h1)
      · exact .inl (.inr ⟨h1, h2⟩)
      · exact .inr h2
    · rintro ((h1 | ⟨h1, h2⟩) | h1)
      · exact .inl h1
      · exact .inr ⟨h1, .inl h2⟩
      · exact .inr ⟨by rw [h1]; exact hi, .inr h1⟩
theorem Rel.same {e : Int} {x x' : List Int} (h : Rel e x x') : Rel e (Po.memI (Po.setOf x)) (Po.memI (Po.setOf x')) := by
  rw [Po.memI_setOf h.ok, Po.memI_setOf h.ok']; exact h
theorem outs_more {e : Int} {x x' : List Int} (h : Rel e x x') {o : Po.Opn} (hn : o.k = 8 → e ≠ o.a) {a : Po.Ann} (ha : a ∈ Po.outs (Po.setOf x) o) :
    a ∈ Po.outs (Po.setOf x') o ∧ Rel e (Po.memI (Po.aft (Po.setOf x) o a)) (Po.memI (Po.aft (Po.setOf x') o a)) := by
  unfold Po.outs at ha ⊢
  by_cases h7 : o.k = 7
  · rw [if_pos h7] at ha ⊢
    rw [Po.memI_setOf h.ok] at ha
    rw [Po.memI_setOf h.ok']
    rcases List.mem_append.1 ha with ha | ha
    · obtain ⟨i, hi, rfl⟩ := List.mem_map.1 ha
      refine ⟨List.mem_append_left _ (List.mem_map.2 ⟨i, (h.mem i).2 (.inl hi), rfl⟩), ?_⟩
      have e1 : ∀ M, Po.aft M o ⟨0, i, 0⟩ = Po.upd M i false := fun M => by unfold Po.aft; rw [if_pos ⟨rfl, h7⟩]
      rw [e1, e1]
      exact h.upd i false (by rintro rfl; exact h.out hi)
    · refine ⟨List.mem_append_right _ ha, ?_⟩
      have he : a.e ≠ 0 := by
        simp at ha
        rcases ha with rfl | rfl <;> decide
      have e1 : ∀ M, Po.aft M o a = M := fun M => by unfold Po.aft; rw [if_neg (fun q => he q.1), if_neg (fun q => he q.1)]
      rw [e1, e1]
      exact h.same
  · rw [if_neg h7] at ha ⊢
    by_cases h8 : o.k = 8
    · rw [if_pos h8] at ha ⊢
      have hf : Po.freed (Po.setOf x') o.a = Po.freed (Po.setOf x) o.a := by
        unfold Po.freed
        by_cases hx : Po.noIdx o.a = true
        · rw [if_pos hx, if_pos hx]
        · rw [if_neg hx, if_neg hx]
          obtain ⟨i, hi, hia⟩ := Po.noIdx_iff.1 (by simpa using hx)
          have : Po.setOf x' o.a.toNat = Po.setOf x o.a.toNat := by
            rw [hia]
            unfold Po.setOf
            rw [Bool.eq_iff_iff]
            simp only [Int.toNat_natCast, decide_eq_true_eq]
            rw [h.mem]
            constructor
            · rintro (h1 | h1)
              · exact h1
              · exact absurd (h1.symm.trans hia.symm) (hn h8)
            · exact .inl
          rw [this]
      rw [hf]
      refine ⟨ha, ?_⟩
      by_cases he : a.e = 0
      · have e1 : ∀ M, Po.aft M o a = Po.upd M o.a true := fun M => by unfold Po.aft; rw [if_neg (fun q => h7 q.2), if_pos ⟨he, h8⟩]
        rw [e1, e1]
        exact h.upd o.a true (hn h8)
      · have e1 : ∀ M, Po.aft M o a = M := fun M => by unfold Po.aft; rw [if_neg (fun q => h7 q.2), if_neg (fun q => he q.1)]
        rw [e1, e1]
        exact h.same
    · rw [if_neg h8] at ha
      cases ha
theorem next_more {e : Int} {l : List Sp} (hn : ¬ e ∈ namedM l) (r : Int) : ∀ s ∈ l, ∀ x x', Rel e x x' → ∀ y ∈ nextM r x s, ∃ y' ∈ nextM r x' s, Rel e y y' := by
  intro s hs x x' h y hy
  unfold nextM at hy ⊢
  obtain ⟨a, ha, hp⟩ := List.mem_filterMap.1 hy
  obtain ⟨g1, rfl⟩ := nx_next hp
  have g2 : (⟨a.e, a.n, a.v⟩ : Po.Ann) ∈ Po.outs (Po.setOf x) (opO s) := by unfold Po.allS at g1; rw [if_pos h.ok] at g1; exact g1
  have h8 : (opO s).k = 8 → e ≠ (opO s).a := fun h8 he => hn (by rw [he]; exact named_mem hs h8)
  obtain ⟨g3, g4⟩ := outs_more h h8 g2
  have g5 : (⟨a.e, a.n, a.v⟩ : Po.Ann) ∈ Po.allS x' (opO s) := by unfold Po.allS; rw [if_pos h.ok']; exact g3
  refine ⟨_, List.mem_filterMap.2 ⟨a, ?_, ?_⟩, g4⟩
  · unfold ansM at ha ⊢
    split at ha
    · rename_i hpd
      obtain ⟨q1, q2⟩ := List.mem_filter.1 ha
      rw [if_pos hpd]
      exact List.mem_filter.2 ⟨List.mem_map.2 ⟨_, g5, rfl⟩, q2⟩
    · rename_i hpd
      rw [if_neg hpd]
      exact ha
  · unfold nxM Po.nextL
    rw [if_pos g5, if_pos g5]
theorem unn_nodup (r : Int) (l : List Sp) : (unn r l).Nodup := nodup_asc (Po.asc_memI _)
theorem asc_filter (p : Int → Bool) : ∀ {s : List Int}, Po.asc s = true → Po.asc (s.filter p) = true := by
  intro s
  induction s with
  | nil => intro _; rfl
  | cons x s ih =>
    intro h
    obtain ⟨h1, h2⟩ := Po.asc_cons.1 h
    rw [List.filter_cons]
    split
    · exact Po.asc_cons.2 ⟨ih h1, fun y hy => h2 y (List.mem_filter.1 hy).1⟩
    · exact ih h1
def Less (S S' : List Int) : Prop := (∀ v, v ∈ S' ↔ v ∈ S) ∨ ∃ e ∈ S, ¬ e ∈ S' ∧ ∀ v, v ∈ S ↔ v = e ∨ v ∈ S'
theorem less_drop {u : List Int} (h : u.Nodup) (p : Nat) : Less (u.drop p) (u.drop (p + 1)) := by
  by_cases hp : p < u.length
  · have e : u.drop p = u[p] :: u.drop (p + 1) := List.drop_eq_getElem_cons hp
    have hd : (u.drop p).Nodup := h.sublist (List.drop_sublist _ _)
    rw [e] at hd
    refine .inr ⟨u[p], by rw [e]; exact List.mem_cons_self .., (List.nodup_cons.1 hd).1, fun v => by rw [e, List.mem_cons]⟩
  · rw [List.drop_of_length_le (by omega), List.drop_of_length_le (by omega)]
    exact .inl fun v => Iff.rfl
theorem less_out {u : List Int} (h : u.Nodup) (a : Int) (p : Nat) : Less (u.drop p) ((u.filter fun x => decide (x ≠ a)).drop p) := by
  by_cases ha : a ∈ u
  · obtain ⟨A, B, rfl⟩ := List.append_of_mem ha
    obtain ⟨h1, h2, h3⟩ := List.nodup_append.1 h
    have hA : A.filter (fun x => decide (x ≠ a)) = A := List.filter_eq_self.2 fun x hx => by
      have := h3 x hx a (List.mem_cons_self ..)
      simpa using this
    have hB : B.filter (fun x => decide (x ≠ a)) = B := List.filter_eq_self.2 fun x hx => by
      have : x ≠ a := by rintro rfl; exact (List.nodup_cons.1 h2).1 hx
      simpa using this
    have e : (A ++ a :: B).filter (fun x => decide (x ≠ a)) = A ++ B := by
      rw [List.filter_append, hA, List.filter_cons, hB]
      simp
    rw [e]
    by_cases hp : p ≤ A.length
    · rw [List.drop_append_of_le_length hp, List.drop_append_of_le_length hp]
      refine .inr ⟨a, List.mem_append_right _ (List.mem_cons_self ..), fun hm => ?_, fun v => ?_⟩
      · rcases List.mem_append.1 hm with hm | hm
        · exact h3 a (List.mem_of_mem_drop hm) a (List.mem_cons_self ..) rfl
        · exact (List.nodup_cons.1 h2).1 hm
      · simp only [List.mem_append, List.mem_cons]
        constructor
        · rintro (h | h | h)
          · exact .inr (.inl h)
          · exact .inl h
          · exact .inr (.inr h)
        · rintro (h | h | h)
          · exact .inr (.inl h)
          · exact .inl h
          · exact .inr (.inr h)
    · obtain ⟨q, rfl⟩ : ∃ q, p = A.length + (q + 1) := ⟨p - A.length - 1, by omega⟩
      rw [List.drop_append, List.drop_append, List.drop_of_length_le (by omega), Nat.add_sub_cancel_left, List.nil_append, List.nil_append, List.drop_succ_cons]
      exact less_drop (List.nodup_cons.1 h2).2 q
  · have e : u.filter (fun x => decide (x ≠ a)) = u := List.filter_eq_self.2 fun x hx => by
      have : x ≠ a := by rintro rfl; exact ha hx
      simpa using this
    rw [e]
    exact .inl fun v => Iff.rfl
theorem spare_more (r : Int) (l : List Sp) {m : Sp} (hm : pend m = true) : Less (spareM r l) (spareM r (l ++ [m])) := by
  rw [spare_eq, spare_eq]
  have en : nAll (l ++ [m]) = nAll l + (if m.k = 7 then 1 else 0) := by
    unfold nAll
    rw [List.countP_append, List.countP_singleton, hm]
    by_cases h : m.k = 7 <;> simp [h]
  have em : namedM (l ++ [m]) = namedM l ++ (if m.k = 8 then [m.x] else []) := by
    unfold namedM
    rw [List.flatMap_append]
    congr 1
    simp only [List.flatMap_cons, List.flatMap_nil, List.append_nil]
    unfold namedOf
    rw [if_neg (by rw [hm]; simp)]
  by_cases h8 : m.k = 8
  · have e : unn r (l ++ [m]) = (unn r l).filter fun x => decide (x ≠ m.x) := by
      refine Po.asc_ext (Po.asc_memI _) (asc_filter _ (Po.asc_memI _)) fun x => ?_
      rw [mem_unn, List.mem_filter, mem_unn, em, if_pos h8]
      constructor
      · rintro ⟨i, h1, rfl, h2, h3⟩
        simp only [List.mem_append, List.mem_singleton] at h3
        exact ⟨⟨i, h1, rfl, h2, fun h => h3 (.inl h)⟩, by simpa using fun h => h3 (.inr h)⟩
      · rintro ⟨⟨i, h1, rfl, h2, h3⟩, h4⟩
        refine ⟨i, h1, rfl, h2, fun h => ?_⟩
        simp only [List.mem_append, List.mem_singleton] at h
        rcases h with h | h
        · exact h3 h
        · simp at h4; exact h4 h
    rw [e, en, if_neg (by omega), Nat.add_zero]
    exact less_out (unn_nodup r l) m.x _
  · have e : unn r (l ++ [m]) = unn r l := by unfold unn; rw [em, if_neg h8, List.append_nil]
    rw [e, en]
    by_cases h7 : m.k = 7
    · rw [if_pos h7]
      exact less_drop (unn_nodup r l) _
    · rw [if_neg h7]
      exact .inl fun v => Iff.rfl
theorem first_more (r : Int) (l : List Sp) {m : Sp} (hm : pend m = true) : firstN r (l ++ [m]) = firstN r l ∨ ∃ e, ¬ e ∈ namedM l ∧ Rel e (firstN r l) (firstN r (l ++ [m])) := by
  rcases spare_more r l hm with h | ⟨e, h1, h2, h3⟩
  · left
    unfold firstN
    refine Po.memI_congr fun i _ => ?_
    unfold Po.restM
    congr 2
    rw [Bool.eq_iff_iff]
    simp [h]
  · right
    have hu : e ∈ unn r l := by rw [spare_eq] at h1; exact List.mem_of_mem_drop h1
    obtain ⟨j, g1, rfl, g2, g3⟩ := mem_unn.1 hu
    refine ⟨_, g3, Po.chk_memI _, Po.chk_memI _, fun hf => ?_, fun v => ?_⟩
    · obtain ⟨i, _, hi, _, hn⟩ := mem_first.1 hf
      rw [← hi] at hn
      exact hn h1
    · rw [mem_first, mem_first]
      constructor
      · rintro ⟨i, q1, rfl, q2, q3⟩
        by_cases e : (i : Int) = j
        · exact .inr e
        · refine .inl ⟨i, q1, rfl, q2, fun hs => ?_⟩
          rcases (h3 i).1 hs with h | h
          · exact e h
          · exact q3 h
      · rintro (⟨i, q1, rfl, q2, q3⟩ | rfl)
        · exact ⟨i, q1, rfl, q2, fun hs => q3 ((h3 i).2 (.inr hs))⟩
        · exact ⟨j, g1, rfl, g2, h2⟩
end SN
theorem dM_more {mo r : Int} {l : List Sp} {m : Sp} (hm : pend m = true) (h10 : (l ++ [m]).length ≤ 10) {o : List Nat} (h : dM mo r l = some o) : dM mo r (l ++ [m]) ≠ none := by
  have same : ∀ {σ : Type} {next : σ → Sp → List σ} {L : List Sp}, ∀ s ∈ L, ∀ x x', x = x' → ∀ y ∈ next x s, ∃ y' ∈ next x' s, y = y' := fun s _ x x' e y hy => by subst e; exact ⟨y, hy, rfl⟩
  unfold dM at h ⊢
  split at h
  · rename_i e
    rw [if_pos e]
    obtain ⟨m', e2, hm'⟩ := alike_more (l := l) hm
    rw [e2]
    exact dfs_more hm' (R := Eq) same (fun x hx => ⟨x, hx, rfl⟩) (Nat.le_trans (left_le _) (by rw [List.length_append, alike_len] at *; simpa using h10)) h
  · rename_i e
    rw [if_neg e]
    split at h
    · rename_i e2
      rw [if_pos e2]
      exact dfs_more hm (R := Eq) same (fun x hx => ⟨x, hx, rfl⟩) (Nat.le_trans (left_le _) h10) h
    · rename_i e2
      rw [if_neg e2]
      rcases SN.first_more r l hm with e3 | ⟨e3, hn, hr⟩
      · rw [e3]
        exact dfs_more hm (R := Eq) same (fun x hx => ⟨x, hx, rfl⟩) (Nat.le_trans (left_le _) h10) h
      · exact dfs_more hm (R := SN.Rel e3) (SN.next_more hn r) (fun x hx => by rw [List.mem_singleton.1 hx]; exact ⟨_, List.mem_singleton_self _, hr⟩) (Nat.le_trans (left_le _) h10) h
end Go.Proofs.YtbfmmndpboagdaaGreatDoor

set_option maxRecDepth 20000
namespace Go.Proofs.YtbfmmndpboagdaaGreatDoor
open Go.RowKit Go.Shelf

def WfA (l : List Sp) : Prop := SU.Wf l ∧ SH.Wf l
theorem chk_ok {mo r : Int} {l : List Sp} (h : chkL mo r l = 0) : (mo = 1 ∨ mo = 2 ∨ mo = 3) ∧ l.length ≤ 10 ∧ twiceM (idsM l) = false := by
  unfold chkL at h
  split at h
  · omega
  · split at h
    · omega
    · split at h
      · omega
      · split at h
        · omega
        · rename_i h1 h2 h3 h4
          exact ⟨by omega, by omega, by simpa using h4⟩
def RetA' (w : World) (mo r : Int) (l : List Sp) (e : Ending) (w' : World) : Prop :=
  Kept w w' ∧ (((chkL mo r l != 0) = true ∧ e = .returned (.tuple #[.slice none 0 0, .bool false, .int .i64 (chkL mo r l)])) ∨ (chkL mo r l = 0 ∧ ((dM mo r l = none ∧ e = .returned (.tuple #[.slice none 0 0, .bool false, .int .i64 0])) ∨
    ∃ o a c, dM mo r l = some o ∧ e = .returned (.tuple #[.slice a o.length c, .bool true, .int .i64 0]) ∧ OwnI w' w.heap.size (.slice a o.length c) (idsO l o))))
theorem order_all {w : World} {a : Option Addr} {n c : Nat} {l : List Sp} (h : Lay w (.slice a n c) n (flatS l)) (hn : n = l.length) (hW : WfA l) (hT : Po.Tab w) (mo r : Int) :
    Calls Tryz.prog 11 #[.int .i64 mo, .int .i64 r, .slice a n c] w (RetA' w mo r l) := by
  by_cases hc : chkL mo r l = 0
  · obtain ⟨h1, h2, _⟩ := chk_ok hc
    have fin : ∀ {d : Option (List Nat)}, dM mo r l = d → Calls Tryz.prog 11 #[.int .i64 mo, .int .i64 r, .slice a n c] w (RetO w l d) → Calls Tryz.prog 11 #[.int .i64 mo, .int .i64 r, .slice a n c] w (RetA' w mo r l) := fun hd H => H.mono fun e w' ⟨k, hk⟩ => by
      rcases hk with ⟨h3, h4⟩ | ⟨o, a', c', h3, h4, h5⟩
      · exact ⟨k, .inr ⟨hc, .inl ⟨hd.trans h3, h4⟩⟩⟩
      · exact ⟨k, .inr ⟨hc, .inr ⟨o, a', c', hd.trans h3, h4, h5⟩⟩⟩
    rcases h1 with rfl | rfl | rfl
    · exact fin (by unfold dM; rw [if_pos rfl]) (ordU h hn (by omega) r hc hW.1 rfl)
    · exact fin (by unfold dM; rw [if_neg (by decide), if_pos rfl]) (ordH h hn (by omega) r hc hW.2 rfl)
    · exact fin (by unfold dM; rw [if_neg (by decide), if_neg (by decide)]) (ordN h hn (by omega) r hc hT rfl)
  · refine (order_err h hn mo r rfl (by simpa using hc)).mono fun e w' ⟨h1, h2⟩ => ⟨h2, .inl ⟨by simpa using hc, h1⟩⟩
theorem fits_all {w : World} {a : Option Addr} {n c : Nat} {l : List Sp} (h : Lay w (.slice a n c) n (flatS l)) (hn : n = l.length) (hW : WfA l) (hT : Po.Tab w) (mo r : Int) (hc : chkL mo r l = 0)
    {oa : Option Addr} {on oc : Nat} {o : List Int} (ho : Lay w (.slice oa on oc) on (ints o)) (hon : on = o.length) (ho10 : on ≤ 10) (hi : ∀ x ∈ o, x ∈ idsM l) (ht : twiceM (o.map (wh l)) = false) :
    Calls Tryz.prog 13 #[.int .i64 mo, .int .i64 r, .slice a n c, .slice oa on oc] w fun e w' => e = .returned (.tuple #[.bool (fM mo r l (atN l o)), .int .i64 0]) ∧ Kept w w' := by
  obtain ⟨h1, h2, _⟩ := chk_ok hc
  have fin : ∀ {b : Bool}, fM mo r l (atN l o) = b → Calls Tryz.prog 13 #[.int .i64 mo, .int .i64 r, .slice a n c, .slice oa on oc] w (RetF w l o b) → Calls Tryz.prog 13 #[.int .i64 mo, .int .i64 r, .slice a n c, .slice oa on oc] w fun e w' => e = .returned (.tuple #[.bool (fM mo r l (atN l o)), .int .i64 0]) ∧ Kept w w' := fun hb H => H.mono fun e w' ⟨k, hk⟩ => by
    rcases hk with ⟨g, _⟩ | ⟨_, g, _⟩ | ⟨_, _, g⟩
    · exact absurd hi g
    · rw [ht] at g; cases g
    · exact ⟨by rw [hb]; exact g, k⟩
  rcases h1 with rfl | rfl | rfl
  · exact fin (by unfold fM; rw [if_pos rfl]) (fits_fifo h hn (by omega) r hc (SU.inv_any r (alike_wf hW.1 (by omega))) ho hon ho10)
  · exact fin (by unfold fM; rw [if_neg (by decide), if_pos rfl]) (fits_heap h hn (by omega) r hc (SH.inv_any r hW.2) ho hon ho10)
  · exact fin (by unfold fM; rw [if_neg (by decide), if_neg (by decide)]) (fits_pool h hn (by omega) r hc hT (SN.inv_any r (by omega)) ho hon ho10)
theorem nodup_ids {l : List Sp} (h : twiceM (idsM l) = false) : (idsM l).Nodup := by
  unfold twiceM at h
  rw [List.any_eq_false] at h
  rw [List.nodup_iff_pairwise_ne, List.pairwise_iff_getElem]
  intro i j hi hj hij e
  have := h j (List.mem_range.2 hj)
  rw [List.getElem?_eq_getElem hj] at this
  simp at this
  refine this ?_
  rw [List.mem_iff_getElem?]
  exact ⟨i, by rw [List.getElem?_take_of_lt hij, List.getElem?_eq_getElem hi, e]⟩
theorem idx_at {L : List Int} (h : L.Nodup) {i : Nat} {x : Int} (hx : L[i]? = some x) : L.idxOf x = i := by
  have := idx_first hx fun j y hj hy e => by
    subst e
    have hi := (List.getElem?_eq_some_iff.1 hx).1
    have hj' := (List.getElem?_eq_some_iff.1 hy).1
    exact absurd ((List.getElem?_inj hj' h).1 (hy.trans hx.symm)) (by omega)
  unfold whereI at this
  split at this
  · exact Option.some.inj this
  · cases this
theorem at_ids {l : List Sp} (hd : (idsM l).Nodup) {o : List Nat} (ho : ∀ i ∈ o, i < l.length) : atN l (idsO l o) = o ∧ ∀ x ∈ idsO l o, x ∈ idsM l := by
  have g : ∀ i ∈ o, ∃ s, l[i]? = some s ∧ (idsM l)[i]? = some s.id := fun i hi => by
    obtain ⟨s, hs⟩ : ∃ s, l[i]? = some s := ⟨_, List.getElem?_eq_getElem (ho i hi)⟩
    exact ⟨s, hs, by unfold idsM; rw [List.getElem?_map, hs]; rfl⟩
  constructor
  · unfold atN idsO
    rw [List.map_map]
    conv => rhs; rw [← List.map_id o]
    apply List.map_congr_left
    intro i hi
    obtain ⟨s, hs, hx⟩ := g i hi
    simp only [Function.comp, hs, Option.map_some, Option.getD_some, id]
    exact idx_at hd hx
  · intro x hx
    unfold idsO at hx
    obtain ⟨i, hi, rfl⟩ := List.mem_map.1 hx
    obtain ⟨s, hs, hx⟩ := g i hi
    rw [hs]
    exact List.mem_of_getElem? hx
theorem once_casts {o : List Nat} (h : o.Nodup) : twiceM (SH.casts o) = false := by
  unfold twiceM
  rw [List.any_eq_false]
  intro j hj
  cases hx : (SH.casts o)[j]? with
  | none => simp
  | some x =>
    simp only [Option.any_some, decide_eq_true_eq]
    intro hm
    obtain ⟨i, hi⟩ := List.mem_iff_getElem?.1 hm
    have hij : i < j := by have := (List.getElem?_eq_some_iff.1 hi).1; simp at this; omega
    rw [List.getElem?_take_of_lt hij] at hi
    unfold SH.casts at hi hx
    rw [List.getElem?_map] at hi hx
    obtain ⟨p, hp, rfl⟩ := Option.map_eq_some_iff.1 hi
    obtain ⟨q, hq, e⟩ := Option.map_eq_some_iff.1 hx
    have : q = p := by omega
    subst this
    exact absurd ((List.getElem?_inj (List.getElem?_eq_some_iff.1 hp).1 h).1 (hp.trans hq.symm)) (by omega)
theorem told_fits {w : World} {a : Option Addr} {n c : Nat} {l : List Sp} (h : Lay w (.slice a n c) n (flatS l)) (hn : n = l.length) (hW : WfA l) (hT : Po.Tab w) (mo r : Int) (hc : chkL mo r l = 0) {o : List Nat} (hS : Said l o) (hf : fM mo r l o = true)
    {oa : Option Addr} {oc : Nat} (ho : Lay w (.slice oa o.length oc) o.length (ints (idsO l o))) :
    Calls Tryz.prog 13 #[.int .i64 mo, .int .i64 r, .slice a n c, .slice oa o.length oc] w fun e w' => e = .returned (.tuple #[.bool true, .int .i64 0]) ∧ Kept w w' := by
  obtain ⟨_, h2, h3⟩ := chk_ok hc
  obtain ⟨g1, g2⟩ := at_ids (nodup_ids h3) hS.lt
  have ol : o.length ≤ 10 := by
    have := nodup_le (U := List.range l.length) hS.nodup fun i hi => List.mem_range.2 (hS.lt i hi)
    rw [List.length_range] at this
    omega
  have := fits_all h hn hW hT mo r hc ho (by simp [idsO]) ol g2 (by rw [wh_casts g2, g1]; exact once_casts hS.nodup)
  rw [g1, hf] at this
  exact this
end Go.Proofs.YtbfmmndpboagdaaGreatDoor

set_option maxRecDepth 20000
namespace Go.Proofs.YtbfmmndpboagdaaGreatDoor
open Go.RowKit Go.Shelf

set_option maxHeartbeats 1000000 in
theorem where_any {w : World} {a : Option Addr} {n c : Nat} {s : List Int} (h : Lay w (.slice a n c) n (ints s)) (hn : n = s.length) (x : Int) :
    Calls Tryz.prog 20 #[.slice a n c, .int .i64 x] w fun e w' => e = .returned (.int .i64 ((whereI s x).elim (-1 : Int) (fun (i : Nat) => (i : Int)))) ∧ w = w' := by
  obtain ⟨a', c', e, hnc, hcm⟩ := h.form
  cases e
  unfold maxLen at hcm
  have CE := Lib.hid (fun i y hy => num_one h hn i y hy)
  have HN := Lib.hid hn
  clear h hn
  go_enter Tryz.func20, Tryz.ntmps20
  go_wp2
  go_loopw [5] (fun i wr => ∃ k : Nat, k ≤ n ∧ i = .int .i64 k ∧ (∀ j y, j < k → s[j]? = some y → x ≠ y) ∧ w = wr) (fun i _ => n - (intOf i).toNat)
  case atStart => exact ⟨0, Nat.zero_le _, rfl, fun j y hj => by omega, rfl⟩
  case round =>
    obtain ⟨k, hkn, rfl, hlo, rfl⟩ := hrel
    have LO := Lib.hid hlo
    clear hlo
    by_cases hlt : k < n
    · obtain ⟨y, hy⟩ : ∃ y, s[k]? = some y := ⟨_, List.getElem?_eq_getElem (by rw [← HN.out]; omega)⟩
      obtain ⟨g, o, rfl, c0⟩ := CE.out k y hy
      have HY := Lib.hid hy
      clear hy
      by_cases hxy : x = y
      · have HK := Lib.hid (show whereI s x = some k from idx_first (by rw [hxy]; exact HY.out) LO.out)
        have hq : (y == x) = true := by simpa using hxy.symm
        clear hxy
        go_wp2
        go_ret
        rw [HK.out]
        exact ⟨rfl, rfl⟩
      · have HXY := Lib.hid hxy
        have hq : (y == x) = false := by simpa using fun e => hxy e.symm
        clear hxy
        go_wp2
        go_roundw
        case rel => exact ⟨k + 1, by omega, by go_num, fun j z hj hz => by
          by_cases e : j = k
          · subst e; have h1 := HY.out; rw [hz] at h1; cases h1; exact HXY.out
          · exact LO.out j z (by omega) hz, trivial⟩
        case measure => simp [intOf]; omega
    · have HK := Lib.hid (show whereI s x = none from idx_none fun j y hy => LO.out j y (by have := (List.getElem?_eq_some_iff.1 hy).1; have := HN.out; omega) hy)
      go_wp2
      go_ret
      rw [HK.out]
      exact ⟨rfl, rfl⟩
set_option maxHeartbeats 1000000 in
theorem among_any {w : World} {a : Option Addr} {n c : Nat} {s : List Int} (h : Lay w (.slice a n c) n (ints s)) (hn : n = s.length) (x : Int) :
    Calls Tryz.prog 18 #[.slice a n c, .int .i64 x] w fun e w' => e = .returned (.bool (whereI s x).isSome) ∧ w = w' := by
  obtain ⟨a', c', e, hnc, hcm⟩ := h.form
  cases e
  unfold maxLen at hcm
  have CE := Lib.hid (fun i y hy => num_one h hn i y hy)
  have HN := Lib.hid hn
  clear h hn
  go_enter Tryz.func18, Tryz.ntmps18
  go_wp2
  go_loopw [5] (fun i wr => ∃ k : Nat, k ≤ n ∧ i = .int .i64 k ∧ (∀ j y, j < k → s[j]? = some y → x ≠ y) ∧ w = wr) (fun i _ => n - (intOf i).toNat)
  case atStart => exact ⟨0, Nat.zero_le _, rfl, fun j y hj => by omega, rfl⟩
  case round =>
    obtain ⟨k, hkn, rfl, hlo, rfl⟩ := hrel
    have LO := Lib.hid hlo
    clear hlo
    by_cases hlt : k < n
    · obtain ⟨y, hy⟩ : ∃ y, s[k]? = some y := ⟨_, List.getElem?_eq_getElem (by rw [← HN.out]; omega)⟩
      obtain ⟨g, o, rfl, c0⟩ := CE.out k y hy
      have HY := Lib.hid hy
      clear hy
      by_cases hxy : x = y
      · have HK := Lib.hid (show whereI s x = some k from idx_first (by rw [hxy]; exact HY.out) LO.out)
        have hq : (y == x) = true := by simpa using hxy.symm
        clear hxy
        go_wp2
        go_ret
        rw [HK.out]
        exact ⟨rfl, rfl⟩
      · have HXY := Lib.hid hxy
        have hq : (y == x) = false := by simpa using fun e => hxy e.symm
        clear hxy
        go_wp2
        go_roundw
        case rel => exact ⟨k + 1, by omega, by go_num, fun j z hj hz => by
          by_cases e : j = k
          · subst e; have h1 := HY.out; rw [hz] at h1; cases h1; exact HXY.out
          · exact LO.out j z (by omega) hz, trivial⟩
        case measure => simp [intOf]; omega
    · have HK := Lib.hid (show whereI s x = none from idx_none fun j y hy => LO.out j y (by have := (List.getElem?_eq_some_iff.1 hy).1; have := HN.out; omega) hy)
      go_wp2
      go_ret
      rw [HK.out]
      exact ⟨rfl, rfl⟩
theorem some_in {l : List Int} {x : Int} : (whereI l x).isSome = decide (x ∈ l) := by
  unfold whereI
  split <;> simp [*]
end Go.Proofs.YtbfmmndpboagdaaGreatDoor

set_option maxRecDepth 20000
namespace Go.Proofs.YtbfmmndpboagdaaGreatDoor
open Go.ChangeShapes Go.WideShapes Go.Deep Go.RowKit

def WfS (s : Sp) : Prop := (Lit.int .u64 s.u).wf = true ∧ (Lit.int .i64 s.x).wf = true
def WfO (o : Fi.Opn) : Prop := (Lit.int .u64 o.u).wf = true ∧ (Lit.int .i64 o.a).wf = true
theorem wfA_of {l : List Sp} (h : ∀ s ∈ l, WfS s) : WfA l := ⟨fun s hs => (h s hs).1, fun s hs => h s hs⟩
theorem cellsSp : Tryz.prog.cellsOf 29 = 10 := by kernel_rfl
theorem cellsOp : Tryz.prog.cellsOf 24 = 4 := by kernel_rfl
theorem cellsAns : Tryz.prog.cellsOf 27 = 3 := by kernel_rfl
theorem cellsInt : Tryz.prog.cellsOf 3 = 1 := by kernel_rfl
theorem cellsU : Tryz.prog.cellsOf 22 = 1 := by kernel_rfl
theorem cellsErr : Tryz.prog.cellsOf 25 = 1 := by kernel_rfl
section
variable {H : Type} {enc : TypeId × Value → H} {w : World} {base : Nat} {spare : Nat → Bool} {held : Bool}
theorem open_wideP {α : Type} {f : α → List Value} {R : α → Prop} {m : Nat} {e t : TypeId} (ht : Tryz.prog.underlying t = some (.slice e)) (hC : Tryz.prog.cellsOf e = m) (hm : 0 < m) (hf : ∀ a, (f a).length = m)
    (ho : ∀ (fuel : Nat) (cs : List Value) (x : DataW H × List MemPlace), DataW.trod enc Tryz.prog w base spare held fuel e cs = some x → ∃ a, cs = f a ∧ R a)
    {fuel : Nat} {a : Option Addr} {len cap : Nat} {x : DataW H × List MemPlace} (h : DataW.trod enc Tryz.prog w base spare held fuel t [.slice a len cap] = some x) :
    ∃ l : List α, l.length = len ∧ Lay w (.slice a len cap) len (l.flatMap f) ∧ ∀ a ∈ l, R a := by
  rcases open_slice ht h with h0 | ⟨y, len', cap', m', n, D, Pl, hcs, _, hl, hm', hmm, _, hi⟩
  · obtain ⟨rfl, rfl, rfl⟩ : a = none ∧ len = 0 ∧ cap = 0 := by simpa using h0.1
    exact ⟨[], rfl, .inl (.inl ⟨rfl, rfl, rfl⟩), by simp⟩
  · obtain ⟨rfl, rfl, rfl⟩ : a = some y ∧ len = len' ∧ cap = cap' := by simpa using hcs
    have hle : len ≤ m' := by rw [hmm]; split <;> omega
    rw [hC] at hi
    have each : ∀ i, i < len → ∃ e : α, (∀ j u, j < m → (f e)[j]? = some u → w.cell? (y.add (i * m + j)) = some u) ∧ R e := by
      intro i hil
      obtain ⟨cs', hc, ht⟩ := hi i (by omega)
      obtain ⟨e, rfl, we⟩ := ho _ _ _ ht
      obtain ⟨_, _, hat⟩ := World.cells?_some hc
      refine ⟨e, fun j u hj hu => ?_, we⟩
      have := hat j hj
      rw [add_add] at this
      exact this.trans hu
    by_cases h0 : len = 0
    · subst h0
      exact ⟨[], rfl, .inr ⟨y, cap, rfl, rfl, rfl, hm'⟩, by simp⟩
    · obtain ⟨b, off, spot⟩ := y
      have hs : spot = none := by
        obtain ⟨e, he, _⟩ := each 0 (by omega)
        have := he 0 _ hm (List.getElem?_eq_getElem (by rw [hf]; exact hm))
        simpa [Addr.add] using World.cell?_spot this
      subst hs
      have pick : ∀ n, n ≤ len → ∃ l : List α, l.length = n ∧ (∀ e ∈ l, R e) ∧ ∀ i e, l[i]? = some e → ∀ j u, j < m → (f e)[j]? = some u → w.cell? ⟨b, off + (i * m + j), none⟩ = some u := by
        intro n
        induction n with
        | zero => intro _; exact ⟨[], rfl, by simp, by simp⟩
        | succ n ih =>
          intro hn
          obtain ⟨l, hl1, hl2, hl3⟩ := ih (by omega)
          obtain ⟨e, he, we⟩ := each n (by omega)
          refine ⟨l ++ [e], by simp [hl1], fun f hf => ?_, fun i g hg j u hj hu => ?_⟩
          · rcases List.mem_append.1 hf with hf | hf
            · exact hl2 f hf
            · simp at hf; subst hf; exact we
          · by_cases hi' : i < l.length
            · rw [List.getElem?_append_left hi'] at hg
              exact hl3 i g hg j u hj hu
            · have h2 := (List.getElem?_eq_some_iff.1 hg).1
              have e1 : i = l.length := by simp at h2; omega
              subst e1
              have e2 : e = g := by simpa using hg
              subst e2
              have := he j u hj hu
              rw [add_none] at this
              rw [hl1]
              exact this
      obtain ⟨l, hl1, hl2, hl3⟩ := pick len (Nat.le_refl _)
      refine ⟨l, hl1, .inl (.inr ⟨b, off, cap, rfl, hl, hm', fun j u hu => ?_⟩), hl2⟩
      have hj : j < l.length * m := by rw [← wide_length hf]; exact (List.getElem?_eq_some_iff.1 hu).1
      have hr : j % m < m := Nat.mod_lt _ hm
      have hi2 : j / m < l.length := Nat.div_lt_of_lt_mul (by rw [Nat.mul_comm]; exact hj)
      have ej : j / m * m + j % m = j := by rw [Nat.mul_comm]; exact Nat.div_add_mod j m
      obtain ⟨e, he⟩ : ∃ e, l[j / m]? = some e := ⟨_, List.getElem?_eq_getElem hi2⟩
      have h3 := hl3 (j / m) e he (j % m) u hr (by rw [← wide_get hf l (j / m) (j % m) e he hr, ej]; exact hu)
      rw [ej] at h3
      exact h3
theorem open_op {fuel : Nat} {cs : List Value} {x : DataW H × List MemPlace} (h : DataW.trod enc Tryz.prog w base spare held fuel 24 cs = some x) : ∃ e : Fi.Opn, cs = Fi.opc e ∧ WfO e := by
  obtain ⟨ys, n2, _, _, hl, hyl, hg⟩ := DataW.trod_struct Tryz.underlying24 h
  rw [cellsOp] at hl
  match cs, hl with
  | [v2, v3, v4, v5], _ =>
    match ys, hyl with
    | [y0, y1, y2, y3], _ =>
      have g0 : DataW.trod enc Tryz.prog w base spare held n2 3 (([v2, v3, v4, v5].drop 0).take (Tryz.prog.cellsOf 3)) = some y0 := hg 0 _ rfl
      have g1 : DataW.trod enc Tryz.prog w base spare held n2 3 (([v2, v3, v4, v5].drop 1).take (Tryz.prog.cellsOf 3)) = some y1 := hg 1 _ rfl
      have g2 : DataW.trod enc Tryz.prog w base spare held n2 3 (([v2, v3, v4, v5].drop 2).take (Tryz.prog.cellsOf 3)) = some y2 := hg 2 _ rfl
      have g3 : DataW.trod enc Tryz.prog w base spare held n2 22 (([v2, v3, v4, v5].drop 3).take (Tryz.prog.cellsOf 22)) = some y3 := hg 3 _ rfl
      simp only [cellsInt, cellsU, List.drop_zero, List.drop_succ_cons, List.take_succ_cons, List.take_zero] at g0 g1 g2 g3
      obtain ⟨q2, e2, _, _⟩ := DataW.trod_int Tryz.underlying3 g0
      obtain ⟨q3, e3, _, w3⟩ := DataW.trod_int Tryz.underlying3 g1
      obtain ⟨q4, e4, _, _⟩ := DataW.trod_int Tryz.underlying3 g2
      obtain ⟨q5, e5, _, w5⟩ := DataW.trod_int Tryz.underlying22 g3
      simp at e2 e3 e4 e5
      subst e2; subst e3; subst e4; subst e5
      exact ⟨⟨q2, q3, q4, q5⟩, rfl, w5, w3⟩
theorem open_span {fuel : Nat} {cs : List Value} {x : DataW H × List MemPlace} (h : DataW.trod enc Tryz.prog w base spare held fuel 29 cs = some x) : ∃ s : Sp, cs = spc s ∧ WfS s := by
  obtain ⟨xs, n, _, _, hl, hxl, hf⟩ := DataW.trod_struct Tryz.underlying29 h
  rw [cellsSp] at hl
  match cs, hl with
  | [v0, v1, v2, v3, v4, v5, v6, v7, v8, v9], _ =>
    match xs, hxl with
    | [x0, x1, x2, x3, x4], _ =>
      have f0 : DataW.trod enc Tryz.prog w base spare held n 3 (([v0, v1, v2, v3, v4, v5, v6, v7, v8, v9].drop 0).take (Tryz.prog.cellsOf 3)) = some x0 := hf 0 _ rfl
      have f1 : DataW.trod enc Tryz.prog w base spare held n 3 (([v0, v1, v2, v3, v4, v5, v6, v7, v8, v9].drop 1).take (Tryz.prog.cellsOf 3)) = some x1 := hf 1 _ rfl
      have f2 : DataW.trod enc Tryz.prog w base spare held n 3 (([v0, v1, v2, v3, v4, v5, v6, v7, v8, v9].drop 2).take (Tryz.prog.cellsOf 3)) = some x2 := hf 2 _ rfl
      have f3 : DataW.trod enc Tryz.prog w base spare held n 24 (([v0, v1, v2, v3, v4, v5, v6, v7, v8, v9].drop 3).take (Tryz.prog.cellsOf 24)) = some x3 := hf 3 _ rfl
      have f4 : DataW.trod enc Tryz.prog w base spare held n 27 (([v0, v1, v2, v3, v4, v5, v6, v7, v8, v9].drop 7).take (Tryz.prog.cellsOf 27)) = some x4 := hf 4 _ rfl
      simp only [cellsInt, cellsOp, cellsAns, List.drop_zero, List.drop_succ_cons, List.take_succ_cons, List.take_zero] at f0 f1 f2 f3 f4
      obtain ⟨i0, e0, _, _⟩ := DataW.trod_int Tryz.underlying3 f0
      obtain ⟨i1, e1, _, _⟩ := DataW.trod_int Tryz.underlying3 f1
      obtain ⟨i2, e2, _, _⟩ := DataW.trod_int Tryz.underlying3 f2
      obtain ⟨o, eo, wo⟩ := open_op f3
      obtain ⟨zs, n3, _, _, _, hzl, hk⟩ := DataW.trod_struct Tryz.underlying27 f4
      match zs, hzl with
      | [z0, z1, z2], _ =>
        have k0 : DataW.trod enc Tryz.prog w base spare held n3 25 (([v7, v8, v9].drop 0).take (Tryz.prog.cellsOf 25)) = some z0 := hk 0 _ rfl
        have k1 : DataW.trod enc Tryz.prog w base spare held n3 3 (([v7, v8, v9].drop 1).take (Tryz.prog.cellsOf 3)) = some z1 := hk 1 _ rfl
        have k2 : DataW.trod enc Tryz.prog w base spare held n3 22 (([v7, v8, v9].drop 2).take (Tryz.prog.cellsOf 22)) = some z2 := hk 2 _ rfl
        simp only [cellsInt, cellsU, cellsErr, List.drop_zero, List.drop_succ_cons, List.take_succ_cons, List.take_zero] at k0 k1 k2
        obtain ⟨q7, e7, _, _⟩ := DataW.trod_int Tryz.underlying25 k0
        obtain ⟨q8, e8, _, _⟩ := DataW.trod_int Tryz.underlying3 k1
        obtain ⟨q9, e9, _, _⟩ := DataW.trod_int Tryz.underlying22 k2
        simp at e0 e1 e2 e7 e8 e9
        simp [Fi.opc] at eo
        obtain ⟨g3, g4, g5, g6⟩ := eo
        subst e0; subst e1; subst e2; subst e7; subst e8; subst e9; subst g3; subst g4; subst g5; subst g6
        exact ⟨⟨i0, i1, i2, o.k, o.a, o.b, o.u, q7, q8, q9⟩, rfl, wo⟩
theorem open_spans {fuel : Nat} {a : Option Addr} {len cap : Nat} {x : DataW H × List MemPlace} (h : DataW.trod enc Tryz.prog w base spare held fuel 38 [.slice a len cap] = some x) :
    ∃ l : List Sp, l.length = len ∧ Lay w (.slice a len cap) len (flatS l) ∧ ∀ s ∈ l, WfS s := open_wideP Tryz.underlying38 cellsSp (by decide) spc_length (fun _ _ _ h => open_span h) h
theorem open_opsP {fuel : Nat} {a : Option Addr} {len cap : Nat} {x : DataW H × List MemPlace} (h : DataW.trod enc Tryz.prog w base spare held fuel 44 [.slice a len cap] = some x) :
    ∃ l : List Fi.Opn, l.length = len ∧ Lay w (.slice a len cap) len (Fi.flatO l) ∧ ∀ o ∈ l, WfO o := open_wideP Tryz.underlying44 cellsOp (by decide) (fun _ => rfl) (fun _ _ _ h => open_op h) h
theorem open_spanv {fuel : Nat} {cs : Array Value} {x : DataW H × List MemPlace} (h : DataW.trod enc Tryz.prog w base spare held fuel 29 cs.toList = some x) : ∃ s : Sp, cs = (spc s).toArray ∧ WfS s := by
  obtain ⟨s, hs, hw⟩ := open_span h
  exact ⟨s, by rw [← hs], hw⟩
end
end Go.Proofs.YtbfmmndpboagdaaGreatDoor
