/- What is so of the states of a search, whatever the model: how many, and which. Nothing of the program. -/
import Derived.Test.YtbfmmndpboagdaaGreatDoorGL0
import Derived.Test.YtbfmmndpboagdaaGreatDoorGU2
import Derived.Test.YtbfmmndpboagdaaGreatDoorGHH2
import Derived.Test.YtbfmmndpboagdaaGreatDoorGN2
import Derived.Test.YtbfmmndpboagdaaGreatDoorGM1
import Derived.Test.YtbfmmndpboagdaaGreatDoorGL
namespace Go.Proofs.YtbfmmndpboagdaaGreatDoor

theorem adds_len {σ : Type} [DecidableEq σ] : ∀ (L acc : List σ), (L.foldl addNew acc).length ≤ acc.length + L.length := by
  intro L
  induction L with
  | nil => intro acc; simp
  | cons x L ih =>
    intro acc
    rw [List.foldl_cons]
    refine Nat.le_trans (ih _) ?_
    have : (addNew acc x).length ≤ acc.length + 1 := by unfold addNew; split <;> simp
    simp only [List.length_cons]
    omega
theorem aft_few {σ : Type} [DecidableEq σ] {next : σ → Sp → List σ} (h : ∀ q s, (next q s).length ≤ 1) (l : List Sp) (D : Nat) (S : List σ) (i : Nat) (hS : S.length ≤ 1) : (aftM next l D S i).length ≤ 1 := by
  unfold aftM
  split
  · cases l[i]? with
    | none => simp
    | some c =>
      refine Nat.le_trans (adds_len _ _) ?_
      cases S with
      | nil => simp
      | cons x S =>
        cases S with
        | nil => simpa using h x c
        | cons y S => simp at hS
  · simp
def subs {α : Type} : List α → List (List α)
  | [] => [[]]
  | x :: l => subs l ++ (subs l).map (x :: ·)
theorem subs_len {α : Type} (l : List α) : (subs l).length = 2 ^ l.length := by
  induction l with
  | nil => rfl
  | cons x l ih => simp [subs, ih, Nat.pow_succ]; omega
theorem mem_subs {α : Type} : ∀ {l t : List α}, t.Sublist l → t ∈ subs l := by
  intro l t h
  induction h with
  | slnil => simp [subs]
  | cons a _ ih => simp [subs, ih]
  | cons_cons a _ ih => simp [subs, ih]
theorem nodup_le {α : Type} [DecidableEq α] : ∀ {S U : List α}, S.Nodup → (∀ x ∈ S, x ∈ U) → S.length ≤ U.length := by
  intro S
  induction S with
  | nil => intro U _ _; exact Nat.zero_le _
  | cons x S ih =>
    intro U h1 h2
    obtain ⟨g1, g2⟩ := List.nodup_cons.1 h1
    have hx := h2 x (List.mem_cons_self ..)
    have := ih (U := U.erase x) g2 fun y hy => (List.mem_erase_of_ne (by intro e; subst e; exact g1 hy)).2 (h2 y (List.mem_cons_of_mem _ hy))
    rw [List.length_erase_of_mem hx] at this
    have := List.length_pos_of_mem hx
    simp only [List.length_cons]
    omega

section
variable {σ : Type} [DecidableEq σ]
theorem rdy_more {l : List Sp} {m : Sp} (hm : pend m = true) {D i : Nat} (hi : i < l.length) : rdy (l ++ [m]) D i = rdy l D i := by
  unfold rdy
  rw [List.getElem?_append_left hi]
  congr 1
  cases l[i]? with
  | none => rfl
  | some c =>
    simp only [Option.elim_some]
    rw [Bool.eq_iff_iff, allAt_iff, allAt_iff]
    constructor
    · intro h j s hs
      exact h j s (by rw [List.getElem?_append_left (List.getElem?_eq_some_iff.1 hs).1]; exact hs)
    · intro h j s hs
      by_cases hj : j < l.length
      · rw [List.getElem?_append_left hj] at hs
        exact h j s hs
      · rw [List.getElem?_append_right (by omega)] at hs
        have e : s = m := by
          have := List.mem_of_getElem? hs
          simpa using this
        subst e
        have ha : ahd s c = false := by
          unfold pend at hm
          unfold ahd
          simp at hm
          simp
          intro h
          omega
        rw [ha]
        simp
theorem full_more {l : List Sp} {m : Sp} (hm : pend m = true) {D : Nat} : full (l ++ [m]) D = full l D := by
  unfold full
  rw [Bool.eq_iff_iff, allAt_iff, allAt_iff]
  constructor
  · intro h j s hs
    exact h j s (by rw [List.getElem?_append_left (List.getElem?_eq_some_iff.1 hs).1]; exact hs)
  · intro h j s hs
    by_cases hj : j < l.length
    · rw [List.getElem?_append_left hj] at hs
      exact h j s hs
    · rw [List.getElem?_append_right (by omega)] at hs
      have e : s = m := by
        have := List.mem_of_getElem? hs
        simpa using this
      subst e
      rw [hm]
      rfl
theorem run_more {next next' : σ → Sp → List σ} {l : List Sp} {m : Sp} (hm : pend m = true) {R : σ → σ → Prop}
    (hR : ∀ s ∈ l, ∀ x x', R x x' → ∀ y ∈ next x s, ∃ y' ∈ next' x' s, R y y') : ∀ (o : List Nat) (D : Nat) (S S' : List σ), (∀ x ∈ S, ∃ x' ∈ S', R x x') → (runM next l D S o).2 ≠ [] →
      (runM next' (l ++ [m]) D S' o).2 ≠ [] ∧ (runM next' (l ++ [m]) D S' o).1 = (runM next l D S o).1 := by
  intro o
  induction o with
  | nil =>
    intro D S S' hS h
    refine ⟨?_, rfl⟩
    simp only [runM] at h ⊢
    obtain ⟨x, hx⟩ := List.exists_mem_of_ne_nil _ h
    obtain ⟨x', hx', _⟩ := hS x hx
    exact List.ne_nil_of_mem hx'
  | cons i o ih =>
    intro D S S' hS h
    rw [runM] at h ⊢
    rw [runM]
    obtain ⟨g1, g2, _⟩ := aft_mem_lt next l (run_ne next l h)
    refine ih _ _ _ (fun y hy => ?_) h
    rw [mem_aft] at hy
    obtain ⟨_, c, hc, x, hx, hy⟩ := hy
    obtain ⟨x', hx', hr⟩ := hS x hx
    obtain ⟨y', hy', hr'⟩ := hR c (List.mem_of_getElem? hc) x x' hr y hy
    exact ⟨y', (mem_aft next' _).2 ⟨by rw [rdy_more hm g2]; exact g1, c, by rw [List.getElem?_append_left g2]; exact hc, x', hx', hy'⟩, hr'⟩
theorem dfs_more {next next' : σ → Sp → List σ} {l : List Sp} {m : Sp} (hm : pend m = true) {R : σ → σ → Prop}
    (hR : ∀ s ∈ l, ∀ x x', R x x' → ∀ y ∈ next x s, ∃ y' ∈ next' x' s, R y y') {S S' : List σ} (hS : ∀ x ∈ S, ∃ x' ∈ S', R x x') {f f' : Nat} (hf : leftN (l ++ [m]).length 0 ≤ f') {o : List Nat} (h : dfs next l f 0 S = some o) :
    dfs next' (l ++ [m]) f' 0 S' ≠ none := by
  obtain ⟨h1, h2⟩ := dfs_sound next l h
  obtain ⟨g1, g2⟩ := run_more hm hR o 0 S S' hS h1
  exact dfs_complete next' _ hf g1 (by rw [full_more hm, g2]; exact h2)
end
theorem left_le (n : Nat) : leftN n 0 ≤ n := by
  unfold leftN
  exact Nat.le_trans List.countP_le_length (by simp)
end Go.Proofs.YtbfmmndpboagdaaGreatDoor

namespace Go.Proofs.YtbfmmndpboagdaaGreatDoor.SU

def Wf (l : List Sp) : Prop := ∀ s ∈ l, (Lit.int .u64 s.u).wf = true
theorem next_few (r : Int) (q : List El) (s : Sp) : (nextM r q s).length ≤ 1 := by
  unfold nextM ansM mayM
  refine Nat.le_trans (List.length_filterMap_le _ _) ?_
  split
  · refine Nat.le_trans (List.length_filter_le _ _) ?_
    split <;> simp
  · simp
theorem act_part {room : Nat} {q : List Int} {o : Fi.Opn} {a : Fi.Ann} {p : List Int} (h : Fi.act room q o = some (a, p)) : p.length ≤ q.length + 1 ∧ ∀ y ∈ p, y ∈ q ∨ y = o.u := by
  unfold Fi.act at h
  split at h
  · split at h <;> cases h
    · exact ⟨by omega, fun y hy => .inl hy⟩
    · exact ⟨by simp, fun y hy => by simpa using hy⟩
  · split at h
    · split at h <;> cases h
      · exact ⟨by simp, fun y hy => .inl hy⟩
      · exact ⟨by simp, fun y hy => .inl hy⟩
    · split at h
      · split at h <;> cases h
        · exact ⟨by simp, fun y hy => .inl hy⟩
        · exact ⟨by simp; omega, fun y hy => .inl (List.mem_cons_of_mem _ hy)⟩
      · cases h
theorem nx_act {r : Int} {q p : List El} {s : Sp} {x : Fi.Ann} (h : nxM r q s x = some p) : Fi.chkF r q.length = 0 ∧ Fi.act r.toNat q (opO s) = some (x, p) := by
  unfold nxM Fi.nextI Fi.actI at h
  split at h
  · rename_i hc
    cases ha : Fi.act r.toNat q (opO s) with
    | none => rw [ha] at h; cases h
    | some t =>
      rw [ha] at h
      simp only [Option.elim_some] at h
      split at h
      · rename_i e
        cases h
        exact ⟨hc, by rw [e]⟩
      · cases h
  · cases h
theorem nx_part {r : Int} {q p : List El} {s : Sp} {x : Fi.Ann} (h : nxM r q s x = some p) : p.length ≤ q.length + 1 ∧ ∀ y ∈ p, y ∈ q ∨ y = s.u := act_part (nx_act h).2
def Is (k : Nat) (S : List (List El)) : Prop := S.length ≤ 1 ∧ ∀ q ∈ S, q.length ≤ k ∧ ∀ y ∈ q, (Lit.int .u64 y).wf = true
theorem inv_any (r : Int) {l : List Sp} (hw : Wf l) : Inv r l [] Is where
  start := ⟨by simp, fun q hq => by rw [List.mem_singleton.1 hq]; exact ⟨Nat.zero_le _, fun y hy => by cases hy⟩⟩
  step := fun k S D i hk ⟨h1, h2⟩ => ⟨aft_few (next_few r) l D S i h1, fun y hy => by
    obtain ⟨_, c, hc, x, hx, hy⟩ := (mem_aft (nextM r) l).1 hy
    obtain ⟨a, _, hp⟩ := List.mem_filterMap.1 hy
    obtain ⟨g1, g2⟩ := nx_part hp
    obtain ⟨f1, f2⟩ := h2 x hx
    refine ⟨by omega, fun z hz => ?_⟩
    rcases g2 z hz with h | h
    · exact f2 z h
    · rw [h]; exact hw c (List.mem_of_getElem? hc)⟩
  sub := fun k S T ht ⟨h1, h2⟩ => ⟨Nat.le_trans ht.length_le h1, fun q hq => h2 q (ht.subset hq)⟩
  good := fun k S hk ⟨h1, h2⟩ => ⟨fun q hq => ⟨by have := (h2 q hq).1; omega, (h2 q hq).2⟩, fun q hq s hs => ⟨fun x _ p hp => by
    obtain ⟨g1, g2⟩ := nx_part hp
    obtain ⟨f1, f2⟩ := h2 q hq
    refine ⟨by omega, fun z hz => ?_⟩
    rcases g2 z hz with h | h
    · exact f2 z h
    · rw [h]; exact hw s hs, by
    unfold ansM mayM
    split
    · refine Nat.le_trans (List.length_filter_le _ _) ?_
      split <;> simp
    · simp⟩, by omega⟩
  ok := fun k S hk ⟨h1, h2⟩ => ⟨fun q hq => ⟨by have := (h2 q hq).1; omega, (h2 q hq).2⟩, by omega⟩
end Go.Proofs.YtbfmmndpboagdaaGreatDoor.SU

namespace Go.Proofs.YtbfmmndpboagdaaGreatDoor.SH

def Wf (l : List Sp) : Prop := ∀ s ∈ l, (Lit.int .u64 s.u).wf = true ∧ (Lit.int .i64 s.x).wf = true
theorem next_few (r : Int) (q : List El) (s : Sp) : (nextM r q s).length ≤ 1 := by
  unfold nextM ansM mayM
  refine Nat.le_trans (List.length_filterMap_le _ _) ?_
  split
  · refine Nat.le_trans (List.length_filter_le _ _) ?_
    cases (He.tellS q (opO s)).map an7 <;> simp
  · simp
theorem ins_part (x : He.It) (l : List He.It) : ∀ y ∈ He.ins x l, y ∈ l ∨ y = x := by
  intro y hy
  unfold He.ins at hy
  rcases List.mem_append.1 hy with h | h
  · exact .inl (List.mem_of_mem_take h)
  · rcases List.mem_cons.1 h with h | h
    · exact .inr h
    · exact .inl (List.mem_of_mem_drop h)
theorem outs_part {l : List He.It} {o : He.Opn} : ∀ p ∈ He.outs l o, p.2.length ≤ l.length + 1 ∧ ∀ y ∈ p.2, y ∈ l ∨ y = ⟨o.u, o.a⟩ := by
  intro p hp
  have same : ∀ {m : List He.It}, m = l → m.length ≤ l.length + 1 ∧ ∀ y ∈ m, y ∈ l ∨ y = ⟨o.u, o.a⟩ := fun e => by subst e; exact ⟨by omega, fun y hy => .inl hy⟩
  unfold He.outs at hp
  split at hp
  · split at hp
    · split at hp
      · simp at hp
        rcases hp with rfl | rfl | rfl <;> exact same rfl
      · split at hp
        · simp at hp
          rcases hp with rfl | rfl | rfl
          · exact same rfl
          · exact same rfl
          · exact ⟨by rw [He.ins_length]; exact Nat.le_refl _, ins_part _ _⟩
        · simp at hp
          rcases hp with rfl | rfl <;> exact same rfl
    · split at hp
      · split at hp
        · simp at hp; subst hp; exact same rfl
        · simp at hp; subst hp; exact ⟨by simp; omega, fun y hy => .inl (List.mem_cons_of_mem _ hy)⟩
      · split at hp
        · split at hp
          · simp at hp; subst hp; exact same rfl
          · simp at hp; subst hp; exact same rfl
        · cases hp
  · cases hp
theorem nx_part {r : Int} {q p : List El} {s : Sp} {x : Fi.Ann} (h : nxM r q s x = some p) : p.length ≤ q.length + 1 ∧ ∀ y ∈ p, y ∈ q ∨ y = ⟨s.u, s.x⟩ := by
  unfold nxM He.nextS at h
  obtain ⟨t, ht, rfl⟩ := Option.map_eq_some_iff.1 h
  exact outs_part t (List.mem_of_find?_eq_some ht)
def Is (k : Nat) (S : List (List El)) : Prop := S.length ≤ 1 ∧ ∀ q ∈ S, q.length ≤ k ∧ ∀ y ∈ q, (Lit.int .u64 y.k).wf = true ∧ (Lit.int .i64 y.a).wf = true
theorem inv_any (r : Int) {l : List Sp} (hw : Wf l) : Inv r l [] Is where
  start := ⟨by simp, fun q hq => by rw [List.mem_singleton.1 hq]; exact ⟨Nat.zero_le _, fun y hy => by cases hy⟩⟩
  step := fun k S D i hk ⟨h1, h2⟩ => ⟨aft_few (next_few r) l D S i h1, fun y hy => by
    obtain ⟨_, c, hc, x, hx, hy⟩ := (mem_aft (nextM r) l).1 hy
    obtain ⟨a, _, hp⟩ := List.mem_filterMap.1 hy
    obtain ⟨g1, g2⟩ := nx_part hp
    obtain ⟨f1, f2⟩ := h2 x hx
    refine ⟨by omega, fun z hz => ?_⟩
    rcases g2 z hz with h | h
    · exact f2 z h
    · rw [h]; exact hw c (List.mem_of_getElem? hc)⟩
  sub := fun k S T ht ⟨h1, h2⟩ => ⟨Nat.le_trans ht.length_le h1, fun q hq => h2 q (ht.subset hq)⟩
  good := fun k S hk ⟨h1, h2⟩ => ⟨fun q hq => ⟨by have := (h2 q hq).1; omega, (h2 q hq).2⟩, fun q hq s hs => ⟨fun x _ p hp => by
    obtain ⟨g1, g2⟩ := nx_part hp
    obtain ⟨f1, f2⟩ := h2 q hq
    refine ⟨by omega, fun z hz => ?_⟩
    rcases g2 z hz with h | h
    · exact f2 z h
    · rw [h]; exact hw s hs, by
    unfold ansM mayM
    split
    · refine Nat.le_trans (List.length_filter_le _ _) ?_
      cases (He.tellS q (opO s)).map an7 <;> simp
    · simp⟩, by omega⟩
  ok := fun k S hk ⟨h1, h2⟩ => ⟨fun q hq => ⟨by have := (h2 q hq).1; omega, (h2 q hq).2⟩, by omega⟩
end Go.Proofs.YtbfmmndpboagdaaGreatDoor.SH

set_option maxRecDepth 20000
namespace Go.Proofs.YtbfmmndpboagdaaGreatDoor.SN

theorem sub_of_asc : ∀ {t s : List Int}, Po.asc s = true → Po.asc t = true → (∀ x ∈ s, x ∈ t) → s.Sublist t := by
  intro t
  induction t with
  | nil =>
    intro s _ _ h
    cases s with
    | nil => exact List.Sublist.slnil
    | cons x s => exact absurd (h x (List.mem_cons_self ..)) (by simp)
  | cons y t ih =>
    intro s hs ht h
    cases s with
    | nil => exact List.nil_sublist _
    | cons x s =>
      obtain ⟨hs1, hs2⟩ := Po.asc_cons.1 hs
      obtain ⟨ht1, ht2⟩ := Po.asc_cons.1 ht
      rcases List.mem_cons.1 (h x (List.mem_cons_self ..)) with e | hx
      · subst e
        refine List.Sublist.cons_cons _ (ih hs1 ht1 fun z hz => ?_)
        rcases List.mem_cons.1 (h z (List.mem_cons_of_mem _ hz)) with e | hz'
        · subst e; exact absurd (hs2 z hz) (Int.lt_irrefl _)
        · exact hz'
      · refine List.Sublist.cons _ (ih hs ht1 fun z hz => ?_)
        rcases List.mem_cons.1 (h z hz) with e | hz'
        · subst e
          have := ht2 x hx
          rcases List.mem_cons.1 hz with e2 | hz2
          · omega
          · have := hs2 z hz2; omega
        · exact hz'
theorem nodup_asc : ∀ {s : List Int}, Po.asc s = true → s.Nodup := by
  intro s
  induction s with
  | nil => intro _; exact List.nodup_nil
  | cons x s ih =>
    intro h
    obtain ⟨h1, h2⟩ := Po.asc_cons.1 h
    exact List.nodup_cons.2 ⟨fun hx => absurd (h2 x hx) (Int.lt_irrefl _), ih h1⟩
def univ (r : Int) (l : List Sp) : List Int := Po.memI fun i => (decide (i < Po.restN r) && !decide ((i : Int) ∈ spareM r l)) || decide ((i : Int) ∈ namedM l)
def unn (r : Int) (l : List Sp) : List Int := Po.memI (Po.restM (namedM l) (Po.restN r))
theorem spare_eq (r : Int) (l : List Sp) : spareM r l = (unn r l).drop (nAll l) := by
  unfold spareM unn
  simp only []
  by_cases h : nAll l ≤ (Po.memI (Po.restM (namedM l) (Po.restN r))).length
  · rw [Nat.min_eq_left h]
  · rw [Nat.min_eq_right (by omega), List.drop_length, List.drop_of_length_le (by omega)]
theorem mem_first {r : Int} {l : List Sp} {x : Int} : x ∈ firstN r l ↔ ∃ i : Nat, i < 1024 ∧ x = i ∧ i < Po.restN r ∧ ¬ (i : Int) ∈ spareM r l := by
  unfold firstN
  rw [Po.memI_mem]
  simp only [Po.restM, Bool.and_eq_true, decide_eq_true_eq, Bool.not_eq_true', decide_eq_false_iff_not]
  constructor
  · rintro ⟨i, h1, ⟨h2, h3⟩, rfl⟩; exact ⟨i, h1, rfl, h2, h3⟩
  · rintro ⟨i, h1, rfl, h2, h3⟩; exact ⟨i, h1, ⟨h2, h3⟩, rfl⟩
theorem mem_unn {r : Int} {l : List Sp} {x : Int} : x ∈ unn r l ↔ ∃ i : Nat, i < 1024 ∧ x = i ∧ i < Po.restN r ∧ ¬ (i : Int) ∈ namedM l := by
  unfold unn
  rw [Po.memI_mem]
  simp only [Po.restM, Bool.and_eq_true, decide_eq_true_eq, Bool.not_eq_true', decide_eq_false_iff_not]
  constructor
  · rintro ⟨i, h1, ⟨h2, h3⟩, rfl⟩; exact ⟨i, h1, rfl, h2, h3⟩
  · rintro ⟨i, h1, rfl, h2, h3⟩; exact ⟨i, h1, ⟨h2, h3⟩, rfl⟩
theorem mem_univ {r : Int} {l : List Sp} {x : Int} : x ∈ univ r l ↔ ∃ i : Nat, i < 1024 ∧ x = i ∧ ((i < Po.restN r ∧ ¬ (i : Int) ∈ spareM r l) ∨ (i : Int) ∈ namedM l) := by
  unfold univ
  rw [Po.memI_mem]
  simp only [Bool.and_eq_true, Bool.or_eq_true, decide_eq_true_eq, Bool.not_eq_true', decide_eq_false_iff_not]
  constructor
  · rintro ⟨i, h1, h2, rfl⟩; exact ⟨i, h1, rfl, h2⟩
  · rintro ⟨i, h1, rfl, h2⟩; exact ⟨i, h1, h2, rfl⟩
theorem asc_univ (r : Int) (l : List Sp) : Po.asc (univ r l) = true := Po.asc_memI _
theorem named_len (l : List Sp) : (namedM l).length + nAll l ≤ l.length := by
  unfold namedM nAll
  induction l with
  | nil => simp
  | cons s l ih =>
    rw [List.flatMap_cons, List.length_append, List.countP_cons, List.length_cons]
    have : (namedOf s).length + (if (decide (s.k = 7) && pend s) = true then 1 else 0) ≤ 1 := by
      unfold namedOf
      by_cases h7 : s.k = 7
      · cases hp : pend s <;> simp [h7]
      · by_cases h8 : s.k = 8
        · simp [h8]
        · simp [h7, h8]
    omega
theorem univ_len (r : Int) (l : List Sp) : (univ r l).length ≤ l.length := by
  have h : (univ r l).length ≤ (namedM l ++ (unn r l).take (nAll l)).length := by
    refine nodup_le (nodup_asc (asc_univ r l)) fun x hx => ?_
    obtain ⟨i, h1, rfl, h2⟩ := mem_univ.1 hx
    rcases h2 with ⟨h2, h3⟩ | h2
    · by_cases hn : (i : Int) ∈ namedM l
      · exact List.mem_append_left _ hn
      · have hu : (i : Int) ∈ unn r l := mem_unn.2 ⟨i, h1, rfl, h2, hn⟩
        rw [spare_eq] at h3
        rw [← List.take_append_drop (nAll l) (unn r l)] at hu
        rcases List.mem_append.1 hu with h | h
        · exact List.mem_append_right _ h
        · exact absurd h h3
    · exact List.mem_append_left _ h2
  rw [List.length_append, List.length_take] at h
  have := named_len l
  omega
theorem first_sub (r : Int) (l : List Sp) : (firstN r l).Sublist (univ r l) :=
  sub_of_asc (Po.asc_memI _) (asc_univ r l) fun x hx => by
    obtain ⟨i, h1, rfl, h2, h3⟩ := mem_first.1 hx
    exact mem_univ.2 ⟨i, h1, rfl, .inl ⟨h2, h3⟩⟩
theorem okq_sub {r : Int} {l : List Sp} (h10 : l.length ≤ 10) {q : List Int} (h : q.Sublist (univ r l)) : Okq q := by
  refine ⟨Nat.le_trans h.length_le (Nat.le_trans (univ_len r l) h10), fun x hx => ?_⟩
  obtain ⟨i, h1, rfl, _⟩ := mem_univ.1 (h.subset hx)
  have : IntKind.i64.min ≤ (i : Int) := by
    show (-9223372036854775808 : Int) ≤ i
    omega
  simp [Lit.wf, this]
  omega
theorem named_mem {l : List Sp} {s : Sp} (hs : s ∈ l) (h8 : s.k = 8) : s.x ∈ namedM l := by
  unfold namedM
  rw [List.mem_flatMap]
  refine ⟨s, hs, ?_⟩
  unfold namedOf
  rw [if_neg (by omega), if_pos h8]
  exact List.mem_singleton_self _
theorem nx_next {r : Int} {q p : List El} {s : Sp} {x : Fi.Ann} (h : nxM r q s x = some p) : (⟨x.e, x.n, x.v⟩ : Po.Ann) ∈ Po.allS q (opO s) ∧ p = Po.memI (Po.aft (Po.setOf q) (opO s) ⟨x.e, x.n, x.v⟩) := by
  unfold nxM at h
  split at h
  · rename_i hm
    refine ⟨hm, ?_⟩
    cases h
    unfold Po.nextL
    rw [if_pos hm]
  · cases h
theorem nx_sub {r : Int} {l : List Sp} {q p : List El} {s : Sp} {x : Fi.Ann} (hs : s ∈ l) (hq : q.Sublist (univ r l)) (h : nxM r q s x = some p) : p.Sublist (univ r l) := by
  obtain ⟨_, rfl⟩ := nx_next h
  refine sub_of_asc (Po.asc_memI _) (asc_univ r l) fun v hv => ?_
  obtain ⟨i, h1, h2, rfl⟩ := Po.memI_mem.1 hv
  have old : Po.setOf q i = true → (i : Int) ∈ univ r l := fun h => hq.subset (by simpa [Po.setOf] using h)
  unfold Po.aft at h2
  split at h2
  · unfold Po.upd at h2
    split at h2
    · cases h2
    · exact old h2
  · split at h2
    · rename_i h8
      unfold Po.upd at h2
      split at h2
      · rename_i e
        have : s.x ∈ namedM l := named_mem hs h8.2
        refine mem_univ.2 ⟨i, h1, rfl, .inr ?_⟩
        rw [e]
        exact this
      · exact old h2
    · exact old h2
def Is (r : Int) (l : List Sp) (_ : Nat) (S : List (List El)) : Prop := S.Nodup ∧ ∀ q ∈ S, q.Sublist (univ r l)
theorem all_few (q : List Int) (o : Po.Opn) : (Po.allS q o).length ≤ q.length + 2 := by
  unfold Po.allS
  split
  · rename_i hc
    unfold Po.outs
    split
    · simp [Po.memI_setOf hc]
    · split <;> simp
  · simp
theorem is_few {r : Int} {l : List Sp} (h10 : l.length ≤ 10) {k : Nat} {S : List (List El)} (h : Is r l k S) : S.length ≤ 1024 := by
  have h1 : S.length ≤ (subs (univ r l)).length := nodup_le h.1 fun q hq => mem_subs (h.2 q hq)
  rw [subs_len] at h1
  have h2 : 2 ^ (univ r l).length ≤ 2 ^ 10 := Nat.pow_le_pow_right (by decide) (Nat.le_trans (univ_len r l) h10)
  omega
theorem inv_any (r : Int) {l : List Sp} (h10 : l.length ≤ 10) : Inv r l (firstN r l) (Is r l) where
  start := ⟨by simp, fun q hq => by rw [List.mem_singleton.1 hq]; exact first_sub r l⟩
  step := fun k S D i hk ⟨_, h2⟩ => ⟨aft_nodup (nextM r) l, fun y hy => by
    obtain ⟨_, c, hc, x, hx, hy⟩ := (mem_aft (nextM r) l).1 hy
    obtain ⟨a, _, hp⟩ := List.mem_filterMap.1 hy
    exact nx_sub (List.mem_of_getElem? hc) (h2 x hx) hp⟩
  sub := fun k S T ht ⟨h1, h2⟩ => ⟨h1.sublist ht, fun q hq => h2 q (ht.subset hq)⟩
  good := fun k S hk h => ⟨fun q hq => okq_sub h10 (h.2 q hq), fun q hq s hs => ⟨fun x _ p hp => okq_sub h10 (nx_sub hs (h.2 q hq) hp), by
    have hl := (okq_sub h10 (h.2 q hq)).1
    unfold ansM mayM
    split
    · refine Nat.le_trans (List.length_filter_le _ _) ?_
      rw [List.length_map]
      have := all_few q (opO s)
      omega
    · simp⟩, is_few h10 h⟩
  ok := fun k S hk h => ⟨fun q hq => okq_sub h10 (h.2 q hq), is_few h10 h⟩
end Go.Proofs.YtbfmmndpboagdaaGreatDoor.SN

set_option maxRecDepth 20000
namespace Go.Proofs.YtbfmmndpboagdaaGreatDoor

theorem other_le (T : List Int) : otherM T ≤ T.length := by
  unfold otherM
  cases h : (List.range (T.length + 1)).find? fun k : Nat => decide (¬ ((k : Int) ∈ T)) with
  | none => exact Nat.zero_le _
  | some k =>
    have := List.mem_of_find?_eq_some h
    have := List.mem_range.1 this
    simp only [Option.getD_some]
    omega
theorem fronts_len (l : List Sp) : (frontsM l).length ≤ l.length := by
  unfold frontsM
  rw [List.length_map]
  exact List.length_filter_le _ _
theorem alike_wf {l : List Sp} (h : SU.Wf l) (h10 : l.length ≤ 1000) : SU.Wf (alikeM l) := by
  intro s hs
  unfold alikeM at hs
  obtain ⟨t, ht, rfl⟩ := List.mem_map.1 hs
  unfold like
  split
  · have h1 := other_le (frontsM l)
    have h2 := fronts_len l
    obtain ⟨k, hk⟩ : ∃ k, otherM (frontsM l) = k := ⟨_, rfl⟩
    rw [hk] at h1 ⊢
    have : IntKind.u64.min ≤ (k : Int) := by
      show (0 : Int) ≤ k
      omega
    have h3 : (k : Int) ≤ IntKind.u64.max := by
      show (k : Int) ≤ 18446744073709551615
      omega
    simp [Lit.wf, this, h3]
  · exact h t ht
theorem alike_len (l : List Sp) : (alikeM l).length = l.length := by unfold alikeM; rw [List.length_map]
theorem alike_more {l : List Sp} {m : Sp} (hm : pend m = true) : ∃ m', alikeM (l ++ [m]) = alikeM l ++ [m'] ∧ pend m' = true := by
  have e : frontsM (l ++ [m]) = frontsM l := by
    unfold frontsM
    rw [List.filter_append]
    simp [hm]
  unfold alikeM
  rw [e, List.map_append]
  refine ⟨_, rfl, ?_⟩
  unfold like
  split
  · exact hm
  · exact hm

end Go.Proofs.YtbfmmndpboagdaaGreatDoor

set_option maxRecDepth 20000
namespace Go.Proofs.YtbfmmndpboagdaaGreatDoor
open Go.RowKit

def wh (l : List Sp) (x : Int) : Int := (whereI (idsM l) x).elim (-1 : Int) (fun (i : Nat) => (i : Int))
theorem wh_neg {l : List Sp} {x : Int} : wh l x < 0 ↔ ¬ x ∈ idsM l := by
  unfold wh whereI
  split
  · rename_i h
    simp [h]
  · rename_i h
    simp [h]
def RetP (w : World) (l : List Sp) (o : List Int) (e : Ending) (w' : World) : Prop :=
  Kept w w' ∧ ((¬ (∀ x ∈ o, x ∈ idsM l) ∧ e = .returned (.tuple #[.slice none 0 0, .int .i64 10])) ∨ ((∀ x ∈ o, x ∈ idsM l) ∧ twiceM (o.map (wh l)) = true ∧ e = .returned (.tuple #[.slice none 0 0, .int .i64 8])) ∨
    ((∀ x ∈ o, x ∈ idsM l) ∧ twiceM (o.map (wh l)) = false ∧ ∃ a c, e = .returned (.tuple #[.slice a o.length c, .int .i64 0]) ∧ OwnI w' w.heap.size (.slice a o.length c) (o.map (wh l))))
def AtRel (W : World) (l : List Sp) (o : List Int) (n g : Nat) (i : Value) (wr : World) : Prop := ∃ k : Nat, k ≤ n ∧ i = .int .i64 k ∧ Fi.Filled wr g 3 n (ints ((o.take k).map (wh l))) ∧ Kept W wr ∧ ∀ x ∈ o.take k, x ∈ idsM l
set_option maxRecDepth 100000 in
set_option maxHeartbeats 1000000 in
theorem places_any {w : World} {a : Option Addr} {n c : Nat} {l : List Sp} (h : Lay w (.slice a n c) n (flatS l)) (hn : n = l.length) (h10 : n ≤ 1000) {oa : Option Addr} {on oc : Nat} {o : List Int} (ho : Lay w (.slice oa on oc) on (ints o)) (hon : on = o.length) (ho10 : on ≤ 1000) :
    Calls Tryz.prog 24 #[.slice a n c, .slice oa on oc] w (RetP w l o) := by
  have ID := Lib.hid (ids_any h hn h10)
  have CE := Lib.hid (fun W (k : Kept w W) i y hy => num_one (ho.kept k) hon i y hy)
  have HON := Lib.hid hon
  obtain ⟨Z, hZ, hmake⟩ := make_ints on (by omega)
  have FN := Lib.hid (fun W => Fi.Filled.new W Z 3 on hZ)
  have HZ := Lib.hid hZ
  clear h hn ho hon hZ
  go_enter Tryz.func24, Tryz.ntmps24
  go_wp2_with fail; refine ID.out.mono ?_; rintro e w1 ⟨a1, c1, rfl, k1, own1⟩
  have K1 := Lib.hid k1
  have IX := Lib.hid (fun W (k : Kept w1 W) x => num_index ((own_lies own1).lay.kept k) rfl x)
  clear own1 k1
  go_wp2
  go_loopw [17] (AtRel w1 l o on w1.heap.size) (fun i _ => on - (intOf i).toNat)
  case atStart => exact ⟨0, Nat.zero_le _, rfl, (FN.out _), (Kept.refl _).alloc _ _, fun x hx => by cases hx⟩
  case round =>
    obtain ⟨k, hkn, rfl, hfi, hk, hin⟩ := hrel
    have FI := Lib.hid hfi
    have KE := Lib.hid hk
    have HIN := Lib.hid hin
    clear hfi hk hin
    by_cases hlt : k < on
    · obtain ⟨y, hy⟩ : ∃ y, o[k]? = some y := ⟨_, List.getElem?_eq_getElem (by rw [← HON.out]; omega)⟩
      obtain ⟨g, p, rfl, c0⟩ := CE.out _ (K1.out.trans KE.out) k y hy
      obtain ⟨v, hv⟩ := FI.out.cell k hlt
      have sv := FI.out.soft k
      have lv := FI.out.lt
      have HY := Lib.hid hy
      have HL := Lib.hid (show (ints ((o.take k).map (wh l))).length = k by simp [ints]; have := HON.out; omega)
      have IK := Lib.hid (IX.out _ KE.out y)
      have e9 : (whereI (idsM l) y).elim (-1 : Int) (fun (i : Nat) => (i : Int)) = wh l y := rfl
      rw [e9] at IK
      obtain ⟨z, hz⟩ : ∃ z, wh l y = z := ⟨_, rfl⟩
      have HZ2 := Lib.hid hz
      rw [hz] at IK
      have NEG := Lib.hid (show z < 0 ↔ ¬ y ∈ idsM l by rw [← hz]; exact wh_neg)
      clear hy e9 hz
      by_cases hneg : z < 0
      · go_wp2_with fail; refine IK.out.mono ?_; rintro e w2 ⟨rfl, rfl⟩
        go_wp2
        go_ret2
        exact ⟨K1.out.trans (KE.out.setCell (p := ⟨w1.heap.size, k, none⟩) (Nat.le_refl _) _), .inl ⟨fun hall => (NEG.out.1 hneg) (hall y (List.mem_of_getElem? HY.out)), rfl⟩⟩
      · go_wp2_with fail; refine IK.out.mono ?_; rintro e w2 ⟨rfl, rfl⟩
        go_wp2
        go_roundw
        case rel =>
          refine ⟨k + 1, by omega, by go_num, ?_, (KE.out.setCell (p := ⟨w1.heap.size, k, none⟩) (Nat.le_refl _) _), fun x hx => ?_⟩
          · have e : ints ((o.take (k + 1)).map (wh l)) = ints ((o.take k).map (wh l)) ++ [.int .i64 z] := by rw [take_snoc' o k y HY.out]; simp [ints, HZ2.out]
            rw [e]
            exact FI.out.set (.int .i64 z) k HL.out.symm (by rw [HL.out]; omega)
          · rw [take_snoc' o k y HY.out] at hx
            rcases List.mem_append.1 hx with h | h
            · exact HIN.out x h
            · rw [List.mem_singleton.1 h]
              exact Classical.byContradiction fun hn => absurd (NEG.out.2 hn) (by omega)
        case measure => simp [intOf]; omega
    · obtain rfl : k = on := by omega
      have HL := Lib.hid (show o.take k = o by rw [HON.out, List.take_length])
      have FO := Lib.hid (show OwnI wr w1.heap.size (.slice (some ⟨w1.heap.size, 0, none⟩) k k) (o.map (wh l)) by
        have := FI.out.own (base := w1.heap.size) (size := 1) (m := k) (by simp [ints]; have := HON.out; omega) (by omega) (Nat.le_refl _) (by unfold maxLen; omega)
        rw [HL.out] at this
        unfold OwnI
        rw [List.length_map, ← HON.out]
        exact this)
      have TW := Lib.hid (twice_any (l := o.map (wh l)) (n := k) (by have := (own_lies FO.out).lay; rw [List.length_map, ← HON.out] at this; exact this) (by rw [List.length_map, ← HON.out]))
      have ALL := Lib.hid (show ∀ x ∈ o, x ∈ idsM l by have := HIN.out; rw [HL.out] at this; exact this)
      obtain ⟨b, hb⟩ : ∃ b, twiceM (o.map (wh l)) = b := ⟨_, rfl⟩
      have HB := Lib.hid hb
      rw [hb] at TW
      clear hb
      cases b
      · go_wp2_with fail; refine TW.out.mono ?_; rintro e w2 ⟨rfl, rfl⟩
        go_wp2
        go_ret2
        refine ⟨K1.out.trans KE.out, .inr (.inr ⟨ALL.out, HB.out, some ⟨w1.heap.size, 0, none⟩, k, by rw [← HON.out]; rfl, ?_⟩)⟩
        have := own_mono FO.out K1.out.size
        rw [← HON.out]
        exact this
      · go_wp2_with fail; refine TW.out.mono ?_; rintro e w2 ⟨rfl, rfl⟩
        go_wp2
        go_ret2
        exact ⟨K1.out.trans KE.out, .inr (.inl ⟨ALL.out, HB.out, rfl⟩)⟩
end Go.Proofs.YtbfmmndpboagdaaGreatDoor

set_option maxRecDepth 20000
namespace Go.Proofs.YtbfmmndpboagdaaGreatDoor
open Go.RowKit Go.Shelf
attribute [local go_sem] Oper.semAt_some
attribute [local go_sem] Kept.refl Kept.drew Kept.drewN Kept.alloc

def atN (l : List Sp) (o : List Int) : List Nat := o.map fun x => (idsM l).idxOf x
theorem at_len (l : List Sp) (o : List Int) : (atN l o).length = o.length := by simp [atN]
theorem wh_casts {l : List Sp} {o : List Int} (h : ∀ x ∈ o, x ∈ idsM l) : o.map (wh l) = SH.casts (atN l o) := by
  unfold SH.casts atN
  rw [List.map_map]
  apply List.map_congr_left
  intro x hx
  unfold wh whereI
  rw [if_pos (h x hx)]
  rfl
theorem at_lt {l : List Sp} {o : List Int} (h : ∀ x ∈ o, x ∈ idsM l) : ∀ i ∈ atN l o, i < l.length := by
  intro i hi
  unfold atN at hi
  obtain ⟨x, hx, rfl⟩ := List.mem_map.1 hi
  have := List.idxOf_lt_length_of_mem (h x hx)
  simpa [idsM] using this
def RetF (w : World) (l : List Sp) (o : List Int) (b : Bool) (e : Ending) (w' : World) : Prop :=
  Kept w w' ∧ ((¬ (∀ x ∈ o, x ∈ idsM l) ∧ e = .returned (.tuple #[.bool false, .int .i64 10])) ∨ ((∀ x ∈ o, x ∈ idsM l) ∧ twiceM (o.map (wh l)) = true ∧ e = .returned (.tuple #[.bool false, .int .i64 8])) ∨
    ((∀ x ∈ o, x ∈ idsM l) ∧ twiceM (o.map (wh l)) = false ∧ e = .returned (.tuple #[.bool b, .int .i64 0])))
theorem SH.ok_start {r : Int} {l : List Sp} {q0 : List SH.El} {I : Nat → List (List SH.El) → Prop} (h : SH.Inv r l q0 I) : SH.Okq q0 := (h.ok 0 _ (by decide) h.start).1 q0 (List.mem_singleton_self _)
theorem SU.ok_start {r : Int} {l : List Sp} {q0 : List SU.El} {I : Nat → List (List SU.El) → Prop} (h : SU.Inv r l q0 I) : SU.Okq q0 := (h.ok 0 _ (by decide) h.start).1 q0 (List.mem_singleton_self _)
theorem SN.ok_start {r : Int} {l : List Sp} {q0 : List SN.El} {I : Nat → List (List SN.El) → Prop} (h : SN.Inv r l q0 I) : SN.Okq q0 := (h.ok 0 _ (by decide) h.start).1 q0 (List.mem_singleton_self _)
set_option maxRecDepth 100000 in
theorem methf_heap (v : Value) (W : World) : (method 339 98 v "coxswain/linear.fits").run Tryz.prog W = .ok (146, v) W := by kernel_rfl
set_option maxRecDepth 100000 in
set_option maxHeartbeats 1000000 in
theorem fits_heap {w : World} {a : Option Addr} {n c : Nat} {l : List Sp} (h : Lay w (.slice a n c) n (flatS l)) (hn : n = l.length) (h10 : n ≤ 10) (r : Int) (hc : chkL 2 r l = 0) {I : Nat → List (List SH.El) → Prop} (hI : SH.Inv r l [] I)
    {oa : Option Addr} {on oc : Nat} {o : List Int} (ho : Lay w (.slice oa on oc) on (ints o)) (hon : on = o.length) (ho10 : on ≤ 10) :
    Calls Tryz.prog 13 #[.int .i64 2, .int .i64 r, .slice a n c, .slice oa on oc] w (RetF w l o (fitsM (SH.nextM r) l [[]] (atN l o))) := by
  have CH := Lib.hid (check_any 2 r h hn)
  simp only [hc] at CH
  have PL := Lib.hid (fun W (k : Kept w W) => places_any (h.kept k) hn (by omega) (ho.kept k) hon (by omega))
  have FI := Lib.hid (fun W (k : Kept w W) => finder_heap (h.kept k) hn h10 r)
  have HI := Lib.hid hI
  have HON := Lib.hid hon
  have HLEN := Lib.hid (show o.length ≤ 10 by omega)
  clear h hn hc hI ho hon
  go_enter Tryz.func13, Tryz.ntmps13
  go_wp2_with fail; refine CH.out.mono ?_; rintro e w1 ⟨rfl, k1⟩
  have K1 := Lib.hid k1
  clear k1
  go_wp2_with fail; refine (PL.out _ K1.out).mono ?_; rintro e w2 ⟨k2, h2⟩
  have K2 := Lib.hid (K1.out.trans k2)
  clear k2
  rcases h2 with ⟨hno, rfl⟩ | ⟨hall, htw, rfl⟩ | ⟨hall, htw, a2, c2, rfl, own2⟩
  · have HN := Lib.hid hno
    clear hno
    go_wp2
    go_ret2
    exact ⟨K2.out, .inl ⟨HN.out, rfl⟩⟩
  · have HN := Lib.hid hall
    have HT := Lib.hid htw
    clear hall htw
    go_wp2
    go_ret2
    exact ⟨K2.out, .inr (.inl ⟨HN.out, HT.out, rfl⟩)⟩
  · have HN := Lib.hid hall
    have HT := Lib.hid htw
    have LO := Lib.hid (show Lay w2 (.slice a2 o.length c2) o.length (ints (SH.casts (atN l o))) by
      have := (own_lies own2).lay
      rw [List.length_map] at this
      rw [wh_casts hall] at this
      exact this)
    have LT := Lib.hid (show ∀ i ∈ atN l o, i < l.length by
      exact at_lt hall)
    clear hall htw own2
    obtain ⟨m, hm⟩ : ∃ m, o.length = m := ⟨_, rfl⟩
    rw [hm] at LO HLEN ⊢
    have AL := Lib.hid (show m = (atN l o).length by rw [at_len]; exact hm.symm)
    clear hm
    go_wp2_with fail; refine (FI.out _ K2.out).mono ?_; rintro e w3 ⟨bM, bA, rfl, k3, hs⟩
    have K3 := Lib.hid k3
    have FT := Lib.hid (SH.fits_any hs trivial (SH.ok_start HI.out) HI.out (LO.out.kept k3) AL.out HLEN.out LT.out)
    clear k3 hs
    have ME := fun v W => methf_heap v W
    go_wp2_with fail; refine FT.out.mono ?_; rintro e w4 ⟨rfl, k4⟩
    have K4 := Lib.hid (K2.out.trans (K3.out.trans k4))
    clear k4
    go_wp2
    go_ret2
    exact ⟨K4.out, .inr (.inr ⟨HN.out, HT.out, rfl⟩)⟩
end Go.Proofs.YtbfmmndpboagdaaGreatDoor

set_option maxRecDepth 20000
namespace Go.Proofs.YtbfmmndpboagdaaGreatDoor
open Go.RowKit Go.Shelf
attribute [local go_sem] Oper.semAt_some
attribute [local go_sem] Kept.refl Kept.drew Kept.drewN Kept.alloc

set_option maxRecDepth 100000 in
theorem methf_fifo (v : Value) (W : World) : (method 339 85 v "coxswain/linear.fits").run Tryz.prog W = .ok (133, v) W := by kernel_rfl
set_option maxRecDepth 100000 in
set_option maxHeartbeats 1000000 in
theorem fits_fifo {w : World} {a : Option Addr} {n c : Nat} {l : List Sp} (h : Lay w (.slice a n c) n (flatS l)) (hn : n = l.length) (h10 : n ≤ 10) (r : Int) (hc : chkL 1 r l = 0) {I : Nat → List (List SU.El) → Prop} (hI : SU.Inv r (alikeM l) [] I)
    {oa : Option Addr} {on oc : Nat} {o : List Int} (ho : Lay w (.slice oa on oc) on (ints o)) (hon : on = o.length) (ho10 : on ≤ 10) :
    Calls Tryz.prog 13 #[.int .i64 1, .int .i64 r, .slice a n c, .slice oa on oc] w (RetF w l o (fitsM (SU.nextM r) (alikeM l) [[]] (atN l o))) := by
  have CH := Lib.hid (check_any 1 r h hn)
  simp only [hc] at CH
  have PL := Lib.hid (fun W (k : Kept w W) => places_any (h.kept k) hn (by omega) (ho.kept k) hon (by omega))
  have FI := Lib.hid (fun W (k : Kept w W) => finder_fifo (h.kept k) hn h10 r)
  have HI := Lib.hid hI
  have HON := Lib.hid hon
  have HLEN := Lib.hid (show o.length ≤ 10 by omega)
  clear h hn hc hI ho hon
  go_enter Tryz.func13, Tryz.ntmps13
  go_wp2_with fail; refine CH.out.mono ?_; rintro e w1 ⟨rfl, k1⟩
  have K1 := Lib.hid k1
  clear k1
  go_wp2_with fail; refine (PL.out _ K1.out).mono ?_; rintro e w2 ⟨k2, h2⟩
  have K2 := Lib.hid (K1.out.trans k2)
  clear k2
  rcases h2 with ⟨hno, rfl⟩ | ⟨hall, htw, rfl⟩ | ⟨hall, htw, a2, c2, rfl, own2⟩
  · have HN := Lib.hid hno
    clear hno
    go_wp2
    go_ret2
    exact ⟨K2.out, .inl ⟨HN.out, rfl⟩⟩
  · have HN := Lib.hid hall
    have HT := Lib.hid htw
    clear hall htw
    go_wp2
    go_ret2
    exact ⟨K2.out, .inr (.inl ⟨HN.out, HT.out, rfl⟩)⟩
  · have HN := Lib.hid hall
    have HT := Lib.hid htw
    have LO := Lib.hid (show Lay w2 (.slice a2 o.length c2) o.length (ints (SU.casts (atN l o))) by
      have := (own_lies own2).lay
      rw [List.length_map] at this
      rw [wh_casts hall] at this
      exact this)
    have LT := Lib.hid (show ∀ i ∈ atN l o, i < (alikeM l).length by
      rw [alike_len]; exact at_lt hall)
    clear hall htw own2
    obtain ⟨m, hm⟩ : ∃ m, o.length = m := ⟨_, rfl⟩
    rw [hm] at LO HLEN ⊢
    have AL := Lib.hid (show m = (atN l o).length by rw [at_len]; exact hm.symm)
    clear hm
    go_wp2_with fail; refine (FI.out _ K2.out).mono ?_; rintro e w3 ⟨bM, bA, rb, sa, sc, rfl, k3, hs, henv⟩
    have K3 := Lib.hid k3
    have FT := Lib.hid (SU.fits_any hs (henv) (SU.ok_start HI.out) HI.out (LO.out.kept k3) AL.out HLEN.out LT.out)
    clear k3 hs henv
    have ME := fun v W => methf_fifo v W
    go_wp2_with fail; refine FT.out.mono ?_; rintro e w4 ⟨rfl, k4⟩
    have K4 := Lib.hid (K2.out.trans (K3.out.trans k4))
    clear k4
    go_wp2
    go_ret2
    exact ⟨K4.out, .inr (.inr ⟨HN.out, HT.out, rfl⟩)⟩
end Go.Proofs.YtbfmmndpboagdaaGreatDoor

set_option maxRecDepth 20000
namespace Go.Proofs.YtbfmmndpboagdaaGreatDoor
open Go.RowKit Go.Shelf
attribute [local go_sem] Oper.semAt_some
attribute [local go_sem] Kept.refl Kept.drew Kept.drewN Kept.alloc

set_option maxRecDepth 100000 in
theorem methf_pool (v : Value) (W : World) : (method 339 108 v "coxswain/linear.fits").run Tryz.prog W = .ok (156, v) W := by kernel_rfl
set_option maxRecDepth 100000 in
set_option maxHeartbeats 1000000 in
theorem fits_pool {w : World} {a : Option Addr} {n c : Nat} {l : List Sp} (h : Lay w (.slice a n c) n (flatS l)) (hn : n = l.length) (h10 : n ≤ 10) (r : Int) (hc : chkL 3 r l = 0) (hT : Po.Tab w) {I : Nat → List (List SN.El) → Prop} (hI : SN.Inv r l (firstN r l) I)
    {oa : Option Addr} {on oc : Nat} {o : List Int} (ho : Lay w (.slice oa on oc) on (ints o)) (hon : on = o.length) (ho10 : on ≤ 10) :
    Calls Tryz.prog 13 #[.int .i64 3, .int .i64 r, .slice a n c, .slice oa on oc] w (RetF w l o (fitsM (SN.nextM r) l [(firstN r l)] (atN l o))) := by
  have CH := Lib.hid (check_any 3 r h hn)
  simp only [hc] at CH
  have PL := Lib.hid (fun W (k : Kept w W) => places_any (h.kept k) hn (by omega) (ho.kept k) hon (by omega))
  have FI := Lib.hid (fun W (k : Kept w W) => finder_pool (h.kept k) hn h10 (hT.kept k) r (SN.ok_start hI).1 (SN.ok_start hI))
  have HI := Lib.hid hI
  have HTT := Lib.hid (show SN.Env 0 r w from hT)
  have HON := Lib.hid hon
  have HLEN := Lib.hid (show o.length ≤ 10 by omega)
  clear h hn hc hI ho hon hT
  go_enter Tryz.func13, Tryz.ntmps13
  go_wp2_with fail; refine CH.out.mono ?_; rintro e w1 ⟨rfl, k1⟩
  have K1 := Lib.hid k1
  clear k1
  go_wp2_with fail; refine (PL.out _ K1.out).mono ?_; rintro e w2 ⟨k2, h2⟩
  have K2 := Lib.hid (K1.out.trans k2)
  clear k2
  rcases h2 with ⟨hno, rfl⟩ | ⟨hall, htw, rfl⟩ | ⟨hall, htw, a2, c2, rfl, own2⟩
  · have HN := Lib.hid hno
    clear hno
    go_wp2
    go_ret2
    exact ⟨K2.out, .inl ⟨HN.out, rfl⟩⟩
  · have HN := Lib.hid hall
    have HT := Lib.hid htw
    clear hall htw
    go_wp2
    go_ret2
    exact ⟨K2.out, .inr (.inl ⟨HN.out, HT.out, rfl⟩)⟩
  · have HN := Lib.hid hall
    have HT := Lib.hid htw
    have LO := Lib.hid (show Lay w2 (.slice a2 o.length c2) o.length (ints (SN.casts (atN l o))) by
      have := (own_lies own2).lay
      rw [List.length_map] at this
      rw [wh_casts hall] at this
      exact this)
    have LT := Lib.hid (show ∀ i ∈ atN l o, i < l.length by
      exact at_lt hall)
    clear hall htw own2
    obtain ⟨m, hm⟩ : ∃ m, o.length = m := ⟨_, rfl⟩
    rw [hm] at LO HLEN ⊢
    have AL := Lib.hid (show m = (atN l o).length by rw [at_len]; exact hm.symm)
    clear hm
    go_wp2_with fail; refine (FI.out _ K2.out).mono ?_; rintro e w3 ⟨bM, bA, rfl, k3, hs⟩
    have K3 := Lib.hid k3
    have FT := Lib.hid (SN.fits_any hs (HTT.out.kept (K2.out.trans k3)) (SN.ok_start HI.out) HI.out (LO.out.kept k3) AL.out HLEN.out LT.out)
    clear k3 hs
    have ME := fun v W => methf_pool v W
    go_wp2_with fail; refine FT.out.mono ?_; rintro e w4 ⟨rfl, k4⟩
    have K4 := Lib.hid (K2.out.trans (K3.out.trans k4))
    clear k4
    go_wp2
    go_ret2
    exact ⟨K4.out, .inr (.inr ⟨HN.out, HT.out, rfl⟩)⟩
end Go.Proofs.YtbfmmndpboagdaaGreatDoor
