/- Calls that were done at moments, one by one, have an order. Nothing of the program. -/
import Derived.Test.YtbfmmndpboagdaaGreatDoorGM2
import Derived.Test.YtbfmmndpboagdaaGreatDoorGM5
set_option maxRecDepth 20000
namespace Go.Proofs.YtbfmmndpboagdaaGreatDoor

theorem run_moments {σ : Type} [DecidableEq σ] {next : σ → Sp → List σ} {l : List Sp} {st : Nat → σ} (hA : ∀ (i j : Nat) s c, l[j]? = some s → l[i]? = some c → j ≠ i → ahd s c = true → j < i)
    (hS : ∀ (i : Nat) c, l[i]? = some c → st (i + 1) ∈ next (st i) c) : ∀ k, k ≤ l.length → (∀ j, (runM next l 0 [st 0] (List.range k)).1.testBit j = decide (j < k)) ∧ st k ∈ (runM next l 0 [st 0] (List.range k)).2 := by
  have snoc : ∀ (o : List Nat) (D : Nat) (S : List σ) (i : Nat), runM next l D S (o ++ [i]) = ((runM next l D S o).1 ||| 2 ^ i, aftM next l (runM next l D S o).1 (runM next l D S o).2 i) := by
    intro o
    induction o with
    | nil => intro D S i; rfl
    | cons j o ih => intro D S i; rw [List.cons_append, runM, ih]; rfl
  intro k
  induction k with
  | zero => intro _; exact ⟨fun j => by simp [runM], by simp [runM]⟩
  | succ k ih =>
    intro hk
    obtain ⟨h1, h2⟩ := ih (by omega)
    rw [List.range_succ, snoc]
    obtain ⟨c, hc⟩ : ∃ c, l[k]? = some c := ⟨_, List.getElem?_eq_getElem (by omega)⟩
    refine ⟨fun j => ?_, ?_⟩
    · rw [bit_or, h1]
      rw [Bool.eq_iff_iff]
      simp
      omega
    · rw [mem_aft]
      exact ⟨rdy_of l (by rw [h1]; simp) hc fun j s hs hj ha => by rw [h1]; simpa using hA k j s c hs hc hj ha, c, hc, st k, h2, hS k c hc⟩
theorem fits_moments {σ : Type} [DecidableEq σ] {next : σ → Sp → List σ} {l : List Sp} {st : Nat → σ} (hA : ∀ (i j : Nat) s c, l[j]? = some s → l[i]? = some c → j ≠ i → ahd s c = true → j < i)
    (hS : ∀ (i : Nat) c, l[i]? = some c → st (i + 1) ∈ next (st i) c) : fitsM next l [st 0] (List.range l.length) = true := by
  obtain ⟨h1, h2⟩ := run_moments hA hS l.length (Nat.le_refl _)
  unfold fitsM
  rw [Bool.and_eq_true]
  refine ⟨?_, ?_⟩
  · cases h : (runM next l 0 [st 0] (List.range l.length)).2 with
    | nil => rw [h] at h2; cases h2
    | cons => rfl
  · unfold full
    rw [allAt_iff]
    intro j s hs
    rw [h1]
    have := (List.getElem?_eq_some_iff.1 hs).1
    simp [this]
def ren (T : List Int) (u v : Int) : Int := if v ∈ T then v else u
theorem queue_step {room : Nat} (hr : 1 ≤ room ∧ room ≤ 64) {q : List Int} {T : List Int} {u : Int} {c : Sp} (hk : c.k = 1 ∨ c.k = 2 ∨ c.k = 3) (hp : pend c = false) (hq : q.length ≤ room)
    (ha : SU.annO c = Fi.tell room q (SU.opO c)) (hT : c.k = 2 → c.v ∈ T) : (Fi.after room q (SU.opO c)).map (ren T u) ∈ SU.nextM room (q.map (ren T u)) (like T u c) := by
  have hp' : pend (like T u c) = false := by unfold like; split <;> exact hp
  unfold SU.nextM SU.ansM
  rw [hp', if_neg (by decide)]
  rw [List.mem_filterMap]
  refine ⟨_, List.mem_singleton_self _, ?_⟩
  have ea : SU.annO (like T u c) = SU.annO c := by unfold like; split <;> rfl
  rw [ea, ha]
  unfold SU.nxM Fi.nextI Fi.actI
  have hc : Fi.chkF room (q.map (ren T u)).length = 0 := by
    unfold Fi.chkF
    rw [if_neg (by omega), if_neg (by rw [List.length_map]; omega)]
  rw [if_pos hc, show ((room : Int)).toNat = room by simp]
  have main : Fi.act room (q.map (ren T u)) (SU.opO (like T u c)) = some (Fi.tell room q (SU.opO c), (Fi.after room q (SU.opO c)).map (ren T u)) := by
    unfold Fi.tell Fi.after
    rcases hk with hk | hk | hk
    · have hk' : (SU.opO (like T u c)).k = 1 := by unfold like; split <;> exact hk
      have hu : (SU.opO (like T u c)).u = ren T u c.u := by
        unfold like ren
        by_cases h : c.u ∈ T
        · rw [if_neg (fun h' => h'.2 h), if_pos h]; rfl
        · rw [if_pos ⟨hk, h⟩, if_neg h]; rfl
      have hk0 : (SU.opO c).k = 1 := hk
      unfold Fi.act
      rw [if_pos hk', if_pos hk0, List.length_map, hu]
      by_cases h : q.length = room
      · simp [h]
      · simp [h]; rfl
    · have hk' : (SU.opO (like T u c)).k = 2 := by unfold like; split <;> exact hk
      have hk0 : (SU.opO c).k = 2 := hk
      unfold Fi.act
      rw [if_neg (by omega), if_pos hk', if_neg (by omega), if_pos hk0]
      cases q with
      | nil => rfl
      | cons x q =>
        have hx : c.v = x := by
          have := congrArg Fi.Ann.v ha
          unfold Fi.tell Fi.act at this
          rw [if_neg (by omega), if_pos hk0] at this
          exact this
        have e : ren T u x = x := by unfold ren; rw [← hx, if_pos (hT hk)]
        simp [e]
    · have hk' : (SU.opO (like T u c)).k = 3 := by unfold like; split <;> exact hk
      have hk0 : (SU.opO c).k = 3 := hk
      unfold Fi.act
      rw [if_neg (by omega), if_neg (by omega), if_pos hk', if_neg (by omega), if_neg (by omega), if_pos hk0]
      cases q with
      | nil => rfl
      | cons x q => simp
  rw [main]
  simp
theorem queue_fits {room : Nat} (hr : 1 ≤ room ∧ room ≤ 64) {l : List Sp} (hA : ∀ (i j : Nat) s c, l[j]? = some s → l[i]? = some c → j ≠ i → ahd s c = true → j < i)
    (hk : ∀ c ∈ l, (c.k = 1 ∨ c.k = 2 ∨ c.k = 3) ∧ pend c = false) (hans : ∀ (i : Nat) c, l[i]? = some c → SU.annO c = Fi.tell room (Fi.playQ room ((l.take i).map SU.opO)) (SU.opO c)) :
    fitsM (SU.nextM room) (alikeM l) [[]] (List.range l.length) = true := by
  have hahd : ∀ s c : Sp, ahd (like (frontsM l) (otherM (frontsM l) : Nat) s) (like (frontsM l) (otherM (frontsM l) : Nat) c) = ahd s c := by
    intro s c
    unfold like
    split <;> split <;> rfl
  have := fits_moments (next := SU.nextM room) (l := alikeM l) (st := fun i => (Fi.playQ room ((l.take i).map SU.opO)).map (ren (frontsM l) (otherM (frontsM l) : Nat))) (fun i j s c hs hc hj ha => by
      unfold alikeM at hs hc
      rw [List.getElem?_map] at hs hc
      obtain ⟨s', hs', rfl⟩ := Option.map_eq_some_iff.1 hs
      obtain ⟨c', hc', rfl⟩ := Option.map_eq_some_iff.1 hc
      rw [hahd] at ha
      exact hA i j s' c' hs' hc' hj ha) (fun i c hc => by
      unfold alikeM at hc
      rw [List.getElem?_map] at hc
      obtain ⟨c', hc', rfl⟩ := Option.map_eq_some_iff.1 hc
      have hm := List.mem_of_getElem? hc'
      have e : Fi.playQ room ((l.take (i + 1)).map SU.opO) = Fi.after room (Fi.playQ room ((l.take i).map SU.opO)) (SU.opO c') := by
        rw [List.take_add_one, hc', Option.toList_some, List.map_append, List.map_singleton, Fi.playQ_snoc]
      simp only [e]
      exact queue_step hr (hk c' hm).1 (hk c' hm).2 (Fi.playQ_room _ _) (hans i c' hc') fun h2 => by
        unfold frontsM
        exact List.mem_map.2 ⟨c', List.mem_filter.2 ⟨hm, by simp [h2, (hk c' hm).2]⟩, rfl⟩)
  rw [alike_len] at this
  exact this

def stepH (q : List He.It) (o : He.Opn) : List He.It := (He.nextS q o ((He.tellS q o).getD He.noAnn)).getD []
def playH (l : List He.Opn) : List He.It := l.foldl stepH []
theorem playH_snoc (l : List He.Opn) (o : He.Opn) : playH (l ++ [o]) = stepH (playH l) o := by simp [playH, List.foldl_append]
theorem set_next {q : List He.It} {o : He.Opn} (h : He.chk q = 0) (hl : q.length < 1000) (hk : o.k = 4 ∨ o.k = 5 ∨ o.k = 6) :
    ∃ a p, He.tellS q o = some a ∧ He.nextS q o a = some p ∧ He.chk p = 0 ∧ p.length ≤ q.length + 1 := by
  rcases hk with hk | hk | hk
  · cases hd : He.hs o.u q with
    | true => exact ⟨_, q, by rw [He.tell_put h hk, if_pos hd], He.next_double h hk hd, h, by omega⟩
    | false =>
      refine ⟨⟨0, 0, 0⟩, He.ins ⟨o.u, o.a⟩ q, by rw [He.tell_put h hk, if_neg (by rw [hd]; decide), if_pos (by omega)], He.next_put h hk hd (by omega), ?_, by rw [He.ins_length]; omega⟩
      exact He.chk_of (by rw [He.ins_length]; omega) (He.ins_asc (He.chk_zero h).2 hd)
  · cases q with
    | nil => exact ⟨_, _, He.tell_pick0 (.inl hk), He.next_none (.inl hk), rfl, by omega⟩
    | cons x q => exact ⟨_, q, He.tell_pick h (.inl hk), He.next_pick h hk, He.chk_of (by simp at hl; omega) (He.asc_tail (He.chk_zero h).2), by simp; omega⟩
  · cases q with
    | nil => exact ⟨_, _, He.tell_pick0 (.inr hk), He.next_none (.inr hk), rfl, by omega⟩
    | cons x q => exact ⟨_, _, He.tell_pick h (.inr hk), He.next_look h hk, h, by omega⟩
theorem playH_ok : ∀ {l : List He.Opn}, (∀ o ∈ l, o.k = 4 ∨ o.k = 5 ∨ o.k = 6) → l.length ≤ 100 → He.chk (playH l) = 0 ∧ (playH l).length ≤ l.length := by
  intro l
  refine Fi.snoc_ind (P := fun l => (∀ o ∈ l, o.k = 4 ∨ o.k = 5 ∨ o.k = 6) → l.length ≤ 100 → He.chk (playH l) = 0 ∧ (playH l).length ≤ l.length) (fun _ _ => ⟨rfl, Nat.le_refl _⟩) (fun l o ih h1 h2 => ?_) l
  rw [List.length_append] at h2
  simp only [List.length_singleton] at h2
  obtain ⟨g1, g2⟩ := ih (fun x hx => h1 x (List.mem_append_left _ hx)) (by omega)
  obtain ⟨a, p, e1, e2, e3, e4⟩ := set_next g1 (by omega) (h1 o (List.mem_append_right _ (List.mem_singleton_self _)))
  rw [playH_snoc]
  unfold stepH
  rw [e1, Option.getD_some, e2, Option.getD_some, List.length_append]
  exact ⟨e3, by simp; omega⟩
theorem set_fits (r : Int) {l : List Sp} (h100 : l.length ≤ 100) (hA : ∀ (i j : Nat) s c, l[j]? = some s → l[i]? = some c → j ≠ i → ahd s c = true → j < i)
    (hk : ∀ c ∈ l, (c.k = 4 ∨ c.k = 5 ∨ c.k = 6) ∧ pend c = false) (hans : ∀ (i : Nat) c, l[i]? = some c → some (⟨c.er, c.n, c.v⟩ : He.Ann) = He.tellS (playH ((l.take i).map SH.opO)) (SH.opO c)) :
    fitsM (SH.nextM r) l [[]] (List.range l.length) = true := by
  refine fits_moments (next := SH.nextM r) (l := l) (st := fun i => playH ((l.take i).map SH.opO)) hA fun i c hc => ?_
  have hm := List.mem_of_getElem? hc
  have hi := (List.getElem?_eq_some_iff.1 hc).1
  obtain ⟨g1, g2⟩ := playH_ok (l := (l.take i).map SH.opO) (fun o ho => by
    obtain ⟨s, hs, rfl⟩ := List.mem_map.1 ho
    exact (hk s (List.mem_of_mem_take hs)).1) (by rw [List.length_map, List.length_take]; omega)
  rw [List.length_map, List.length_take] at g2
  obtain ⟨a, p, e1, e2, e3, e4⟩ := set_next g1 (by omega) (o := SH.opO c) (hk c hm).1
  have ea := hans i c hc
  rw [e1] at ea
  have ea := Option.some.inj ea
  have e : playH ((l.take (i + 1)).map SH.opO) = p := by
    rw [List.take_add_one, hc, Option.toList_some, List.map_append, List.map_singleton, playH_snoc]
    unfold stepH
    rw [e1, Option.getD_some, e2, Option.getD_some]
  simp only [e]
  unfold SH.nextM SH.ansM
  rw [(hk c hm).2, if_neg (by decide), List.mem_filterMap]
  refine ⟨_, List.mem_singleton_self _, ?_⟩
  unfold SH.nxM SH.annO
  rw [ea]
  exact e2
end Go.Proofs.YtbfmmndpboagdaaGreatDoor

set_option maxRecDepth 20000
namespace Go.Proofs.YtbfmmndpboagdaaGreatDoor
open Go.RowKit Go.Shelf

theorem rows_apart {W : World} {b1 b2 s1 s2 n1 n2 : Nat} {e1 e2 : TypeId} {v1 v2 : Value} {x1 x2 : List Value} (he : e1 ≠ e2) (h1 : W.ownsRow b1 e1 s1 v1 n1 x1) (h2 : W.ownsRow b2 e2 s2 v2 n2 x2) (g : Nat) (hg : v1.ownBlock = some g) : ¬ v2.ownBlock = some g := by
  intro hg'
  rcases h1.2 with ⟨hv, _⟩ | ⟨g1, cap, cur, hv, _, hh, _⟩
  · rw [hv] at hg; cases hg
  · rcases h2.2 with ⟨hv', _⟩ | ⟨g2, cap', cur', hv', _, hh', _⟩
    · rw [hv'] at hg'; cases hg'
    · rw [hv] at hg; rw [hv'] at hg'
      have e1 : g1 = g := by simpa [Value.ownBlock] using hg
      have e2 : g2 = g := by simpa [Value.ownBlock] using hg'
      subst e1; subst e2
      rw [hh] at hh'
      simp at hh'
      exact he hh'.2
theorem app_span {W : World} {base n : Nat} {v : Value} {L : List Sp} (hrow : W.ownsRow base 29 10 v n (flatS L)) (hb : base ≤ W.heap.size) (s : Sp) (hn : n ≤ 100) :
    ∃ a c w1, (apS #[38, 38] 38 #[v, .slice (some ⟨W.heap.size, 0, none⟩) 1 1]).run Tryz.prog (W.alloc (.cells #[.int .i64 s.id, .int .i64 s.from_, .int .i64 s.to, .int .i64 s.k, .int .i64 s.x, .int .i64 s.y, .int .u64 s.u, .int .i64 s.er, .int .i64 s.n, .int .u64 s.v] 29)) = .ok (.slice a (n + 1) c) w1 ∧ w1.ownsRow base 29 10 (.slice a (n + 1) c) (n + 1) (flatS (L ++ [s])) ∧ But (fun k => v.ownBlock = some k) W w1 := by
  obtain ⟨i0, hi, hz0, hz1, hz2⟩ := info_parts infoSp
  have hrow1 := own_kept hrow ((Kept.refl W).alloc (#[.int .i64 s.id, .int .i64 s.from_, .int .i64 s.to, .int .i64 s.k, .int .i64 s.x, .int .i64 s.y, .int .u64 s.u, .int .i64 s.er, .int .i64 s.n, .int .u64 s.v]) 29)
  obtain ⟨a2, c2, w2, hr, hown, hbut, _⟩ := append_lay (P := Tryz.prog) (W.alloc (.cells #[.int .i64 s.id, .int .i64 s.from_, .int .i64 s.to, .int .i64 s.k, .int .i64 s.x, .int .i64 s.y, .int .u64 s.u, .int .i64 s.er, .int .i64 s.n, .int .u64 s.v] 29)) base 38 38 29 i0 _ 10 80 Tryz.underlying38 hi hz0 hz1 hz2 (by rfl) (by decide) _ n (flatS L) hrow1 (.slice (some ⟨W.heap.size, 0, none⟩) 1 1) 1 (flatS [s]) (by rfl) (lay_new (heap_alloc_new _ _) (by decide)) (flatS_one _) (by unfold maxLen; omega) (by omega) (by simp; omega)
  refine ⟨a2, c2, w2, hr, ?_, ?_⟩
  · rw [show flatS (L ++ [s]) = flatS L ++ flatS [s] by simp [flatS]]; exact hown
  · exact (((Kept.refl W).alloc _ _).but _).trans hbut (fun _ _ h => h)
theorem app_int {W : World} {base n : Nat} {v : Value} {L : List Int} (hrow : W.ownsRow base 3 1 v n (ints L)) (hb : base ≤ W.heap.size) (x : Int) (hn : n ≤ 100) :
    ∃ a c w1, (apS #[35, 35] 35 #[v, .slice (some ⟨W.heap.size, 0, none⟩) 1 1]).run Tryz.prog (W.alloc (.cells #[.int .i64 x] 3)) = .ok (.slice a (n + 1) c) w1 ∧ w1.ownsRow base 3 1 (.slice a (n + 1) c) (n + 1) (ints (L ++ [x])) ∧ But (fun k => v.ownBlock = some k) W w1 := by
  obtain ⟨i0, hi, hz0, hz1, hz2⟩ := info_parts infoI
  have hrow1 := own_kept hrow ((Kept.refl W).alloc (#[.int .i64 x]) 3)
  obtain ⟨a2, c2, w2, hr, hown, hbut, _⟩ := append_lay (P := Tryz.prog) (W.alloc (.cells #[.int .i64 x] 3)) base 35 35 3 i0 _ 1 8 Tryz.underlying35 hi hz0 hz1 hz2 (by rfl) (by decide) _ n (ints L) hrow1 (.slice (some ⟨W.heap.size, 0, none⟩) 1 1) 1 (ints [x]) (by rfl) (lay_new (heap_alloc_new _ _) (by decide)) (fun u hu => by simp [ints] at hu; subst hu; rfl) (by unfold maxLen; omega) (by omega) (by simp; omega)
  refine ⟨a2, c2, w2, hr, ?_, ?_⟩
  · rw [show ints (L ++ [x]) = ints L ++ ints [x] by simp [ints]]; exact hown
  · exact (((Kept.refl W).alloc _ _).but _).trans hbut (fun _ _ h => h)
def drawn (b : List Int) (i : Nat) : Int := (b[i]?.map (· % 60)).getD 0
theorem drawn_in {b : List Int} {i : Nat} {x : Int} (h : b[i]? = some x) : drawn b i = x % 60 := by unfold drawn; rw [h]; rfl
theorem drawn_out {b : List Int} {i : Nat} (h : b.length ≤ i) : drawn b i = 0 := by unfold drawn; rw [List.getElem?_eq_none h]; rfl
theorem drawn_range (b : List Int) (i : Nat) : 0 ≤ drawn b i ∧ drawn b i < 60 := by
  unfold drawn
  cases b[i]? with
  | none => exact ⟨Int.le_refl _, by decide⟩
  | some x => simp only [Option.map_some, Option.getD_some]; omega
def spM (tell : List Fi.Opn → Fi.Opn → Fi.Ann) (nop : Fi.Opn → Fi.Opn) (l : List Fi.Opn) (b h : List Int) (i : Nat) (o : Fi.Opn) : Sp :=
  ⟨i, 100 + 10 * i - drawn b i, 105 + 10 * i + drawn h i, (nop o).k, o.a, o.b, o.u, (tell ((l.take i).map nop) (nop o)).e, (tell ((l.take i).map nop) (nop o)).n, (tell ((l.take i).map nop) (nop o)).v⟩
def madeM (tell : List Fi.Opn → Fi.Opn → Fi.Ann) (nop : Fi.Opn → Fi.Opn) (l : List Fi.Opn) (b h : List Int) (k : Nat) : List Sp := (List.range k).flatMap fun i => (l[i]?).toList.map (spM tell nop l b h i)
theorem made_succ (tell : List Fi.Opn → Fi.Opn → Fi.Ann) (nop : Fi.Opn → Fi.Opn) (l : List Fi.Opn) (b h : List Int) (k : Nat) (o : Fi.Opn) (ho : l[k]? = some o) : madeM tell nop l b h (k + 1) = madeM tell nop l b h k ++ [spM tell nop l b h k o] := by
  unfold madeM
  rw [List.range_succ, List.flatMap_append]
  simp [ho]
theorem made_len (tell : List Fi.Opn → Fi.Opn → Fi.Ann) (nop : Fi.Opn → Fi.Opn) (l : List Fi.Opn) (b h : List Int) : ∀ k, k ≤ l.length → (madeM tell nop l b h k).length = k := by
  intro k
  induction k with
  | zero => intro _; rfl
  | succ k ih =>
    intro hk
    rw [made_succ tell nop l b h k l[k] (List.getElem?_eq_getElem (by omega)), List.length_append, ih (by omega)]
    rfl
theorem made_get (tell : List Fi.Opn → Fi.Opn → Fi.Ann) (nop : Fi.Opn → Fi.Opn) (l : List Fi.Opn) (b h : List Int) : ∀ k, k ≤ l.length → ∀ i o, i < k → l[i]? = some o → (madeM tell nop l b h k)[i]? = some (spM tell nop l b h i o) := by
  intro k
  induction k with
  | zero => intro _ i o hi; omega
  | succ k ih =>
    intro hk i o hi ho
    have hl := made_len tell nop l b h k (by omega)
    rw [made_succ tell nop l b h k l[k] (List.getElem?_eq_getElem (by omega))]
    by_cases e : i = k
    · subst e
      rw [List.getElem?_append_right (by omega), hl, Nat.sub_self]
      rw [List.getElem?_eq_getElem (by omega)] at ho
      rw [Option.some.inj ho]
      rfl
    · rw [List.getElem?_append_left (by omega)]
      exact ih (by omega) i o (by omega) ho
end Go.Proofs.YtbfmmndpboagdaaGreatDoor

set_option maxRecDepth 20000
namespace Go.Proofs.YtbfmmndpboagdaaGreatDoor
open Go.RowKit Go.Shelf
attribute [local go_sem ↓] apS_named

def nopU (o : Fi.Opn) : Fi.Opn := ⟨1 + o.k % 3, o.a, o.b, o.u⟩
def qAt (room : Nat) (l : List Fi.Opn) (i : Nat) : List Int := Fi.playQ room ((l.take i).map nopU)
def tellU (room : Nat) (p : List Fi.Opn) (o : Fi.Opn) : Fi.Ann := Fi.tell room (Fi.playQ room p) o
theorem wrap_in {x : Int} (h : -9223372036854775808 ≤ x) (h2 : x ≤ 9223372036854775807) : IntKind.i64.wrap x = x := by
  rw [IntKind.wrap_i64]
  omega
theorem chkF_ok {room : Nat} (hr : 1 ≤ room ∧ room ≤ 64) {q : List Int} (hq : q.length ≤ room) : Fi.chkF room q.length = 0 := by
  unfold Fi.chkF
  rw [if_neg (by omega), if_neg (by omega)]
theorem queue_tell {room : Nat} (hr : 1 ≤ room ∧ room ≤ 64) {q : List Int} (hq : q.length ≤ room) (o : Fi.Opn) : Fi.tellI room q o = Fi.tell room q o := by
  unfold Fi.tellI Fi.actI Fi.tell
  rw [if_pos (chkF_ok hr hq)]
  simp
theorem queue_next {room : Nat} (hr : 1 ≤ room ∧ room ≤ 64) {q : List Int} (hq : q.length ≤ room) {o : Fi.Opn} (hk : o.k = 1 ∨ o.k = 2 ∨ o.k = 3) : Fi.nextI room q o (Fi.tell room q o) = some (Fi.after room q o) := by
  unfold Fi.nextI Fi.actI Fi.tell Fi.after
  rw [if_pos (chkF_ok hr hq)]
  simp only [Int.toNat_natCast]
  cases ha : Fi.act room q o with
  | some p => simp
  | none =>
    exfalso
    unfold Fi.act at ha
    rcases hk with hk | hk | hk
    · rw [if_pos hk] at ha; split at ha <;> cases ha
    · rw [if_neg (by omega), if_pos hk] at ha; split at ha <;> cases ha
    · rw [if_neg (by omega), if_neg (by omega), if_pos hk] at ha; split at ha <;> cases ha
theorem nopU_k (o : Fi.Opn) : (nopU o).k = 1 ∨ (nopU o).k = 2 ∨ (nopU o).k = 3 := by
  have h1 := Int.emod_nonneg o.k (show (3 : Int) ≠ 0 by decide)
  have h2 := Int.emod_lt_of_pos o.k (show (0 : Int) < 3 by decide)
  show 1 + o.k % 3 = 1 ∨ 1 + o.k % 3 = 2 ∨ 1 + o.k % 3 = 3
  omega
theorem qAt_succ {room : Nat} {l : List Fi.Opn} {k : Nat} {o : Fi.Opn} (h : l[k]? = some o) : qAt room l (k + 1) = Fi.after room (qAt room l k) (nopU o) := by
  unfold qAt
  rw [List.take_add_one, h, Option.toList_some, List.map_append, List.map_singleton, Fi.playQ_snoc]
structure DnRel (w : World) (room : Nat) (l : List Fi.Opn) (b h : List Int) (n k : Nat) (vc vo vq vi : Value) (wr : World) : Prop where
  kept : Kept w wr
  calls : ∃ a c, vc = .slice a k c ∧ wr.ownsRow w.heap.size 29 10 (.slice a k c) k (flatS (madeM (tellU room) nopU l b h k))
  order : ∃ a c, vo = .slice a k c ∧ wr.ownsRow w.heap.size 3 1 (.slice a k c) k (ints (SU.casts (List.range k)))
  queue : ∃ a c, vq = .slice a (qAt room l k).length c ∧ wr.ownsRow w.heap.size 22 1 (.slice a (qAt room l k).length c) (qAt room l k).length (Fi.words (qAt room l k))
  items : vi = .slice none 0 0
def DnR (w : World) (room : Nat) (l : List Fi.Opn) (b h : List Int) (n : Nat) (vc vo vq vi i : Value) (wr : World) : Prop := ∃ k : Nat, k ≤ n ∧ i = .int .i64 k ∧ DnRel w room l b h n k vc vo vq vi wr
structure DnS (w3 wx : World) (s : Sp) : Prop where
  kept : Kept w3 wx
  box : SpBox wx w3.heap.size s
  soft : ∀ i, wx.frozen? ⟨w3.heap.size, i, none⟩ = false
theorem DnS.new (w3 : World) (s : Sp) (t : TypeId) : DnS w3 (w3.alloc (.cells #[.int .i64 s.id, .int .i64 s.from_, .int .i64 s.to, .int .i64 s.k, .int .i64 s.x, .int .i64 s.y, .int .u64 s.u, .int .i64 s.er, .int .i64 s.n, .int .u64 s.v] t)) s := ⟨(Kept.refl _).alloc _ _, SpBox.at w3 s t _ rfl, fun _ => soft_new _ _ _ _ _ rfl⟩
theorem DnS.drew {w3 wx : World} {s : Sp} (h : DnS w3 wx s) : DnS w3 wx.drew s := ⟨h.kept.drew, h.box.kept (Kept.refl _).drew, h.soft⟩
theorem DnS.from_set {w3 wx : World} {s : Sp} (h : DnS w3 wx s) (x : Int) : DnS w3 (wx.setCell ⟨w3.heap.size, 1, none⟩ (.int .i64 x)) ⟨s.id, x, s.to, s.k, s.x, s.y, s.u, s.er, s.n, s.v⟩ :=
  ⟨h.kept.setCell (p := ⟨w3.heap.size, 1, none⟩) (Nat.le_refl _) _, by
    obtain ⟨h0, h1, h2, h3, h4, h5, h6, h7, h8, h9⟩ := h.box
    exact ⟨by simp [cell_set, h0], by simp [cell_set, h1], by simp [cell_set, h2], by simp [cell_set, h3], by simp [cell_set, h4], by simp [cell_set, h5], by simp [cell_set, h6], by simp [cell_set, h7], by simp [cell_set, h8], by simp [cell_set, h9]⟩, fun i => by rw [World.frozen?_setCell]; exact h.soft i⟩
theorem DnS.to_set {w3 wx : World} {s : Sp} (h : DnS w3 wx s) (x : Int) : DnS w3 (wx.setCell ⟨w3.heap.size, 2, none⟩ (.int .i64 x)) ⟨s.id, s.from_, x, s.k, s.x, s.y, s.u, s.er, s.n, s.v⟩ :=
  ⟨h.kept.setCell (p := ⟨w3.heap.size, 2, none⟩) (Nat.le_refl _) _, by
    obtain ⟨h0, h1, h2, h3, h4, h5, h6, h7, h8, h9⟩ := h.box
    exact ⟨by simp [cell_set, h0], by simp [cell_set, h1], by simp [cell_set, h2], by simp [cell_set, h3], by simp [cell_set, h4], by simp [cell_set, h5], by simp [cell_set, h6], by simp [cell_set, h7], by simp [cell_set, h8], by simp [cell_set, h9]⟩, fun i => by rw [World.frozen?_setCell]; exact h.soft i⟩
def DnB (w3 : World) (s : Sp) (_ : Value) (wx : World) : Prop := DnS w3 wx s
set_option maxRecDepth 100000 in
set_option maxHeartbeats 4000000 in
theorem made_queue {w : World} {a : Option Addr} {n c : Nat} {l : List Fi.Opn} (h : Lay w (.slice a n c) n (Fi.flatO l)) (hn : n = l.length) (h7 : n ≤ 7) (room : Nat) (hr : 1 ≤ room ∧ room ≤ 64)
    {ba : Option Addr} {bn bc : Nat} {b : List Int} (hb : Lay w (.slice ba bn bc) bn (ints b)) (hbn : bn = b.length) {ha : Option Addr} {hn' hc : Nat} {bh : List Int} (hh : Lay w (.slice ha hn' hc) hn' (ints bh)) (hhn : hn' = bh.length) :
    Calls Tryz.prog 17 #[.int .i64 1, .int .i64 room, .slice a n c, .slice ba bn bc, .slice ha hn' hc] w fun e w' => ∃ a1 c1 a2 c2, e = .returned (.tuple #[.slice a1 n c1, .slice a2 n c2]) ∧ Kept w w' ∧ Lay w' (.slice a1 n c1) n (flatS (madeM (tellU room) nopU l b bh n)) ∧ Lay w' (.slice a2 n c2) n (ints (SU.casts (List.range n))) := by
  have HL := Lib.hid h
  have HN := Lib.hid hn
  have HB := Lib.hid hb
  have HH := Lib.hid hh
  have HBN := Lib.hid hbn
  have HHN := Lib.hid hhn
  have HR := Lib.hid hr
  have PK := Lib.hid (fun x W => Po.pick_any x 3 (by decide) (by decide) W)
  have PK60 := Lib.hid (fun x W => Po.pick_any x 60 (by decide) (by decide) W)
  clear h hn hb hh hbn hhn hr
  go_enter Tryz.func17, Tryz.ntmps17
  go_wp2_with fail
  go_loopw [12, 13, 14, 15, 16, 17, 18, 19] (fun vc vo vq vi i _ _ _ wr => DnR w room l b bh n vc vo vq vi i wr) (fun _ _ _ _ i _ _ _ _ => n - (intOf i).toNat)
  case atStart => exact ⟨0, Nat.zero_le _, rfl, ⟨by (go_light; repeat (first | (with_reducible exact Kept.refl _) | (with_reducible assumption) | (with_reducible refine Kept.alloc ?_ _ _) | (with_reducible refine Kept.drew ?_) | (with_reducible refine Kept.drewN ?_ _) | ((with_reducible refine Kept.setCell ?_ ?_ _); rotate_left; focus (first | (simp; done) | (simp; omega))) | refine Kept.trans ?_ (by assumption))), ⟨none, 0, rfl, World.ownsRow_nil _ _ _ _⟩, ⟨none, 0, rfl, World.ownsRow_nil _ _ _ _⟩, ⟨none, 0, rfl, World.ownsRow_nil _ _ _ _⟩, rfl⟩⟩
  case round =>
    obtain ⟨k, hkn, rfl, hrl⟩ := hrel
    obtain ⟨ca, cc, rfl, hcalls⟩ := hrl.calls
    obtain ⟨oa, oc, rfl, horder⟩ := hrl.order
    obtain ⟨qa, qc, rfl, hqueue⟩ := hrl.queue
    obtain rfl := hrl.items
    have KE := Lib.hid hrl.kept
    have HCA := Lib.hid hcalls
    have HOR := Lib.hid horder
    have HQU := Lib.hid hqueue
    clear hrl hcalls horder hqueue
    by_cases hlt : k < n
    · obtain ⟨o, ho⟩ : ∃ o, l[k]? = some o := ⟨_, List.getElem?_eq_getElem (by rw [← HN.out]; omega)⟩
      have HO := Lib.hid ho
      obtain ⟨g, p, c0, eS, _, _, hop⟩ := (show Lay wr (.slice a l.length c) l.length (Fi.flatO l) by rw [← HN.out]; exact HL.out.kept KE.out).op_Fi (by rw [← HN.out]; omega)
      cases eS
      obtain ⟨o0, o1, o2, o3⟩ := hop k o ho
      clear hop ho
      obtain ⟨r3, hr3⟩ : ∃ r3, o.k % 3 = r3 := ⟨_, rfl⟩
      have r3a : 0 ≤ r3 := by have := Int.emod_nonneg o.k (show (3 : Int) ≠ 0 by decide); omega
      have r3b : r3 < 3 := by have := Int.emod_lt_of_pos o.k (show (0 : Int) < 3 by decide); omega
      have PK3 := Lib.hid (PK.out o.k)
      rw [hr3] at PK3
      go_wp2_with fail; refine (PK3.out _).mono ?_; rintro e w1 ⟨rfl, rfl⟩
      go_upto_region 12 with fail
      obtain ⟨V, hV⟩ : ∃ V, ((wr.alloc (.cells #[.int .i64 (1 + r3), .int .i64 o.a, .int .i64 o.b, .int .u64 o.u] 24)).alloc (.cells #[.int .i64 0, .int .i64 0, .int .u64 0] 27)) = V := ⟨_, rfl⟩
      have KV := Lib.hid (show Kept wr V by rw [← hV]; exact ((Kept.refl wr).alloc _ _).alloc _ _)
      have OB := Lib.hid (show Fi.OpBox V wr.heap.size ⟨1 + r3, o.a, o.b, o.u⟩ by rw [← hV]; exact (Fi.OpBox.new wr ⟨1 + r3, o.a, o.b, o.u⟩ _ _ rfl).kept ((Kept.refl _).alloc _ _))
      have AB := Lib.hid (show Fi.AnBox V (wr.heap.size + 1) ⟨0, 0, 0⟩ by rw [← hV]; exact Fi.AnBox.new _ ⟨0, 0, 0⟩ _ _ (by simp))
      rw [hV]
      clear hV
      have QL := Lib.hid (show (qAt room l k).length ≤ room from Fi.playQ_room room ((l.take k).map nopU))
      have NO := Lib.hid (show nopU o = ⟨1 + r3, o.a, o.b, o.u⟩ by unfold nopU; rw [hr3])
      have TE := Lib.hid (show Fi.tellI room (qAt room l k) ⟨1 + r3, o.a, o.b, o.u⟩ = Fi.tell room (qAt room l k) (nopU o) by rw [← NO.out]; exact queue_tell HR.out QL.out _)
      obtain ⟨x, hx⟩ : ∃ x, Fi.tell room (qAt room l k) (nopU o) = x := ⟨_, rfl⟩
      have NX := Lib.hid (show Fi.nextI room (qAt room l k) ⟨1 + r3, o.a, o.b, o.u⟩ x = some (qAt room l (k + 1)) by rw [← NO.out, ← hx, queue_next HR.out QL.out (nopU_k o), qAt_succ HO.out])
      have AN := Lib.hid (Fi.answer_any (w := V) room ⟨1 + r3, o.a, o.b, o.u⟩ ((own_lies HQU.out).lay.kept KV.out))
      rw [TE.out, hx] at AN
      have HX := Lib.hid hx
      clear hx hr3
      obtain ⟨bs, hbs⟩ : ∃ bs, (Fi.actI room (qAt room l k) ⟨1 + r3, o.a, o.b, o.u⟩).isSome = bs := ⟨_, rfl⟩
      rw [hbs] at AN
      clear hbs
      obtain ⟨ob0, ob1, ob2, ob3⟩ := OB.out
      dsimp only at ob0 ob1 ob2 ob3
      go_wp2_with fail; refine AN.out.mono ?_; rintro e w1 ⟨rfl, k1⟩
      have K1 := Lib.hid (KV.out.trans k1)
      have A1 := Lib.hid (AB.out.kept k1)
      have B1 := Lib.hid (OB.out.kept k1)
      clear k1 ob0 ob1 ob2 ob3
      obtain ⟨ob0, ob1, ob2, ob3⟩ := B1.out
      obtain ⟨ab0, ab1, ab2, abs⟩ := A1.out
      dsimp only at ob0 ob1 ob2 ob3 ab0 ab1 ab2
      go_upto_region 13 with fail
      obtain ⟨V2, hV⟩ : ∃ V2, ((w1.setCell ⟨wr.heap.size + 1, 0, none⟩ (.int .i64 x.e)).setCell ⟨wr.heap.size + 1, 1, none⟩ (.int .i64 x.n)).setCell ⟨wr.heap.size + 1, 2, none⟩ (.int .u64 x.v) = V2 := ⟨_, rfl⟩
      have b12 : But (fun j => j = wr.heap.size + 1) w1 V2 := by rw [← hV]; exact (((But.refl _ _).here _ _).here _ _).here _ _
      have KV2 := Lib.hid (show Kept wr V2 from K1.out.put1 b12 (by omega))
      have A2 := Lib.hid (show Fi.AnBox V2 (wr.heap.size + 1) x by
        rw [← hV]
        exact ⟨by simp [cell_set, ab0], by simp [cell_set, ab1], by simp [cell_set, ab2], fun i => by simp [abs]⟩)
      have B2 := Lib.hid (B1.out.but b12 (by omega))
      rw [hV]
      clear hV b12 ob0 ob1 ob2 ob3 ab0 ab1 ab2 abs
      have NA := Lib.hid (Fi.next_any (w := V2) room ⟨1 + r3, o.a, o.b, o.u⟩ x ((own_lies HQU.out).lay.kept KV2.out))
      rw [NX.out] at NA
      obtain ⟨ob0, ob1, ob2, ob3⟩ := B2.out
      obtain ⟨ab0, ab1, ab2, abs⟩ := A2.out
      dsimp only at ob0 ob1 ob2 ob3
      go_wp2_with fail; refine NA.out.mono ?_; rintro e w3 ⟨qa3, qc3, rfl, k3, own3⟩
      have K3 := Lib.hid (KV2.out.trans k3)
      have A3 := Lib.hid (A2.out.kept k3)
      have B3 := Lib.hid (B2.out.kept k3)
      have Q3 := Lib.hid (show w3.ownsRow w.heap.size 22 1 (.slice qa3 (qAt room l (k + 1)).length qc3) (qAt room l (k + 1)).length (Fi.words (qAt room l (k + 1))) from own_mono own3 (by have h1 := KE.out.size; have h2 := KV2.out.size; omega))
      clear k3 own3 ob0 ob1 ob2 ob3 ab0 ab1 ab2 abs
      obtain ⟨ob0, ob1, ob2, ob3⟩ := B3.out
      obtain ⟨ab0, ab1, ab2, abs⟩ := A3.out
      dsimp only at ob0 ob1 ob2 ob3
      simp only [Option.getD_some, Option.isSome_some]
      go_upto_region 18 with fail
      clear ob0 ob1 ob2 ob3 ab0 ab1 ab2 abs
      have L3 := Lib.hid (KE.out.trans K3.out)
      obtain ⟨W4, hW4⟩ : ∃ W4, w3.alloc (.cells #[.int .i64 (k : Int), .int .i64 (100 + 10 * (k : Int)), .int .i64 (105 + 10 * (k : Int)), .int .i64 (1 + r3), .int .i64 o.a, .int .i64 o.b, .int .u64 o.u, .int .i64 x.e, .int .i64 x.n, .int .u64 x.v] 29) = W4 := ⟨_, rfl⟩
      have D4 := Lib.hid (show DnS w3 W4 ⟨(k : Int), 100 + 10 * (k : Int), 105 + 10 * (k : Int), 1 + r3, o.a, o.b, o.u, x.e, x.n, x.v⟩ by rw [← hW4]; exact DnS.new w3 ⟨(k : Int), 100 + 10 * (k : Int), 105 + 10 * (k : Int), 1 + r3, o.a, o.b, o.u, x.e, x.n, x.v⟩ _)
      rw [hW4]
      clear hW4
      have db := drawn_range b k
      have dh := drawn_range bh k
      have k7 : k < 7 := by omega
      go_upto_if 83 with fail
      go_cut [84] (DnB w3 ⟨(k : Int), 100 + 10 * (k : Int) - drawn b k, 105 + 10 * (k : Int), 1 + r3, o.a, o.b, o.u, x.e, x.n, x.v⟩)
      case first =>
        by_cases hkb : k < bn
        · obtain ⟨y, hy⟩ : ∃ y, b[k]? = some y := ⟨_, List.getElem?_eq_getElem (by rw [← HBN.out]; omega)⟩
          obtain ⟨gb, pb, e, cb⟩ := num_one (HB.out.kept (L3.out.trans D4.out.kept)) HBN.out k y hy
          cases e
          have DY := Lib.hid (drawn_in hy)
          obtain ⟨z, hz⟩ : ∃ z, y % 60 = z := ⟨_, rfl⟩
          have PY := Lib.hid (PK60.out y)
          rw [hz] at PY DY
          have z0 : 0 ≤ z := by omega
          have z60 : z < 60 := by omega
          clear hy hz
          have s1 := D4.out.box.c1
          have sf := D4.out.soft
          dsimp only at s1
          have s1l := lt_of_cell s1
          have cbl := lt_of_cell cb
          go_upto_region 19 with fail
          go_region_law (first | (go_simp; go_at_call 16; refine (PY.out _).mono ?_; rintro e v ⟨rfl, rfl⟩) | fail)
          all_goals go_wp2
          all_goals go_meet
          all_goals (show DnS _ _ _; rw [DY.out])
          all_goals (rw [wrap_in (x := 100 + 10 * (k : Int) - z) (by omega) (by omega)])
          all_goals (first | exact D4.out.from_set _ | (exact (D4.out.from_set _).drew))
        · have DY := Lib.hid (drawn_out (b := b) (i := k) (by have := HBN.out; omega))
          go_wp2
          go_meet
          show DnS _ _ _
          rw [DY.out, Int.sub_zero]
          exact D4.out
      case rest =>
        have D5 := Lib.hid (show DnS w3 _ _ from hcut)
        clear hcut
        go_upto_if 96 with fail
        go_cut [97] (DnB w3 ⟨(k : Int), 100 + 10 * (k : Int) - drawn b k, 105 + 10 * (k : Int) + drawn bh k, 1 + r3, o.a, o.b, o.u, x.e, x.n, x.v⟩)
        case first =>
          by_cases hkb : k < hn'
          · obtain ⟨y, hy⟩ : ∃ y, bh[k]? = some y := ⟨_, List.getElem?_eq_getElem (by rw [← HHN.out]; omega)⟩
            obtain ⟨gb, pb, e, cb⟩ := num_one (HH.out.kept (L3.out.trans D5.out.kept)) HHN.out k y hy
            cases e
            have DY := Lib.hid (drawn_in hy)
            obtain ⟨z, hz⟩ : ∃ z, y % 60 = z := ⟨_, rfl⟩
            have PY := Lib.hid (PK60.out y)
            rw [hz] at PY DY
            have z0 : 0 ≤ z := by omega
            have z60 : z < 60 := by omega
            clear hy hz
            have s2 := D5.out.box.c2
            have sf := D5.out.soft
            dsimp only at s2
            have s2l := lt_of_cell s2
            have cbl := lt_of_cell cb
            go_upto_region 21 with fail
            go_region_law (first | (go_simp; go_at_call 16; refine (PY.out _).mono ?_; rintro e v ⟨rfl, rfl⟩) | fail)
            all_goals go_wp2
            all_goals go_meet
            all_goals (show DnS _ _ _; rw [DY.out])
            all_goals (rw [wrap_in (x := 105 + 10 * (k : Int) + z) (by omega) (by omega)])
            all_goals (first | exact D5.out.to_set _ | (exact (D5.out.to_set _).drew))
          · have DY := Lib.hid (drawn_out (b := bh) (i := k) (by have := HHN.out; omega))
            go_wp2
            go_meet
            show DnS _ _ _
            rw [DY.out, Int.add_zero]
            exact D5.out
        case rest =>
          have D6 := Lib.hid (show DnS w3 _ _ from hcut)
          clear hcut
          rename_i wc _ _ _
          have hz4 : w.heap.size ≤ w3.heap.size := by have h1 := KE.out.size; have h2 := K3.out.size; omega
          have K6 := Lib.hid (show Kept w wc from L3.out.trans D6.out.kept)
          have KR := Lib.hid (show Kept wr wc from K3.out.trans D6.out.kept)
          have CA6 := Lib.hid (own_kept HCA.out KR.out)
          have OR6 := Lib.hid (own_kept HOR.out KR.out)
          have QU6 := Lib.hid (own_kept Q3.out D6.out.kept)
          obtain ⟨a7, c7, w7, r7, own7, but7⟩ := app_span CA6.out K6.out.size ⟨(k : Int), 100 + 10 * (k : Int) - drawn b k, 105 + 10 * (k : Int) + drawn bh k, 1 + r3, o.a, o.b, o.u, x.e, x.n, x.v⟩ (by omega)
          dsimp only at r7
          have OR7 := Lib.hid (own_but OR6.out but7 (rows_apart (by decide) OR6.out CA6.out))
          have QU7 := Lib.hid (own_but QU6.out but7 (rows_apart (by decide) QU6.out CA6.out))
          have K7 := Lib.hid (show Kept w w7 from K6.out.put but7 fun j hj => (CA6.out.lt j hj).1)
          obtain ⟨a8, c8, w8, r8, own8, but8⟩ := app_int OR7.out K7.out.size (k : Int) (by omega)
          have CA8 := Lib.hid (own_but own7 but8 (rows_apart (by decide) own7 OR7.out))
          have QU8 := Lib.hid (own_but QU7.out but8 (rows_apart (by decide) QU7.out OR7.out))
          have K8 := Lib.hid (show Kept w w8 from K7.out.put but8 fun j hj => (OR7.out.lt j hj).1)
          have OR8 := Lib.hid own8
          have MS := Lib.hid (show flatS (madeM (tellU room) nopU l b bh k ++ [⟨(k : Int), 100 + 10 * (k : Int) - drawn b k, 105 + 10 * (k : Int) + drawn bh k, 1 + r3, o.a, o.b, o.u, x.e, x.n, x.v⟩]) = flatS (madeM (tellU room) nopU l b bh (k + 1)) by
            rw [made_succ _ _ _ _ _ _ _ HO.out]
            unfold spM
            have hx := HX.out
            have e : tellU room ((l.take k).map nopU) (nopU o) = x := hx
            rw [e, NO.out])
          clear own7 but7 own8 but8
          obtain ⟨s0, s1, s2, s3, s4, s5, s6, s7, s8, s9⟩ := D6.out.box
          dsimp only at s0 s1 s2 s3 s4 s5 s6 s7 s8 s9
          have dxa : 0 ≤ drawn b k ∧ drawn b k < 60 := db
          go_wp2
          go_roundw
          case rel =>
            refine ⟨k + 1, by omega, by go_num, ⟨K8.out, ⟨a7, c7, rfl, ?_⟩, ⟨a8, c8, rfl, ?_⟩, ⟨qa3, qc3, rfl, QU8.out⟩, rfl⟩⟩
            · rw [← MS.out]
              exact CA8.out
            · have e : SU.casts (List.range (k + 1)) = SU.casts (List.range k) ++ [(k : Int)] := by rw [List.range_succ]; simp [SU.casts]
              rw [e]
              exact OR8.out
          case measure => simp [intOf]; omega
    · obtain rfl : k = n := by omega
      have L1 := Lib.hid (own_lies HCA.out).lay
      have L2 := Lib.hid (own_lies HOR.out).lay
      go_wp2
      go_ret2
      exact ⟨ca, cc, oa, oc, rfl, KE.out, L1.out, L2.out⟩
end Go.Proofs.YtbfmmndpboagdaaGreatDoor

set_option maxRecDepth 20000
namespace Go.Proofs.YtbfmmndpboagdaaGreatDoor
open Go.RowKit Go.Shelf
attribute [local go_sem ↓] apS_named

def nopH (o : Fi.Opn) : Fi.Opn := ⟨4 + o.k % 3, o.a, o.b, o.u⟩
def hop (o : Fi.Opn) : He.Opn := ⟨o.k, o.a, o.b, o.u⟩
def hAt (l : List Fi.Opn) (i : Nat) : List He.It := playH ((l.take i).map fun o => hop (nopH o))
def tellH (p : List Fi.Opn) (o : Fi.Opn) : Fi.Ann := let x := (He.tellS (playH (p.map hop)) (hop o)).getD He.noAnn; ⟨x.e, x.n, x.v⟩
theorem nopH_k (o : Fi.Opn) : (hop (nopH o)).k = 4 ∨ (hop (nopH o)).k = 5 ∨ (hop (nopH o)).k = 6 := by
  have h1 := Int.emod_nonneg o.k (show (3 : Int) ≠ 0 by decide)
  have h2 := Int.emod_lt_of_pos o.k (show (0 : Int) < 3 by decide)
  show 4 + o.k % 3 = 4 ∨ 4 + o.k % 3 = 5 ∨ 4 + o.k % 3 = 6
  omega
theorem hAt_succ {l : List Fi.Opn} {k : Nat} {o : Fi.Opn} (h : l[k]? = some o) : hAt l (k + 1) = stepH (hAt l k) (hop (nopH o)) := by
  unfold hAt
  rw [List.take_add_one, h, Option.toList_some, List.map_append, List.map_singleton, playH_snoc]
theorem hAt_ok {l : List Fi.Opn} (h : l.length ≤ 100) (k : Nat) : He.chk (hAt l k) = 0 ∧ (hAt l k).length ≤ k := by
  obtain ⟨h1, h2⟩ := playH_ok (l := (l.take k).map fun o => hop (nopH o)) (fun o ho => by
    obtain ⟨s, _, rfl⟩ := List.mem_map.1 ho
    exact nopH_k s) (by rw [List.length_map, List.length_take]; omega)
  refine ⟨h1, ?_⟩
  rw [List.length_map, List.length_take] at h2
  exact Nat.le_trans h2 (Nat.min_le_left _ _)
theorem hAt_map (l : List Fi.Opn) (k : Nat) : playH (((l.take k).map nopH).map hop) = hAt l k := by unfold hAt; rw [List.map_map]; rfl
structure DhRel (w : World) (l : List Fi.Opn) (b h : List Int) (n k : Nat) (vc vo vq vi : Value) (wr : World) : Prop where
  kept : Kept w wr
  calls : ∃ a c, vc = .slice a k c ∧ wr.ownsRow w.heap.size 29 10 (.slice a k c) k (flatS (madeM tellH nopH l b h k))
  order : ∃ a c, vo = .slice a k c ∧ wr.ownsRow w.heap.size 3 1 (.slice a k c) k (ints (SU.casts (List.range k)))
  items : ∃ a c, vi = .slice a (hAt l k).length c ∧ wr.ownsRow w.heap.size 90 2 (.slice a (hAt l k).length c) (hAt l k).length (He.flatI (hAt l k))
  queue : vq = .slice none 0 0
def DhR (w : World) (l : List Fi.Opn) (b h : List Int) (n : Nat) (vc vo vq vi i : Value) (wr : World) : Prop := ∃ k : Nat, k ≤ n ∧ i = .int .i64 k ∧ DhRel w l b h n k vc vo vq vi wr
set_option maxRecDepth 100000 in
set_option maxHeartbeats 4000000 in
theorem made_set {w : World} {a : Option Addr} {n c : Nat} {l : List Fi.Opn} (h : Lay w (.slice a n c) n (Fi.flatO l)) (hn : n = l.length) (h7 : n ≤ 7) (room : Int)
    {ba : Option Addr} {bn bc : Nat} {b : List Int} (hb : Lay w (.slice ba bn bc) bn (ints b)) (hbn : bn = b.length) {ha : Option Addr} {hn' hc : Nat} {bh : List Int} (hh : Lay w (.slice ha hn' hc) hn' (ints bh)) (hhn : hn' = bh.length) :
    Calls Tryz.prog 17 #[.int .i64 2, .int .i64 room, .slice a n c, .slice ba bn bc, .slice ha hn' hc] w fun e w' => ∃ a1 c1 a2 c2, e = .returned (.tuple #[.slice a1 n c1, .slice a2 n c2]) ∧ Kept w w' ∧ Lay w' (.slice a1 n c1) n (flatS (madeM tellH nopH l b bh n)) ∧ Lay w' (.slice a2 n c2) n (ints (SU.casts (List.range n))) := by
  have HL := Lib.hid h
  have HN := Lib.hid hn
  have HB := Lib.hid hb
  have HH := Lib.hid hh
  have HBN := Lib.hid hbn
  have HHN := Lib.hid hhn
  have PK := Lib.hid (fun x W => Po.pick_any x 3 (by decide) (by decide) W)
  have PK60 := Lib.hid (fun x W => Po.pick_any x 60 (by decide) (by decide) W)
  clear h hn hb hh hbn hhn
  go_enter Tryz.func17, Tryz.ntmps17
  go_wp2_with fail
  go_loopw [12, 13, 14, 15, 16, 17, 18, 19] (fun vc vo vq vi i _ _ _ wr => DhR w l b bh n vc vo vq vi i wr) (fun _ _ _ _ i _ _ _ _ => n - (intOf i).toNat)
  case atStart => exact ⟨0, Nat.zero_le _, rfl, ⟨by (go_light; repeat (first | (with_reducible exact Kept.refl _) | (with_reducible assumption) | (with_reducible refine Kept.alloc ?_ _ _) | (with_reducible refine Kept.drew ?_) | (with_reducible refine Kept.drewN ?_ _) | ((with_reducible refine Kept.setCell ?_ ?_ _); rotate_left; focus (first | (simp; done) | (simp; omega))) | refine Kept.trans ?_ (by assumption))), ⟨none, 0, rfl, World.ownsRow_nil _ _ _ _⟩, ⟨none, 0, rfl, World.ownsRow_nil _ _ _ _⟩, ⟨none, 0, rfl, World.ownsRow_nil _ _ _ _⟩, rfl⟩⟩
  case round =>
    obtain ⟨k, hkn, rfl, hrl⟩ := hrel
    obtain ⟨ca, cc, rfl, hcalls⟩ := hrl.calls
    obtain ⟨oa, oc, rfl, horder⟩ := hrl.order
    obtain ⟨qa, qc, rfl, hqueue⟩ := hrl.items
    obtain rfl := hrl.queue
    have KE := Lib.hid hrl.kept
    have HCA := Lib.hid hcalls
    have HOR := Lib.hid horder
    have HQU := Lib.hid hqueue
    clear hrl hcalls horder hqueue
    by_cases hlt : k < n
    · obtain ⟨o, ho⟩ : ∃ o, l[k]? = some o := ⟨_, List.getElem?_eq_getElem (by rw [← HN.out]; omega)⟩
      have HO := Lib.hid ho
      obtain ⟨g, p, c0, eS, _, _, hop⟩ := (show Lay wr (.slice a l.length c) l.length (Fi.flatO l) by rw [← HN.out]; exact HL.out.kept KE.out).op_Fi (by rw [← HN.out]; omega)
      cases eS
      obtain ⟨o0, o1, o2, o3⟩ := hop k o ho
      clear hop ho
      obtain ⟨r3, hr3⟩ : ∃ r3, o.k % 3 = r3 := ⟨_, rfl⟩
      have r3a : 0 ≤ r3 := by have := Int.emod_nonneg o.k (show (3 : Int) ≠ 0 by decide); omega
      have r3b : r3 < 3 := by have := Int.emod_lt_of_pos o.k (show (0 : Int) < 3 by decide); omega
      have PK3 := Lib.hid (PK.out o.k)
      rw [hr3] at PK3
      go_wp2_with fail; refine (PK3.out _).mono ?_; rintro e w1 ⟨rfl, rfl⟩
      go_upto_region 15 with fail
      obtain ⟨V, hV⟩ : ∃ V, ((wr.alloc (.cells #[.int .i64 (4 + r3), .int .i64 o.a, .int .i64 o.b, .int .u64 o.u] 24)).alloc (.cells #[.int .i64 0, .int .i64 0, .int .u64 0] 27)) = V := ⟨_, rfl⟩
      have KV := Lib.hid (show Kept wr V by rw [← hV]; exact ((Kept.refl wr).alloc _ _).alloc _ _)
      have OB := Lib.hid (show Fi.OpBox V wr.heap.size ⟨4 + r3, o.a, o.b, o.u⟩ by rw [← hV]; exact (Fi.OpBox.new wr ⟨4 + r3, o.a, o.b, o.u⟩ _ _ rfl).kept ((Kept.refl _).alloc _ _))
      have AB := Lib.hid (show Fi.AnBox V (wr.heap.size + 1) ⟨0, 0, 0⟩ by rw [← hV]; exact Fi.AnBox.new _ ⟨0, 0, 0⟩ _ _ (by simp))
      rw [hV]
      clear hV
      have NO := Lib.hid (show nopH o = ⟨4 + r3, o.a, o.b, o.u⟩ by unfold nopH; rw [hr3])
      have NO2 := Lib.hid (show hop (nopH o) = ⟨4 + r3, o.a, o.b, o.u⟩ by rw [NO.out]; rfl)
      obtain ⟨c1, c2⟩ := hAt_ok (l := l) (by have := HN.out; omega) k
      obtain ⟨y, p2, e1, e2, e3, e4⟩ := set_next c1 (by omega) (nopH_k o)
      have HS := Lib.hid (show hAt l (k + 1) = p2 by rw [hAt_succ HO.out]; unfold stepH; rw [e1, Option.getD_some, e2, Option.getD_some])
      obtain ⟨x, hxy⟩ : ∃ x : Fi.Ann, x = ⟨y.e, y.n, y.v⟩ := ⟨_, rfl⟩
      have AN := Lib.hid (He.answer_any (w := V) ⟨4 + r3, o.a, o.b, o.u⟩ ((own_lies HQU.out).lay.kept KV.out) rfl)
      rw [← NO2.out, e1, NO2.out] at AN
      have NX := Lib.hid (show He.nextS (hAt l k) ⟨4 + r3, o.a, o.b, o.u⟩ ⟨x.e, x.n, x.v⟩ = some (hAt l (k + 1)) by rw [HS.out, hxy, ← NO2.out]; exact e2)
      have HX := Lib.hid (show tellH ((l.take k).map nopH) (nopH o) = x by unfold tellH; rw [hAt_map, e1, hxy]; rfl)
      have XE := Lib.hid (show y.e = x.e ∧ y.n = x.n ∧ y.v = x.v by rw [hxy]; exact ⟨rfl, rfl, rfl⟩)
      have AN := Lib.hid (AN.out.mono (R' := fun e w' => e = .returned (.tuple #[.agg #[.int .i64 x.e, .int .i64 x.n, .int .u64 x.v], .bool true]) ∧ Kept V w') (fun e w' h => by
        have h := h
        unfold He.RetA at h
        rw [← XE.out.1, ← XE.out.2.1, ← XE.out.2.2]
        exact h))
      clear hr3 hxy e1 e2 e3 e4 c1 c2
      obtain ⟨ob0, ob1, ob2, ob3⟩ := OB.out
      dsimp only at ob0 ob1 ob2 ob3
      go_wp2_with fail; refine AN.out.mono ?_; rintro e w1 ⟨rfl, k1⟩
      have K1 := Lib.hid (KV.out.trans k1)
      have A1 := Lib.hid (AB.out.kept k1)
      have B1 := Lib.hid (OB.out.kept k1)
      clear k1 ob0 ob1 ob2 ob3
      obtain ⟨ob0, ob1, ob2, ob3⟩ := B1.out
      obtain ⟨ab0, ab1, ab2, abs⟩ := A1.out
      dsimp only at ob0 ob1 ob2 ob3 ab0 ab1 ab2
      go_upto_region 16 with fail
      obtain ⟨V2, hV⟩ : ∃ V2, ((w1.setCell ⟨wr.heap.size + 1, 0, none⟩ (.int .i64 x.e)).setCell ⟨wr.heap.size + 1, 1, none⟩ (.int .i64 x.n)).setCell ⟨wr.heap.size + 1, 2, none⟩ (.int .u64 x.v) = V2 := ⟨_, rfl⟩
      have b12 : But (fun j => j = wr.heap.size + 1) w1 V2 := by rw [← hV]; exact (((But.refl _ _).here _ _).here _ _).here _ _
      have KV2 := Lib.hid (show Kept wr V2 from K1.out.put1 b12 (by omega))
      have A2 := Lib.hid (show Fi.AnBox V2 (wr.heap.size + 1) x by
        rw [← hV]
        exact ⟨by simp [cell_set, ab0], by simp [cell_set, ab1], by simp [cell_set, ab2], fun i => by simp [abs]⟩)
      have B2 := Lib.hid (B1.out.but b12 (by omega))
      rw [hV]
      clear hV b12 ob0 ob1 ob2 ob3 ab0 ab1 ab2 abs
      have NA := Lib.hid (He.next_any (w := V2) ⟨4 + r3, o.a, o.b, o.u⟩ ⟨x.e, x.n, x.v⟩ ((own_lies HQU.out).lay.kept KV2.out) rfl)
      rw [NX.out] at NA
      obtain ⟨ob0, ob1, ob2, ob3⟩ := B2.out
      obtain ⟨ab0, ab1, ab2, abs⟩ := A2.out
      dsimp only at ob0 ob1 ob2 ob3
      go_wp2_with fail; refine NA.out.mono ?_; rintro e w3 ⟨qa3, qc3, rfl, k3, own3⟩
      have K3 := Lib.hid (KV2.out.trans k3)
      have A3 := Lib.hid (A2.out.kept k3)
      have B3 := Lib.hid (B2.out.kept k3)
      have Q3 := Lib.hid (show w3.ownsRow w.heap.size 90 2 (.slice qa3 (hAt l (k + 1)).length qc3) (hAt l (k + 1)).length (He.flatI (hAt l (k + 1))) from own_mono own3 (by have h1 := KE.out.size; have h2 := KV2.out.size; omega))
      clear k3 own3 ob0 ob1 ob2 ob3 ab0 ab1 ab2 abs
      obtain ⟨ob0, ob1, ob2, ob3⟩ := B3.out
      obtain ⟨ab0, ab1, ab2, abs⟩ := A3.out
      dsimp only at ob0 ob1 ob2 ob3
      simp only [Option.getD_some, Option.isSome_some]
      go_upto_region 18 with fail
      clear ob0 ob1 ob2 ob3 ab0 ab1 ab2 abs
      have L3 := Lib.hid (KE.out.trans K3.out)
      obtain ⟨W4, hW4⟩ : ∃ W4, w3.alloc (.cells #[.int .i64 (k : Int), .int .i64 (100 + 10 * (k : Int)), .int .i64 (105 + 10 * (k : Int)), .int .i64 (4 + r3), .int .i64 o.a, .int .i64 o.b, .int .u64 o.u, .int .i64 x.e, .int .i64 x.n, .int .u64 x.v] 29) = W4 := ⟨_, rfl⟩
      have D4 := Lib.hid (show DnS w3 W4 ⟨(k : Int), 100 + 10 * (k : Int), 105 + 10 * (k : Int), 4 + r3, o.a, o.b, o.u, x.e, x.n, x.v⟩ by rw [← hW4]; exact DnS.new w3 ⟨(k : Int), 100 + 10 * (k : Int), 105 + 10 * (k : Int), 4 + r3, o.a, o.b, o.u, x.e, x.n, x.v⟩ _)
      rw [hW4]
      clear hW4
      have db := drawn_range b k
      have dh := drawn_range bh k
      have k7 : k < 7 := by omega
      go_upto_if 83 with fail
      go_cut [84] (DnB w3 ⟨(k : Int), 100 + 10 * (k : Int) - drawn b k, 105 + 10 * (k : Int), 4 + r3, o.a, o.b, o.u, x.e, x.n, x.v⟩)
      case first =>
        by_cases hkb : k < bn
        · obtain ⟨y, hy⟩ : ∃ y, b[k]? = some y := ⟨_, List.getElem?_eq_getElem (by rw [← HBN.out]; omega)⟩
          obtain ⟨gb, pb, e, cb⟩ := num_one (HB.out.kept (L3.out.trans D4.out.kept)) HBN.out k y hy
          cases e
          have DY := Lib.hid (drawn_in hy)
          obtain ⟨z, hz⟩ : ∃ z, y % 60 = z := ⟨_, rfl⟩
          have PY := Lib.hid (PK60.out y)
          rw [hz] at PY DY
          have z0 : 0 ≤ z := by omega
          have z60 : z < 60 := by omega
          clear hy hz
          have s1 := D4.out.box.c1
          have sf := D4.out.soft
          dsimp only at s1
          have s1l := lt_of_cell s1
          have cbl := lt_of_cell cb
          go_upto_region 19 with fail
          go_region_law (first | (go_simp; go_at_call 16; refine (PY.out _).mono ?_; rintro e v ⟨rfl, rfl⟩) | fail)
          all_goals go_wp2
          all_goals go_meet
          all_goals (show DnS _ _ _; rw [DY.out])
          all_goals (rw [wrap_in (x := 100 + 10 * (k : Int) - z) (by omega) (by omega)])
          all_goals (first | exact D4.out.from_set _ | (exact (D4.out.from_set _).drew))
        · have DY := Lib.hid (drawn_out (b := b) (i := k) (by have := HBN.out; omega))
          go_wp2
          go_meet
          show DnS _ _ _
          rw [DY.out, Int.sub_zero]
          exact D4.out
      case rest =>
        have D5 := Lib.hid (show DnS w3 _ _ from hcut)
        clear hcut
        go_upto_if 96 with fail
        go_cut [97] (DnB w3 ⟨(k : Int), 100 + 10 * (k : Int) - drawn b k, 105 + 10 * (k : Int) + drawn bh k, 4 + r3, o.a, o.b, o.u, x.e, x.n, x.v⟩)
        case first =>
          by_cases hkb : k < hn'
          · obtain ⟨y, hy⟩ : ∃ y, bh[k]? = some y := ⟨_, List.getElem?_eq_getElem (by rw [← HHN.out]; omega)⟩
            obtain ⟨gb, pb, e, cb⟩ := num_one (HH.out.kept (L3.out.trans D5.out.kept)) HHN.out k y hy
            cases e
            have DY := Lib.hid (drawn_in hy)
            obtain ⟨z, hz⟩ : ∃ z, y % 60 = z := ⟨_, rfl⟩
            have PY := Lib.hid (PK60.out y)
            rw [hz] at PY DY
            have z0 : 0 ≤ z := by omega
            have z60 : z < 60 := by omega
            clear hy hz
            have s2 := D5.out.box.c2
            have sf := D5.out.soft
            dsimp only at s2
            have s2l := lt_of_cell s2
            have cbl := lt_of_cell cb
            go_upto_region 21 with fail
            go_region_law (first | (go_simp; go_at_call 16; refine (PY.out _).mono ?_; rintro e v ⟨rfl, rfl⟩) | fail)
            all_goals go_wp2
            all_goals go_meet
            all_goals (show DnS _ _ _; rw [DY.out])
            all_goals (rw [wrap_in (x := 105 + 10 * (k : Int) + z) (by omega) (by omega)])
            all_goals (first | exact D5.out.to_set _ | (exact (D5.out.to_set _).drew))
          · have DY := Lib.hid (drawn_out (b := bh) (i := k) (by have := HHN.out; omega))
            go_wp2
            go_meet
            show DnS _ _ _
            rw [DY.out, Int.add_zero]
            exact D5.out
        case rest =>
          have D6 := Lib.hid (show DnS w3 _ _ from hcut)
          clear hcut
          rename_i wc _ _ _
          have hz4 : w.heap.size ≤ w3.heap.size := by have h1 := KE.out.size; have h2 := K3.out.size; omega
          have K6 := Lib.hid (show Kept w wc from L3.out.trans D6.out.kept)
          have KR := Lib.hid (show Kept wr wc from K3.out.trans D6.out.kept)
          have CA6 := Lib.hid (own_kept HCA.out KR.out)
          have OR6 := Lib.hid (own_kept HOR.out KR.out)
          have QU6 := Lib.hid (own_kept Q3.out D6.out.kept)
          obtain ⟨a7, c7, w7, r7, own7, but7⟩ := app_span CA6.out K6.out.size ⟨(k : Int), 100 + 10 * (k : Int) - drawn b k, 105 + 10 * (k : Int) + drawn bh k, 4 + r3, o.a, o.b, o.u, x.e, x.n, x.v⟩ (by omega)
          dsimp only at r7
          have OR7 := Lib.hid (own_but OR6.out but7 (rows_apart (by decide) OR6.out CA6.out))
          have QU7 := Lib.hid (own_but QU6.out but7 (rows_apart (by decide) QU6.out CA6.out))
          have K7 := Lib.hid (show Kept w w7 from K6.out.put but7 fun j hj => (CA6.out.lt j hj).1)
          obtain ⟨a8, c8, w8, r8, own8, but8⟩ := app_int OR7.out K7.out.size (k : Int) (by omega)
          have CA8 := Lib.hid (own_but own7 but8 (rows_apart (by decide) own7 OR7.out))
          have QU8 := Lib.hid (own_but QU7.out but8 (rows_apart (by decide) QU7.out OR7.out))
          have K8 := Lib.hid (show Kept w w8 from K7.out.put but8 fun j hj => (OR7.out.lt j hj).1)
          have OR8 := Lib.hid own8
          have MS := Lib.hid (show flatS (madeM tellH nopH l b bh k ++ [⟨(k : Int), 100 + 10 * (k : Int) - drawn b k, 105 + 10 * (k : Int) + drawn bh k, 4 + r3, o.a, o.b, o.u, x.e, x.n, x.v⟩]) = flatS (madeM tellH nopH l b bh (k + 1)) by
            rw [made_succ _ _ _ _ _ _ _ HO.out]
            unfold spM
            have hx := HX.out
            rw [hx, NO.out])
          clear own7 but7 own8 but8
          obtain ⟨s0, s1, s2, s3, s4, s5, s6, s7, s8, s9⟩ := D6.out.box
          dsimp only at s0 s1 s2 s3 s4 s5 s6 s7 s8 s9
          have dxa : 0 ≤ drawn b k ∧ drawn b k < 60 := db
          go_wp2
          go_roundw
          case rel =>
            refine ⟨k + 1, by omega, by go_num, ⟨K8.out, ⟨a7, c7, rfl, ?_⟩, ⟨a8, c8, rfl, ?_⟩, ⟨qa3, qc3, rfl, QU8.out⟩, rfl⟩⟩
            · rw [← MS.out]
              exact CA8.out
            · have e : SU.casts (List.range (k + 1)) = SU.casts (List.range k) ++ [(k : Int)] := by rw [List.range_succ]; simp [SU.casts]
              rw [e]
              exact OR8.out
          case measure => simp [intOf]; omega
    · obtain rfl : k = n := by omega
      have L1 := Lib.hid (own_lies HCA.out).lay
      have L2 := Lib.hid (own_lies HOR.out).lay
      go_wp2
      go_ret2
      exact ⟨ca, cc, oa, oc, rfl, KE.out, L1.out, L2.out⟩
end Go.Proofs.YtbfmmndpboagdaaGreatDoor

set_option maxRecDepth 20000
namespace Go.Proofs.YtbfmmndpboagdaaGreatDoor
open Go.RowKit Go.Shelf

theorem said_fits {σ : Type} [DecidableEq σ] {next : σ → Sp → List σ} {l : List Sp} {S : List σ} {o : List Nat} (h : fitsM next l S o = true) : Said l o ∧ (runM next l 0 S o).2 ≠ [] ∧ full l (runM next l 0 S o).1 = true := by
  unfold fitsM at h
  rw [Bool.and_eq_true] at h
  obtain ⟨h0, h2⟩ := h
  have h1 : (runM next l 0 S o).2 ≠ [] := fun e => by rw [e] at h0; simp at h0
  obtain ⟨g1, g2, g3⟩ := run_rdy next l h1
  refine ⟨⟨g1, fun i hi => (g2 i hi).2, fun i s hs hp => ?_, fun p i hp j s c hs hc hj ha => ?_⟩, h1, h2⟩
  · have := (allAt_iff.1 h2) i s hs
    rw [hp, run_done] at this
    simpa using this
  · obtain ⟨c', hc', H⟩ := g3 p i hp
    rw [hc] at hc'
    obtain rfl := Option.some.inj hc'
    rcases H j s hs hj ha with h | h
    · simp at h
    · exact h
theorem fM_said {mo r : Int} {l : List Sp} {o : List Nat} (h : fM mo r l o = true) : Said l o := by
  unfold fM at h
  split at h
  · exact said_alike (said_fits h).1
  · split at h
    · exact (said_fits h).1
    · exact (said_fits h).1
theorem fM_some {mo r : Int} {l : List Sp} {o : List Nat} (h : fM mo r l o = true) (h10 : l.length ≤ 10) : dM mo r l ≠ none := by
  unfold fM at h
  unfold dM
  split at h
  · rename_i e
    rw [if_pos e]
    obtain ⟨_, h1, h2⟩ := said_fits h
    exact dfs_complete _ _ (Nat.le_trans (left_le _) (by rw [alike_len]; exact h10)) h1 h2
  · rename_i e
    rw [if_neg e]
    split at h
    · rename_i e2
      rw [if_pos e2]
      obtain ⟨_, h1, h2⟩ := said_fits h
      exact dfs_complete _ _ (Nat.le_trans (left_le _) h10) h1 h2
    · rename_i e2
      rw [if_neg e2]
      obtain ⟨_, h1, h2⟩ := said_fits h
      exact dfs_complete _ _ (Nat.le_trans (left_le _) h10) h1 h2
section
variable {tell : List Fi.Opn → Fi.Opn → Fi.Ann} {nop : Fi.Opn → Fi.Opn} {l : List Fi.Opn} {b h : List Int}
theorem made_take : ∀ {n k : Nat}, k ≤ n → n ≤ l.length → (madeM tell nop l b h n).take k = madeM tell nop l b h k := by
  intro n
  induction n with
  | zero =>
    intro k hk _
    have e : k = 0 := by omega
    subst e
    rfl
  | succ n ih =>
    intro k hk hn
    by_cases e : k = n + 1
    · subst e
      exact List.take_of_length_le (by rw [made_len _ _ _ _ _ _ hn]; exact Nat.le_refl _)
    · rw [made_succ _ _ _ _ _ _ l[n] (List.getElem?_eq_getElem (by omega)), List.take_append_of_le_length (by rw [made_len _ _ _ _ _ _ (by omega)]; omega)]
      exact ih (by omega) (by omega)
theorem made_ops (hn : ∀ o, nop o = ⟨(nop o).k, o.a, o.b, o.u⟩) : ∀ {k : Nat}, k ≤ l.length → (madeM tell nop l b h k).map (fun s => (⟨s.k, s.x, s.y, s.u⟩ : Fi.Opn)) = (l.take k).map nop := by
  intro k
  induction k with
  | zero => intro _; rfl
  | succ k ih =>
    intro hk
    rw [made_succ _ _ _ _ _ _ l[k] (List.getElem?_eq_getElem (by omega)), List.map_append, ih (by omega), List.take_add_one, List.getElem?_eq_getElem (by omega), Option.toList_some, List.map_append]
    congr 1
    simp only [List.map_cons, List.map_nil]
    unfold spM
    rw [← hn]
theorem made_one {n i : Nat} (hn : n ≤ l.length) {c : Sp} (hc : (madeM tell nop l b h n)[i]? = some c) : i < n ∧ ∃ o, l[i]? = some o ∧ c = spM tell nop l b h i o := by
  have hi := (List.getElem?_eq_some_iff.1 hc).1
  rw [made_len _ _ _ _ _ _ hn] at hi
  refine ⟨hi, l[i], List.getElem?_eq_getElem (by omega), ?_⟩
  rw [made_get _ _ _ _ _ n hn i l[i] hi (List.getElem?_eq_getElem (by omega))] at hc
  exact (Option.some.inj hc).symm
theorem made_ahd {n : Nat} (hn : n ≤ l.length) (i j : Nat) (s c : Sp) (hs : (madeM tell nop l b h n)[j]? = some s) (hc : (madeM tell nop l b h n)[i]? = some c) (_ : j ≠ i) (ha : ahd s c = true) : j < i := by
  obtain ⟨_, o1, _, rfl⟩ := made_one hn hs
  obtain ⟨_, o2, _, rfl⟩ := made_one hn hc
  unfold ahd spM at ha
  simp only [Bool.and_eq_true, decide_eq_true_eq] at ha
  have h1 := drawn_range h j
  have h2 := drawn_range b i
  omega
theorem made_pend {n : Nat} (hn : n ≤ l.length) {c : Sp} (hc : c ∈ madeM tell nop l b h n) : pend c = false ∧ ∃ o, c.k = (nop o).k := by
  obtain ⟨i, hi⟩ := List.mem_iff_getElem?.1 hc
  obtain ⟨_, o, _, rfl⟩ := made_one hn hi
  refine ⟨?_, o, rfl⟩
  unfold pend spM
  have h1 := drawn_range h i
  simp only [decide_eq_false_iff_not]
  omega
theorem made_ids {n : Nat} (hn : n ≤ l.length) : idsM (madeM tell nop l b h n) = SU.casts (List.range n) := by
  apply List.ext_getElem?
  intro i
  unfold idsM SU.casts
  rw [List.getElem?_map, List.getElem?_map]
  by_cases hi : i < n
  · rw [made_get _ _ _ _ _ n hn i l[i] hi (List.getElem?_eq_getElem (by omega)), List.getElem?_range hi]
    rfl
  · rw [List.getElem?_eq_none (by rw [made_len _ _ _ _ _ _ hn]; omega), List.getElem?_eq_none (by rw [List.length_range]; omega)]
    rfl
theorem made_wf {n : Nat} (hn : n ≤ l.length) (hw : ∀ o ∈ l, WfO o) : WfA (madeM tell nop l b h n) := by
  have H : ∀ c ∈ madeM tell nop l b h n, WfS c := fun c hc => by
    obtain ⟨i, hi⟩ := List.mem_iff_getElem?.1 hc
    obtain ⟨_, o, ho, rfl⟩ := made_one hn hi
    exact hw o (List.mem_of_getElem? ho)
  exact wfA_of H
theorem made_chk {n : Nat} (hn : n ≤ l.length) (h7 : n ≤ 7) {mo r : Int} (hmo : mo = 1 ∨ mo = 2) (hr : 1 ≤ r ∧ r ≤ 64) : chkL mo r (madeM tell nop l b h n) = 0 := by
  unfold chkL
  rw [if_neg (by omega), if_neg (by omega), if_neg (by rw [made_len _ _ _ _ _ _ hn]; omega), made_ids hn, if_neg]
  have : twiceM (SH.casts (List.range n)) = false := once_casts List.nodup_range
  unfold SU.casts
  unfold SH.casts at this
  rw [this]
  decide
theorem made_idsO {n : Nat} (hn : n ≤ l.length) : idsO (madeM tell nop l b h n) (List.range n) = SU.casts (List.range n) := by
  unfold idsO SU.casts
  apply List.map_congr_left
  intro i hi
  have hi := List.mem_range.1 hi
  rw [made_get _ _ _ _ _ n hn i l[i] hi (List.getElem?_eq_getElem (by omega))]
  rfl
end
theorem made_fits_U {room : Nat} (hr : 1 ≤ room ∧ room ≤ 64) {l : List Fi.Opn} (b h : List Int) {n : Nat} (hn : n = l.length) : fM 1 room (madeM (tellU room) nopU l b h n) (List.range n) = true := by
  have hln := made_len (tellU room) nopU l b h n (by omega)
  have := queue_fits hr (l := madeM (tellU room) nopU l b h n) (made_ahd (by omega)) (fun c hc => by
    obtain ⟨h1, o, h2⟩ := made_pend (by omega) hc
    exact ⟨by rw [h2]; exact nopU_k o, h1⟩) fun i c hc => by
      obtain ⟨hi, o, ho, rfl⟩ := made_one (by omega) hc
      rw [made_take (by omega) (by omega)]
      rw [show SU.opO = (fun s : Sp => (⟨s.k, s.x, s.y, s.u⟩ : Fi.Opn)) from rfl, made_ops (fun o => rfl) (by omega)]
      rfl
  rw [hln] at this
  unfold fM
  rw [if_pos rfl]
  exact this
theorem made_fits_H (r : Int) {l : List Fi.Opn} (b h : List Int) {n : Nat} (hn : n = l.length) (h7 : n ≤ 7) : fM 2 r (madeM tellH nopH l b h n) (List.range n) = true := by
  have hln := made_len tellH nopH l b h n (by omega)
  have := set_fits r (l := madeM tellH nopH l b h n) (by omega) (made_ahd (by omega)) (fun c hc => by
    obtain ⟨h1, o, h2⟩ := made_pend (by omega) hc
    exact ⟨by rw [h2]; exact nopH_k o, h1⟩) fun i c hc => by
      obtain ⟨hi, o, ho, rfl⟩ := made_one (by omega) hc
      rw [made_take (by omega) (by omega)]
      have e : (madeM tellH nopH l b h i).map SH.opO = ((l.take i).map nopH).map hop := by
        rw [← made_ops (tell := tellH) (b := b) (h := h) (fun o => rfl) (by omega), List.map_map]
        rfl
      rw [e, hAt_map]
      have e2 : SH.opO (spM tellH nopH l b h i o) = hop (nopH o) := rfl
      rw [e2]
      obtain ⟨c1, c2⟩ := hAt_ok (l := l) (by omega) i
      obtain ⟨y, p2, e1, _⟩ := set_next c1 (by omega) (nopH_k o)
      rw [e1]
      have e3 : tellH ((l.take i).map nopH) (nopH o) = ⟨y.e, y.n, y.v⟩ := by unfold tellH; rw [hAt_map, e1]; rfl
      unfold spM
      rw [e3]
  rw [hln] at this
  unfold fM
  rw [if_neg (by decide), if_pos rfl]
  exact this
set_option maxRecDepth 100000 in
set_option maxHeartbeats 1000000 in
theorem made_top {w : World} {a : Option Addr} {n c : Nat} {ba : Option Addr} {bn bc : Nat} {ha : Option Addr} {hn' hc : Nat} (set : Bool) (room : Int) (h : ∃ l : List Fi.Opn, l.length = n ∧ Lay w (.slice a n c) n (Fi.flatO l) ∧ ∀ o ∈ l, WfO o)
    (hb : ∃ b : List Int, b.length = bn ∧ Lay w (.slice ba bn bc) bn (ints b)) (hh : ∃ b : List Int, b.length = hn' ∧ Lay w (.slice ha hn' hc) hn' (ints b)) (hT : Po.Tab w) :
    Calls Tryz.prog 4 #[.bool set, .int .i64 room, .slice a n c, .slice ba bn bc, .slice ha hn' hc] w fun e w' => e = .returned (.bool true) ∧ Kept w w' := by
  obtain ⟨l, hl, HL0, hW⟩ := h
  obtain ⟨b, hbl, HB0⟩ := hb
  obtain ⟨bh, hhl, HH0⟩ := hh
  have KN := Lib.hid (fun W (k : Kept w W) => known_any W (hT.kept k))
  have PK := Lib.hid (fun W => Po.pick_any room 4 (by decide) (by decide) W)
  obtain ⟨r, hr⟩ : ∃ r, room % 4 = r := ⟨_, rfl⟩
  have r0 : 0 ≤ r := by omega
  have r4 : r < 4 := by omega
  rw [hr] at PK
  obtain ⟨R, hR⟩ : ∃ R : Nat, (R : Int) = 1 + r := ⟨(1 + r).toNat, by omega⟩
  have HR := Lib.hid hR
  have HT := Lib.hid hT
  by_cases h7 : 7 < n
  · have h7' : (7 : Int) < (n : Int) := by omega
    clear hl HL0 hW hbl HB0 hhl HH0 hr hR
    go_enter Tryz.func4, Tryz.ntmps4
    go_wp2_with fail; refine (KN.out _ (Kept.refl _)).mono ?_; rintro e w1 ⟨rfl, k1⟩
    go_wp2
    go_ret
    exact ⟨rfl, k1⟩
  · have h7' : ¬ (7 : Int) < (n : Int) := by omega
    have MU := Lib.hid (fun W (k : Kept w W) => made_queue (HL0.kept k) hl.symm (by omega) R (by omega) (HB0.kept k) hbl.symm (HH0.kept k) hhl.symm)
    have MH := Lib.hid (fun W (k : Kept w W) => made_set (HL0.kept k) hl.symm (by omega) (1 + r) (HB0.kept k) hbl.symm (HH0.kept k) hhl.symm)
    have FU := Lib.hid (made_fits_U (room := R) (by omega) (l := l) b bh hl.symm)
    have FH := Lib.hid (made_fits_H (1 + r) (l := l) b bh hl.symm (by omega))
    rw [hR] at MU FU
    cases set
    · obtain ⟨L, hL⟩ : ∃ L, madeM (tellU R) nopU l b bh n = L := ⟨_, rfl⟩
      have LL := Lib.hid (show n = L.length by rw [← hL]; exact (made_len _ _ _ _ _ _ (by omega)).symm)
      have WF := Lib.hid (show WfA L by rw [← hL]; exact made_wf (by omega) hW)
      have CK := Lib.hid (show chkL 1 (1 + r) L = 0 by rw [← hL]; exact made_chk (by omega) (by omega) (.inl rfl) (by omega))
      have HIO := Lib.hid (show idsO L (List.range n) = SU.casts (List.range n) by rw [← hL]; exact made_idsO (by omega))
      rw [hL] at MU FU
      have SD := Lib.hid (fM_said FU.out)
      have DN := Lib.hid (fM_some FU.out (by have := LL.out; omega))
      clear hl HL0 hW hbl HB0 hhl HH0 hr hR hL MH FH
      go_enter Tryz.func4, Tryz.ntmps4
      go_wp2_with fail; refine (KN.out _ (Kept.refl _)).mono ?_; rintro e w1 ⟨rfl, k1⟩
      have K1 := Lib.hid k1
      clear k1
      go_wp2_with fail; refine (PK.out _).mono ?_; rintro e w2 ⟨rfl, rfl⟩
      go_wp2_with fail; refine (MU.out _ K1.out).mono ?_; rintro e w3 ⟨a1, c1, a2, c2, rfl, k3, l1, l2⟩
      have K3 := Lib.hid (K1.out.trans k3)
      have L1 := Lib.hid l1
      have L2 := Lib.hid (show Lay w3 (.slice a2 (List.range n).length c2) (List.range n).length (ints (idsO L (List.range n))) by rw [HIO.out, List.length_range]; exact l2)
      clear k3 l1 l2
      go_wp2_with fail; refine (order_all L1.out LL.out WF.out (HT.out.kept K3.out) 1 (1 + r)).mono ?_; rintro e w4 ⟨k4, h4⟩
      have K4 := Lib.hid k4
      clear k4
      obtain ⟨o, oa, oc, hd, rfl, own⟩ : ∃ o a c, dM 1 (1 + r) L = some o ∧ e = .returned (.tuple #[.slice a o.length c, .bool true, .int .i64 0]) ∧ OwnI w4 w3.heap.size (.slice a o.length c) (idsO L o) := by
        rcases h4 with ⟨h4, _⟩ | ⟨_, ⟨h4, _⟩ | h4⟩
        · rw [CK.out] at h4; cases h4
        · exact absurd h4 DN.out
        · exact h4
      have LO := Lib.hid (show Lay w4 (.slice oa o.length oc) o.length (ints (idsO L o)) by have := (own_lies own).lay; simpa [idsO] using this)
      have SO := Lib.hid (dM_said hd)
      clear own hd h4 DN
      go_wp2_with fail; refine (told_fits (L1.out.kept K4.out) LL.out WF.out (HT.out.kept (K3.out.trans K4.out)) 1 (1 + r) CK.out SO.out.1 SO.out.2 LO.out).mono ?_; rintro e w5 ⟨rfl, k5⟩
      have K5 := Lib.hid (K4.out.trans k5)
      clear k5
      have TF := Lib.hid (told_fits (L1.out.kept K5.out) LL.out WF.out (HT.out.kept (K3.out.trans K5.out)) 1 (1 + r) CK.out SD.out FU.out (L2.out.kept K5.out))
      rw [List.length_range] at TF
      go_wp2_with fail; refine TF.out.mono ?_; rintro e w6 ⟨rfl, k6⟩
      have K6 := Lib.hid (K3.out.trans (K5.out.trans k6))
      clear k6
      go_wp2
      go_ret
      exact ⟨rfl, K6.out⟩
    · obtain ⟨L, hL⟩ : ∃ L, madeM tellH nopH l b bh n = L := ⟨_, rfl⟩
      have LL := Lib.hid (show n = L.length by rw [← hL]; exact (made_len _ _ _ _ _ _ (by omega)).symm)
      have WF := Lib.hid (show WfA L by rw [← hL]; exact made_wf (by omega) hW)
      have CK := Lib.hid (show chkL 2 (1 + r) L = 0 by rw [← hL]; exact made_chk (by omega) (by omega) (.inr rfl) (by omega))
      have HIO := Lib.hid (show idsO L (List.range n) = SU.casts (List.range n) by rw [← hL]; exact made_idsO (by omega))
      rw [hL] at MH FH
      have SD := Lib.hid (fM_said FH.out)
      have DN := Lib.hid (fM_some FH.out (by have := LL.out; omega))
      clear hl HL0 hW hbl HB0 hhl HH0 hr hR hL MU FU
      go_enter Tryz.func4, Tryz.ntmps4
      go_wp2_with fail; refine (KN.out _ (Kept.refl _)).mono ?_; rintro e w1 ⟨rfl, k1⟩
      have K1 := Lib.hid k1
      clear k1
      go_wp2_with fail; refine (PK.out _).mono ?_; rintro e w2 ⟨rfl, rfl⟩
      go_wp2_with fail; refine (MH.out _ K1.out).mono ?_; rintro e w3 ⟨a1, c1, a2, c2, rfl, k3, l1, l2⟩
      have K3 := Lib.hid (K1.out.trans k3)
      have L1 := Lib.hid l1
      have L2 := Lib.hid (show Lay w3 (.slice a2 (List.range n).length c2) (List.range n).length (ints (idsO L (List.range n))) by rw [HIO.out, List.length_range]; exact l2)
      clear k3 l1 l2
      go_wp2_with fail; refine (order_all L1.out LL.out WF.out (HT.out.kept K3.out) 2 (1 + r)).mono ?_; rintro e w4 ⟨k4, h4⟩
      have K4 := Lib.hid k4
      clear k4
      obtain ⟨o, oa, oc, hd, rfl, own⟩ : ∃ o a c, dM 2 (1 + r) L = some o ∧ e = .returned (.tuple #[.slice a o.length c, .bool true, .int .i64 0]) ∧ OwnI w4 w3.heap.size (.slice a o.length c) (idsO L o) := by
        rcases h4 with ⟨h4, _⟩ | ⟨_, ⟨h4, _⟩ | h4⟩
        · rw [CK.out] at h4; cases h4
        · exact absurd h4 DN.out
        · exact h4
      have LO := Lib.hid (show Lay w4 (.slice oa o.length oc) o.length (ints (idsO L o)) by have := (own_lies own).lay; simpa [idsO] using this)
      have SO := Lib.hid (dM_said hd)
      clear own hd h4 DN
      go_wp2_with fail; refine (told_fits (L1.out.kept K4.out) LL.out WF.out (HT.out.kept (K3.out.trans K4.out)) 2 (1 + r) CK.out SO.out.1 SO.out.2 LO.out).mono ?_; rintro e w5 ⟨rfl, k5⟩
      have K5 := Lib.hid (K4.out.trans k5)
      clear k5
      have TF := Lib.hid (told_fits (L1.out.kept K5.out) LL.out WF.out (HT.out.kept (K3.out.trans K5.out)) 2 (1 + r) CK.out SD.out FH.out (L2.out.kept K5.out))
      rw [List.length_range] at TF
      go_wp2_with fail; refine TF.out.mono ?_; rintro e w6 ⟨rfl, k6⟩
      have K6 := Lib.hid (K3.out.trans (K5.out.trans k6))
      clear k6
      go_wp2
      go_ret
      exact ⟨rfl, K6.out⟩
end Go.Proofs.YtbfmmndpboagdaaGreatDoor
