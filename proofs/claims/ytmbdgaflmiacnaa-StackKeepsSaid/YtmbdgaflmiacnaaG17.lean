/- Three cores in memory: what one core's step leaves of all of it. -/
import Derived.Test.YtmbdgaflmiacnaaG16
import Derived.Deep.QuietTactic
set_option linter.unusedVariables false
set_option linter.unusedSimpArgs false

namespace Go.Proofs.Ytmbdgaflmiacnaa.Sk
set_option maxRecDepth 20000
open Go.RowKit
open Wo (St acc wordAt PMem RefIs)

def putC (cs : Nat → Cr) (c : Nat) (x : Cr) : Nat → Cr := fun k => if k = c then x else cs k
theorem putC_at (cs : Nat → Cr) (c : Nat) (x : Cr) : putC cs c x c = x := if_pos rfl
theorem putC_ne {cs : Nat → Cr} {c d : Nat} {x : Cr} (h : d ≠ c) : putC cs c x d = cs d := if_neg h
theorem putC_self (cs : Nat → Cr) (c : Nat) : putC cs c (cs c) = cs := by
  funext k
  unfold putC
  split
  · subst k; rfl
  · rfl
def l3 (cs : Nat → Cr) : List Cr := [cs 0, cs 1, cs 2]
theorem l3_split (cs : Nat → Cr) {c : Nat} (hc : c ≤ 2) : ∃ A D, ∀ x, l3 (putC cs c x) = A ++ x :: D := by
  have : c = 0 ∨ c = 1 ∨ c = 2 := by omega
  rcases this with rfl | rfl | rfl
  · exact ⟨[], [cs 1, cs 2], fun x => by simp [l3, putC]⟩
  · exact ⟨[cs 0], [cs 2], fun x => by simp [l3, putC]⟩
  · exact ⟨[cs 0, cs 1], [], fun x => by simp [l3, putC]⟩

structure Crew (w0 : World) (own : Nat → Nat) (w : World) (R M B n : Nat) (S : Stk) (s : St) (t : Int) (ch : List Int) (cs : Nat → Cr) : Prop where
  core : ∀ c, c ≤ 2 → ∃ P a cap, CoreAt own c w R S (cs c) P a cap
  mem : PMem w M B n s
  inv : Inv n S s t ch (l3 cs)
  ok : S.Ok n
  c0 : 0 ≤ s.cnt
  f : ∀ i, w.frozen? ⟨R, i, none⟩ = false
  oR : own R = 1
  oM : own M = 0
  oB : own B = 0
  low : ∀ k, k < w0.heap.size → own k = 3
  kept : Kept w0 w
theorem Crew.lR {w0 : World} {own : Nat → Nat} {w : World} {R M B n : Nat} {S : Stk} {s : St} {t : Int} {ch : List Int} {cs : Nat → Cr} (h : Crew w0 own w R M B n S s t ch cs) : R < w.heap.size := by
  obtain ⟨P, a, cap, k⟩ := h.core 0 (by omega)
  exact lt_of_cell k.five.c0
theorem core_kept {own : Nat → Nat} {c : Nat} {w w' : World} {R : Nat} {S : Stk} {cr : Cr} {P : Nat} {a : Option Addr} {cap : Nat} (h : CoreAt own c w R S cr P a cap) (k : Kept w w') : CoreAt own c w' R S cr P a cap :=
  h.frame (k.but (fun _ => False)) (h.five.frame (k.but (fun _ => False)) id) (fun _ h => h.elim) (fun _ _ => rfl)
theorem Crew.grow {w0 : World} {own : Nat → Nat} {w w' : World} {R M B n : Nat} {S : Stk} {s : St} {t : Int} {ch : List Int} {cs : Nat → Cr} (h : Crew w0 own w R M B n S s t ch cs) (k : Kept w w') : Crew w0 own w' R M B n S s t ch cs :=
  ⟨fun c hc => by obtain ⟨P, a, cap, e⟩ := h.core c hc; exact ⟨P, a, cap, core_kept e k⟩, pmem_kept h.mem k, h.inv, h.ok, h.c0, fun i => k.soft h.lR (h.f i), h.oR, h.oM, h.oB, h.low, h.kept.trans k⟩
theorem Crew.stand {w0 : World} {own : Nat → Nat} {w : World} {R M B n : Nat} {S : Stk} {s : St} {t : Int} {ch : List Int} {cs : Nat → Cr} (h : Crew w0 own w R M B n S s t ch cs) (hcnt : s.cnt ≤ 1000000) {c : Nat} (hc : c ≤ 2) {A D : List Cr} (hA : ∀ x, l3 (putC cs c x) = A ++ x :: D) :
    ∃ P a cap, Stand own c w R M B n S s t ch A D (cs c) P a cap := by
  obtain ⟨P, a, cap, e⟩ := h.core c hc
  refine ⟨P, a, cap, e, h.mem, ?_, h.ok, h.c0, hcnt, h.f, h.oR, h.oM, h.oB, hc⟩
  rw [← hA, putC_self]
  exact h.inv
theorem Crew.other {w0 : World} {own : Nat → Nat} {w w' : World} {R M B n : Nat} {S : Stk} {s : St} {t : Int} {ch : List Int} {cs : Nat → Cr} (h : Crew w0 own w R M B n S s t ch cs) {T : Nat → Prop} (b : But T w w') (hT : ∀ k, T k → own k = 4) : Crew w0 own w' R M B n S s t ch cs := by
  have hR : ¬ T R := fun e => by have := hT R e; have := h.oR; omega
  have hM : ¬ T M := fun e => by have := hT M e; have := h.oM; omega
  have hB : ¬ T B := fun e => by have := hT B e; have := h.oB; omega
  refine ⟨fun c hc => ?_, pmem_frame h.mem b hM hB, h.inv, h.ok, h.c0, fun i => b.soft h.lR (h.f i), h.oR, h.oM, h.oB, h.low, ?_⟩
  · obtain ⟨P, a, cap, e⟩ := h.core c hc
    exact ⟨P, a, cap, e.frame b (e.five.frame b hR) (fun k hk => by have := hT k hk; omega) (fun _ _ => rfl)⟩
  · exact ((h.kept.but T).trans b (fun _ _ h => h)).kept fun j hj hk => by have := hT j hk; have := h.low j hj; omega
theorem others {own : Nat → Nat} {w w' : World} {R c d o : Nat} {S : Stk} {cr : Cr} {T : Nat → Prop} (hd : d ≠ c) (hd2 : d ≤ 2) (h : ∃ P a cap, CoreAt own d w R S cr P a cap) (hb : But T w w') (hT : ∀ k, T k → own k ≠ 10 + d ∧ own k ≠ 20 + d) (hr : Rest R c w w') :
    ∃ P a cap, CoreAt (ownN own w o) d w' R S cr P a cap := by
  obtain ⟨P, a, cap, e⟩ := h
  have f := e.five
  refine ⟨P, a, cap, e.frame hb ⟨?_, ?_, ?_, ?_, ?_⟩ hT (fun k hk => ownN_old hk)⟩
  · rw [hr _ (by omega)]; exact f.c0
  · rw [hr _ (by omega)]; exact f.c1
  · rw [hr _ (by omega)]; exact f.c2
  · rw [hr _ (by omega)]; exact f.c3
  · rw [hr _ (by omega)]; exact f.c4
def Moved (own own' : Nat → Nat) (w w' : World) : Prop := (∀ k, k < w.heap.size → own' k = own k) ∧ But (fun k => own k ≠ 3 ∧ own k ≠ 4) w w'
theorem Crew.step {w0 : World} {own : Nat → Nat} {w w' : World} {R M B n : Nat} {S : Stk} {s s' : St} {t t' : Int} {ch ch' : List Int} {cs : Nat → Cr} (h : Crew w0 own w R M B n S s t ch cs) {c o : Nat} (hc : c ≤ 2) {cr : Cr} {P : Nat} {a : Option Addr} {cap : Nat}
    (co : CoreAt (ownN own w o) c w' R S cr P a cap) (m : PMem w' M B n s') {T : Nat → Prop} (b : But T w w') (hr : Rest R c w w') (hT : ∀ k, T k → own k = 10 + c ∨ own k = 20 + c ∨ own k = 0 ∨ own k = 1) (iv : Inv n S s' t' ch' (l3 (putC cs c cr))) (hn : 0 ≤ s'.cnt) :
    Crew w0 (ownN own w o) w' R M B n S s' t' ch' (putC cs c cr) ∧ Moved own (ownN own w o) w w' := by
  refine ⟨?_, fun k hk => ownN_old hk, b.mono fun k _ hk => by have := hT k hk; omega⟩
  obtain ⟨hM, hB⟩ := pmem_lt h.mem
  have hw := h.kept.size
  refine ⟨fun d hd => ?_, m, iv, h.ok, hn, fun i => b.soft h.lR (h.f i), (ownN_old h.lR).trans h.oR, (ownN_old hM).trans h.oM, (ownN_old hB).trans h.oB, fun k hk => (ownN_old (by omega)).trans (h.low k hk), ?_⟩
  · by_cases e : d = c
    · subst e; rw [putC_at]; exact ⟨P, a, cap, co⟩
    · rw [putC_ne e]
      exact others e hd (h.core d hd) b (fun k hk => by have := hT k hk; omega) hr
  · exact ((h.kept.but T).trans b (fun _ _ h => h)).kept fun j hj hk => by have := hT j hk; have := h.low j hj; omega

def Stp (n : Nat) (S : Stk) (s s' : St) (c c' : Cr) : Prop := match c.k with
  | .idle => False
  | .pop x => s' = popSt n S s x ∧ (((popOp n S s x).line = 9 ∧ c'.k = .idle) ∨ ((popOp n S s x).line ≠ 9 ∧ c'.k = .pop (popOp n S s x)))
  | .push x => s' = pushSt n S c.lays s x ∧ c'.lays = c.lays ∧ (((pushOp n S s x).line = 9 ∧ c'.k = .idle) ∨ ((pushOp n S s x).line ≠ 9 ∧ c'.k = .push (pushOp n S s x)))
  | .all x => s' = allSt n S s x ∧ (((allOp n S s x).line = 9 ∧ c'.k = .idle) ∨ ((allOp n S s x).line ≠ 9 ∧ c'.k = .all (allOp n S s x)))
def Stepd (w0 : World) (own : Nat → Nat) (w : World) (R M B n : Nat) (S : Stk) (s : St) (t : Int) (cs : Nat → Cr) (c : Nat) (e : Ending) (w' : World) : Prop :=
  e = .returned (.bool true) ∧ ∃ own' s' t' ch' c', (Crew w0 own' w' R M B n S s' t' ch' (putC cs c c') ∧ Moved own own' w w') ∧ t ≤ t' ∧ t' ≤ t + 1 ∧ s'.cnt ≤ s.cnt + 1 ∧ Stp n S s s' (cs c) c'
theorem core_eq {c : Cr} {k : Kd} (h : c.k = k) : c = ⟨k, c.has, c.lays⟩ := by cases c; cases h; rfl

theorem crew_step {w0 : World} {own : Nat → Nat} {w : World} {R M B n : Nat} {S : Stk} {s : St} {t : Int} {ch : List Int} {cs : Nat → Cr} (h : Crew w0 own w R M B n S s t ch cs) {c : Nat} (hc : c ≤ 2) (hb : (cs c).k.busy = true) (t0 : 0 ≤ t) (t1 : t < 281474976710655) (hcnt : s.cnt ≤ 1000000) :
    Calls Try.prog 30 #[.pointer (some ⟨R, 5 * c, none⟩), .agg #[.int .i64 S.T, .int .i64 S.K, .int .i64 S.N], .pointer (some ⟨M, 0, none⟩)] w (Stepd w0 own w R M B n S s t cs c) := by
  obtain ⟨A, D, hA⟩ := l3_split cs hc
  obtain ⟨P, a, cap, hs⟩ := h.stand hcnt hc hA
  have hS := h.ok
  have hB0 := h.oB
  have hR1 := h.oR
  obtain ⟨cr, hcr⟩ : ∃ cr, cr = cs c := ⟨_, rfl⟩
  rw [← hcr] at hs hb
  obtain ⟨k, has, lays⟩ := cr
  have hv := hs.inv
  have c0 := h.c0
  cases k with
  | idle => exact absurd hb (by simp [Kd.busy])
  | pop x =>
    have oP := (hs.core.oP rfl).1
    have hn := popSt_cnt n S s x
    have T1 : ∀ k, (k = P ∨ k = B) → own k = 10 + c ∨ own k = 20 + c ∨ own k = 0 ∨ own k = 1 := by rintro k (e | e) <;> subst e <;> omega
    have T2 : ∀ k, (k = P ∨ k = B ∨ k = R) → own k = 10 + c ∨ own k = 20 + c ∨ own k = 0 ∨ own k = 1 := by rintro k (e | e | e) <;> subst e <;> omega
    have T3 : ∀ k, (k = P ∨ k = B ∨ k = R ∨ own k = 20 + c) → own k = 10 + c ∨ own k = 20 + c ∨ own k = 0 ∨ own k = 1 := by
      rintro k (e | e | e | e)
      · subst e; omega
      · subst e; omega
      · subst e; omega
      · omega
    rcases pop_keeps hS hv t0 t1 with ⟨h9, iv⟩ | ⟨h9, hi, hch, iv⟩ | ⟨h9, hi, ch', hch, iv⟩
    · refine (steps_pop_on hs h9).mono ?_
      rintro e w' ⟨rfl, co, m, b⟩
      refine ⟨rfl, _, _, t, ch, ⟨.pop (popOp n S s x), has, lays⟩, h.step hc co m b (Rest.but (Rest.refl R c w) b ?_ h.lR) T1 (by rw [hA]; exact iv) (by omega), by omega, by omega, hn.2, ?_⟩
      · intro e
        have := T1 R e
        have := hs.cl
        rcases e with e | e <;> subst e <;> omega
      · rw [← hcr]; exact ⟨rfl, .inr ⟨h9, rfl⟩⟩
    · refine (steps_pop_none hs h9 hi hch).mono ?_
      rintro e w' ⟨rfl, co, m, b, hr⟩
      refine ⟨rfl, _, _, t, ch, ⟨.idle, has, lays⟩, h.step hc co m b hr T2 (by rw [hA]; exact iv) (by omega), by omega, by omega, hn.2, ?_⟩
      rw [← hcr]; exact ⟨rfl, .inl ⟨h9, rfl⟩⟩
    · refine (steps_pop_ok hs h9 hi hch).mono ?_
      rintro e w' ⟨a', cap', rfl, co, m, b, hr⟩
      refine ⟨rfl, _, _, t + 1, ch', ⟨.idle, has ++ [idx S.N (popOp n S s x).W], lays⟩, h.step hc co m b hr T3 (by rw [hA]; exact iv) (by omega), by omega, by omega, hn.2, ?_⟩
      rw [← hcr]; exact ⟨rfl, .inl ⟨h9, rfl⟩⟩
  | push x =>
    have oP := (hs.core.oP rfl).1
    have hn := pushSt_cnt n S lays s x
    have T1 : ∀ k, (k = P ∨ k = B) → own k = 10 + c ∨ own k = 20 + c ∨ own k = 0 ∨ own k = 1 := by rintro k (e | e) <;> subst e <;> omega
    have T2 : ∀ k, (k = P ∨ k = B ∨ k = R) → own k = 10 + c ∨ own k = 20 + c ∨ own k = 0 ∨ own k = 1 := by rintro k (e | e | e) <;> subst e <;> omega
    rcases push_keeps hS hv t0 t1 with ⟨h9, iv⟩ | ⟨h9, iv⟩
    · refine (steps_push_on hs h9).mono ?_
      rintro e w' ⟨rfl, co, m, b⟩
      refine ⟨rfl, _, _, t, ch, ⟨.push (pushOp n S s x), has, lays⟩, h.step hc co m b (Rest.but (Rest.refl R c w) b ?_ h.lR) T1 (by rw [hA]; exact iv) (by omega), by omega, by omega, hn.2, ?_⟩
      · intro e
        have := T1 R e
        have := hs.cl
        rcases e with e | e <;> subst e <;> omega
      · rw [← hcr]; exact ⟨rfl, rfl, .inr ⟨h9, rfl⟩⟩
    · have hl : ch.length ≤ 4096 := by have := hv.len; have := hS.N2; omega
      have hcn : chn n (pushSt n S lays s x).ws S = lays :: ch := iv.chain hS
      refine (steps_push_ends hs h9 hcn hl).mono ?_
      rintro e w' ⟨rfl, co, m, b, hr⟩
      refine ⟨rfl, _, _, t + 1, lays :: ch, ⟨.idle, has, lays⟩, h.step hc co m b hr T2 (by rw [hA]; exact iv) (by omega), by omega, by omega, hn.2, ?_⟩
      rw [← hcr]; exact ⟨rfl, rfl, .inl ⟨h9, rfl⟩⟩
  | all x =>
    have oP := (hs.core.oP rfl).1
    have hn := allSt_cnt n S s x
    have T1 : ∀ k, (k = P ∨ k = B) → own k = 10 + c ∨ own k = 20 + c ∨ own k = 0 ∨ own k = 1 := by rintro k (e | e) <;> subst e <;> omega
    have T2 : ∀ k, (k = P ∨ k = B ∨ k = R) → own k = 10 + c ∨ own k = 20 + c ∨ own k = 0 ∨ own k = 1 := by rintro k (e | e | e) <;> subst e <;> omega
    have T3 : ∀ k, (k = P ∨ k = B ∨ k = R ∨ own k = 20 + c) → own k = 10 + c ∨ own k = 20 + c ∨ own k = 0 ∨ own k = 1 := by
      rintro k (e | e | e | e)
      · subst e; omega
      · subst e; omega
      · subst e; omega
      · omega
    rcases all_keeps hS hv t0 t1 with ⟨h9, iv⟩ | ⟨h9, hi, hch, iv⟩ | ⟨h9, hi, ⟨ch', hch⟩, iv⟩
    · refine (steps_all_on hs h9).mono ?_
      rintro e w' ⟨rfl, co, m, b⟩
      refine ⟨rfl, _, _, t, ch, ⟨.all (allOp n S s x), has, lays⟩, h.step hc co m b (Rest.but (Rest.refl R c w) b ?_ h.lR) T1 (by rw [hA]; exact iv) (by omega), by omega, by omega, hn.2, ?_⟩
      · intro e
        have := T1 R e
        have := hs.cl
        rcases e with e | e <;> subst e <;> omega
      · rw [← hcr]; exact ⟨rfl, .inr ⟨h9, rfl⟩⟩
    · refine (steps_all_none hs h9 hi hch).mono ?_
      rintro e w' ⟨rfl, co, m, b, hr⟩
      refine ⟨rfl, _, _, t, ch, ⟨.idle, has, lays⟩, h.step hc co m b hr T2 (by rw [hA]; exact iv) (by omega), by omega, by omega, hn.2, ?_⟩
      rw [← hcr]; exact ⟨rfl, .inl ⟨h9, rfl⟩⟩
    · have hcn : chn n (allSt n S s x).ws S = [] := iv.chain hS
      refine (steps_all_ok hs h9 hi hcn hch).mono ?_
      rintro e w' ⟨a', cap', rfl, co, m, b, hr⟩
      refine ⟨rfl, _, _, t + 1, [], ⟨.idle, has ++ ch, lays⟩, h.step hc co m b hr T3 (by rw [hA]; exact iv) (by omega), by omega, by omega, hn.2, ?_⟩
      rw [← hcr]; exact ⟨rfl, .inl ⟨h9, rfl⟩⟩

def Kd.fresh (k : Kd) : Prop := k = .pop Op.new ∨ k = .push Op.new ∨ k = .all Op.new
def Begund (w0 : World) (own : Nat → Nat) (w : World) (R M B n : Nat) (S : Stk) (s : St) (t : Int) (ch : List Int) (cs : Nat → Cr) (c : Nat) (e : Ending) (w' : World) : Prop :=
  e = .returned (.tuple #[]) ∧ ∃ own' c', (Crew w0 own' w' R M B n S s t ch (putC cs c c') ∧ Moved own own' w w') ∧ c'.k.fresh
theorem snoc_cases {α : Type} (l : List α) : l = [] ∨ ∃ l' x, l = l' ++ [x] := by
  rcases List.eq_nil_or_concat l with h | ⟨l', x, h⟩
  · exact .inl h
  · exact .inr ⟨l', x, by rw [h]; simp⟩
theorem crew_begin {w0 : World} {own : Nat → Nat} {w : World} {R M B n : Nat} {S : Stk} {s : St} {t : Int} {ch : List Int} {cs : Nat → Cr} (h : Crew w0 own w R M B n S s t ch cs) {c : Nat} (hc : c ≤ 2) (hb : (cs c).k.busy = false) (i : Int) (i0 : 0 ≤ i) (i1 : i < 300) (hcnt : s.cnt ≤ 1000000) :
    Calls Try.prog 29 #[.pointer (some ⟨R, 5 * c, none⟩), .agg #[.int .i64 S.T, .int .i64 S.K, .int .i64 S.N], .int .i64 i] w (Begund w0 own w R M B n S s t ch cs c) := by
  obtain ⟨A, D, hA⟩ := l3_split cs hc
  obtain ⟨P, a, cap, hs⟩ := h.stand hcnt hc hA
  have hR1 := h.oR
  obtain ⟨cr, hcr⟩ : ∃ cr, cr = cs c := ⟨_, rfl⟩
  rw [← hcr] at hs hb
  obtain ⟨k, has, lays⟩ := cr
  have hv := hs.inv
  have c0 := h.c0
  obtain ⟨hM, hB⟩ := pmem_lt h.mem
  have hRM : ¬ M = R := fun e => by have := h.oM; subst e; omega
  have hRB : ¬ B = R := fun e => by have := h.oB; subst e; omega
  have T1 : ∀ k, (k = R) → own k = 10 + c ∨ own k = 20 + c ∨ own k = 0 ∨ own k = 1 := by rintro k e; subst e; omega
  cases k with
  | pop x => exact absurd hb (by simp [Kd.busy])
  | push x => exact absurd hb (by simp [Kd.busy])
  | all x => exact absurd hb (by simp [Kd.busy])
  | idle =>
    by_cases hA1 : i % 3 = 1 ∧ 0 < has.length
    · obtain ⟨hm, hp⟩ := hA1
      rcases snoc_cases has with e | ⟨has', x, rfl⟩
      · subst e; exact absurd hp (by simp)
      · obtain ⟨iv, x0, x1⟩ := keeps_begin_push hv
        have hl : has'.length ≤ 100000 := by
          have := hv.hasLen
          have := hs.ok.N2
          simp at *
          omega
        refine (begins_push hs.core hs.f hR1 i0 i1 hm x0 x1 (by have := hs.ok.N2; omega) hl).mono ?_
        rintro e w' ⟨P', rfl, co, b, hr⟩
        exact ⟨rfl, _, ⟨.push Op.new, has', x⟩, h.step hc co (pmem_frame h.mem b hRM hRB) b hr T1 (by rw [hA]; exact iv) c0, .inr (.inl rfl)⟩
    · by_cases hB5 : i % 5 = 4
      · refine (begins_all hs.core hs.f hR1 i0 i1 hA1 hB5).mono ?_
        rintro e w' ⟨P', rfl, co, b, hr⟩
        exact ⟨rfl, _, ⟨.all Op.new, has, lays⟩, h.step hc co (pmem_frame h.mem b hRM hRB) b hr T1 (by rw [hA]; exact keeps_begin_all hv) c0, .inr (.inr rfl)⟩
      · refine (begins_pop hs.core hs.f hR1 i0 i1 hA1 hB5).mono ?_
        rintro e w' ⟨P', rfl, co, b, hr⟩
        exact ⟨rfl, _, ⟨.pop Op.new, has, lays⟩, h.step hc co (pmem_frame h.mem b hRM hRB) b hr T1 (by rw [hA]; exact keeps_begin_pop hv) c0, .inl rfl⟩
end Go.Proofs.Ytmbdgaflmiacnaa.Sk

namespace Go.Proofs.Ytmbdgaflmiacnaa.Sk
set_option maxRecDepth 20000
open Go.RowKit
open Wo (St acc wordAt PMem RefIs)

theorem infoBool : (Try.prog.info? 4).map (fun i => (i.zero, i.size, i.bytes)) = some (some (.bool false), 1, 1) := by kernel_rfl
theorem make_bools (n : Nat) (hn : n ≤ 1000000) : ∃ Z : Array Value, (∀ i, i < n → Z[i]? = some (.bool false)) ∧
    ∀ w : World, (Instr.makeSlice 108 (.int .i64 (n : Int)) (.int .i64 (n : Int))).run Try.prog w = .ok (.slice (some ⟨w.heap.size, 0, none⟩) n n) (w.alloc (.cells Z 4)) := by
  obtain ⟨i0, hi, hz0, hz1, hz2⟩ := info_parts infoBool
  refine ⟨madeCells #[.bool false] n, fun i h => ?_, fun w => ?_⟩
  · have e : (madeCells #[.bool false] n)[i]? = (madeCells #[.bool false] n).toList[i]? := by simp
    rw [e, toList_madeCells_one]
    simp [h]
  · have h := run_makeSlice (P := Try.prog) w 108 4 i0 (.bool false) Try.underlying108 hi hz0 .i64 .i64 (n : Int) (n : Int) (by omega) (Int.le_refl _) (by rw [hz1]; omega) (by rw [hz2]; omega) (by omega)
    rw [h, hz1]
    simp [Value.cells]

def holdL (cs : Nat → Cr) : Nat → List Int
  | 0 => []
  | k + 1 => holdL cs k ++ (cs k).hold
theorem holdL_three (cs : Nat → Cr) : holdL cs 3 = (l3 cs).flatMap Cr.hold := by simp [holdL, l3]
def pushing (c : Cr) : Bool := match c.k with
  | .push _ => true
  | _ => false
theorem hold_push {c : Cr} (h : pushing c = true) : c.hold = c.has ++ [c.lays] := by
  obtain ⟨k, has, lays⟩ := c
  cases k <;> first | rfl | exact absurd h (by simp [pushing])
theorem hold_not {c : Cr} (h : pushing c = false) : c.hold = c.has := by
  obtain ⟨k, has, lays⟩ := c
  cases k <;> first | (simp [Cr.hold, Cr.pend]; done) | exact absurd h (by simp [pushing])
theorem p1_push {c : Cr} (h : pushing c = true) (P : Nat) : c.k.p1 P = .pointer (some ⟨P, 0, none⟩) := by
  obtain ⟨k, has, lays⟩ := c
  cases k <;> first | rfl | exact absurd h (by simp [pushing])
theorem p1_not {c : Cr} (h : pushing c = false) (P : Nat) : c.k.p1 P = .pointer none := by
  obtain ⟨k, has, lays⟩ := c
  cases k <;> first | rfl | exact absurd h (by simp [pushing])

def Gath (W1 : World) (ch : List Int) (cs : Nat → Cr) (l c : Value) (wr : World) : Prop :=
  ∃ k : Nat, k ≤ 3 ∧ c = .int .i64 k ∧ ∃ L a cap, L = ch ++ holdL cs k ∧ l = .slice a L.length cap ∧ Kept W1 wr ∧ wr.ownsRow W1.heap.size 3 1 (.slice a L.length cap) L.length (ints L)
theorem gath_len {n : Nat} {S : Stk} {s : St} {t : Int} {ch : List Int} {cs : Nat → Cr} (h : Inv n S s t ch (l3 cs)) (hS : S.Ok n) {k : Nat} (hk : k ≤ 3) : (ch ++ holdL cs k).length ≤ 4096 := by
  have h1 := h.perm.length_eq
  rw [← holdL_three, full_length] at h1
  have h2 := hS.N2
  have h3 : ∀ j, j ≤ 3 → (holdL cs j).length ≤ (holdL cs 3).length := fun j hj => by
    have : j = 0 ∨ j = 1 ∨ j = 2 ∨ j = 3 := by omega
    rcases this with rfl | rfl | rfl | rfl <;> simp [holdL] <;> omega
  have := h3 k hk
  simp at h1 ⊢
  omega
theorem grow_kept {W1 w w' : World} {v : Value} {n : Nat} {xs : List Value} {e : TypeId} (k : Kept W1 w) (ho : w.ownsRow W1.heap.size e 1 v n xs) (b : But (fun k => v.ownBlock = some k) w w') : Kept W1 w' :=
  ((k.but (fun k => v.ownBlock = some k)).trans b (fun _ _ h => h)).kept fun j hj hk => by
    rcases ho.2 with ⟨rfl, _⟩ | ⟨g, cap, cur, rfl, hb, _⟩
    · cases hk
    · have : g = j := by simpa [Value.ownBlock] using hk
      omega

def Marked (w0 : World) (G N : Nat) (L : List Int) (i : Value) (wr : World) : Prop :=
  ∃ k : Nat, k ≤ L.length ∧ i = .int .i64 k ∧ But (fun j => j = G) w0 wr ∧ ∀ j, j < N → wr.cell? ⟨G, j, none⟩ = some (.bool (decide ((j : Int) ∈ L.take k)))
theorem take_mem {L : List Int} {k : Nat} {x : Int} (h : L[k]? = some x) (j : Int) : decide (j ∈ L.take (k + 1)) = (decide (j ∈ L.take k) || decide (j = x)) := by
  have hk := (List.getElem?_eq_some_iff.1 h).1
  have e : L.take (k + 1) = L.take k ++ [x] := by
    rw [List.take_add_one, h]; rfl
  rw [e]
  simp [List.mem_append, Bool.decide_or]
theorem nodup_take {L : List Int} (hn : L.Nodup) {k : Nat} {x : Int} (h : L[k]? = some x) : ¬ x ∈ L.take k := by
  intro hm
  obtain ⟨hk, e2⟩ := List.getElem?_eq_some_iff.1 h
  have hd : L.drop k = x :: L.drop (k + 1) := by rw [← e2]; exact List.drop_eq_getElem_cons hk
  have e : L = L.take k ++ x :: L.drop (k + 1) := by rw [← hd, List.take_append_drop]
  rw [e, List.nodup_append] at hn
  exact hn.2.2 x hm x List.mem_cons_self rfl

set_option maxHeartbeats 1000000 in
theorem each_any {w0 : World} {own : Nat → Nat} {w : World} {R M B n : Nat} {S : Stk} {s : St} {t : Int} {ch : List Int} {cs : Nat → Cr} (h : Crew w0 own w R M B n S s t ch cs) :
    Calls Try.prog 31 #[.agg #[.int .i64 S.T, .int .i64 S.K, .int .i64 S.N], .pointer (some ⟨M, 0, none⟩), .slice (some ⟨R, 0, none⟩) 3 3] w fun e w' => e = .returned (.bool true) ∧ Kept w w' := by
  have hS := h.ok
  obtain ⟨N, hN⟩ : ∃ N : Nat, S.N = N := ⟨S.N.toNat, by have := hS.N1; omega⟩
  have hN2 : N ≤ 4096 := by have := hS.N2; omega
  obtain ⟨Z, hZ, hmk⟩ := make_bools N (by omega)
  rw [← hN] at hmk
  have H := Lib.hid h
  have HN := Lib.hid hN
  have HZ := Lib.hid hZ
  clear h hZ hN
  go_enter Try.func31, Try.ntmps31
  go_wp2_with fail
  obtain ⟨W1, hW1⟩ : ∃ W1, (w.alloc (.cells #[.int .i64 S.T, .int .i64 S.K, .int .i64 S.N] 23)).alloc (.cells Z 4) = W1 := ⟨_, rfl⟩
  have k1 : Kept w W1 := by rw [← hW1]; exact ((Kept.refl w).alloc _ _).alloc _ _
  have s2 : W1.cell? ⟨w.heap.size, 2, none⟩ = some (.int .i64 S.N) := by rw [← hW1]; exact ((Kept.refl _).alloc _ _).some (cell_new _ _ _ _ 2 rfl)
  have hb1 : Hid (∀ j, j < N → W1.cell? ⟨w.heap.size + 1, j, none⟩ = some (.bool false)) := Lib.hid (fun j hj => by
    rw [← hW1, cell_new _ _ _ _ _ (by simp)]
    exact HZ.out j hj)
  have lG : w.heap.size + 1 < W1.heap.size := by rw [← hW1]; simp
  have F1 : Hid (∀ j, W1.frozen? ⟨w.heap.size + 1, j, none⟩ = false) := Lib.hid (fun j => by rw [← hW1]; simp)
  have H1 := Lib.hid (H.out.grow k1)
  have K1 := Lib.hid k1
  rw [hW1]
  clear hW1 k1
  have hcn : chn n s.ws S = ch := H.out.inv.chain hS
  refine (p_chain S H1.out.mem H1.out.inv.wd hS).mono ?_
  rw [hcn]
  rintro e w2 ⟨a2, c2, rfl, k2, own2⟩
  have O2 := Lib.hid own2
  have K2 := Lib.hid k2
  clear hcn own2 k2
  go_wp2
  go_loopw [8, 9] (Gath W1 ch cs) (fun _ c _ => 3 - (intOf c).toNat)
  case atStart =>
    exact ⟨0, by omega, rfl, ch, a2, c2, by simp [holdL], rfl, K2.out, O2.out⟩
  case round =>
    obtain ⟨k, hk, rfl, L, a, cap, hL, rfl, kr, ownr⟩ := hrel
    by_cases hlt : k < 3
    · obtain ⟨P, ha, hcap, hco⟩ := (H1.out.grow kr).core k (by omega)
      obtain ⟨c0, c1, c2', c3, c4⟩ := hco.five
      rw [Nat.mul_comm 5 k] at c0 c1 c3 c4
      clear c2'
      have OWN := Lib.hid ownr
      have KR := Lib.hid kr
      have LC := Lib.hid (own_lies hco.row)
      have hlen := Lib.hid (gath_len H.out.inv hS (k := k) (by omega))
      have hlen1 : L.length + (cs k).has.length ≤ 4096 := by
        have h1 := gath_len H.out.inv hS (k := k + 1) (by omega)
        have h2 : (cs k).has.length ≤ (cs k).hold.length := by simp [Cr.hold]
        rw [hL]
        simp [holdL] at h1 ⊢
        omega
      have hL' := Lib.hid hL
      have hbase : W1.heap.size ≤ wr.heap.size := kr.size
      obtain ⟨i0, hi0, hz0, hz1, hz2⟩ := info_parts infoInt
      have hRlt := lt_of_cell c0
      have HCO := Lib.hid hco
      have nR : ¬ (Value.slice a L.length cap).ownBlock = some R := fun e => by
        have hl := H1.out.lR
        rcases ownr.2 with ⟨hv, _⟩ | ⟨g, cap', cur, hv, hb, _⟩
        · rw [hv] at e; cases e
        · rw [hv] at e
          have : g = R := by simpa [Value.ownBlock] using e
          omega
      clear hL ownr kr hco
      cases hp : pushing (cs k) with
      | false =>
        rw [p1_not hp] at c1
        go_wp2_with (at_builtin; refine wpList_append_any _ rfl _ _ _ rfl W1.heap.size 3 i0 _ 1 8 Try.underlying62 hi0 hz0 hz1 hz2 (by rfl) (by decide) (.slice a L.length cap) L.length (ints L) (by simp [Act.eval, Act.put]) OWN.out _ (cs k).has.length (ints (cs k).has) (by simp [Act.eval, Act.put]) (ints_length _) LC.out (ints_one _) (by unfold maxLen; omega) (by omega) hbase ?_; intro a6 c6 w6 own6 but6 at6; have f1 := but6.some c1 nR; have bb6 := but6)
        have k6 := grow_kept KR.out OWN.out bb6
        go_roundw
        case rel =>
          refine ⟨k + 1, by omega, ?_, L ++ (cs k).has, a6, c6, ?_, ?_, k6, ?_⟩
          · rw [Int.natCast_add]; rfl
          · rw [hL'.out, holdL, hold_not hp, List.append_assoc]
          · rw [List.length_append]
          · rw [List.length_append, ints_append]; exact own6
        case measure => simp [intOf]; omega
      | true =>
        rw [p1_push hp] at c1
        have hlen2 : L.length + (cs k).has.length + 1 ≤ 4096 := by
          have h1 := gath_len H.out.inv hS (k := k + 1) (by omega)
          rw [holdL, hold_push hp, ← List.append_assoc, ← List.append_assoc, ← hL'.out] at h1
          simp at h1
          omega
        go_upto_region 8 with (at_builtin; refine wpList_append_any _ rfl _ _ _ rfl W1.heap.size 3 i0 _ 1 8 Try.underlying62 hi0 hz0 hz1 hz2 (by rfl) (by decide) (.slice a L.length cap) L.length (ints L) (by simp [Act.eval, Act.put]) OWN.out _ (cs k).has.length (ints (cs k).has) (by simp [Act.eval, Act.put]) (ints_length _) LC.out (ints_one _) (by unfold maxLen; omega) (by omega) hbase ?_; intro a6 c6 w6 own6 but6 at6; have f1 := but6.some c1 nR; have f4 := but6.some c4 nR; have bb6 := but6)
        have k6 := grow_kept KR.out OWN.out bb6
        have nR6 : ¬ (Value.slice a6 (L.length + (cs k).has.length) c6).ownBlock = some R := fun e => by
          have hl := H1.out.lR
          rcases own6.2 with ⟨hv, _⟩ | ⟨g, cap', cur, hv, hb, _⟩
          · rw [hv] at e; cases e
          · rw [hv] at e
            have : g = R := by simpa [Value.ownBlock] using e
            omega
        have hb6 : W1.heap.size ≤ w6.heap.size := k6.size
        have OW6 : Hid ((w6.alloc (.cells #[.int .i64 (cs k).lays] 3)).ownsRow W1.heap.size 3 1 (.slice a6 (L.length + (cs k).has.length) c6) (L.length + (cs k).has.length) (ints (L ++ (cs k).has))) := Lib.hid (by
          rw [ints_append]
          exact own_same own6 (fun g hg => ((Kept.refl w6).alloc _ _).below.block g (own_lt (own_mono own6 (Nat.zero_le _)) g hg)))
        have K6 := Lib.hid (k6.alloc #[.int .i64 (cs k).lays] 3)
        clear own6 but6 bb6 at6 k6
        go_wp2_with (at_builtin; refine wpList_append_any _ rfl _ _ _ rfl W1.heap.size 3 i0 _ 1 8 Try.underlying62 hi0 hz0 hz1 hz2 (by rfl) (by decide) (.slice a6 (L.length + (cs k).has.length) c6) (L.length + (cs k).has.length) (ints (L ++ (cs k).has)) (by simp [Act.eval, Act.put]) OW6.out _ 1 (ints [(cs k).lays]) (by simp [Act.eval, Act.put]) (by rfl) (lies_one (heap_alloc_new _ _)) (ints_one _) (by unfold maxLen; omega) (by omega) (by simp; omega) ?_; intro a7 c7 w7 own7 but7 at7; have bb7 := but7)
        have k7 := grow_kept K6.out OW6.out bb7
        go_roundw
        case rel =>
          refine ⟨k + 1, by omega, ?_, L ++ (cs k).has ++ [(cs k).lays], a7, c7, ?_, ?_, k7, ?_⟩
          · rw [Int.natCast_add]; rfl
          · rw [hL'.out, holdL, hold_push hp]; simp
          · rw [List.length_append, List.length_append]; rfl
          · rw [show (L ++ (cs k).has ++ [(cs k).lays]).length = L.length + (cs k).has.length + 1 from by rw [List.length_append, List.length_append]; rfl, ints_append]; exact own7
        case measure => simp [intOf]; omega
    · obtain rfl : k = 3 := by omega
      obtain ⟨wo, rfl⟩ : ∃ wo : World, wo = wr := ⟨_, rfl⟩
      have hperm : L.Perm (full S) := by
        rw [hL, holdL_three]
        exact H.out.inv.perm
      have hnd : L.Nodup := hperm.nodup_iff.2 (full_nodup S)
      have hin : ∀ i ∈ L, 0 ≤ i ∧ i < S.N := fun i hi => full_mem (hperm.mem_iff.1 hi)
      have hll : L.length = N := by
        have := hperm.length_eq
        rw [full_length] at this
        have := HN.out
        omega
      have hN1 : 1 ≤ N := by have := hS.N1; have := HN.out; omega
      obtain ⟨g, rfl, hg, hgc⟩ : ∃ g, a = some ⟨g, 0, none⟩ ∧ W1.heap.size ≤ g ∧ ∀ j x, L[j]? = some x → wo.cell? ⟨g, j, none⟩ = some (.int .i64 x) := by
        have hl := own_lies ownr
        rcases ownr.2 with ⟨_, h0⟩ | ⟨g', cap', cur, hv, hb, _⟩
        · omega
        · cases hv
          rcases hl with ⟨e, h0, _⟩ | ⟨g, o, c', e, _, _, hc⟩
          · omega
          · cases e
            refine ⟨_, rfl, hb, fun j x hx => ?_⟩
            have := hc j _ (ints_get L j x hx)
            rwa [Nat.zero_add] at this
      have s2 := kr.some s2
      have mk0 : Hid (∀ j, j < N → wo.cell? ⟨w.heap.size + 1, j, none⟩ = some (.bool false)) := Lib.hid (fun j hj => kr.some (hb1.out j hj))
      have sf0 : ∀ j, wo.frozen? ⟨w.heap.size + 1, j, none⟩ = false := fun j => kr.soft lG (F1.out j)
      have lG2 : w.heap.size + 1 < wo.heap.size := Nat.lt_of_lt_of_le lG kr.size
      have KR := Lib.hid kr
      have HG := Lib.hid hgc
      have PF : Hid (L.Nodup ∧ (∀ i ∈ L, 0 ≤ i ∧ i < S.N) ∧ L.length = N) := Lib.hid ⟨hnd, hin, hll⟩
      have SF0 := Lib.hid sf0
      clear hL hperm hnd hin hll ownr kr hgc sf0
      obtain ⟨G, hG⟩ : ∃ G, G = w.heap.size + 1 := ⟨_, rfl⟩
      rw [← hG] at mk0 SF0 lG2
      have hgG : g ≠ G := by omega
      have hsG : w.heap.size ≠ G := by omega
      have GE := Lib.hid hG
      have s2l := lt_of_cell s2
      go_wp2
      rw [← GE.out]
      clear hG
      go_loopw [10] (Marked wo G N L) (fun i _ => L.length - (intOf i).toNat)
      case atStart =>
        exact ⟨0, Nat.zero_le _, rfl, But.refl _ _, fun j hj => by rw [mk0.out j hj]; simp⟩
      case round =>
        obtain ⟨k, hk, rfl, hbut, hmk2⟩ := hrel
        by_cases hlt : k < L.length
        · obtain ⟨x, hx⟩ : ∃ x, L[k]? = some x := ⟨L[k], List.getElem?_eq_getElem hlt⟩
          obtain ⟨pf1, pf2, pf3⟩ := PF.out
          obtain ⟨x0, x1⟩ := pf2 x (List.mem_of_getElem? hx)
          have x2 : x < (N : Int) := by have := HN.out; omega
          have cx : wr.cell? ⟨g, k, none⟩ = some (.int .i64 x) := hbut.some (HG.out k x hx) hgG
          have q2 : wr.cell? ⟨w.heap.size, 2, none⟩ = some (.int .i64 S.N) := hbut.some s2 hsG
          have cm : wr.cell? ⟨G, x.toNat, none⟩ = some (.bool false) := by
            rw [hmk2 x.toNat (by omega)]
            rw [show ((x.toNat : Nat) : Int) = x from by omega]
            simp [nodup_take pf1 hx]
          have qf : ∀ j, wr.frozen? ⟨G, j, none⟩ = false := fun j => hbut.soft lG2 (SF0.out j)
          have MK := Lib.hid hmk2
          have HB := Lib.hid hbut
          have HX := Lib.hid hx
          clear hmk2 hbut hx pf1 pf2 pf3
          have b0 : (k : Int) < (L.length : Int) := by omega
          have b4 : k < 4096 := by have := PF.out.2.2; omega
          have b1 : ¬ x < 0 := by omega
          have b2 : ¬ S.N ≤ x := by omega
          go_wp2
          go_quiet (fail)
          go_wp2
          go_roundw
          case rel =>
            have MM : ∀ nq, Marked wo G N L (.int .i64 ((k : Int) + 1)) ((wr.drewN nq).setCell ⟨G, x.toNat, none⟩ (.bool true)) := fun nq => by
              refine ⟨k + 1, by omega, by rw [Int.natCast_add]; rfl, (HB.out.drewN nq).here _ _, fun j hj => ?_⟩
              rw [cell_set, show (wr.drewN nq).cell? ⟨G, j, none⟩ = wr.cell? ⟨G, j, none⟩ from rfl, MK.out j hj, take_mem HX.out j]
              by_cases e : (j : Int) = x
              · rw [if_pos (by omega)]; simp [e]
              · rw [if_neg (by omega)]; simp [e]
            repeat apply Exists.intro
            exact ⟨MM _, rfl⟩
          case measure => simp [intOf]; omega
        · have q2 : wr.cell? ⟨w.heap.size, 2, none⟩ = some (.int .i64 S.N) := hbut.some s2 hsG
          have e1 : (L.length : Int) = S.N := by have := PF.out.2.2; have := HN.out; omega
          obtain rfl : k = L.length := by omega
          have HB := Lib.hid hbut
          clear hbut hmk2
          rw [e1]
          go_wp2
          go_ret
          have hG1 := GE.out
          exact ⟨rfl, (((K1.out.trans KR.out).but (fun j => j = G)).trans HB.out (fun _ _ h => h)).kept fun j hj e => by
            have e : j = G := e
            omega⟩
end Go.Proofs.Ytmbdgaflmiacnaa.Sk
