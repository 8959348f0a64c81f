/- Begin, Step over the program's frame. -/
import Derived.Test.YtdgajkimepgljaaFAcc
namespace Go.Proofs.Ytdgajkimepgljaa
open Go.RowKit

/-- A slot is written over. -/
theorem PF.put {w w' : World} {F G T : Nat} {dv dv' : Value} {base n m m' : Nat} {s : St} (h : PF w F G T dv base n m s) (i : Nat) (o : Bool) (x k : Int) (D : List Dd) (all : Int)
    (hf : Fine n m' (s.put i o x k D all)) (hb : But (MineP F G T dv) w w')
    (e0 : w'.cell? ⟨F, 0, none⟩ = some (.pointer (some ⟨G, 0, none⟩))) (e1 : w'.cell? ⟨G, 0, none⟩ = some (.slice (some ⟨T, 0, none⟩) n n)) (e2 : w'.cell? ⟨G, 1, none⟩ = some dv') (e3 : w'.cell? ⟨G, 2, none⟩ = some (.int .i64 all))
    (t0 : w'.cell? ⟨T, i * 4, none⟩ = some (.int .i64 (if o then (i : Int) else 0))) (t1 : w'.cell? ⟨T, i * 4 + 1, none⟩ = some (.int .i64 x)) (t2 : w'.cell? ⟨T, i * 4 + 2, none⟩ = some (.int .i64 k)) (t3 : w'.cell? ⟨T, i * 4 + 3, none⟩ = some (.bool o))
    (ht : ∀ j r : Nat, j ≠ i → r < 4 → w'.cell? ⟨T, j * 4 + r, none⟩ = w.cell? ⟨T, j * 4 + r, none⟩) (hown : OwnD w' base dv' D) (hd : ∀ g, dv'.ownBlock = some g → dv.ownBlock = some g ∨ w.heap.size ≤ g) :
    PF w' F G T dv' base n m' (s.put i o x k D all) := by
  have hne : ∀ b, MineP F G T (.slice none 0 0) b → dv.ownBlock ≠ some b → dv'.ownBlock ≠ some b := by
    intro b hb' h1 h2
    rcases hd b h2 with h3 | h3
    · exact h1 h3
    · have := h.lt b (by
        rcases hb' with h | h | h | h
        · exact .inl h
        · exact .inr (.inl h)
        · exact .inr (.inr (.inl h))
        · simp [Value.ownBlock] at h)
      omega
  refine ⟨hf, e0, e1, e2, e3, fun j => (hb.froze ⟨G, j, none⟩ (h.lt G (.inr (.inl rfl)))).trans (h.softG j), fun j => (hb.froze ⟨T, j, none⟩ (h.lt T (.inr (.inr (.inl rfl))))).trans (h.softT j),
    fun j hj => ?_, fun j hj => ?_, fun j hj => ?_, fun j hj => ?_, hown, h.bF, h.bG, h.bT, h.fg, h.ft, h.gt, hne F (.inl rfl) h.df, hne G (.inr (.inl rfl)) h.dg, hne T (.inr (.inr (.inl rfl))) h.dt⟩
  · by_cases e : j = i
    · subst e; simpa [St.put] using t0
    · have e' : ¬ ((j : Int) = i) := by omega
      simp only [St.put, e', if_false]
      exact (ht j 0 e (by decide)).trans (h.c0 j hj)
  · by_cases e : j = i
    · subst e; simpa [St.put] using t1
    · have e' : ¬ ((j : Int) = i) := by omega
      simp only [St.put, e', if_false]
      exact (ht j 1 e (by decide)).trans (h.c1 j hj)
  · by_cases e : j = i
    · subst e; simpa [St.put] using t2
    · have e' : ¬ ((j : Int) = i) := by omega
      simp only [St.put, e', if_false]
      exact (ht j 2 e (by decide)).trans (h.c2 j hj)
  · by_cases e : j = i
    · subst e; simpa [St.put] using t3
    · have e' : ¬ ((j : Int) = i) := by omega
      simp only [St.put, e', if_false]
      exact (ht j 3 e (by decide)).trans (h.c3 j hj)

/-- A slot's four cells are stored. -/
theorem slot4 {w : World} {T i : Nat} {u0 u1 u2 u3 : Value} (a b c d : Value) (h0 : w.cell? ⟨T, i * 4, none⟩ = some u0) (h1 : w.cell? ⟨T, i * 4 + 1, none⟩ = some u1) (h2 : w.cell? ⟨T, i * 4 + 2, none⟩ = some u2) (h3 : w.cell? ⟨T, i * 4 + 3, none⟩ = some u3) :
    ∃ w', (((w.setCell ⟨T, i * 4, none⟩ a).setCell ⟨T, i * 4 + 1, none⟩ b).setCell ⟨T, i * 4 + 2, none⟩ c).setCell ⟨T, i * 4 + 3, none⟩ d = w' ∧ But (fun k => k = T) w w' ∧
      w'.cell? ⟨T, i * 4, none⟩ = some a ∧ w'.cell? ⟨T, i * 4 + 1, none⟩ = some b ∧ w'.cell? ⟨T, i * 4 + 2, none⟩ = some c ∧ w'.cell? ⟨T, i * 4 + 3, none⟩ = some d ∧
      (∀ j r : Nat, j ≠ i → r < 4 → w'.cell? ⟨T, j * 4 + r, none⟩ = w.cell? ⟨T, j * 4 + r, none⟩) := by
  refine ⟨_, rfl, ((((But.refl _ w).here _ _).here _ _).here _ _).here _ _, ?_, ?_, ?_, ?_, fun j r hj hr => ?_⟩
  · simp [cell_set, h0]
  · simp [cell_set, h1]
  · simp [cell_set, h2]
  · simp [cell_set, h3]
  · have e0 : ¬ (i * 4 = j * 4 + r) := by omega
    have e1 : ¬ (i * 4 + 1 = j * 4 + r) := by omega
    have e2 : ¬ (i * 4 + 2 = j * 4 + r) := by omega
    have e3 : ¬ (i * 4 + 3 = j * 4 + r) := by omega
    rw [cell_set, if_neg e3, cell_set, if_neg e2, cell_set, if_neg e1, cell_set, if_neg e0]
theorem mineT {F G T : Nat} {dv : Value} {w w' : World} (h : But (fun k => k = T) w w') : But (MineP F G T dv) w w' := h.mono fun _ _ e => .inr (.inr (.inl e))
theorem own_but {S : Nat → Prop} {w w' : World} {base : Nat} {v : Value} {l : List Dd} (h : OwnD w base v l) (k : But S w w') (hS : ∀ g, v.ownBlock = some g → ¬ S g) : OwnD w' base v l :=
  own_same h fun g hg => k.block g (h.lt g hg).2 (hS g hg)

theorem begin_free {w : World} {F G T : Nat} {dv : Value} {base n m : Nat} {s : St} (h : PF w F G T dv base n m s) (i : Nat) (hi : i < n) (ho : s.on i = false) (x : Int) :
    Calls Try.prog 10 #[.pointer (some ⟨F, 0, none⟩), .int .i64 i, .int .i64 x] w fun e w' => e = .returned (.int .i64 0) ∧ But (MineP F G T dv) w w' ∧ PF w' F G T dv base n (m + 1) (s.begin i x) := by
  have c3 := h.c3 i hi
  rw [ho] at c3
  have H := Lib.hid h
  clear h
  go_enter Try.func10, Try.ntmps10
  go_wp2_with fail; refine (core_in H.out i hi).mono ?_; rintro e w1 ⟨rfl, k1⟩
  have d3 := k1.some c3
  have H1 := Lib.hid (H.out.kept k1)
  have d0 := H1.out.c0 i hi
  have d1 := H1.out.c1 i hi
  have d2 := H1.out.c2 i hi
  have f0 := H1.out.softT (i * 4)
  have f1 := H1.out.softT (i * 4 + 1)
  have f2 := H1.out.softT (i * 4 + 2)
  have f3 := H1.out.softT (i * 4 + 3)
  go_wp2_with fail; refine (isBusy_slot d3).mono ?_; rintro e w2 ⟨rfl, rfl⟩
  go_wp2
  go_ret
  obtain ⟨w3, e3, b3, x0, x1, x2, x3, xs⟩ := slot4 (.int .i64 i) (.int .i64 x) (.int .i64 0) (.bool true) d0 d1 d2 d3
  have h1 := H1.out
  rw [e3]
  refine ⟨rfl, (k1.but _).trans (mineT b3) (fun _ _ h => h), ?_⟩
  exact h1.put i true x 0 s.D s.all (h1.fine.begin i x (by omega) (by omega)) (mineT b3) (b3.some h1.ptr h1.ft) (b3.some h1.tab h1.gt) (b3.some h1.dee h1.gt) (b3.some h1.all h1.gt) x0 x1 x2 x3 xs
    (own_but h1.own b3 (fun g hg e => h1.dt (e ▸ hg))) (fun _ h => .inl h)

theorem begin_busy {w : World} {F G T : Nat} {dv : Value} {base n m : Nat} {s : St} (h : PF w F G T dv base n m s) (i : Nat) (hi : i < n) (ho : s.on i = true) (x : Int) :
    Calls Try.prog 10 #[.pointer (some ⟨F, 0, none⟩), .int .i64 i, .int .i64 x] w fun e w' => e = .returned (.int .i64 14) ∧ Kept w w' := by
  have c3 := h.c3 i hi
  rw [ho] at c3
  have H := Lib.hid h
  clear h
  go_enter Try.func10, Try.ntmps10
  go_wp2_with fail; refine (core_in H.out i hi).mono ?_; rintro e w1 ⟨rfl, k1⟩
  have d3 := k1.some c3
  go_wp2_with fail; refine (isBusy_slot d3).mono ?_; rintro e w2 ⟨rfl, rfl⟩
  go_wp2
  go_ret
  exact ⟨rfl, k1⟩
theorem begin_out {w : World} {F G T : Nat} {dv : Value} {base n m : Nat} {s : St} (h : PF w F G T dv base n m s) (c : Int) (hc : ¬ (0 ≤ c ∧ c < n)) (x : Int) :
    Calls Try.prog 10 #[.pointer (some ⟨F, 0, none⟩), .int .i64 c, .int .i64 x] w fun e w' => e = .returned (.int .i64 3) ∧ Kept w w' := by
  have H := Lib.hid h
  clear h
  go_enter Try.func10, Try.ntmps10
  go_wp2_with fail; refine (core_out H.out c hc).mono ?_; rintro e w1 ⟨rfl, k1⟩
  go_wp2
  go_ret
  exact ⟨rfl, k1⟩
theorem begin_none {w : World} {p : Option Addr} (h : NobF w p) (c x : Int) :
    Calls Try.prog 10 #[.pointer p, .int .i64 c, .int .i64 x] w fun e w' => e = .returned (.int .i64 1) ∧ w' = w := by
  have H := Lib.hid h
  clear h
  go_enter Try.func10, Try.ntmps10
  go_wp2_with fail; refine (core_none H.out c).mono ?_; rintro e w1 ⟨rfl, rfl⟩
  go_wp2
  go_ret
  exact ⟨rfl, rfl⟩
theorem begin_any {w : World} {F G T : Nat} {dv : Value} {base n m : Nat} {s : St} (h : PF w F G T dv base n m s) (c x : Int) :
    Calls Try.prog 10 #[.pointer (some ⟨F, 0, none⟩), .int .i64 c, .int .i64 x] w fun e w' => e = .returned (.int .i64 (bErr s n c)) ∧ But (MineP F G T dv) w w' ∧ PF w' F G T dv base n (m + 1) (bSt s n c x) := by
  by_cases h0 : 0 ≤ c ∧ c < n
  · obtain ⟨i, rfl⟩ := Int.eq_ofNat_of_zero_le h0.1
    cases ho : s.on i with
    | true =>
      have e1 : bErr s n i = 14 := by simp [bErr, h0, ho]
      have e2 : bSt s n i x = s := by simp [bSt, ho]
      rw [e1, e2]
      exact (begin_busy h i (by omega) ho x).mono fun e w' ⟨he, hk⟩ => ⟨he, hk.but _, (h.kept hk).mono (Nat.le_succ _)⟩
    | false =>
      have e1 : bErr s n i = 0 := by simp [bErr, h0, ho]
      have e2 : bSt s n i x = s.begin i x := by simp [bSt, ho, h0]
      rw [e1, e2]
      exact begin_free h i (by omega) ho x
  · have e1 : bErr s n c = 3 := by simp [bErr, h0]
    have e2 : bSt s n c x = s := by
      unfold bSt
      rw [if_neg (fun hh => h0 ⟨hh.1, hh.2.1⟩)]
    rw [e1, e2]
    exact (begin_out h c h0 x).mono fun e w' ⟨he, hk⟩ => ⟨he, hk.but _, (h.kept hk).mono (Nat.le_succ _)⟩

theorem step_on {w : World} {F G T : Nat} {dv : Value} {base n m : Nat} {s : St} (h : PF w F G T dv base n m s) (hm : m ≤ 1000) (i : Nat) (hi : i < n) (ho : s.on i = true) :
    Calls Try.prog 12 #[.pointer (some ⟨F, 0, none⟩), .int .i64 i] w fun e w' => e = .returned (.int .i64 0) ∧ But (MineP F G T dv) w w' ∧ PF w' F G T dv base n (m + 1) (s.step i) := by
  have H := Lib.hid h
  clear h
  go_enter Try.func12, Try.ntmps12
  go_wp2_with fail; refine (within_on H.out i hi ho).mono ?_; rintro e w1 ⟨rfl, k1⟩
  have H1 := Lib.hid (H.out.kept k1)
  have c0 := H1.out.ptr
  have c1 := H1.out.all
  have d2 := H1.out.c2 i hi
  have f2 := H1.out.softT (i * 4 + 2)
  have g2 := H1.out.softG 2
  have gt := H1.out.gt
  have ft := H1.out.ft
  have gt' := gt.symm
  have ft' := ft.symm
  have a0 := H1.out.fine.st0 i
  have a1 := H1.out.fine.stm i
  have a2 := H1.out.fine.am
  go_wp2
  go_ret
  have h1 := H1.out
  obtain ⟨w3, hw3⟩ : ∃ w3, w3 = (w1.setCell ⟨T, i * 4 + 2, none⟩ (.int .i64 (s.steps i + 1))).setCell ⟨G, 2, none⟩ (.int .i64 (s.all + 1)) := ⟨_, rfl⟩
  have hb : But (fun k => k = T ∨ k = G) w1 w3 := by
    rw [hw3]
    exact ((But.refl _ w1).setCell (p := ⟨T, i * 4 + 2, none⟩) (.inl (.inl rfl)) _).setCell (p := ⟨G, 2, none⟩) (.inl (.inr rfl)) _
  have hT : ∀ o, w3.cell? ⟨T, o, none⟩ = if i * 4 + 2 = o then some (.int .i64 (s.steps i + 1)) else w1.cell? ⟨T, o, none⟩ := by
    intro o
    rw [hw3, cell_set_far _ _ _ _ _ _ gt, cell_set]
    split
    · rename_i e; rw [← e, d2]; rfl
    · rfl
  have hG : ∀ o, o ≠ 2 → w3.cell? ⟨G, o, none⟩ = w1.cell? ⟨G, o, none⟩ := by
    intro o ho
    rw [hw3, cell_set, if_neg (fun e => ho e.symm), cell_set_far _ _ _ _ _ _ gt']
  have hm2 : But (MineP F G T dv) w1 w3 := hb.mono fun _ _ e => e.elim (fun e => .inr (.inr (.inl e))) (fun e => .inr (.inl e))
  rw [← hw3]
  refine ⟨rfl, (k1.but _).trans hm2 (fun _ _ h => h), ?_⟩
  refine h1.put i true (s.what i) (s.steps i + 1) s.D (s.all + 1) (h1.fine.step i ho) hm2 ?_ ((hG 0 (by decide)).trans h1.tab) ((hG 1 (by decide)).trans h1.dee) ?_ ?_ ?_ ?_ ?_ (fun j r hj hr => ?_) (own_but h1.own hb (fun g hg e => e.elim (fun e => h1.dt (e ▸ hg)) (fun e => h1.dg (e ▸ hg)))) (fun _ h => .inl h)
  · exact hb.some h1.ptr (fun e => e.elim ft h1.fg)
  · rw [hw3, cell_set, if_pos rfl, cell_set_far _ _ _ _ _ _ gt', c1]; rfl
  · rw [hT, if_neg (by omega)]; have := h1.c0 i hi; rw [ho] at this; exact this
  · rw [hT, if_neg (by omega)]; exact h1.c1 i hi
  · rw [hT, if_pos rfl]
  · rw [hT, if_neg (by omega)]; have := h1.c3 i hi; rw [ho] at this; exact this
  · rw [hT, if_neg (by omega)]

theorem step_any {w : World} {F G T : Nat} {dv : Value} {base n m : Nat} {s : St} (h : PF w F G T dv base n m s) (hm : m ≤ 1000) (c : Int) :
    Calls Try.prog 12 #[.pointer (some ⟨F, 0, none⟩), .int .i64 c] w fun e w' => e = .returned (.int .i64 (sErr s n c)) ∧ But (MineP F G T dv) w w' ∧ PF w' F G T dv base n (m + 1) (sSt s c) := by
  cases ho : s.on c with
  | true =>
    obtain ⟨h0, h1⟩ := h.fine.inn c ho
    obtain ⟨i, rfl⟩ := Int.eq_ofNat_of_zero_le h0
    rw [sErr_on h.fine ho]
    have e2 : sSt s i = s.step i := by simp [sSt, ho]
    rw [e2]
    exact step_on h hm i (by omega) ho
  | false =>
    have e2 : sSt s c = s := by simp [sSt, ho]
    rw [e2]
    have H := Lib.hid h
    have HE := Lib.hid (sErr_not (n := n) ho)
    have K : ∀ w' : World, Kept w w' → PF w' F G T dv base n (m + 1) s := fun _ hk => (H.out.kept hk).mono (Nat.le_succ _)
    have KK := Lib.hid K
    clear h e2 K
    rcases HE.out with he | he
    · go_enter Try.func12, Try.ntmps12
      go_wp2_with fail; refine (within_not H.out c ho).mono ?_; rintro e w1 ⟨rfl, k1⟩
      rw [he]
      go_wp2
      go_ret
      exact ⟨by rw [he]; rfl, k1.but _, KK.out _ k1⟩
    · go_enter Try.func12, Try.ntmps12
      go_wp2_with fail; refine (within_not H.out c ho).mono ?_; rintro e w1 ⟨rfl, k1⟩
      rw [he]
      go_wp2
      go_ret
      exact ⟨by rw [he]; rfl, k1.but _, KK.out _ k1⟩
theorem step_none {w : World} {p : Option Addr} (h : NobF w p) (c : Int) :
    Calls Try.prog 12 #[.pointer p, .int .i64 c] w fun e w' => e = .returned (.int .i64 1) ∧ w' = w := by
  have H := Lib.hid h
  clear h
  go_enter Try.func12, Try.ntmps12
  go_wp2_with fail; refine (within_none H.out c).mono ?_; rintro e w1 ⟨rfl, rfl⟩
  go_wp2
  go_ret
  exact ⟨rfl, rfl⟩
end Go.Proofs.Ytdgajkimepgljaa
