/- The program's Next and Answer. -/
import Derived.Test.YteomggjkdaddhaaHeOutc
namespace Go.Proofs.Yteomggjkdaddhaa
open Go.RowKit

theorem find_at {α : Type} {p : α → Bool} {l : List α} {k : Nat} {x : α} (hx : l[k]? = some x) (hp : p x = true) (hb : ∀ j y, j < k → l[j]? = some y → p y = false) : l.find? p = some x := by
  induction l generalizing k with
  | nil => simp at hx
  | cons y l ih =>
    rw [find_cons]
    cases k with
    | zero => simp at hx; subst hx; rw [if_pos hp]
    | succ k =>
      rw [if_neg (by rw [hb 0 y (by omega) rfl]; decide)]
      exact ih (by simpa using hx) fun j z hj hz => hb (j + 1) z (by omega) (by simpa using hz)
theorem find_no {α : Type} {p : α → Bool} {l : List α} (hb : ∀ (j : Nat) (y : α), l[j]? = some y → p y = false) : l.find? p = none := by
  induction l with
  | nil => rfl
  | cons y l ih =>
    rw [find_cons, if_neg (by rw [hb 0 y rfl]; decide)]
    exact ih fun j z hz => hb (j + 1) z (by simpa using hz)

/-- A new list and a bool are told: what a set is behind it, or nothing. -/
def RetN (w : World) (p : Option (List It)) (e : Ending) (w' : World) : Prop :=
  ∃ a c, e = .returned (.tuple #[.slice a (p.getD []).length c, .bool p.isSome]) ∧ Kept w w' ∧ OwnI w' w.heap.size (.slice a (p.getD []).length c) (p.getD [])
def NxRel (W : World) (M : List Oc) (x : Ann) (n : Nat) (i : Value) (wr : World) : Prop := ∃ k : Nat, k ≤ n ∧ i = .int .i64 k ∧ (∀ j m, j < k → M[j]? = some m → m.an ≠ x) ∧ Kept W wr
theorem RetN.some {w w' w1 : World} {p : Option (List It)} {l : List It} {a : Option Addr} {c n : Nat} (hp : p = some l) (hn : n = l.length) (k : Kept w w1) (k1 : Kept w1 w') (o : w'.ownsRow w1.heap.size 45 2 (.slice a n c) n (flatI l)) :
    RetN w p (.returned (.tuple #[.slice a n c, .bool true])) w' := by
  subst hp; subst hn
  exact ⟨a, c, rfl, k.trans k1, own_mono o k.size⟩
theorem RetN.none {w w' : World} {p : Option (List It)} (hp : p = Option.none) (k : Kept w w') : RetN w p (.returned (.tuple #[.slice Option.none 0 0, .bool false])) w' := by
  subst hp
  exact ⟨Option.none, 0, rfl, k, World.ownsRow_nil _ _ _ _⟩

set_option maxRecDepth 100000 in
set_option maxHeartbeats 4000000 in
theorem next_any {w : World} {a : Option Addr} {c n : Nat} {l : List It} (o : Opn) (x : Ann) (h : Lay w (.slice a n c) n (flatI l)) (hn : n = l.length) :
    Calls Try.prog 11 #[.slice a n c, .agg #[.int .i64 o.k, .int .i64 o.a, .int .i64 o.b, .int .u64 o.u], .agg #[.int .i64 x.e, .int .i64 x.n, .int .u64 x.v]] w (RetN w (nextS l o x)) := by
  obtain ⟨W0, hW0⟩ : ∃ W0, ((w.alloc (.cells #[.int .i64 o.k, .int .i64 o.a, .int .i64 o.b, .int .u64 o.u] 25)).alloc (.cells #[.int .i64 x.e, .int .i64 x.n, .int .u64 x.v] 28)) = W0 := ⟨_, rfl⟩
  have OB := Lib.hid (show OpBox W0 w.heap.size o by rw [← hW0]; exact (OpBox.new w o _ _ rfl).kept ((Kept.refl _).alloc _ _))
  have AB := Lib.hid (show AnBox W0 (w.heap.size + 1) x by rw [← hW0]; exact AnBox.new _ x _ _ (by simp))
  have k0 : Kept w W0 := by rw [← hW0]; exact ((Kept.refl w).alloc _ _).alloc _ _
  have OU := Lib.hid (outcomes_any o (h.kept k0) hn)
  have K0 := Lib.hid k0
  have HW := Lib.hid hW0
  obtain ⟨p, hp⟩ : ∃ p, nextS l o x = p := ⟨_, rfl⟩
  have HP := Lib.hid hp
  rw [hp]
  have OF := Lib.hid (fun m (hm : m ∈ outs l o) => outs_few m hm)
  obtain ⟨OL, hOL⟩ : ∃ OL, outs l o = OL := ⟨_, rfl⟩
  have HOL := Lib.hid hOL
  rw [hOL] at OU OF
  obtain ⟨p0, p1, p2, p3⟩ := OB.out
  clear h hn hW0 k0 hp hOL
  go_enter Try.func11, Try.ntmps11
  go_upto_region 1 with fail
  rw [HW.out]
  go_wp2_with fail; refine OU.out.mono ?_; rintro e w1 ⟨M, a1, c1, rfl, k1, hm, hl, hs⟩
  obtain ⟨N, hN⟩ : ∃ N, M.length = N := ⟨_, rfl⟩
  have HM := Lib.hid hm
  have HS := Lib.hid hs
  have HN := Lib.hid hN
  have K1 := Lib.hid k1
  obtain ⟨a1', c1', e, _, hcm⟩ := hl.form
  cases e
  unfold maxLen at hcm
  have CE := Lib.hid (fun i m (W : World) (k : Kept w1 W) (hi : M[i]? = some m) => show ∃ g of, a1 = some ⟨g, of, none⟩ ∧ OcAt W g (of + i * 4) m by
    have hl' := hl.kept k
    have := (List.getElem?_eq_some_iff.1 hi).1
    obtain ⟨g, of, c', e, _, _, hc⟩ := hl'.oc (by omega)
    cases e
    exact ⟨g, of, rfl, hc i m hi⟩)
  have hNc : N ≤ c1 := by rename_i hx; omega
  rw [hN]
  clear k1 hm hl hs hN p0 p1 p2 p3
  go_wp2
  go_loopw [14] (fun i wr => NxRel w1 M x N i wr) (fun i _ => N - (intOf i).toNat)
  case atStart => exact ⟨0, Nat.zero_le _, rfl, fun j m hj => by omega, Kept.refl _⟩
  case round =>
    obtain ⟨k, hkn, rfl, hlo, hk⟩ := hrel
    have LO := Lib.hid hlo
    have KE := Lib.hid hk
    clear hlo hk
    by_cases hlt : k < N
    · obtain ⟨m, hm⟩ : ∃ m, M[k]? = some m := ⟨_, List.getElem?_eq_getElem (by have := HN.out; omega)⟩
      obtain ⟨g, of, rfl, c0, c1', c2, c3⟩ := CE.out k m wr KE.out hm
      have MM := Lib.hid hm
      have gl := lt_of_cell c0
      obtain ⟨x0, x1, x2, _⟩ := AB.out.kept (K1.out.trans KE.out)
      have xl := lt_of_cell x0
      have EQ := ann_eql m.an x
      clear hm
      by_cases he : m.an = x
      · rw [decide_eq_true he] at EQ
        have HE := Lib.hid he
        have HF := Lib.hid (show p = some m.l by
          rw [← HP.out]; unfold nextS; rw [HOL.out, ← HM.out]
          rw [find_at (k := k) (x := m.two) (by rw [List.getElem?_map, MM.out]; rfl) (decide_eq_true (p := m.two.1 = x) he) (fun j y hj hy => by
            rw [List.getElem?_map] at hy
            cases hj' : M[j]? with
            | none => rw [hj'] at hy; cases hy
            | some m' =>
              rw [hj'] at hy
              simp at hy
              subst hy
              exact decide_eq_false (p := m'.two.1 = x) (LO.out j m' hj hj'))]
          rfl)
        have hmem : m ∈ M := List.mem_of_getElem? MM.out
        have hfew : m.l.length ≤ 1024 := OF.out m.two (by rw [← HM.out]; exact List.mem_map_of_mem hmem)
        have FR := Lib.hid (fun W (k : Kept w1 W) => fresh_n ((HS.out m hmem).kept k) rfl (by omega))
        obtain ⟨q, hq⟩ : ∃ q, q = m.l.length := ⟨_, rfl⟩
        have HQ := Lib.hid hq
        rw [← hq] at FR c3
        clear he hmem hfew hq
        go_wp2_with fail; refine (FR.out _ (KE.out.alloc _ _)).mono ?_; rintro e w2 ⟨a2, c2, rfl, k2, own2⟩
        go_wp2
        go_ret2
        exact RetN.some HF.out HQ.out (((K0.out.trans K1.out).trans KE.out).alloc _ _) k2 own2
      · rw [decide_eq_false he] at EQ
        have HE := Lib.hid he
        clear he
        go_wp2
        go_roundw
        case rel => exact ⟨k + 1, by omega, by go_num, fun j m' hj hm' => by
          by_cases e : j = k
          · subst e; have h1 := MM.out; rw [hm'] at h1; cases h1; exact HE.out
          · exact LO.out j m' (by omega) hm', KE.out.alloc _ _⟩
        case measure => simp [intOf]; omega
    · have HF := Lib.hid (show p = none by
        rw [← HP.out]; unfold nextS; rw [HOL.out, ← HM.out]
        rw [find_no (fun j y hy => by
          rw [List.getElem?_map] at hy
          cases hj' : M[j]? with
          | none => rw [hj'] at hy; cases hy
          | some m' =>
            rw [hj'] at hy
            simp at hy
            subst hy
            exact decide_eq_false (p := m'.two.1 = x) (LO.out j m' (by have := (List.getElem?_eq_some_iff.1 hj').1; have := HN.out; omega) hj'))]
        rfl)
      go_wp2
      go_ret2
      exact RetN.none HF.out ((K0.out.trans K1.out).trans KE.out)

/-- An answer and a bool are told. -/
def RetA (w : World) (p : Option Ann) (e : Ending) (w' : World) : Prop :=
  e = .returned (.tuple #[.agg #[.int .i64 (p.getD noAnn).e, .int .i64 (p.getD noAnn).n, .int .u64 (p.getD noAnn).v], .bool p.isSome]) ∧ Kept w w'
theorem RetA.some {w w' : World} {p : Option Ann} {x : Ann} (hp : p = Option.some x) (k : Kept w w') : RetA w p (.returned (.tuple #[.agg #[.int .i64 x.e, .int .i64 x.n, .int .u64 x.v], .bool true])) w' := by
  subst hp; exact ⟨rfl, k⟩
theorem RetA.none {w w' : World} {p : Option Ann} (hp : p = Option.none) (k : Kept w w') : RetA w p (.returned (.tuple #[.agg #[.int .i64 noAnn.e, .int .i64 noAnn.n, .int .u64 noAnn.v], .bool false])) w' := by
  subst hp; exact ⟨rfl, k⟩
theorem refused_at {x : Ann} {y : Bool} (h : refd x = y) (s : Value) (w : World) : Calls Try.prog 30 #[.agg #[.int .i64 x.e, .int .i64 x.n, .int .u64 x.v, s]] w fun e w' => e = .returned (.bool y) ∧ Kept w w' := by
  subst h; exact refused_any x s w
def AwRel (W : World) (M : List Oc) (n : Nat) (i : Value) (wr : World) : Prop := ∃ k : Nat, k ≤ n ∧ i = .int .i64 k ∧ (∀ j m, j < k → M[j]? = some m → refd m.an = true) ∧ Kept W wr

set_option maxRecDepth 100000 in
set_option maxHeartbeats 4000000 in
theorem answer_any {w : World} {a : Option Addr} {c n : Nat} {l : List It} (o : Opn) (h : Lay w (.slice a n c) n (flatI l)) (hn : n = l.length) :
    Calls Try.prog 13 #[.slice a n c, .agg #[.int .i64 o.k, .int .i64 o.a, .int .i64 o.b, .int .u64 o.u]] w (RetA w (tellS l o)) := by
  obtain ⟨W0, hW0⟩ : ∃ W0, ((w.alloc (.cells #[.int .i64 o.k, .int .i64 o.a, .int .i64 o.b, .int .u64 o.u] 25)).alloc (.cells #[.int .i64 0, .int .i64 0, .int .u64 0] 28)) = W0 := ⟨_, rfl⟩
  have OB := Lib.hid (show OpBox W0 w.heap.size o by rw [← hW0]; exact (OpBox.new w o _ _ rfl).kept ((Kept.refl _).alloc _ _))
  have AB := Lib.hid (show AnBox W0 (w.heap.size + 1) noAnn by rw [← hW0]; exact AnBox.new _ noAnn _ _ (by simp))
  have k0 : Kept w W0 := by rw [← hW0]; exact ((Kept.refl w).alloc _ _).alloc _ _
  have OU := Lib.hid (outcomes_any o (h.kept k0) hn)
  have K0 := Lib.hid k0
  have HW := Lib.hid hW0
  obtain ⟨p, hp⟩ : ∃ p, tellS l o = p := ⟨_, rfl⟩
  have HP := Lib.hid hp
  rw [hp]
  obtain ⟨OL, hOL⟩ : ∃ OL, outs l o = OL := ⟨_, rfl⟩
  have HOL := Lib.hid hOL
  rw [hOL] at OU
  obtain ⟨p0, p1, p2, p3⟩ := OB.out
  clear h hn hW0 k0 hp hOL
  go_enter Try.func13, Try.ntmps13
  go_upto_region 1 with fail
  rw [HW.out]
  go_wp2_with fail; refine OU.out.mono ?_; rintro e w1 ⟨M, a1, c1, rfl, k1, hm, hl, hs⟩
  obtain ⟨N, hN⟩ : ∃ N, M.length = N := ⟨_, rfl⟩
  have HM := Lib.hid hm
  have HN := Lib.hid hN
  have K1 := Lib.hid k1
  obtain ⟨a1', c1', e, hnc, hcm⟩ := hl.form
  cases e
  unfold maxLen at hcm
  have CE := Lib.hid (fun i m (W : World) (k : Kept w1 W) (hi : M[i]? = some m) => show ∃ g of, a1 = some ⟨g, of, none⟩ ∧ OcAt W g (of + i * 4) m by
    have hl' := hl.kept k
    have := (List.getElem?_eq_some_iff.1 hi).1
    obtain ⟨g, of, c', e, _, _, hc⟩ := hl'.oc (by omega)
    cases e
    exact ⟨g, of, rfl, hc i m hi⟩)
  rw [hN] at hnc ⊢
  clear k1 hm hl hs hN p0 p1 p2 p3
  go_wp2
  go_loopw [12] (fun i wr => AwRel w1 M N i wr) (fun i _ => N - (intOf i).toNat)
  case atStart => exact ⟨0, Nat.zero_le _, rfl, fun j m hj => by omega, Kept.refl _⟩
  case round =>
    obtain ⟨k, hkn, rfl, hlo, hk⟩ := hrel
    have LO := Lib.hid hlo
    have KE := Lib.hid hk
    clear hlo hk
    by_cases hlt : k < N
    · obtain ⟨m, hm⟩ : ∃ m, M[k]? = some m := ⟨_, List.getElem?_eq_getElem (by have := HN.out; omega)⟩
      obtain ⟨g, of, rfl, c0, c1', c2, c3⟩ := CE.out k m wr KE.out hm
      have MM := Lib.hid hm
      have gl := lt_of_cell c0
      obtain ⟨q, hq⟩ : ∃ q, m.l.length = q := ⟨_, rfl⟩
      rw [hq] at c3
      clear hm hq
      obtain ⟨W4, hW4⟩ : ∃ W4, wr.alloc (.cells #[.int .i64 m.an.e, .int .i64 m.an.n, .int .u64 m.an.v, .slice m.at_ q m.cap] 54) = W4 := ⟨_, rfl⟩
      have k4 : Kept wr W4 := by rw [← hW4]; exact (Kept.refl wr).alloc _ _
      have q0 : W4.cell? ⟨wr.heap.size, 0, none⟩ = some (.int .i64 m.an.e) := by rw [← hW4]; exact cell_new _ _ _ _ 0 rfl
      have q1 : W4.cell? ⟨wr.heap.size, 1, none⟩ = some (.int .i64 m.an.n) := by rw [← hW4]; exact cell_new _ _ _ _ 1 rfl
      have q2 : W4.cell? ⟨wr.heap.size, 2, none⟩ = some (.int .u64 m.an.v) := by rw [← hW4]; exact cell_new _ _ _ _ 2 rfl
      have q3 : W4.cell? ⟨wr.heap.size, 3, none⟩ = some (.slice m.at_ q m.cap) := by rw [← hW4]; exact cell_new _ _ _ _ 3 rfl
      have QQ := Lib.hid (And.intro q0 (And.intro q1 q2))
      have HW4 := Lib.hid hW4
      have K4 := Lib.hid (KE.out.trans k4)
      clear hW4 k4
      by_cases he : refd m.an = true
      · have RF := Lib.hid (fun W => refused_at he (.slice m.at_ q m.cap) W)
        have HE := Lib.hid he
        clear he
        go_upto_region 4 with fail
        rw [HW4.out]
        go_wp2_with fail; refine (RF.out _).mono ?_; rintro e w2 ⟨rfl, k2⟩
        have K2 := Lib.hid (K4.out.trans k2)
        clear k2
        go_wp2
        go_roundw
        case rel => exact ⟨k + 1, by omega, by go_num, fun j m' hj hm' => by
          by_cases e : j = k
          · subst e; have h1 := MM.out; rw [hm'] at h1; cases h1; exact HE.out
          · exact LO.out j m' (by omega) hm', K2.out⟩
        case measure => simp [intOf]; omega
      · have he' : refd m.an = false := by simpa using he
        have RF := Lib.hid (fun W => refused_at he' (.slice m.at_ q m.cap) W)
        have HF := Lib.hid (show p = some m.an by
          rw [← HP.out]; unfold tellS; rw [HOL.out, ← HM.out]
          rw [find_at (k := k) (x := m.two) (by rw [List.getElem?_map, MM.out]; rfl) (show (!refd m.two.1) = true by show (!refd m.an) = true; rw [he']; rfl) (fun j y hj hy => by
            rw [List.getElem?_map] at hy
            cases hj' : M[j]? with
            | none => rw [hj'] at hy; cases hy
            | some m' =>
              rw [hj'] at hy
              simp at hy
              subst hy
              show (!refd m'.an) = false
              rw [LO.out j m' hj hj']; rfl)]
          rfl)
        clear he he'
        go_upto_region 4 with fail
        rw [HW4.out]
        go_wp2_with fail; refine (RF.out _).mono ?_; rintro e w2 ⟨rfl, k2⟩
        have A2 := Lib.hid (AB.out.kept ((K1.out.trans K4.out).trans k2))
        obtain ⟨z0, z1, z2, s⟩ := A2.out
        have s0 := s 0
        have s1 := s 1
        have s2 := s 2
        have r0 := k2.some q0
        have r1 := k2.some q1
        have r2 := k2.some q2
        have K2 := Lib.hid (K4.out.trans k2)
        clear k2 s q0 q1 q2 q3
        go_wp2
        exact bodyPost_ret (ans_result Try.results13 rfl rfl (A2.out.put m.an)) rfl (RetA.some HF.out (((K0.out.trans K1.out).trans K2.out).wrote1 ((((But.refl _ _).here _ _).here _ _).here _ _) (by omega)))
    · have HF := Lib.hid (show p = none by
        rw [← HP.out]; unfold tellS; rw [HOL.out, ← HM.out]
        rw [find_no (fun j y hy => by
          rw [List.getElem?_map] at hy
          cases hj' : M[j]? with
          | none => rw [hj'] at hy; cases hy
          | some m' =>
            rw [hj'] at hy
            simp at hy
            subst hy
            show (!refd m'.an) = false
            rw [LO.out j m' (by have := (List.getElem?_eq_some_iff.1 hj').1; have := HN.out; omega) hj']; rfl)]
        rfl)
      have A2 := Lib.hid (AB.out.kept (K1.out.trans KE.out))
      obtain ⟨z0, z1, z2, s⟩ := A2.out
      have s0 := s 0
      have s1 := s 1
      have s2 := s 2
      clear s
      go_wp2
      exact bodyPost_ret (ans_result Try.results13 rfl rfl (A2.out.put noAnn)) rfl (RetA.none HF.out (((K0.out.trans K1.out).trans KE.out).wrote1 ((((But.refl _ _).here _ _).here _ _).here _ _) (by omega)))
end Go.Proofs.Yteomggjkdaddhaa
