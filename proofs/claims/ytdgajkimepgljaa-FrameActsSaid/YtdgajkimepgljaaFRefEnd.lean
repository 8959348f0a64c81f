/- The document's frame: End. -/
import Derived.Test.YtdgajkimepgljaaFRefOps
import Derived.Deep.RegionLaw
import Derived.Deep.DeepCutAuto
import Derived.Deep.CutBlock
namespace Go.Proofs.Ytdgajkimepgljaa
open Go.RowKit

/-- Behind the first append: the deed is the last one. -/
def RMid (w1 : World) (R base : Nat) (dv : Value) (l : List Dd) (t : Int) (d : Value) (wr : World) : Prop :=
  d = .int .i64 t ∧ ∃ v', OwnD wr base v' l ∧ But (fun k => dv.ownBlock = some k ∨ k = R) w1 wr ∧ wr.cell? ⟨R, 2, none⟩ = some v' ∧
    (∀ o, o ≠ 2 → wr.cell? ⟨R, o, none⟩ = w1.cell? ⟨R, o, none⟩) ∧ ∀ g, v'.ownBlock = some g → dv.ownBlock = some g ∨ w1.heap.size ≤ g
theorem RMid.mk {w1 w2 : World} {R base : Nat} {dv v' : Value} {l : List Dd} {t : Int} (own2 : OwnD w2 base v' l) (q2 : But (fun k => dv.ownBlock = some k) w1 w2) (c : w2.cell? ⟨R, 2, none⟩ = some dv) (hR : dv.ownBlock ≠ some R) (hlt : R < w1.heap.size)
    (hat : v'.ownBlock = dv.ownBlock ∨ ∃ N, v'.ownBlock = some N ∧ w1.heap.size ≤ N) : RMid w1 R base dv l t (.int .i64 t) (w2.setCell ⟨R, 2, none⟩ v') := by
  have hn : ∀ g, v'.ownBlock = some g → dv.ownBlock = some g ∨ w1.heap.size ≤ g := by
    intro g hg
    rcases hat with h | ⟨N, h, hN⟩
    · exact .inl (h ▸ hg)
    · rw [h] at hg; cases hg; exact .inr hN
  refine ⟨rfl, v', own_but own2 ((But.refl (fun k => k = R) w2).here 2 v') (fun g hg e => ?_), (q2.mono fun _ _ h => .inl h).setCell (p := ⟨R, 2, none⟩) (.inl (.inr rfl)) _, ?_, fun o ho => ?_, hn⟩
  · subst e
    rcases hn g hg with h | h
    · exact hR h
    · omega
  · rw [World.cell?_setCell_same _ _ _ c]
  · rw [cell_set, if_neg (fun e => ho e.symm)]
    exact q2.cell R o hlt hR

/-- A list of the call's own that is empty. -/
theorem own_empty {w w' : World} {e : TypeId} (k : Kept (w.alloc (.cells #[] e)) w') : w'.ownsRow w.heap.size e 3 (.slice (some ⟨w.heap.size, 0, none⟩) 0 0) 0 [] :=
  own_same (World.ownsRow_made w #[] 0 (Nat.le_refl _) (by decide) rfl) fun g hg => k.below.block g (by simp [Value.ownBlock] at hg; subst hg; simp)

set_option maxHeartbeats 8000000 in
theorem refEnd_on {w : World} {R : Nat} {lv dv : Value} {base n m : Nat} {s : St} (h : RF w R lv dv base n m s) (hbase : base ≤ w.heap.size) (hm : m ≤ 1000) (i : Nat) (hi : i < n) (ho : s.on i = true) :
    Calls Try.prog 15 #[.pointer (some ⟨R, 0, none⟩), .int .i64 i] w fun e w' => e = .returned (.int .i64 0) ∧ RWent w w' R lv dv base n (m + 1) (s.fin i) := by
  have c1 := h.lst
  have c2 := h.dee
  have f1 := h.soft 1
  have f2 := h.soft 2
  have RL := h.lt R (.inl rfl)
  have hl := Lf_length h.fine
  have il := idx_lt s n i hi ho
  have dm := h.fine.dm
  obtain ⟨a, c, hv⟩ := own_form h.ownD
  subst hv
  have nR := h.dr
  obtain ⟨g, o, cL, hv, p1, p2, hc⟩ := (own_lies h.ownL).deed (by omega)
  subst hv
  obtain ⟨x0, x1, x2⟩ := hc _ _ (Lf_at s n i hi ho)
  simp only [ent] at x0 x1 x2
  have ng := h.ld g rfl
  have gl := h.lt g (.inr (.inl rfl))
  have H := Lib.hid h
  have OW := Lib.hid h.ownD
  obtain ⟨i0, hi0, hz0, hz1, hz2⟩ := info_parts infoDeed
  clear h hc
  go_enter Try.func15, Try.ntmps15
  go_wp2_with fail; refine (refAt_on H.out i hi ho).mono ?_; rintro e w1 ⟨rfl, rfl⟩
  go_upto_region 3 with fail
  go_cut [5] (RMid w1 R base (.slice a s.D.length c) (s.D ++ [((i : Int), s.what i, s.steps i)]) (idx s i))
  case first =>
    go_upto_region 3 with fail
    go_region_law ((refine step_append_any _ (by rfl) _ _ _ (by rfl) base 59 i0 _ 3 24 Try.underlying41 hi0 hz0 hz1 hz2 (by rfl) (by decide) (.slice a s.D.length c) s.D.length (flat s.D) (by simp [Act.eval, Act.put]) (own_kept OW.out (by repeat (first | with_reducible exact Kept.refl _ | with_reducible refine Kept.alloc ?_ _ _ | with_reducible refine Kept.drew ?_ | with_reducible refine Kept.drewN ?_ _))) _ 1 (flat [((i : Int), s.what i, s.steps i)]) (by simp [Act.eval, Act.put]) (by rfl) (lies_new (heap_alloc_new _ _)) (flat_one _) (by unfold maxLen; omega) (by omega) (by simp; omega) ?_; intro a' c' w2 own2 but2 at2; have q2 := ((((Kept.refl w1).alloc _ _).drew).but _).trans but2 (fun _ _ h => h); have g2 := q2.soft RL f2; have e2 := q2.some c2 nR))
    all_goals go_wp2
    all_goals go_meet
    all_goals (
      have own3 : OwnD w2 base (.slice a' (s.D.length + 1) c') (s.D ++ [((i : Int), s.what i, s.steps i)]) := by
        have e : (s.D ++ [((i : Int), s.what i, s.steps i)]).length = s.D.length + 1 := by simp
        unfold OwnD
        rw [e, flat_append]
        exact own2
      have hat : (Value.slice a' (s.D.length + 1) c').ownBlock = (Value.slice a s.D.length c).ownBlock ∨ ∃ N, (Value.slice a' (s.D.length + 1) c').ownBlock = some N ∧ w1.heap.size ≤ N := at2.imp id fun h => ⟨_, h, by simp⟩
      first
        | exact RMid.mk own3 q2 e2 nR RL hat
        | exact RMid.mk (own_kept own3 (Kept.refl _).drew) q2.drew (by simpa using e2) nR RL hat)
  case rest =>
    obtain ⟨rfl, v', own3, b3, z2, zR, hat⟩ := hcut
    have gR : g ≠ R := fun e => H.out.lr (by rw [e]; rfl)
    have zz := b3.size
    have z1 : wc.cell? ⟨R, 1, none⟩ = some (.slice (some ⟨g, o, none⟩) (Lf s n).length cL) := (zR 1 (by decide)).trans c1
    have y1 : wc.frozen? ⟨R, 1, none⟩ = false := (b3.froze ⟨R, 1, none⟩ RL).trans f1
    have RLc : R < wc.heap.size := Nat.lt_of_lt_of_le RL zz
    have gLc : g < wc.heap.size := Nat.lt_of_lt_of_le gl zz
    have hf := H.out.fine
    have MID : RF wc R (.slice (some ⟨g, o, none⟩) (Lf s n).length cL) v' base n (m + 1) ⟨s.on, s.what, s.steps, s.D ++ [((i : Int), s.what i, s.steps i)], s.all⟩ := by
      refine ⟨⟨hf.n1, hf.n64, hf.inn, hf.off, hf.st0, hf.stm, by have := hf.am; simp only; omega, by simp only [List.length_append, List.length_singleton]; omega⟩, (zR 0 (by decide)).trans H.out.num, z1, z2, (zR 3 (by decide)).trans H.out.all, fun j => (b3.froze ⟨R, j, none⟩ RL).trans (H.out.soft j),
        own_but H.out.ownL b3 (fun g' hg' e => ?_), own3, H.out.bR, H.out.lr, fun e => ?_, fun g' hg' e => ?_⟩
      · have : g = g' := by simpa [Value.ownBlock] using hg'
        subst this
        exact e.elim ng gR
      · exact (hat R e).elim nR (fun h => by omega)
      · have : g = g' := by simpa [Value.ownBlock] using hg'
        subst this
        exact (hat g e).elim ng (fun h => by omega)
    have FI : ∀ (lv' : Value) (w4 : World), Kept wc w4 → w4.ownsRow wc.heap.size 59 3 lv' (Lf (s.fin i) n).length (flat (Lf (s.fin i) n)) → RWent w1 (w4.setCell ⟨R, 1, none⟩ lv') R (.slice (some ⟨g, o, none⟩) (Lf s n).length cL) (.slice a s.D.length c) base n (m + 1) (s.fin i) := by
      intro lv' w4 k4 o4
      obtain ⟨r1, r2, r3⟩ := RF.list MID (Nat.le_trans hbase zz) k4 (hf.fin i) rfl rfl o4
      refine ⟨(b3.mono fun k _ e => e.elim (fun e => .inr (.inr e)) (fun e => .inl e)).trans r2 (fun k hk e => ?_), lv', v', r1, fun k e => ?_⟩
      · rcases e with e | e | e
        · exact .inl e
        · exact .inr (.inl e)
        · exact (hat k e).elim (fun h => .inr (.inr h)) (fun h => by omega)
      · rcases e with e | e | e
        · exact .inl (.inl e)
        · exact .inr (Nat.le_trans zz (r3 k e))
        · exact (hat k e).imp (fun h => .inr (.inr h)) id
    have es := Lf_on s n i hi ho
    obtain ⟨A, hA⟩ : ∃ A, A = ents s 0 i := ⟨_, rfl⟩
    obtain ⟨B, hB⟩ : ∃ B, B = ents s (i + 1) (n - i - 1) := ⟨_, rfl⟩
    have eA : A.length = idx s i := by rw [hA]; rfl
    have eL : (Lf s n).length = idx s i + 1 + B.length := by rw [es, hB, ← eA, hA]; simp; omega
    have ep : Lf (s.fin i) n = A ++ B := by
      unfold St.fin
      rw [Lf_put s n i hi, hA, hB]
      rfl
    have ep1 : (Lf (s.fin i) n).length = idx s i + ((Lf s n).length - (idx s i + 1)) := by rw [ep, eL]; simp [eA]
    have EP0 := Lib.hid (show flat (Lf (s.fin i) n) = flat A ++ flat B by rw [ep, flat_append])
    have lw : Lies wc (.slice (some ⟨g, o, none⟩) (Lf s n).length cL) (Lf s n).length (flat ((A ++ [ent s i]) ++ B)) := by
      have := own_lies MID.ownL
      have e : (A ++ [ent s i]) ++ B = Lf s n := by rw [es, hA, hB]; simp
      rw [e]
      exact this
    have EP1 := Lib.hid ep1
    have p3 := p2
    unfold maxLen at p3
    have LAX := Lib.hid (lies_parts lw (by simp; omega))
    have LAY := Lib.hid (lies_parts (A := A) (B := ent s i :: B) (by simpa using lw) (by simp; omega))
    have EA := Lib.hid eA
    have FIH := Lib.hid FI
    have il2 : (Lf s n).length - (idx s i + 1) ≤ 64 := by omega
    have il3 : idx s i ≤ 64 := by omega
    have il4 : idx s i + 1 ≤ (Lf s n).length := by omega
    have HLB := Lib.hid (show (flat B).length = ((Lf s n).length - (idx s i + 1)) * 3 by rw [flat_length]; congr 1; omega)
    have HLA := Lib.hid (show (flat A).length = idx s i * 3 by rw [flat_length, eA])
    clear own3 b3 z2 zR hat MID es hA hB eA eL ep ep1 lw FI c1 c2 f1 f2 x0 x1 x2 hf
    rcases LAX.out with ⟨h, _⟩ | ⟨g', o', e', _, _, _, LB⟩
    · cases h
    rcases LAY.out with ⟨h, _⟩ | ⟨g2, o2, e2, _, _, LA, _⟩
    · cases h
    injection e' with e'
    injection e' with e1 e3 _
    injection e2 with e2
    injection e2 with e4 e5 _
    subst e1; subst e3; subst e4; subst e5
    rw [List.length_append, EA.out, List.length_singleton] at LB
    rw [EA.out] at LA
    have LA := Lib.hid LA
    have FI := FIH
    clear LAX LAY FIH
    by_cases hcx : cL = idx s i + 1
    · subst hcx
      have hz : (Lf s n).length - (idx s i + 1) = 0 := by omega
      have LB : Hid (Lies wc (.slice (some ⟨g, o, none⟩) 0 0) 0 (flat B)) := Lib.hid (.inr ⟨g, o, 0, rfl, Nat.le_refl _, Nat.zero_le _, fun j u hu => by
        have := (List.getElem?_eq_some_iff.1 hu).1
        have := HLB.out
        omega⟩)
      have HLB := Lib.hid (show (flat B).length = 0 * 3 by rw [HLB.out, hz])
      have EP := Lib.hid (show (Lf (s.fin i) n).length = idx s i + 0 ∧ flat (Lf (s.fin i) n) = flat A ++ flat B from ⟨by rw [EP1.out, hz], EP0.out⟩)
      clear hz
      have q1 : (idx s i : Int) ≤ (idx s i : Int) + 1 := by omega
      have q2 : (idx s i : Int) + 1 ≤ ((Lf s n).length : Int) := by omega
      have q3 : (0 : Int) ≤ (idx s i : Int) + 1 := by omega
      have qw : IntKind.i64.wrap ((idx s i : Int) + 1) = (idx s i : Int) + 1 := by rw [IntKind.wrap_i64]; omega
      go_upto_region 4 with fail
      go_region_law (first
        | ((refine step_append_any _ (by rfl) _ _ _ (by rfl) wc.heap.size 59 i0 _ 3 24 Try.underlying41 hi0 hz0 hz1 hz2 (by rfl) (by decide) (.slice a3 (idx s i) c3) (idx s i) (flat A) (by simp [Act.eval, Act.put]) (own_same OW3.out (fun g hg => (show Kept w3 _ from (by repeat (first | with_reducible exact Kept.refl _ | with_reducible refine Kept.alloc ?_ _ _ | with_reducible refine Kept.drew ?_ | with_reducible refine Kept.drewN ?_ _))).below.block g (OW3.out.lt g hg).2)) _ 0 (flat B) (by simp [Act.eval, Act.put]) HLB.out (LB.out.kept (K3.out.trans (by repeat (first | with_reducible exact Kept.refl _ | with_reducible refine Kept.alloc ?_ _ _ | with_reducible refine Kept.drew ?_ | with_reducible refine Kept.drewN ?_ _)))) (flat_one _) (by unfold maxLen; omega) (by omega) (by have := K3.out.size; first | (simp; done) | (simp; omega) | omega) ?_; intro a4 c4 w4 own4 but4 at4; have K4 := Lib.hid ((((K3.out.trans (show Kept w3 _ from (by repeat (first | with_reducible exact Kept.refl _ | with_reducible refine Kept.alloc ?_ _ _ | with_reducible refine Kept.drew ?_ | with_reducible refine Kept.drewN ?_ _)))).but _).trans but4 (fun _ _ h => h)) |>.kept (fun k hk e => by have := (OW3.out.lt k e).1; omega)); have OW4 := Lib.hid own4; have e5 := K4.out.some z1; have g5 := K4.out.soft RLc y1; clear own4 but4 at4))
        | ((refine step_append_any _ (by rfl) _ _ _ (by rfl) wc.heap.size 59 i0 _ 3 24 Try.underlying41 hi0 hz0 hz1 hz2 (by rfl) (by decide) (.slice (some ⟨wc.heap.size, 0, none⟩) 0 0) 0 [] (by simp [Act.eval, Act.put]) (own_empty (by repeat (first | with_reducible exact Kept.refl _ | with_reducible refine Kept.alloc ?_ _ _ | with_reducible refine Kept.drew ?_ | with_reducible refine Kept.drewN ?_ _))) _ (idx s i) (flat A) (by simp [Act.eval, Act.put]) HLA.out (LA.out.kept (by repeat (first | with_reducible exact Kept.refl _ | with_reducible refine Kept.alloc ?_ _ _ | with_reducible refine Kept.drew ?_ | with_reducible refine Kept.drewN ?_ _))) (flat_one _) (by unfold maxLen; omega) (by omega) (by first | (simp; done) | (simp; omega)) ?_; intro a3 c3 w3 own3 but3 at3; have K3 := Lib.hid (((Kept.but (show Kept wc _ from (by repeat (first | with_reducible exact Kept.refl _ | with_reducible refine Kept.alloc ?_ _ _ | with_reducible refine Kept.drew ?_ | with_reducible refine Kept.drewN ?_ _))) _).trans but3 (fun _ _ h => h)) |>.kept (fun k hk e => by simp [Value.ownBlock] at e; omega)); have OW3 := Lib.hid (show w3.ownsRow wc.heap.size 59 3 (.slice a3 (idx s i) c3) (idx s i) (flat A) by simpa using own3); have e1 := K3.out.some z1; clear own3 but3 at3)))
      all_goals go_wp2
      all_goals go_ret
      all_goals (
        have o6 : w4.ownsRow wc.heap.size 59 3 (.slice a4 (idx s i + 0) c4) (Lf (s.fin i) n).length (flat (Lf (s.fin i) n)) := by
          rw [EP.out.1, EP.out.2]
          exact OW4.out
        first
          | exact ⟨rfl, FI.out _ _ K4.out o6⟩
          | exact ⟨rfl, FI.out _ _ K4.out.drew (own_same o6 fun _ _ => rfl)⟩)
    · have LB := Lib.hid LB
      have EP := Lib.hid (show (Lf (s.fin i) n).length = idx s i + ((Lf s n).length - (idx s i + 1)) ∧ flat (Lf (s.fin i) n) = flat A ++ flat B from ⟨EP1.out, EP0.out⟩)
      have q0 : idx s i ≤ cL := by omega
      have q1 : idx s i + 1 ≤ cL := by omega
      have q2 : (idx s i : Int) + 1 ≤ ((Lf s n).length : Int) := by omega
      have q3 : (0 : Int) ≤ (idx s i : Int) + 1 := by omega
      have qw : IntKind.i64.wrap ((idx s i : Int) + 1) = (idx s i : Int) + 1 := by rw [IntKind.wrap_i64]; omega
      go_upto_region 4 with fail
      go_region_law (first
        | ((refine step_append_any _ (by rfl) _ _ _ (by rfl) wc.heap.size 59 i0 _ 3 24 Try.underlying41 hi0 hz0 hz1 hz2 (by rfl) (by decide) (.slice a3 (idx s i) c3) (idx s i) (flat A) (by simp [Act.eval, Act.put]) (own_same OW3.out (fun g hg => (show Kept w3 _ from (by repeat (first | with_reducible exact Kept.refl _ | with_reducible refine Kept.alloc ?_ _ _ | with_reducible refine Kept.drew ?_ | with_reducible refine Kept.drewN ?_ _))).below.block g (OW3.out.lt g hg).2)) _ ((Lf s n).length - (idx s i + 1)) (flat B) (by simp [Act.eval, Act.put, hcx]) HLB.out (LB.out.kept (K3.out.trans (by repeat (first | with_reducible exact Kept.refl _ | with_reducible refine Kept.alloc ?_ _ _ | with_reducible refine Kept.drew ?_ | with_reducible refine Kept.drewN ?_ _)))) (flat_one _) (by unfold maxLen; omega) (by omega) (by have := K3.out.size; first | (simp; done) | (simp; omega) | omega) ?_; intro a4 c4 w4 own4 but4 at4; have K4 := Lib.hid ((((K3.out.trans (show Kept w3 _ from (by repeat (first | with_reducible exact Kept.refl _ | with_reducible refine Kept.alloc ?_ _ _ | with_reducible refine Kept.drew ?_ | with_reducible refine Kept.drewN ?_ _)))).but _).trans but4 (fun _ _ h => h)) |>.kept (fun k hk e => by have := (OW3.out.lt k e).1; omega)); have OW4 := Lib.hid own4; have e5 := K4.out.some z1; have g5 := K4.out.soft RLc y1; clear own4 but4 at4))
        | ((refine step_append_any _ (by rfl) _ _ _ (by rfl) wc.heap.size 59 i0 _ 3 24 Try.underlying41 hi0 hz0 hz1 hz2 (by rfl) (by decide) (.slice (some ⟨wc.heap.size, 0, none⟩) 0 0) 0 [] (by simp [Act.eval, Act.put]) (own_empty (by repeat (first | with_reducible exact Kept.refl _ | with_reducible refine Kept.alloc ?_ _ _ | with_reducible refine Kept.drew ?_ | with_reducible refine Kept.drewN ?_ _))) _ (idx s i) (flat A) (by simp [Act.eval, Act.put]) HLA.out (LA.out.kept (by repeat (first | with_reducible exact Kept.refl _ | with_reducible refine Kept.alloc ?_ _ _ | with_reducible refine Kept.drew ?_ | with_reducible refine Kept.drewN ?_ _))) (flat_one _) (by unfold maxLen; omega) (by omega) (by first | (simp; done) | (simp; omega)) ?_; intro a3 c3 w3 own3 but3 at3; have K3 := Lib.hid (((Kept.but (show Kept wc _ from (by repeat (first | with_reducible exact Kept.refl _ | with_reducible refine Kept.alloc ?_ _ _ | with_reducible refine Kept.drew ?_ | with_reducible refine Kept.drewN ?_ _))) _).trans but3 (fun _ _ h => h)) |>.kept (fun k hk e => by simp [Value.ownBlock] at e; omega)); have OW3 := Lib.hid (show w3.ownsRow wc.heap.size 59 3 (.slice a3 (idx s i) c3) (idx s i) (flat A) by simpa using own3); have e1 := K3.out.some z1; clear own3 but3 at3)))
      all_goals go_wp2
      all_goals go_ret
      all_goals (
        have o6 : w4.ownsRow wc.heap.size 59 3 (.slice a4 (idx s i + ((Lf s n).length - (idx s i + 1))) c4) (Lf (s.fin i) n).length (flat (Lf (s.fin i) n)) := by
          rw [EP.out.1, EP.out.2]
          exact OW4.out
        first
          | exact ⟨rfl, FI.out _ _ K4.out o6⟩
          | exact ⟨rfl, FI.out _ _ K4.out.drew (own_same o6 fun _ _ => rfl)⟩)
end Go.Proofs.Ytdgajkimepgljaa
