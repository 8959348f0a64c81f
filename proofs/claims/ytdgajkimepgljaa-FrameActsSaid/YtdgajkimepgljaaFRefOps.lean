/- The document's frame: Begin, Step. -/
import Derived.Test.YtdgajkimepgljaaFRef
import Derived.Test.YtdgajkimepgljaaFEnd
import Derived.Deep.DeepCutAuto
import Derived.Deep.CutBlock
namespace Go.Proofs.Ytdgajkimepgljaa
open Go.RowKit

/-- What a call on the document's frame leaves. -/
def RWent (w w' : World) (R : Nat) (lv dv : Value) (base n m : Nat) (s' : St) : Prop :=
  But (MineR R lv dv) w w' ∧ ∃ lv' dv', RF w' R lv' dv' base n m s' ∧ (∀ k, MineR R lv' dv' k → MineR R lv dv k ∨ w.heap.size ≤ k)
theorem RWent.still {w w' : World} {R : Nat} {lv dv : Value} {base n m : Nat} {s : St} (h : RF w R lv dv base n m s) (k : Kept w w') : RWent w w' R lv dv base n (m + 1) s :=
  ⟨k.but _, lv, dv, (h.kept k).mono (Nat.le_succ _), fun _ h => .inl h⟩

/-- Where a part of a list of deeds lies. -/
theorem lies_parts {w : World} {a : Option Addr} {len c : Nat} {A B : List Dd} (h : Lies w (.slice a len c) len (flat (A ++ B))) (hl : len = A.length + B.length) :
    (a = none ∧ len = 0 ∧ c = 0 ∧ A = [] ∧ B = []) ∨ ∃ g o, a = some ⟨g, o, none⟩ ∧ len ≤ c ∧ c ≤ maxLen ∧ Lies w (.slice (some ⟨g, o, none⟩) A.length c) A.length (flat A) ∧
      Lies w (.slice (some ⟨g, o + A.length * 3, none⟩) (len - A.length) (c - A.length)) (len - A.length) (flat B) := by
  rcases h with ⟨hv, h0, _⟩ | ⟨g, o, c', hv, h1, h2, hc⟩
  · injection hv with e1 e2 e3
    exact .inl ⟨e1, h0, e3, List.eq_nil_of_length_eq_zero (by omega), List.eq_nil_of_length_eq_zero (by omega)⟩
  · injection hv with e1 e2 e3
    subst e1; subst e3
    refine .inr ⟨g, o, rfl, h1, h2, .inr ⟨g, o, c, rfl, by omega, h2, fun j u hu => hc j u ?_⟩, .inr ⟨g, o + A.length * 3, _, rfl, by omega, by omega, fun j u hu => ?_⟩⟩
    · rw [flat_append, List.getElem?_append_left (List.getElem?_eq_some_iff.1 hu).1]
      exact hu
    · have := hc (A.length * 3 + j) u (by
        rw [flat_append, List.getElem?_append_right (by rw [flat_length]; omega), flat_length]
        simpa using hu)
      rwa [← Nat.add_assoc] at this

/-- The list is laid anew. -/
theorem RF.list {w w5 : World} {R : Nat} {lv dv lv' : Value} {base n m m' : Nat} {s s' : St} (h : RF w R lv dv base n m s) (hbase : base ≤ w.heap.size) (k : Kept w w5) (hf : Fine n m' s') (hD : s'.D = s.D) (ha : s'.all = s.all) (ho : w5.ownsRow w.heap.size 59 3 lv' (Lf s' n).length (flat (Lf s' n))) :
    RF (w5.setCell ⟨R, 1, none⟩ lv') R lv' dv base n m' s' ∧ But (MineR R lv dv) w (w5.setCell ⟨R, 1, none⟩ lv') ∧ ∀ g, lv'.ownBlock = some g → w.heap.size ≤ g := by
  have RL := h.lt R (.inl rfl)
  have nw : ∀ g, lv'.ownBlock = some g → w.heap.size ≤ g := fun g hg => (ho.lt g hg).1
  have b : But (fun k => k = R) w5 (w5.setCell ⟨R, 1, none⟩ lv') := (But.refl _ _).here _ _
  have c : ∀ o v, o ≠ 1 → w.cell? ⟨R, o, none⟩ = some v → (w5.setCell ⟨R, 1, none⟩ lv').cell? ⟨R, o, none⟩ = some v := fun o v ho hc => by
    rw [cell_set, if_neg (fun e => ho e.symm)]; exact k.some hc
  refine ⟨⟨hf, c 0 _ (by decide) h.num, ?_, c 2 _ (by decide) h.dee, ha ▸ c 3 _ (by decide) h.all, fun i => (World.frozen?_setCell _ _ _ _).trans (k.soft RL (h.soft i)), ?_, ?_, h.bR, fun e => ?_, h.dr, fun g hg e => ?_⟩, ((k.but _).trans (b.mono fun _ _ e => .inl e) (fun _ _ h => h)), nw⟩
  · rw [World.cell?_setCell_same _ _ _ (k.some h.lst)]
  · exact own_mono (own_same ho fun g hg => b.block g (ho.lt g hg).2 (fun e => by have := nw g hg; omega)) hbase
  · rw [hD]
    exact own_but (own_kept h.ownD k) b (fun g hg e => h.dr (e ▸ hg))
  · have := nw R e; omega
  · have h1 := nw g hg
    have h2 := h.lt g (.inr (.inr e))
    omega

set_option maxHeartbeats 4000000 in
theorem refBegin_free {w : World} {R : Nat} {lv dv : Value} {base n m : Nat} {s : St} (h : RF w R lv dv base n m s) (hbase : base ≤ w.heap.size) (i : Nat) (hi : i < n) (ho : s.on i = false) (x : Int) :
    Calls Try.prog 11 #[.pointer (some ⟨R, 0, none⟩), .int .i64 i, .int .i64 x] w fun e w' => e = .returned (.int .i64 0) ∧ RWent w w' R lv dv base n (m + 1) (s.begin i x) := by
  have c1 := h.lst
  have f1 := h.soft 1
  have RL := h.lt R (.inl rfl)
  have hl := Lf_length h.fine
  have il := idx_le s n i hi
  have he : sErr s n i = 15 := by simp [sErr, ho]; omega
  obtain ⟨a, c, hv⟩ := own_form h.ownL
  subst hv
  have L := Lib.hid (own_lies h.ownL)
  have H := Lib.hid h
  have es := Lf_off s n i hi ho
  obtain ⟨A, hA⟩ : ∃ A, A = ents s 0 i := ⟨_, rfl⟩
  obtain ⟨B, hB⟩ : ∃ B, B = ents s (i + 1) (n - i - 1) := ⟨_, rfl⟩
  have ei : A.length = idx s i := by rw [hA]; rfl
  have el : (Lf s n).length = A.length + B.length := by rw [es, hA, hB]; simp
  have ep : Lf (s.begin i x) n = A ++ ([((i : Int), x, (0 : Int))] ++ B) := by
    unfold St.begin
    rw [Lf_put s n i hi, hA, hB]
    rfl
  have LP := lies_parts (A := A) (B := B) (by have := own_lies H.out.ownL; rw [es] at this; rw [es, hA, hB]; exact this) el
  have EP := Lib.hid ep
  obtain ⟨i0, hi0, hz0, hz1, hz2⟩ := info_parts infoDeed
  have LPH := Lib.hid LP
  have EL := Lib.hid el
  have EI := Lib.hid ei
  clear h es ep LP el ei hA hB
  go_enter Try.func11, Try.ntmps11
  go_wp2_with fail; refine (refAt_not H.out i ho).mono ?_; rintro e w1 ⟨rfl, rfl⟩
  rw [he]
  go_upto_block 1 with fail
  go_cut [9] (fun t wr => t = .int .i64 (idx s i : Nat) ∧ w1 = wr)
  case first =>
    go_wp2_with fail
    go_loopw [9] (fun t wr => ∃ j : Nat, j ≤ idx s i ∧ t = .int .i64 j ∧ w1 = wr) (fun t _ => (Lf s n).length - (intOf t).toNat)
    case atStart => exact ⟨0, Nat.zero_le _, rfl, rfl⟩
    case round =>
      obtain ⟨j, hj, rfl, hw⟩ := hrel
      subst hw
      by_cases h0 : j < (Lf s n).length
      · obtain ⟨g, o, c', hv, _, _, hc⟩ := L.out.deed (by omega)
        cases hv
        obtain ⟨d, hd⟩ : ∃ d, (Lf s n)[j]? = some d := ⟨_, List.getElem?_eq_getElem (by omega)⟩
        have x0 := (hc j d hd).1
        by_cases hlt : j < idx s i
        · have hb := Lf_below s n i hi j hlt d hd
          clear hc
          go_wp2
          go_roundw
          case rel => exact ⟨j + 1, by omega, by go_num, by first | rfl | trivial⟩
          case measure => simp [intOf]; omega
        · obtain rfl : j = idx s i := by omega
          have hb := Lf_above s n i hi ho d hd
          have hb2 : ¬ d.1 < (i : Int) := by omega
          clear hc
          go_wp2
          go_meet
          exact ⟨rfl, by first | rfl | trivial⟩
      · obtain rfl : j = idx s i := by omega
        go_wp2
        go_meet
        exact ⟨rfl, by first | rfl | trivial⟩
  case rest =>
    obtain ⟨rfl, rfl⟩ := hcut
    rcases LPH.out with ⟨rfl, hl0, rfl, hA0, hB0⟩ | ⟨g, o, rfl, m1, m2, LA, LB⟩
    · have i00 : idx s i = 0 := by rw [← EI.out, hA0]; rfl
      have LA : Hid (Lies w1 (.slice none 0 0) 0 (flat A)) := Lib.hid (.inl ⟨rfl, rfl, by rw [hA0]; rfl⟩)
      have LB : Hid (Lies w1 (.slice none 0 0) 0 (flat B)) := Lib.hid (.inl ⟨rfl, rfl, by rw [hB0]; rfl⟩)
      have HLB := Lib.hid (show (flat B).length = 0 * 3 by rw [hB0]; rfl)
      have HLA := Lib.hid (show (flat A).length = 0 * 3 by rw [hA0]; rfl)
      rw [hl0] at c1
      rw [i00]
      have I00 := Lib.hid i00
      have HL0 := Lib.hid hl0
      clear hA0 hB0 i00 hl0 hl il
      go_wp2_with (first
        | (at_builtin; refine wpList_append_any _ rfl _ _ _ rfl w2.heap.size 59 i0 _ 3 24 Try.underlying41 hi0 hz0 hz1 hz2 (by rfl) (by decide) (.slice a4 (0 + 1) c4) (0 + 1) (flat A ++ flat [((i : Int), x, (0 : Int))]) (by simp [Act.eval, Act.put]) OW4.out (.slice a2 (0) c2) (0) (flat B) (by simp [Act.eval, Act.put, ]) HLB.out ((own_lies OW2.out).kept K4.out) (flat_one _) (by unfold maxLen; omega) (by omega) (by have := K4.out.size; first | (simp; done) | (simp; omega) | omega) ?_; intro a5 c5 w5 own5 but5 at5; have K5 := Lib.hid (K2.out.trans ((K4.out.but _).trans but5 (fun _ _ h => h) |>.kept (fun k hk e => by have := (OW4.out.lt k e).1; omega))); have OW5 := Lib.hid own5; have e5 := K5.out.some c1; have g5 := K5.out.soft RL f1; clear own5 but5 at5)
        | (at_builtin; refine wpList_append_any _ rfl _ _ _ rfl w2.heap.size 59 i0 _ 3 24 Try.underlying41 hi0 hz0 hz1 hz2 (by rfl) (by decide) (.slice a3 (0) c3) (0) (flat A) (by simp [Act.eval, Act.put]) (own_same OW3.out (fun g hg => ((Kept.refl w3).alloc _ _).below.block g (OW3.out.lt g hg).2)) _ 1 (flat [((i : Int), x, (0 : Int))]) (by simp [Act.eval, Act.put, ]) (by rfl) (lies_new (d := ((i : Int), x, (0 : Int))) (heap_alloc_new _ _)) (flat_one _) (by unfold maxLen; omega) (by omega) (by have := K3.out.size; first | (simp; done) | (simp; omega) | omega) ?_; intro a4 c4 w4 own4 but4 at4; have K4 := Lib.hid (((K3.out.alloc _ _).but _).trans but4 (fun _ _ h => h) |>.kept (fun k hk e => by have := (OW3.out.lt k e).1; omega)); have OW4 := Lib.hid own4; clear own4 but4 at4)
        | (at_builtin; refine wpList_append_any _ rfl _ _ _ rfl w2.heap.size 59 i0 _ 3 24 Try.underlying41 hi0 hz0 hz1 hz2 (by rfl) (by decide) (.slice (some ⟨w2.heap.size, 0, none⟩) 0 0) 0 [] (by simp [Act.eval, Act.put]) (World.ownsRow_made w2 #[] 0 (Nat.le_refl _) (by decide) rfl) (.slice none 0 0) 0 (flat A) (by simp [Act.eval, Act.put, ]) HLA.out (LA.out.kept (K2.out.alloc _ _)) (flat_one _) (by unfold maxLen; omega) (by omega) (by first | (simp; done) | (simp; omega)) ?_; intro a3 c3 w3 own3 but3 at3; have K3 := Lib.hid ((((Kept.refl w2).alloc _ _).but _).trans but3 (fun _ _ h => h) |>.kept (fun k hk e => by simp [Value.ownBlock] at e; omega)); have OW3 := Lib.hid (show w3.ownsRow w2.heap.size 59 3 (.slice a3 (0) c3) (0) (flat A) by simpa using own3); clear own3 but3 at3)
        | (at_builtin; refine wpList_append_any _ rfl _ _ _ rfl w1.heap.size 59 i0 _ 3 24 Try.underlying41 hi0 hz0 hz1 hz2 (by rfl) (by decide) (.slice (some ⟨w1.heap.size, 0, none⟩) 0 0) 0 [] (by simp [Act.eval, Act.put]) (World.ownsRow_made w1 #[] 0 (Nat.le_refl _) (by decide) rfl) (.slice none 0 0) 0 (flat B) (by simp [Act.eval, Act.put, ]) HLB.out (LB.out.kept ((Kept.refl w1).alloc _ _)) (flat_one _) (by unfold maxLen; omega) (by omega) (by first | (simp; done) | (simp; omega)) ?_; intro a2 c2 w2 own2 but2 at2; have K2 := Lib.hid ((((Kept.refl w1).alloc _ _).but _).trans but2 (fun _ _ h => h) |>.kept (fun k hk e => by simp [Value.ownBlock] at e; omega)); have OW2 := Lib.hid (show w2.ownsRow w1.heap.size 59 3 (.slice a2 (0) c2) (0) (flat B) by simpa using own2); have e1 := K2.out.some c1; have r2 := Nat.lt_of_lt_of_le RL K2.out.size; clear own2 but2 at2))
      go_ret
      have i00 := I00.out
      have hl0 := HL0.out
      have hf := H.out.fine.begin i x (by omega) (by omega)
      have e7 : (Lf (s.begin i x) n).length = 0 + 1 + 0 := by rw [EP.out]; have := EI.out; have := EL.out; simp; omega
      have e8 : flat (Lf (s.begin i x) n) = flat A ++ flat [((i : Int), x, (0 : Int))] ++ flat B := by rw [EP.out, flat_append, flat_append, List.append_assoc]
      have o6 : w5.ownsRow w1.heap.size 59 3 (.slice a5 (0 + 1 + 0) c5) (Lf (s.begin i x) n).length (flat (Lf (s.begin i x) n)) := by
        rw [e7, e8]
        exact own_mono OW5.out K2.out.size
      obtain ⟨r1, r2, r3⟩ := RF.list H.out hbase K5.out hf rfl rfl o6
      refine ⟨rfl, r2, _, _, r1, fun k hk => ?_⟩
      rcases hk with e | e | e
      · exact .inl (.inl e)
      · exact .inr (r3 k e)
      · exact .inl (.inr (.inr e))
    · rw [EI.out] at LA LB
      have LA := Lib.hid LA
      have lB : (flat B).length = ((Lf s n).length - idx s i) * 3 := by rw [flat_length, EL.out, EI.out]; congr 1; omega
      have lA : (flat A).length = idx s i * 3 := by rw [flat_length, EI.out]
      have HLB := Lib.hid lB
      have HLA := Lib.hid lA
      clear lA
      have q0 : idx s i ≤ c := Nat.le_trans il m1
      have m3 := m2
      unfold maxLen at m3
      have il2 : (Lf s n).length - idx s i ≤ 64 := by omega
      have il3 : idx s i ≤ 64 := by omega
      by_cases hcx : c = idx s i
      · subst hcx
        have hz : (Lf s n).length - idx s i = 0 := by omega
        have LB : Hid (Lies w1 (.slice (some ⟨g, o, none⟩) 0 0) 0 (flat B)) := Lib.hid (.inr ⟨g, o, 0, rfl, Nat.le_refl _, Nat.zero_le _, fun j u hu => by
          have := (List.getElem?_eq_some_iff.1 hu).1
          omega⟩)
        have HLB := Lib.hid (show (flat B).length = 0 * 3 by rw [lB, hz])
        have HZ := Lib.hid hz
        clear lB hz
        go_wp2_with (first
          | (at_builtin; refine wpList_append_any _ rfl _ _ _ rfl w2.heap.size 59 i0 _ 3 24 Try.underlying41 hi0 hz0 hz1 hz2 (by rfl) (by decide) (.slice a4 (idx s i + 1) c4) (idx s i + 1) (flat A ++ flat [((i : Int), x, (0 : Int))]) (by simp [Act.eval, Act.put]) OW4.out (.slice a2 0 c2) 0 (flat B) (by simp [Act.eval, Act.put, ]) HLB.out ((own_lies OW2.out).kept K4.out) (flat_one _) (by unfold maxLen; omega) (by omega) (by have := K4.out.size; first | (simp; done) | (simp; omega) | omega) ?_; intro a5 c5 w5 own5 but5 at5; have K5 := Lib.hid (K2.out.trans ((K4.out.but _).trans but5 (fun _ _ h => h) |>.kept (fun k hk e => by have := (OW4.out.lt k e).1; omega))); have OW5 := Lib.hid own5; have e5 := K5.out.some c1; have g5 := K5.out.soft RL f1; clear own5 but5 at5)
          | (at_builtin; refine wpList_append_any _ rfl _ _ _ rfl w2.heap.size 59 i0 _ 3 24 Try.underlying41 hi0 hz0 hz1 hz2 (by rfl) (by decide) (.slice a3 (idx s i) c3) (idx s i) (flat A) (by simp [Act.eval, Act.put]) (own_same OW3.out (fun g hg => ((Kept.refl w3).alloc _ _).below.block g (OW3.out.lt g hg).2)) _ 1 (flat [((i : Int), x, (0 : Int))]) (by simp [Act.eval, Act.put, ]) (by rfl) (lies_new (d := ((i : Int), x, (0 : Int))) (heap_alloc_new _ _)) (flat_one _) (by unfold maxLen; omega) (by omega) (by have := K3.out.size; first | (simp; done) | (simp; omega) | omega) ?_; intro a4 c4 w4 own4 but4 at4; have K4 := Lib.hid (((K3.out.alloc _ _).but _).trans but4 (fun _ _ h => h) |>.kept (fun k hk e => by have := (OW3.out.lt k e).1; omega)); have OW4 := Lib.hid own4; clear own4 but4 at4)
          | (at_builtin; refine wpList_append_any _ rfl _ _ _ rfl w2.heap.size 59 i0 _ 3 24 Try.underlying41 hi0 hz0 hz1 hz2 (by rfl) (by decide) (.slice (some ⟨w2.heap.size, 0, none⟩) 0 0) 0 [] (by simp [Act.eval, Act.put]) (World.ownsRow_made w2 #[] 0 (Nat.le_refl _) (by decide) rfl) _ (idx s i) (flat A) (by simp [Act.eval, Act.put, ]) HLA.out (LA.out.kept (K2.out.alloc _ _)) (flat_one _) (by unfold maxLen; omega) (by omega) (by first | (simp; done) | (simp; omega)) ?_; intro a3 c3 w3 own3 but3 at3; have K3 := Lib.hid ((((Kept.refl w2).alloc _ _).but _).trans but3 (fun _ _ h => h) |>.kept (fun k hk e => by simp [Value.ownBlock] at e; omega)); have OW3 := Lib.hid (show w3.ownsRow w2.heap.size 59 3 (.slice a3 (idx s i) c3) (idx s i) (flat A) by simpa using own3); clear own3 but3 at3)
          | (at_builtin; refine wpList_append_any _ rfl _ _ _ rfl w1.heap.size 59 i0 _ 3 24 Try.underlying41 hi0 hz0 hz1 hz2 (by rfl) (by decide) (.slice (some ⟨w1.heap.size, 0, none⟩) 0 0) 0 [] (by simp [Act.eval, Act.put]) (World.ownsRow_made w1 #[] 0 (Nat.le_refl _) (by decide) rfl) _ 0 (flat B) (by simp [Act.eval, Act.put, ]) HLB.out (LB.out.kept ((Kept.refl w1).alloc _ _)) (flat_one _) (by unfold maxLen; omega) (by omega) (by first | (simp; done) | (simp; omega)) ?_; intro a2 c2 w2 own2 but2 at2; have K2 := Lib.hid ((((Kept.refl w1).alloc _ _).but _).trans but2 (fun _ _ h => h) |>.kept (fun k hk e => by simp [Value.ownBlock] at e; omega)); have OW2 := Lib.hid (show w2.ownsRow w1.heap.size 59 3 (.slice a2 0 c2) 0 (flat B) by simpa using own2); have e1 := K2.out.some c1; have r2 := Nat.lt_of_lt_of_le RL K2.out.size; clear own2 but2 at2))
        go_ret
        have hz := HZ.out
        have hf := H.out.fine.begin i x (by omega) (by omega)
        have e7 : (Lf (s.begin i x) n).length = idx s i + 1 + 0 := by rw [EP.out]; have := EI.out; have := EL.out; simp; omega
        have e8 : flat (Lf (s.begin i x) n) = flat A ++ flat [((i : Int), x, (0 : Int))] ++ flat B := by rw [EP.out, flat_append, flat_append, List.append_assoc]
        have o6 : w5.ownsRow w1.heap.size 59 3 (.slice a5 (idx s i + 1 + 0) c5) (Lf (s.begin i x) n).length (flat (Lf (s.begin i x) n)) := by
          rw [e7, e8]
          exact own_mono OW5.out K2.out.size
        obtain ⟨r1, r2, r3⟩ := RF.list H.out hbase K5.out hf rfl rfl o6
        refine ⟨rfl, r2, _, _, r1, fun k hk => ?_⟩
        rcases hk with e | e | e
        · exact .inl (.inl e)
        · exact .inr (r3 k e)
        · exact .inl (.inr (.inr e))
      · have LB := Lib.hid LB
        clear lB
        go_wp2_with (first
          | (at_builtin; refine wpList_append_any _ rfl _ _ _ rfl w2.heap.size 59 i0 _ 3 24 Try.underlying41 hi0 hz0 hz1 hz2 (by rfl) (by decide) (.slice a4 (idx s i + 1) c4) (idx s i + 1) (flat A ++ flat [((i : Int), x, (0 : Int))]) (by simp [Act.eval, Act.put]) OW4.out (.slice a2 (((Lf s n).length - idx s i)) c2) (((Lf s n).length - idx s i)) (flat B) (by simp [Act.eval, Act.put, hcx]) HLB.out ((own_lies OW2.out).kept K4.out) (flat_one _) (by unfold maxLen; omega) (by omega) (by have := K4.out.size; first | (simp; done) | (simp; omega) | omega) ?_; intro a5 c5 w5 own5 but5 at5; have K5 := Lib.hid (K2.out.trans ((K4.out.but _).trans but5 (fun _ _ h => h) |>.kept (fun k hk e => by have := (OW4.out.lt k e).1; omega))); have OW5 := Lib.hid own5; have e5 := K5.out.some c1; have g5 := K5.out.soft RL f1; clear own5 but5 at5)
          | (at_builtin; refine wpList_append_any _ rfl _ _ _ rfl w2.heap.size 59 i0 _ 3 24 Try.underlying41 hi0 hz0 hz1 hz2 (by rfl) (by decide) (.slice a3 (idx s i) c3) (idx s i) (flat A) (by simp [Act.eval, Act.put]) (own_same OW3.out (fun g hg => ((Kept.refl w3).alloc _ _).below.block g (OW3.out.lt g hg).2)) _ 1 (flat [((i : Int), x, (0 : Int))]) (by simp [Act.eval, Act.put, hcx]) (by rfl) (lies_new (d := ((i : Int), x, (0 : Int))) (heap_alloc_new _ _)) (flat_one _) (by unfold maxLen; omega) (by omega) (by have := K3.out.size; first | (simp; done) | (simp; omega) | omega) ?_; intro a4 c4 w4 own4 but4 at4; have K4 := Lib.hid (((K3.out.alloc _ _).but _).trans but4 (fun _ _ h => h) |>.kept (fun k hk e => by have := (OW3.out.lt k e).1; omega)); have OW4 := Lib.hid own4; clear own4 but4 at4)
          | (at_builtin; refine wpList_append_any _ rfl _ _ _ rfl w2.heap.size 59 i0 _ 3 24 Try.underlying41 hi0 hz0 hz1 hz2 (by rfl) (by decide) (.slice (some ⟨w2.heap.size, 0, none⟩) 0 0) 0 [] (by simp [Act.eval, Act.put]) (World.ownsRow_made w2 #[] 0 (Nat.le_refl _) (by decide) rfl) _ (idx s i) (flat A) (by simp [Act.eval, Act.put, hcx]) HLA.out (LA.out.kept (K2.out.alloc _ _)) (flat_one _) (by unfold maxLen; omega) (by omega) (by first | (simp; done) | (simp; omega)) ?_; intro a3 c3 w3 own3 but3 at3; have K3 := Lib.hid ((((Kept.refl w2).alloc _ _).but _).trans but3 (fun _ _ h => h) |>.kept (fun k hk e => by simp [Value.ownBlock] at e; omega)); have OW3 := Lib.hid (show w3.ownsRow w2.heap.size 59 3 (.slice a3 (idx s i) c3) (idx s i) (flat A) by simpa using own3); clear own3 but3 at3)
          | (at_builtin; refine wpList_append_any _ rfl _ _ _ rfl w1.heap.size 59 i0 _ 3 24 Try.underlying41 hi0 hz0 hz1 hz2 (by rfl) (by decide) (.slice (some ⟨w1.heap.size, 0, none⟩) 0 0) 0 [] (by simp [Act.eval, Act.put]) (World.ownsRow_made w1 #[] 0 (Nat.le_refl _) (by decide) rfl) _ ((Lf s n).length - idx s i) (flat B) (by simp [Act.eval, Act.put, hcx]) HLB.out (LB.out.kept ((Kept.refl w1).alloc _ _)) (flat_one _) (by unfold maxLen; omega) (by omega) (by first | (simp; done) | (simp; omega)) ?_; intro a2 c2 w2 own2 but2 at2; have K2 := Lib.hid ((((Kept.refl w1).alloc _ _).but _).trans but2 (fun _ _ h => h) |>.kept (fun k hk e => by simp [Value.ownBlock] at e; omega)); have OW2 := Lib.hid (show w2.ownsRow w1.heap.size 59 3 (.slice a2 (((Lf s n).length - idx s i)) c2) (((Lf s n).length - idx s i)) (flat B) by simpa using own2); have e1 := K2.out.some c1; have r2 := Nat.lt_of_lt_of_le RL K2.out.size; clear own2 but2 at2))
        go_ret
        have hf := H.out.fine.begin i x (by omega) (by omega)
        have e7 : (Lf (s.begin i x) n).length = idx s i + 1 + ((Lf s n).length - idx s i) := by rw [EP.out]; have := EI.out; have := EL.out; simp; omega
        have e8 : flat (Lf (s.begin i x) n) = flat A ++ flat [((i : Int), x, (0 : Int))] ++ flat B := by rw [EP.out, flat_append, flat_append, List.append_assoc]
        have o6 : w5.ownsRow w1.heap.size 59 3 (.slice a5 (idx s i + 1 + ((Lf s n).length - idx s i)) c5) (Lf (s.begin i x) n).length (flat (Lf (s.begin i x) n)) := by
          rw [e7, e8]
          exact own_mono OW5.out K2.out.size
        obtain ⟨r1, r2, r3⟩ := RF.list H.out hbase K5.out hf rfl rfl o6
        refine ⟨rfl, r2, _, _, r1, fun k hk => ?_⟩
        rcases hk with e | e | e
        · exact .inl (.inl e)
        · exact .inr (r3 k e)
        · exact .inl (.inr (.inr e))

theorem refBegin_any {w : World} {R : Nat} {lv dv : Value} {base n m : Nat} {s : St} (h : RF w R lv dv base n m s) (hbase : base ≤ w.heap.size) (c x : Int) :
    Calls Try.prog 11 #[.pointer (some ⟨R, 0, none⟩), .int .i64 c, .int .i64 x] w fun e w' => e = .returned (.int .i64 (bErr s n c)) ∧ RWent w w' R lv dv base n (m + 1) (bSt s n c x) := by
  by_cases h0 : 0 ≤ c ∧ c < n
  · obtain ⟨i, rfl⟩ := Int.eq_ofNat_of_zero_le h0.1
    cases ho : s.on i with
    | true =>
      have e1 : bErr s n i = 14 := by simp [bErr, h0, ho]
      have e2 : bSt s n i x = s := by simp [bSt, ho]
      rw [e1, e2]
      have H := Lib.hid h
      clear h e1 e2
      go_enter Try.func11, Try.ntmps11
      go_wp2_with fail; refine (refAt_on H.out i (by omega) ho).mono ?_; rintro e w1 ⟨rfl, rfl⟩
      go_wp2
      go_ret
      exact ⟨rfl, RWent.still H.out (Kept.refl _)⟩
    | false =>
      have e1 : bErr s n i = 0 := by simp [bErr, h0, ho]
      have e2 : bSt s n i x = s.begin i x := by simp [bSt, ho, h0]
      rw [e1, e2]
      exact refBegin_free h hbase i (by omega) ho x
  · have e1 : bErr s n c = 3 := by simp [bErr, h0]
    have e2 : bSt s n c x = s := by
      unfold bSt
      rw [if_neg (fun hh => h0 ⟨hh.1, hh.2.1⟩)]
    have HC := Lib.hid h0
    rw [e1, e2]
    have H := Lib.hid h
    clear h e1 e2 h0
    go_enter Try.func11, Try.ntmps11
    go_wp2_with fail; refine (refAt_out H.out c HC.out).mono ?_; rintro e w1 ⟨rfl, rfl⟩
    go_wp2
    go_ret
    exact ⟨rfl, RWent.still H.out (Kept.refl _)⟩

/-- A cell of a row of the call's own is stored. -/
theorem own_set {w : World} {base : Nat} {e : TypeId} {size : Nat} {g c n : Nat} {xs : List Value} (h : w.ownsRow base e size (.slice (some ⟨g, 0, none⟩) n c) n xs) (j : Nat) (v : Value) :
    (w.setCell ⟨g, j, none⟩ v).ownsRow base e size (.slice (some ⟨g, 0, none⟩) n c) n (xs.set j v) := by
  refine ⟨by rw [List.length_set]; exact h.1, ?_⟩
  rcases h.2 with ⟨hv, _⟩ | ⟨g', cap, cur, hv, hb, hg, h1, h2, h3, h4⟩
  · cases hv
  · injection hv with e1 e2 e3
    injection e1 with e1
    injection e1 with e1 _ _
    subst e1; subst e3
    refine .inr ⟨g, c, _, rfl, hb, heap_setCell_same w g j cur e v hg, h1, h2, ?_, ?_⟩
    · simpa using h3
    · rw [← h4]
      simp [List.take_set]
theorem flat_set (A B : List Dd) (x y z z' : Int) : (flat (A ++ ((x, y, z) :: B))).set (A.length * 3 + 2) (.int .i64 z') = flat (A ++ ((x, y, z') :: B)) := by
  rw [flat_append, flat_append, List.set_append, if_neg (by rw [flat_length]; omega), flat_length, flat_cons, flat_cons]
  rw [show A.length * 3 + 2 - A.length * 3 = 2 by omega]
  rfl

set_option maxHeartbeats 2000000 in
theorem refStep_on {w : World} {R : Nat} {lv dv : Value} {base n m : Nat} {s : St} (h : RF w R lv dv base n m s) (hm : m ≤ 1000) (i : Nat) (hi : i < n) (ho : s.on i = true) :
    Calls Try.prog 13 #[.pointer (some ⟨R, 0, none⟩), .int .i64 i] w fun e w' => e = .returned (.int .i64 0) ∧ RWent w w' R lv dv base n (m + 1) (s.step i) := by
  have c1 := h.lst
  have c3 := h.all
  have f3 := h.soft 3
  have hl := Lf_length h.fine
  have il := idx_lt s n i hi ho
  obtain ⟨g, c, hv, _, _⟩ := h.ownL.form (by omega)
  subst hv
  have hgR : g ≠ R := fun e => h.lr (by rw [e]; rfl)
  have hRg := hgR.symm
  have f0 := own_soft h.ownL g rfl (idx s i * 3 + 2)
  obtain ⟨g', o', c', hv, _, _, hc⟩ := (own_lies h.ownL).deed (by omega)
  injection hv with e1 e2 e3
  injection e1 with e1
  injection e1 with e1 e2 e3
  subst e1; subst e2
  have x2 := (hc _ _ (Lf_at s n i hi ho)).2.2
  simp only [ent, Nat.zero_add] at x2
  have a0 := h.fine.st0 i
  have a1 := h.fine.stm i
  have a2 := h.fine.am
  have H := Lib.hid h
  clear h hc
  go_enter Try.func13, Try.ntmps13
  go_wp2_with fail; refine (refAt_on H.out i hi ho).mono ?_; rintro e w1 ⟨rfl, rfl⟩
  go_wp2
  go_ret
  have h1 := H.out
  obtain ⟨w3, hw3⟩ : ∃ w3, w3 = (w1.setCell ⟨g, idx s i * 3 + 2, none⟩ (.int .i64 (s.steps i + 1))).setCell ⟨R, 3, none⟩ (.int .i64 (s.all + 1)) := ⟨_, rfl⟩
  have hb : But (fun k => k = g ∨ k = R) w1 w3 := by
    rw [hw3]
    exact ((But.refl _ w1).setCell (p := ⟨g, idx s i * 3 + 2, none⟩) (.inl (.inl rfl)) _).setCell (p := ⟨R, 3, none⟩) (.inl (.inr rfl)) _
  have hR : ∀ o, o ≠ 3 → w3.cell? ⟨R, o, none⟩ = w1.cell? ⟨R, o, none⟩ := by
    intro o ho
    rw [hw3, cell_set, if_neg (fun e => ho e.symm), cell_set_far _ _ _ _ _ _ hgR]
  have hm2 : But (MineR R (.slice (some ⟨g, 0, none⟩) (Lf s n).length c) dv) w1 w3 := hb.mono fun _ _ e => e.elim (fun e => .inr (.inl (by rw [e]; rfl))) (fun e => .inl e)
  have es := Lf_on s n i hi ho
  have ep : Lf (s.step i) n = ents s 0 i ++ (((i : Int), s.what i, s.steps i + 1) :: ents s (i + 1) (n - i - 1)) := by
    unfold St.step
    rw [Lf_put s n i hi]
    rfl
  have el : (Lf (s.step i) n).length = (Lf s n).length := by rw [ep, es]; simp
  have ef : flat (Lf (s.step i) n) = (flat (Lf s n)).set (idx s i * 3 + 2) (.int .i64 (s.steps i + 1)) := by
    rw [ep, es]
    exact (flat_set _ _ _ _ _ _).symm
  have ol : OwnD w3 base (.slice (some ⟨g, 0, none⟩) (Lf s n).length c) (Lf (s.step i) n) := by
    unfold OwnD
    rw [el, ef]
    refine own_same (own_set h1.ownL (idx s i * 3 + 2) _) fun g' hg' => ?_
    rw [hw3]
    have : g = g' := by simpa [Value.ownBlock] using hg'
    subst this
    exact Below.heap_setCell _ _ _ _ hgR
  rw [← hw3]
  refine ⟨rfl, hm2, _, dv, ⟨h1.fine.step i ho, (hR 0 (by decide)).trans h1.num, (hR 1 (by decide)).trans h1.lst, (hR 2 (by decide)).trans h1.dee, ?_, fun j => (hb.froze ⟨R, j, none⟩ (h1.lt R (.inl rfl))).trans (h1.soft j), ol, ?_, h1.bR, h1.lr, h1.dr, h1.ld⟩, fun _ h => .inl h⟩
  · rw [hw3, cell_set, if_pos rfl, cell_set_far _ _ _ _ _ _ hgR, c3]; rfl
  · exact own_but h1.ownD hb (fun g' hg' e => e.elim (fun e => h1.ld g rfl (e ▸ hg')) (fun e => h1.dr (e ▸ hg')))

theorem refStep_any {w : World} {R : Nat} {lv dv : Value} {base n m : Nat} {s : St} (h : RF w R lv dv base n m s) (hm : m ≤ 1000) (c : Int) :
    Calls Try.prog 13 #[.pointer (some ⟨R, 0, none⟩), .int .i64 c] w fun e w' => e = .returned (.int .i64 (sErr s n c)) ∧ RWent w w' R lv dv base n (m + 1) (sSt s c) := by
  cases ho : s.on c with
  | true =>
    obtain ⟨h0, h1⟩ := h.fine.inn c ho
    obtain ⟨i, rfl⟩ := Int.eq_ofNat_of_zero_le h0
    rw [sErr_on h.fine ho]
    have e2 : sSt s i = s.step i := by simp [sSt, ho]
    rw [e2]
    exact refStep_on h hm i (by omega) ho
  | false =>
    have e2 : sSt s c = s := by simp [sSt, ho]
    rw [e2]
    have H := Lib.hid h
    have HE := Lib.hid (sErr_not (n := n) ho)
    clear h e2
    rcases HE.out with he | he
    · go_enter Try.func13, Try.ntmps13
      go_wp2_with fail; refine (refAt_not H.out c ho).mono ?_; rintro e w1 ⟨rfl, rfl⟩
      rw [he]
      go_wp2
      go_ret
      exact ⟨by rw [he]; rfl, RWent.still H.out (Kept.refl _)⟩
    · go_enter Try.func13, Try.ntmps13
      go_wp2_with fail; refine (refAt_not H.out c ho).mono ?_; rintro e w1 ⟨rfl, rfl⟩
      rw [he]
      go_wp2
      go_ret
      exact ⟨by rw [he]; rfl, RWent.still H.out (Kept.refl _)⟩
end Go.Proofs.Ytdgajkimepgljaa
