/- The list of acts that FrameActs and FrameCounts take; FrameCounts. -/
import Derived.Test.YtdgajkimepgljaaFStands
import Derived.Test.YtdgajkimepgljaaTable
import Derived.Deep.RegionHeld3
import Derived.Deep.DeepCutAuto
import Derived.Deep.CutBlock
namespace Go.Proofs.Ytdgajkimepgljaa
open Go.ChangeShapes Go.WideShapes Go.Deep Go.RowKit

theorem wf_i64 (x : Int) (h : (Lit.int .i64 x).wf = true) : -9223372036854775808 ≤ x ∧ x ≤ 9223372036854775807 := by
  have e : IntKind.i64.min = -9223372036854775808 := by decide
  simpa [Lit.wf, e] using h
def IntIn (k : IntKind) (v : Value) : Prop := ∃ a : Int, v = .int k a ∧ (Lit.int k a).wf = true
def actR (_ : Nat) (v : Value) : Prop := IntIn .i64 v
theorem cellsAct : Try.prog.cellsOf 32 = 3 := by kernel_rfl
theorem open_acts {H : Type} {enc : TypeId × Value → H} {w : World} {base : Nat} {spare : Nat → Bool} {held : Bool} {fuel : Nat} {a : Option Addr} {len cap : Nat} {x : DataW H × List MemPlace}
    (h : DataW.trod enc Try.prog w base spare held fuel 22 [.slice a len cap] = some x) : IsTable w a len cap 3 actR := by
  rcases open_table Try.underlying22 Try.underlying32 (by kernel_rfl) cellsAct actR (fun j f hj v n y hy => by
    have hlt : j < 3 := (Array.getElem?_eq_some_iff.1 hj).1
    have hc : j = 0 ∨ j = 1 ∨ j = 2 := by omega
    rcases hc with rfl | rfl | rfl <;> (simp at hj; subst hj)
    · obtain ⟨q, e, _, wq⟩ := DataW.trod_int Try.underlying3 hy
      simp at e; subst e
      exact ⟨q, rfl, wq⟩
    · obtain ⟨q, e, _, wq⟩ := DataW.trod_int Try.underlying3 hy
      simp at e; subst e
      exact ⟨q, rfl, wq⟩
    · obtain ⟨q, e, _, wq⟩ := DataW.trod_int Try.underlying3 hy
      simp at e; subst e
      exact ⟨q, rfl, wq⟩) h with hcs | ⟨y, l, c, hcs, hl, hm, hx⟩
  · simp at hcs
    obtain ⟨rfl, rfl, rfl⟩ := hcs
    exact .inl ⟨rfl, rfl, rfl⟩
  · simp at hcs
    obtain ⟨rfl, rfl, rfl⟩ := hcs
    exact .inr ⟨_, rfl, hl, hm, hx⟩

/-- One act's cells. -/
theorem act_at {w : World} {a : Option Addr} {len cap : Nat} (h : IsTable w a len cap 3 actR) (k : Nat) (hk : k < len) : ∃ b off c x y, a = some ⟨b, off, none⟩ ∧ b < w.heap.size ∧
    w.cell? ⟨b, off + k * 3, none⟩ = some (.int .i64 c) ∧ w.cell? ⟨b, off + k * 3 + 1, none⟩ = some (.int .i64 x) ∧ w.cell? ⟨b, off + k * 3 + 2, none⟩ = some (.int .i64 y) ∧
    (-9223372036854775808 ≤ c ∧ c ≤ 9223372036854775807) ∧ (-9223372036854775808 ≤ x ∧ x ≤ 9223372036854775807) ∧ (-9223372036854775808 ≤ y ∧ y ≤ 9223372036854775807) := by
  obtain ⟨b, off, rfl, _, _, hb, hc⟩ := h.at (by omega) (by decide)
  obtain ⟨c0, a0, e0, w0⟩ := hc k hk 0 (by decide)
  obtain ⟨c1, a1, e1, w1⟩ := hc k hk 1 (by decide)
  obtain ⟨c2, a2, e2, w2⟩ := hc k hk 2 (by decide)
  rw [e0] at c0
  rw [e1] at c1
  rw [e2] at c2
  exact ⟨b, off, a0, a1, a2, rfl, hb, by simpa using c0, by rw [Nat.add_assoc]; exact c1, by rw [Nat.add_assoc]; exact c2, wf_i64 _ w0, wf_i64 _ w1, wf_i64 _ w2⟩

theorem infoBool : (Try.prog.info? 4).map (fun i => (i.zero, i.size, i.bytes)) = some (some (.bool false), 1, 1) := by kernel_rfl
theorem make_bools (n : Nat) (hn : n ≤ 64) : ∃ Z : Array Value, (∀ i, i < n → Z[i]? = some (.bool false)) ∧
    ∀ w : World, (Instr.makeSlice 61 (.int .i64 (n : Int)) (.int .i64 (n : Int))).run Try.prog w = .ok (.slice (some ⟨w.heap.size, 0, none⟩) n n) (w.alloc (.cells Z 4)) := by
  obtain ⟨i0, hi, hz0, hz1, hz2⟩ := info_parts infoBool
  refine ⟨madeCells #[.bool false] n, fun i h => ?_, fun w => ?_⟩
  · have e : (madeCells #[.bool false] n)[i]? = (madeCells #[.bool false] n).toList[i]? := by simp
    rw [e, toList_madeCells_one]
    simp [h]
  · have h := run_makeSlice (P := Try.prog) w 61 4 i0 (.bool false) Try.underlying61 hi hz0 .i64 .i64 (n : Int) (n : Int) (by omega) (Int.le_refl _) (by rw [hz1]; omega) (by rw [hz2]; omega) (by omega)
    rw [h, hz1]
    simp [Value.cells]

/-- Between two acts. -/
def CntRel (u : World) (F g n len : Nat) (made i : Value) (wr : World) : Prop :=
  ∃ (k : Nat) (s : St) (S : Nat → Prop), k ≤ len ∧ made = .int .i64 s.all ∧ i = .int .i64 k ∧ One u wr F n k s S ∧ Sums n s ∧ Win wr g n s ∧ ¬ S g ∧ u.heap.size ≤ g
/-- Behind the switch. -/
def CntMid (u : World) (F g n k : Nat) (v : Value) (D : List Dd) (made _busy : Value) (wr : World) : Prop :=
  ∃ (s : St) (S : Nat → Prop), made = .int .i64 s.all ∧ One u wr F n (k + 1) s S ∧ Sums n s ∧ Win wr g n s ∧ ¬ S g ∧ Lies wr v D.length (flat D) ∧ (∃ E, s.D = D ++ E)


theorem bSt_on (s : St) (n : Nat) (c : Nat) (hc : c < n) (x : Int) (j : Int) : (bSt s n c x).on j = if j = c then true else s.on j := by
  unfold bSt
  split
  · rfl
  · rename_i h
    split
    · rename_i e
      subst e
      cases ho : s.on c with
      | true => rfl
      | false => exact absurd ⟨by omega, by omega, ho⟩ h
    · rfl
theorem bSt_all (s : St) (n : Nat) (c x : Int) : (bSt s n c x).all = s.all := by unfold bSt; split <;> rfl
theorem bSt_D (s : St) (n : Nat) (c x : Int) : (bSt s n c x).D = s.D := by unfold bSt; split <;> rfl
theorem sSt_on (s : St) (c j : Int) : (sSt s c).on j = s.on j := by
  unfold sSt
  split
  · rename_i h
    by_cases e : j = c
    · subst e; simp [St.step, St.put, h]
    · simp [St.step, St.put, e]
  · rfl
theorem sSt_all (s : St) (c : Int) : (sSt s c).all = s.all + if s.on c then 1 else 0 := by
  unfold sSt; split <;> simp [St.step, St.put]
theorem sSt_D (s : St) (c : Int) : (sSt s c).D = s.D := by unfold sSt; split <;> rfl
theorem eSt_on (s : St) (c j : Int) : (eSt s c).on j = if j = c then false else s.on j := by
  unfold eSt
  split
  · rfl
  · rename_i h
    split
    · rename_i e; subst e; simpa using h
    · rfl
theorem eSt_all (s : St) (c : Int) : (eSt s c).all = s.all := by unfold eSt; split <;> rfl
theorem eSt_D (s : St) (c : Int) : ∃ E, (eSt s c).D = s.D ++ E := by
  unfold eSt
  split
  · exact ⟨_, rfl⟩
  · exact ⟨[], by simp⟩

/-- Behind a call and the law's own store. -/
theorem CntMid.mk {u w4 w5 w6 : World} {F g n k : Nat} {s s' : St} {S S' : Nat → Prop} {v : Value} {D : List Dd} {made : Int} {bz : Value} (h5 : One u w5 F n (k + 1) s' S') (b5 : But S w4 w5) (s5 : ∀ j, S' j → S j ∨ w4.heap.size ≤ j)
    (hw : Win w4 g n s) (hg : ¬ S g) (hl : Lies w4 v D.length (flat D)) (hne : ∀ b, v.ownBlock = some b → ¬ S b) (hgn : ∀ b, v.ownBlock = some b → b ≠ g) (hu : u.heap.size ≤ g)
    (b6 : But (fun k => k = g) w5 w6) (hc : ∀ i : Nat, i < n → w6.cell? ⟨g, i, none⟩ = some (.bool (s'.on i))) (hs : Sums n s') (ha : s'.all = made) (hD : ∃ E, s'.D = D ++ E) : CntMid u F g n k v D (.int .i64 made) bz w6 := by
  have hg' : ¬ S' g := fun h => (s5 g h).elim hg (fun h => by have := hw.lt; omega)
  refine ⟨s', S', by rw [ha], h5.but b6 (fun b hb e => hg' (e ▸ hb)) (fun b e => e ▸ hu), hs, ⟨hc, fun i => b6.soft (Nat.lt_of_lt_of_le hw.lt b5.size) (b5.soft hw.lt (hw.soft i)), Nat.lt_of_lt_of_le hw.lt (Nat.le_trans b5.size b6.size)⟩, hg', (hl.but b5 hne).but b6 hgn, hD⟩

theorem lies_take {w : World} {a : Option Addr} {c : Nat} {D E : List Dd} (h : Lies w (.slice a (D ++ E).length c) (D ++ E).length (flat (D ++ E))) : Lies w (.slice a D.length c) D.length (flat D) := by
  rcases h with ⟨hv, h0, _⟩ | ⟨g, o, c', hv, h1, h2, hc⟩
  · have hD : D = [] := List.eq_nil_of_length_eq_zero (by simp at h0; simp [h0])
    have : a = none ∧ c = 0 := by
      injection hv with e1 e2 e3
      exact ⟨e1, e3⟩
    obtain ⟨rfl, rfl⟩ := this
    subst hD
    exact .inl ⟨rfl, rfl, rfl⟩
  · injection hv with e1 e2 e3
    subst e1; subst e3
    refine .inr ⟨g, o, c, rfl, Nat.le_trans (by simp) h1, h2, fun j u hu => hc j u ?_⟩
    rw [flat_append, List.getElem?_append_left (List.getElem?_eq_some_iff.1 hu).1]
    exact hu

theorem bErr_zero (s : St) (n c : Nat) (hc : c < n) : bErr s n c = if s.on c then 14 else 0 := by
  have : (c : Int) < n := by omega
  simp [bErr, this]
theorem sErr_zero (s : St) (n c : Nat) (hc : c < n) : sErr s n c = if s.on c then 0 else 15 := by
  have : (c : Int) < n := by omega
  simp [sErr, this]

theorem counts_long {w : World} (x : Int) (q : Option Addr) (n c : Nat) (hn : 80 < n) :
    Calls Try.prog 6 #[.int .i64 x, .slice q n c] w fun e w' => e = .returned (.bool true) ∧ Kept w w' := by
  go_enter Try.func6, Try.ntmps6
  go_wp2_with fail; refine (known_any _).mono ?_; rintro e w1 ⟨rfl, k1⟩
  go_wp2
  go_ret
  exact ⟨rfl, k1⟩

set_option maxRecDepth 100000 in
set_option maxHeartbeats 8000000 in
theorem counts_loop {w : World} (x : Int) (q : Option Addr) (len c : Nat) (hlen : len ≤ 80) (wt : IsTable w q len c 3 actR) :
    Calls Try.prog 6 #[.int .i64 x, .slice q len c] w fun e w' => e = .returned (.bool true) ∧ Kept w w' := by
  have WT := Lib.hid wt
  clear wt
  obtain ⟨n, hn⟩ := Int.eq_ofNat_of_zero_le (show 0 ≤ 1 + x % 64 by have := Int.emod_nonneg x (show (64 : Int) ≠ 0 by decide); omega)
  have n1 : 1 ≤ n := by have := Int.emod_nonneg x (show (64 : Int) ≠ 0 by decide); omega
  have n64 : n ≤ 64 := by have := Int.emod_lt_of_pos x (show (0 : Int) < 64 by decide); omega
  have e0 : x % 64 = (n : Int) - 1 := by omega
  obtain ⟨Z, hZ, hmake⟩ := make_bools n n64
  have HZ := Lib.hid hZ
  clear hZ
  go_enter Try.func6, Try.ntmps6
  go_wp2_with fail; refine (known_any _).mono ?_; rintro e w1 ⟨rfl, k1⟩
  go_wp2_with fail; refine (pick_any x 64 (by decide) (by decide) _).mono ?_; rintro e w2 ⟨rfl, rfl⟩
  rw [e0]
  go_wp2_with fail
  rw [show (1 : Int) + ((n : Int) - 1) = n by omega]
  refine (one_new n n1 n64).mono ?_; rintro e w2 ⟨F, S, rfl, k2, h2, hS⟩
  have hW : Win (w2.alloc (.cells Z 4)) w2.heap.size n St.zero := by
    refine ⟨fun i hi => ?_, fun i => ?_, by simp⟩
    · rw [cell_new _ _ _ _ _ rfl]; exact HZ.out i hi
    · simp only [frozen?_alloc_cells]; simp [World.frozen?]
  have LT := h2.lt
  have z2 := k2.size
  have K1 := Lib.hid k1
  have H2 := Lib.hid (h2.kept ((Kept.refl w2).alloc Z 4))
  have HW := Lib.hid hW
  have K2 := Lib.hid (k1.trans k2)
  have NS : ¬ S w2.heap.size := fun h => Nat.lt_irrefl _ (LT _ h)
  have kq : Kept w (w2.alloc (.cells Z 4)) := (k1.trans k2).alloc _ _
  have KQ := Lib.hid kq
  clear hW h2 k1 k2 LT hS kq
  go_wp2_with fail
  obtain ⟨g, hg0⟩ : ∃ g, g = w2.heap.size := ⟨_, rfl⟩
  rw [← hg0] at HW NS z2 ⊢
  clear hg0
  go_loopw [9, 10] (CntRel w1 F g n len) (fun _ i _ => len - (intOf i).toNat)
  case atStart => exact ⟨0, St.zero, S, Nat.zero_le _, rfl, rfl, H2.out, Sums.zero n, HW.out, NS, z2⟩
  case round =>
    obtain ⟨k, s, S1, hk, rfl, rfl, h1, hs, hw, hg, hu⟩ := hrel
    have H1 := Lib.hid h1
    have HS := Lib.hid hs
    have HW1 := Lib.hid hw
    have HG := Lib.hid hg
    clear h1 hs hw hg
    by_cases hlt : k < len
    · obtain ⟨b, off, a0, a1, a2, rfl, hb, c0, c1, c2, ⟨l0, u0⟩, ⟨l1, u1⟩, l2, u2⟩ := act_at WT.out k hlt
      have KW := Lib.hid (K1.out.trans H1.out.frame)
      have c0 := KW.out.some c0
      have c1 := KW.out.some c1
      have c2 := KW.out.some c2
      obtain ⟨cc, hcc⟩ := Int.eq_ofNat_of_zero_le (Int.emod_nonneg a1 (show (n : Int) ≠ 0 by omega))
      have hcn : cc < n := by have := Int.emod_lt_of_pos a1 (show (0 : Int) < n by omega); omega
      obtain ⟨t, ht⟩ := Int.eq_ofNat_of_zero_le (Int.emod_nonneg a0 (show (3 : Int) ≠ 0 by decide))
      have ht3 : t < 3 := by have := Int.emod_lt_of_pos a0 (show (0 : Int) < 3 by decide); omega
      go_wp2_with fail; refine (pick_at a1 n cc (by omega) (by omega) hcc _).mono ?_; rintro e w3 ⟨rfl, rfl⟩
      have d0 := HW1.out.cell cc hcn
      have gl := HW1.out.lt
      go_wp2_with fail
      go_region_held3 (fun w' => w'.cell? ⟨g, cc, none⟩ = some (.bool (s.on cc)))
        (first | assumption | exact K4.some d0 | go_keep)
        (first
          | (go_at_call 19; refine ((H1.out.kept ?_).deeds (by omega)).mono ?_; (first | with_reducible exact Kept.refl _ | with_reducible exact (Kept.refl _).drew | with_reducible exact (Kept.refl _).drewN _); rintro e w4 ⟨a4, c4, rfl, k4, own4⟩; have K4 : Kept wr w4 := (by first | with_reducible exact k4 | with_reducible exact (Kept.refl _).drew.trans k4)))
      have OW := Lib.hid own4
      have L4 := Lib.hid (own_lies own4)
      have H4 := Lib.hid (H1.out.kept K4)
      have HW4 := Lib.hid (HW1.out.kept K4)
      have KK4 := Lib.hid K4
      have HL := Lib.hid H1.out.lt
      have HF := Lib.hid H1.out.fine
      have zz := K4.size
      clear own4 k4 K4
      have c0 := KK4.out.some c0
      have c1 := KK4.out.some c1
      have c2 := KK4.out.some c2
      go_wp2_with fail; refine (pick_at a0 3 t (by decide) (by decide) ht _).mono ?_; rintro e w5 ⟨rfl, rfl⟩
      go_upto_block 2 with fail
      go_cut [9, 13] (CntMid w1 F g n k (.slice a4 s.D.length c4) s.D)
      case first =>
        have hne : ∀ b', (Value.slice a4 s.D.length c4).ownBlock = some b' → ¬ S1 b' := fun b' e h => by
          have h1 : wr.heap.size ≤ b' := by simpa using (OW.out.lt b' e).1
          have h2 := HL.out b' h
          omega
        have HNE := Lib.hid hne
        have hgne : ∀ b', (Value.slice a4 s.D.length c4).ownBlock = some b' → b' ≠ g := fun b' e h => by
          have h1 : wr.heap.size ≤ b' := by simpa using (OW.out.lt b' e).1
          omega
        have HGN := Lib.hid hgne
        clear hne hgne
        have hc : t = 0 ∨ t = 1 ∨ t = 2 := by omega
        rcases hc with rfl | rfl | rfl
        · go_wp2_with fail; refine (H4.out.begin cc a2).mono ?_; rintro e w5 ⟨rfl, S5, h5, b5, s5⟩
          have q := bErr_zero s n cc hcn
          have HB := Lib.hid b5
          have H5 := Lib.hid h5
          have HS5 := Lib.hid s5
          have f0 := b5.soft (HW4.out.lt) (HW4.out.soft cc)
          have d5 := b5.some (HW4.out.cell cc hcn) HG.out
          clear h5 b5 s5
          have M : ∀ w6, But (fun k => k = g) w5 w6 → (∀ i : Nat, i < n → w6.cell? ⟨g, i, none⟩ = some (.bool ((bSt s n cc a2).on i))) → ∀ bz, CntMid w1 F g n k (.slice a4 s.D.length c4) s.D (.int .i64 s.all) bz w6 := fun w6 h6 hc bz =>
            CntMid.mk H5.out HB.out HS5.out HW4.out HG.out L4.out HNE.out HGN.out hu h6 hc (HS.out.bSt HF.out cc hcn a2) (bSt_all _ _ _ _) ⟨[], by rw [bSt_D]; simp⟩
          have MM := Lib.hid M
          have HX : ∀ i : Nat, i < n → (w5.setCell ⟨g, cc, none⟩ (.bool true)).cell? ⟨g, i, none⟩ = some (.bool ((bSt s n cc a2).on i)) := fun i hi => by
            rw [cell_set, bSt_on s n cc hcn]
            by_cases e : cc = i
            · subst e; rw [if_pos rfl, d5]; simp
            · rw [if_neg e, HB.out.some (HW4.out.cell i hi) HG.out, if_neg (by omega)]
          have HXX := Lib.hid HX
          clear M HX
          cases ho : s.on cc with
          | true =>
            rw [ho] at q d5
            rw [q]
            go_wp2
            go_meet
            exact MM.out _ ((But.refl _ _).here _ _) HXX.out _
          | false =>
            rw [ho] at q d5
            rw [q]
            go_wp2
            go_meet
            exact MM.out _ ((But.refl _ _).here _ _) HXX.out _
        · go_wp2_with fail; refine (H4.out.step (by omega) cc).mono ?_; rintro e w5 ⟨rfl, S5, h5, b5, s5⟩
          have q := sErr_zero s n cc hcn
          have qa := sSt_all s cc
          have M : CntMid w1 F g n k (.slice a4 s.D.length c4) s.D (.int .i64 (s.all + if s.on cc then 1 else 0)) (.bool (s.on cc)) w5 := 
            CntMid.mk h5 b5 s5 HW4.out HG.out L4.out HNE.out HGN.out hu (But.refl _ _) (fun i hi => by rw [sSt_on]; exact b5.some (HW4.out.cell i hi) HG.out) (HS.out.sSt cc hcn) qa ⟨[], by rw [sSt_D]; simp⟩
          have MM := Lib.hid M
          have am := HF.out.am
          have a0 := HF.out.all0
          clear h5 b5 s5 M qa
          cases ho : s.on cc with
          | true =>
            rw [ho] at q MM
            rw [q]
            go_wp2
            go_meet
            exact MM.out
          | false =>
            rw [ho] at q MM
            rw [q]
            go_wp2
            go_meet
            have := MM.out
            simpa using this
        · go_wp2_with fail; refine (H4.out.fin (by omega) cc).mono ?_; rintro e w5 ⟨rfl, S5, h5, b5, s5⟩
          have q := sErr_zero s n cc hcn
          have HB := Lib.hid b5
          have H5 := Lib.hid h5
          have HS5 := Lib.hid s5
          have f0 := b5.soft (HW4.out.lt) (HW4.out.soft cc)
          have d5 := b5.some (HW4.out.cell cc hcn) HG.out
          clear h5 b5 s5
          have M : ∀ w6, But (fun k => k = g) w5 w6 → (∀ i : Nat, i < n → w6.cell? ⟨g, i, none⟩ = some (.bool ((eSt s cc).on i))) → ∀ bz, CntMid w1 F g n k (.slice a4 s.D.length c4) s.D (.int .i64 s.all) bz w6 := fun w6 h6 hc bz =>
            CntMid.mk H5.out HB.out HS5.out HW4.out HG.out L4.out HNE.out HGN.out hu h6 hc (HS.out.eSt HF.out cc hcn) (eSt_all _ _) (eSt_D _ _)
          have MM := Lib.hid M
          have HX : ∀ i : Nat, i < n → (w5.setCell ⟨g, cc, none⟩ (.bool false)).cell? ⟨g, i, none⟩ = some (.bool ((eSt s cc).on i)) := fun i hi => by
            rw [cell_set, eSt_on]
            by_cases e : cc = i
            · subst e; rw [if_pos rfl, d5]; simp
            · rw [if_neg e, HB.out.some (HW4.out.cell i hi) HG.out, if_neg (by omega)]
          have HXX := Lib.hid HX
          clear M HX
          cases ho : s.on cc with
          | true =>
            rw [ho] at q d5
            rw [q]
            go_wp2
            go_meet
            exact MM.out _ ((But.refl _ _).here _ _) HXX.out _
          | false =>
            rw [ho] at q d5
            rw [q]
            go_wp2
            go_meet
            exact MM.out _ ((But.refl _ _).here _ _) HXX.out _
      case rest =>
        obtain ⟨s6, S6, rfl, h6, hs6, hw6, hg6, l6, E, hD⟩ := hcut
        have H6 := Lib.hid h6
        have HS6 := Lib.hid hs6
        have HW6 := Lib.hid hw6
        have HG6 := Lib.hid hg6
        have L6 := Lib.hid l6
        have dm := h6.fine.dm
        have dl : s.D.length + E.length ≤ 1000 := by rw [hD] at dm; simp at dm; omega
        clear h6 hs6 hw6 hg6 l6 c0 c1 c2 d0
        go_wp2_with fail; refine (stands_yes H6.out (by omega) g HW6.out HS6.out).mono ?_; rintro e w7 ⟨rfl, k7⟩
        have H7 := Lib.hid (H6.out.kept k7)
        have K7 := Lib.hid k7
        clear k7
        go_wp2_with fail; refine (H7.out.deeds (by omega)).mono ?_; rintro e w8 ⟨a8, c8, rfl, k8, own8⟩
        have l8 := own_lies own8
        rw [hD] at l8
        obtain ⟨_, _, hv8, m1, m2⟩ := l8.form
        cases hv8
        have L8 := Lib.hid (lies_take l8)
        have e8 : s6.D.length = s.D.length + E.length := by rw [hD]; simp
        have m3 : s.D.length ≤ c8 := by simp at m1; omega
        have K8 := Lib.hid (K7.out.trans k8)
        rw [e8]
        unfold maxLen at m2
        clear l8 own8 m1 k8
        go_wp2_with fail; refine (sameDeeds_yes L8.out (L6.out.kept K8.out) (by omega)).mono ?_; rintro e w9 ⟨rfl, k9⟩
        have K9 := Lib.hid (K8.out.trans k9)
        clear k9
        go_wp2
        go_roundw
        case rel => exact ⟨k + 1, s6, S6, by omega, rfl, by go_num, H6.out.kept K9.out, HS6.out, HW6.out.kept K9.out, HG6.out, hu⟩
        case measure => simp [intOf]; omega
    · go_wp2
      go_ret
      exact ⟨rfl, K1.out.trans H1.out.frame⟩

theorem counts_any {w : World} (x : Int) (q : Option Addr) (len c : Nat) (wt : IsTable w q len c 3 actR) :
    Calls Try.prog 6 #[.int .i64 x, .slice q len c] w fun e w' => e = .returned (.bool true) ∧ Kept w w' := by
  by_cases h : 80 < len
  · exact counts_long x q len c h
  · exact counts_loop x q len c (by omega) wt
end Go.Proofs.Ytdgajkimepgljaa
