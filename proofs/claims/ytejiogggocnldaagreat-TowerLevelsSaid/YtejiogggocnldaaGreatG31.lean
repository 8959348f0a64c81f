/- TowerLevels. Written by gen16o.py. -/
import Derived.Test.YtejiogggocnldaaGreatG30
import Derived.Test.YtejiogggocnldaaGreatG06
set_option linter.unusedVariables false
set_option linter.unusedSimpArgs false

namespace Go.Proofs.YtejiogggocnldaaGreat.Tw.Lv
set_option maxRecDepth 20000
open Go.RowKit
open Wo (St acc wordAt PMem RefIs)
open Sk (Stk Arn idx Wd p_store p_new pmem_lt pmem_kept pmem_frame kept_of acc_cnt)
attribute [local go_sem ↓] Lim.appI_named

structure EV (w : World) (M B tb : Nat) (l : List Int) (c : Nat) (wi : World) : Prop where
  mv : Mv w M B l c wi
  tb : TB wi tb T0
theorem EV.grow {w wi wj : World} {M B tb c : Nat} {l : List Int} (h : EV w M B tb l c wi) (k : Kept wi wj) : EV w M B tb l c wj := ⟨h.mv.grow k, h.tb.kept k⟩
theorem EV.but {w wi wj : World} {M B tb c b1 : Nat} {l : List Int} (h : EV w M B tb l c wi) {T : Nat → Prop} (k : But T wi wj) (hT : ∀ j, T j → b1 ≤ j) (h1 : M < b1 ∧ B < b1 ∧ tb < b1 ∧ w.heap.size ≤ b1) : EV w M B tb l c wj := by
  obtain ⟨s, m, e1, e2, e3⟩ := h.mv.ex
  exact ⟨⟨⟨s, pmem_frame m k (fun e => by have := hT _ e; omega) (fun e => by have := hT _ e; omega), e1, e2, e3⟩, ((h.mv.kept.but T).trans k (fun _ _ h => h)).kept (fun i hi e => by have := hT _ e; omega), h.mv.lM, h.mv.lB⟩, h.tb.but k (fun e => by have := hT _ e; omega)⟩
def VRel (w : World) (M B tb b1 : Nat) (ll : Nat) (u x : Value) (wr : World) : Prop :=
  ∃ k : Nat, k ≤ ll ∧ x = .int .i64 k ∧ ∃ R ∈ rows, wr.ownsRow b1 3 1 u R.length (ints R) ∧ EV w M B tb base 16 wr ∧ b1 ≤ wr.heap.size
theorem own_cell {w : World} {base g o n c k : Nat} {l : List Int} {x : Int} (own : w.ownsRow base 3 1 (.slice (some ⟨g, o, none⟩) n c) n (ints l)) (hx : l[k]? = some x) : w.cell? ⟨g, o + k, none⟩ = some (.int .i64 x) := by
  rcases own_lies own with ⟨e1, _, _⟩ | ⟨g', o', c', e1, _, _, hc⟩
  · cases e1
  · injection e1 with e1 _ _
    injection e1 with e1
    injection e1 with e1 e2
    subst e1
    subst e2
    exact hc k _ (ints_get l k x hx)
theorem reads_ints {w : World} {base n c : Nat} {a : Option Addr} {l : List Int} (own : w.ownsRow base 3 1 (.slice a n c) n (ints l)) (hl : l.length = n) : Reads w a n (fun i => l.getD i 0) := by
  rcases own_lies own with ⟨e1, e2, _⟩ | ⟨g, o, c', e1, _, _, hc⟩
  · exact .inl e2
  · injection e1 with e1 _ _
    refine .inr ⟨g, o, e1, fun i hi => hc i _ ?_⟩
    exact ints_get l i _ (by rw [List.getElem?_eq_getElem (show i < l.length by omega)]; simp [List.getD_eq_getElem?_getD, List.getElem?_eq_getElem (show i < l.length by omega)])
theorem same_rows {w : World} {b1 b2 n c1 c2 : Nat} {a1 a2 : Option Addr} {l : List Int} (hl : l.length = n) (hn : n ≤ 1000) (o1 : w.ownsRow b1 3 1 (.slice a1 n c1) n (ints l)) (o2 : w.ownsRow b2 3 1 (.slice a2 n c2) n (ints l)) : Calls Tryz.prog 37 #[.slice a1 n c1, .slice a2 n c2] w fun e w' => e = .returned (.bool true) ∧ Kept w w' :=
  sameInts_yes a1 a2 n c1 c2 _ w (by omega) (reads_ints o1 hl) (reads_ints o2 hl)
def bitM (mk : Int) (j : Nat) : Bool := bits .and .i64 (mk / 2 ^ j) 1 == 1
theorem liv_len (R : List Int) (b : Nat → Bool) : ∀ k, (livR R b k).length ≤ k
  | 0 => Nat.le_refl _
  | k + 1 => by
    have := liv_len R b k
    unfold livR
    split
    · omega
    · rw [List.length_append]; simp; omega
def WRel (w : World) (M B tb b1 b2 : Nat) (R : List Int) (lev : Int) (n : Nat) (b : Nat → Bool) (au : Option Addr) (cu : Nat) (u xa xm x : Value) (wr : World) : Prop :=
  ∃ k : Nat, k ≤ n + 1 ∧ x = .int .i64 k ∧ xa = .int .i64 (atR R (min k n)) ∧ xm = .bool (mkR b (min k n)) ∧ ∃ L : List Int, wr.ownsRow b2 3 1 u L.length (ints L) ∧ L = livR R b (min k n) ∧ wr.ownsRow b1 3 1 (.slice au n cu) n (ints R) ∧ EV w M B tb (lw R lev b k) (16 + k) wr ∧ b2 ≤ wr.heap.size
set_option maxHeartbeats 8000000 in
theorem tower_levels_any (la : Option Addr) (ll lc : Nat) (f : Nat → Int) (lv mk : Int) (w : World) (hrow : Row w la ll lc f) : Calls Tryz.prog 7 #[.slice la ll lc, .int .i64 lv, .int .i64 mk] w fun e w' => e = .returned (.bool true) ∧ Kept w w' := by
  have q := eqn
  have KN := fun W => Lib.hid (known_any W)
  have PK := fun x W => Lib.hid (pick_any x 3 (by decide) (by decide) W)
  have P2 := fun W => Lib.hid (pick_any lv 2 (by decide) (by decide) W)
  obtain ⟨lev, hlev⟩ : ∃ lev, lev = lv % 2 := ⟨_, rfl⟩
  have hl01 : lev = 0 ∨ lev = 1 := by omega
  rw [← hlev] at P2
  have HLV := Lib.hid hl01
  have RW := Lib.hid hrow
  have hl5 : ll ≤ 9223372036854775807 := by have h1 := hrow.2.1; have h2 := hrow.2.2.1; unfold maxLen at h2; omega
  clear hlev hl01 hrow
  go_enter Tryz.func7, Tryz.ntmps7
  go_wp2_with fail
  refine (KN _).out.mono ?_
  rintro e w1 ⟨rfl, k1⟩
  go_wp2_with fail
  refine (p_new 34 (by decide) (by decide) _).mono ?_
  rintro e w2 ⟨rfl, m2, z2, k2⟩
  obtain ⟨M, hM⟩ : ∃ M, M = w1.heap.size + 1 := ⟨_, rfl⟩
  rw [← hM] at m2 ⊢
  obtain ⟨B, hB⟩ : ∃ B, B = w1.heap.size := ⟨_, rfl⟩
  rw [← hB] at m2
  have hw1 := k1.size
  have I2 : Hid (In w M B Wo.St.zero w2) := Lib.hid ⟨m2, k1.trans k2, by omega, by omega⟩
  have lMB : M < w2.heap.size ∧ B < w2.heap.size := pmem_lt m2
  clear m2 k1 k2 z2 hM hB
  go_wp2_with fail
  refine (chapter_any _).mono ?_
  rintro e w3 ⟨rfl, k3⟩
  have I3 := Lib.hid (I2.out.grow k3)
  have z3 := k3.size
  clear k3 I2
  go_wp2_with fail
  obtain ⟨W3, hW3⟩ : ∃ W3, W3 = w3.alloc (.cells #[.int .i64 T0.D, .int .i64 T0.H, .int .i64 T0.G, .int .i64 T0.A.F.T, .int .i64 T0.A.F.K, .int .i64 T0.A.F.N, .int .i64 T0.A.G, .int .i64 T0.A.V, .int .i64 T0.A.L, .int .i64 T0.E.T, .int .i64 T0.E.K, .int .i64 T0.E.N, .int .i64 T0.P] 31) := ⟨_, rfl⟩
  have TB3 : Hid (TB W3 w3.heap.size T0) := Lib.hid (by rw [hW3]; exact TB.new w3 _ _ rfl T0)
  have I3 : Hid (In w M B Wo.St.zero W3) := Lib.hid (by rw [hW3]; exact I3.out.grow ((Kept.refl _).alloc _ _))
  rw [← hW3]
  clear hW3
  refine (p_tfill M B 34 T0 Wo.St.zero _ I3.out.mem (by decide) (by decide) okT0 sndT0).mono ?_
  rintro e w4 ⟨rfl, m4, b4⟩
  have I4 : Hid (In w M B sF w4) := Lib.hid ((I3.out.put (P := B) m4 (b4.mono fun _ _ h => .inr h) I3.out.lB).lit worF)
  have E4 : Hid (EV w M B w3.heap.size base 16 w4) := Lib.hid ⟨⟨⟨_, I4.out.mem, rfl, by rw [cntF]; decide, by rw [cntF]; decide⟩, I4.out.kept, I4.out.lM, I4.out.lB⟩, TB3.out.but b4 (by omega)⟩
  clear m4 b4 I3 I4 TB3
  go_wp2_with fail
  obtain ⟨b1, hb1⟩ : ∃ b1, b1 = w4.heap.size := ⟨_, rfl⟩
  have HB1 : Hid (M < b1 ∧ B < b1 ∧ w3.heap.size < b1 ∧ w.heap.size ≤ b1) := Lib.hid (by
    have h1 := E4.out.mv.lt
    have h2 := lt_of_cell E4.out.tb.c0
    have h3 := E4.out.mv.kept.size
    omega)
  have HBT : Hid (B ≠ w3.heap.size) := Lib.hid (by omega)
  clear lMB z3 hw1
  go_loopw [11, 13] (VRel w M B w3.heap.size b1 ll) (fun _ x _ => ll + 1 - (intOf x).toNat)
  case atStart => exact ⟨0, Nat.zero_le _, rfl, [], by simp [rows], World.ownsRow_nil _ _ _ _, E4.out, by rw [hb1]; exact Nat.le_refl _⟩
  case round =>
    obtain ⟨k, hk, rfl, R, hR, own, ev, hNr⟩ := hrel
    obtain ⟨au, cu, rfl⟩ := own_form own
    have OW := Lib.hid own
    have EVR := Lib.hid ev
    have HR := Lib.hid hR
    have hR3 := rows_len R hR
    have hk0 : (0 : Int) ≤ (k : Int) := by omega
    clear own ev hR
    by_cases hlt : k < ll ∧ k < 20
    · obtain ⟨h1, h2⟩ := hlt
      have hli : (k : Int) < (ll : Int) := by omega
      have hl2 : (k : Int) < 20 := by omega
      rcases RW.out.reads with h | ⟨pb, po, rfl, hc⟩
      · omega
      have cx := EVR.out.mv.kept.some (hc k h1)
      have lx := lt_of_cell cx
      clear hc
      obtain ⟨i, hi⟩ : ∃ i, i = f k % 3 := ⟨_, rfl⟩
      have hi3 : i ∈ [(0 : Int), 1, 2] := by
        have : i = 0 ∨ i = 1 ∨ i = 2 := by omega
        rcases this with h | h | h <;> simp [h]
      have HI3 := Lib.hid hi3
      have PI := fun W => Lib.hid (show Calls Tryz.prog 15 #[.int .i64 (f k), .int .i64 3] W fun e w' => e = .returned (.int .i64 i) ∧ W = w' from by rw [hi]; exact (PK (f k) W).out)
      obtain ⟨bi, hbi⟩ : ∃ bi, bi = decide (i ∈ R) := ⟨_, rfl⟩
      have AM := Lib.hid (show Calls Tryz.prog 47 #[.slice au R.length cu, .int .i64 i] wr fun e w' => e = .returned (.bool bi) ∧ wr = w' from by rw [hbi]; exact among_any rfl (by omega) OW.out i)
      have HBI := Lib.hid hbi
      clear hi hi3 hbi
      go_wp2_with fail
      refine (PI _).out.mono ?_
      rintro e _ ⟨rfl, rfl⟩
      go_wp2_with fail
      refine AM.out.mono ?_
      rintro e _ ⟨rfl, rfl⟩
      cases bi with
      | true =>
        go_wp2
        exact ⟨⟨k + 1, by omega, by go_num, R, HR.out, OW.out, EVR.out, hNr⟩, by simp [intOf]; omega⟩
      | false =>
        obtain ⟨a', c', w7, hrun, own7, but7⟩ := Lim.app1 OW.out (Kept.refl wr) hNr (by omega) i
        have O7 := Lib.hid own7
        clear own7
        go_wp2
        have hR' : R ++ [i] ∈ rows := rows_snoc R HR.out i HI3.out (fun h => by have := HBI.out; rw [decide_eq_true h] at this; cases this)
        refine ⟨⟨k + 1, by omega, by go_num, R ++ [i], hR', ?_, EVR.out.but but7 (fun j e => (OW.out.lt j e).1) HB1.out, Nat.le_trans hNr but7.size⟩, by simp [intOf]; omega⟩
        have := O7.out
        rwa [List.length_append] at this ⊢
    · have hstop : (ll : Int) ≤ (k : Int) ∨ ((k : Int) < (ll : Int) ∧ (20 : Int) ≤ (k : Int)) := by omega
      rcases hstop with d1 | ⟨d1, d2⟩
      all_goals
        clear hlt
        go_wp2_with fail
        refine (P2 _).out.mono ?_
        rintro e _ ⟨rfl, rfl⟩
        go_wp2_with fail
        obtain ⟨n, hn⟩ : ∃ n, n = R.length := ⟨_, rfl⟩
        have HN := Lib.hid hn
        rw [← hn] at OW hR3 ⊢
        obtain ⟨b2, hb2⟩ : ∃ b2, b2 = wr.heap.size := ⟨_, rfl⟩
        have HB2 := Lib.hid hb2
        have RBL : Hid (∀ g, (Value.slice au n cu).ownBlock = some g → g < b2) := Lib.hid (fun g hg => by rw [hb2]; exact (OW.out.lt g hg).2)
        clear hn hb2
        go_loopw [12, 15, 16, 17] (WRel w M B w3.heap.size b1 b2 R lev n (fun j => bitM mk j) au cu) (fun _ _ _ x _ => n + 2 - (intOf x).toNat)
        case atStart => exact ⟨0, by omega, rfl, by simp [atR], by simp [mkR], [], World.ownsRow_nil _ _ _ _, by simp [livR], OW.out, EVR.out, by rw [HB2.out]; exact Nat.le_refl _⟩
        case round =>
          obtain ⟨k2, hk2, rfl, rfl, rfl, L, ol, hL, ow, ev, hz⟩ := hrel
          obtain ⟨al, cl, rfl⟩ := own_form ol
          have OL := Lib.hid ol
          have OW := Lib.hid ow
          have EVR := Lib.hid ev
          have HL := Lib.hid hL
          have OWB := RBL
          have hk20 : (0 : Int) ≤ (k2 : Int) := by omega
          have LV := HLV.out
          obtain ⟨a0, a1, a2, a3, a4, a5, a6, a7, a8, a9, a10, a11, a12⟩ := EVR.out.tb
          have lz := lt_of_cell a0
          clear ol ow ev hL
          by_cases hle : k2 ≤ n
          · have hmin : min k2 n = k2 := Nat.min_eq_left hle
            rw [hmin] at HL ⊢
            have hli : (k2 : Int) ≤ (n : Int) := by omega
            have had := addr_in R HR.out lev (by rcases LV with h | h <;> simp [h]) ⟨k2, by omega⟩ (by have := HN.out; show k2 ≤ R.length; omega)
            obtain ⟨na, hna⟩ : ∃ na, na = nextI T0 (atR R k2) lev := ⟨_, rfl⟩
            dsimp only at had
            rw [← hna] at had
            have NX := fun W => Lib.hid (show Calls Tryz.prog 33 #[towV T0, .int .i64 (atR R k2), .int .i64 lev] W fun e w' => e = .returned (.int .i64 na) ∧ Kept W w' from by rw [hna]; exact next_any T0 (atR R k2) lev (by unfold I64; omega) W)
            have HNA := Lib.hid hna
            obtain ⟨wd, hwd⟩ : ∃ wd, wd = wdR R k2 := ⟨_, rfl⟩
            have hwr : 0 ≤ wd ∧ wd < 18446744073709551616 := by
              rw [hwd]
              unfold wdR
              split
              · rename_i h
                have := rows_in R HR.out (R.getD k2 0) (by rw [List.getD_eq_getElem?_getD, List.getElem?_eq_getElem h]; exact List.getElem_mem _)
                have := HN.out
                omega
              · omega
            obtain ⟨ww, hww⟩ : ∃ ww, ww = Wo.setMark wd (mkR (fun j => bitM mk j) k2) := ⟨_, rfl⟩
            have HWW : Hid (ww = Wo.setMark (wdR R k2) (mkR (fun j => bitM mk j) k2)) := Lib.hid (by rw [hww, hwd])
            obtain ⟨mkb, hmkb⟩ : ∃ m, m = mkR (fun j => bitM mk j) k2 := ⟨_, rfl⟩
            have MK := fun W => Lib.hid (show Calls Tryz.prog 49 #[.int .u64 wd, .bool mkb] W fun e w' => e = .returned (.int .u64 ww) ∧ W = w' from by rw [hww, hmkb]; exact Wo.marks_any wd _ W hwr.1 hwr.2)
            rw [← hmkb]
            have HMKB := Lib.hid hmkb
            obtain ⟨ata, hata⟩ : ∃ x, x = atR R k2 := ⟨_, rfl⟩
            rw [← hata] at NX ⊢
            have HATA := Lib.hid hata
            have HWD := Lib.hid hwd
            clear hna hwd hww hmkb hata
            by_cases hlt2 : k2 < n
            · have hli2 : (k2 : Int) < (n : Int) := by omega
              rcases own_lies OW.out with ⟨_, e2, _⟩ | ⟨g, o, c', e1, _, _, hc⟩
              · omega
              · injection e1 with e1 e3 e4
                subst e1
                subst e4
                clear e3
                obtain ⟨r, hr⟩ : ∃ r, r = R.getD k2 0 := ⟨_, rfl⟩
                have hrl : k2 < R.length := by have := HN.out; omega
                have hr2 : R[k2]? = some r := by rw [hr, List.getD_eq_getElem?_getD, List.getElem?_eq_getElem hrl]; rfl
                have hr3 := rows_in R HR.out r (List.mem_of_getElem? hr2)
                have cx := hc k2 _ (ints_get R k2 r hr2)
                have lx := lt_of_cell cx
                have CX := Lib.hid cx
                have HRR := Lib.hid hr
                have w5 : IntKind.i64.wrap (5 + (k2 : Int)) = 5 + (k2 : Int) := by rw [IntKind.wrap_i64]; omega
                have PRF := fun W => Lib.hid (show Calls Tryz.prog 48 #[.agg #[.int .i64 r, .int .i64 (5 + (k2 : Int)), .bool false]] W fun e w' => e = .returned (.tuple #[.int .u64 wd, .int .i64 0]) ∧ Kept W w' from (Wo.put_ref_good r (5 + (k2 : Int)) false W ⟨by omega, by omega, by omega, by omega⟩ (fun h => by omega)).mono fun _ _ ⟨x, k⟩ => ⟨by rw [x, HWD.out]; unfold wdR; rw [if_pos hrl, ← hr]; simp [Wo.bitOf], kept_of k⟩)
                have HR2 := Lib.hid hr2
                clear hc hr hr2 cx
                have cx := CX.out
                go_wp2_with fail
                refine ((PRF _).out).mono ?_
                rintro e v1 ⟨rfl, kk⟩
                have EVR := Lib.hid (EVR.out.grow (Kept.trans (b := _) (by first | exact Kept.refl _ | (go_light; repeat (first | (with_reducible exact Kept.refl _) | (with_reducible assumption) | (with_reducible refine Kept.alloc ?_ _ _) | (with_reducible refine Kept.drew ?_) | (with_reducible refine Kept.drewN ?_ _) | ((with_reducible refine Kept.setCell ?_ ?_ _); rotate_left; focus (first | (simp; done) | (simp; omega))) | refine Kept.trans ?_ (by assumption)))) kk))
                have OW := Lib.hid (own_keep OW.out (Kept.trans (b := _) (by first | exact Kept.refl _ | (go_light; repeat (first | (with_reducible exact Kept.refl _) | (with_reducible assumption) | (with_reducible refine Kept.alloc ?_ _ _) | (with_reducible refine Kept.drew ?_) | (with_reducible refine Kept.drewN ?_ _) | ((with_reducible refine Kept.setCell ?_ ?_ _); rotate_left; focus (first | (simp; done) | (simp; omega))) | refine Kept.trans ?_ (by assumption)))) kk))
                have OL := Lib.hid (own_keep OL.out (Kept.trans (b := _) (by first | exact Kept.refl _ | (go_light; repeat (first | (with_reducible exact Kept.refl _) | (with_reducible assumption) | (with_reducible refine Kept.alloc ?_ _ _) | (with_reducible refine Kept.drew ?_) | (with_reducible refine Kept.drewN ?_ _) | ((with_reducible refine Kept.setCell ?_ ?_ _); rotate_left; focus (first | (simp; done) | (simp; omega))) | refine Kept.trans ?_ (by assumption)))) kk))
                have hz1 : b2 ≤ v1.heap.size := by have h1 : Kept wr v1 := (Kept.trans (b := _) (by first | exact Kept.refl _ | (go_light; repeat (first | (with_reducible exact Kept.refl _) | (with_reducible assumption) | (with_reducible refine Kept.alloc ?_ _ _) | (with_reducible refine Kept.drew ?_) | (with_reducible refine Kept.drewN ?_ _) | ((with_reducible refine Kept.setCell ?_ ?_ _); rotate_left; focus (first | (simp; done) | (simp; omega))) | refine Kept.trans ?_ (by assumption)))) kk); have := h1.size; omega
                clear kk a0 a1 a2 a3 a4 a5 a6 a7 a8 a9 a10 a11 a12 lz
                obtain ⟨a0, a1, a2, a3, a4, a5, a6, a7, a8, a9, a10, a11, a12⟩ := EVR.out.tb
                have lz := lt_of_cell a0
                go_wp2_with fail
                refine (NX _).out.mono ?_
                rintro e v2 ⟨rfl, kk⟩
                have EVR := Lib.hid (EVR.out.grow kk)
                have OW := Lib.hid (own_keep OW.out kk)
                have OL := Lib.hid (own_keep OL.out kk)
                have hz2 : b2 ≤ v2.heap.size := by have := kk.size; omega
                clear kk a0 a1 a2 a3 a4 a5 a6 a7 a8 a9 a10 a11 a12 lz
                go_wp2_with fail
                refine (MK _).out.mono ?_
                rintro e _ ⟨rfl, rfl⟩
                go_wp2_with fail
                refine (mvstore EVR.out.mv (by omega) na na.toNat (by omega) ww (by omega) (lw_len ..)).mono ?_
                rintro e v3 ⟨rfl, mm, bb⟩
                have hbB : ∀ j, j = B → j < b1 := fun j e => by have := HB1.out; omega
                have e1 : lw R lev (fun j => bitM mk j) (k2 + 1) = (lw R lev (fun j => bitM mk j) k2).set na.toNat ww := by rw [HNA.out, HWW.out]; rfl
                have EVR : Hid (EV w M B w3.heap.size (lw R lev (fun j => bitM mk j) (k2 + 1)) (16 + (k2 + 1)) v3) := Lib.hid ⟨by rw [e1]; exact mm, EVR.out.tb.but bb (fun e => HBT.out e.symm)⟩
                have OW := Lib.hid (own_but OW.out bb (fun g hg e => by have h1 := (OW.out.lt g hg).1; have := hbB g e; omega))
                have OL := Lib.hid (own_but OL.out bb (fun g hg e => by have h1 := (OL.out.lt g hg).1; have := hbB g e; have := HB2.out; have := hNr; omega))
                have hz3 : b2 ≤ v3.heap.size := by have := bb.size; omega
                clear mm bb hbB
                have cx := own_cell OW.out HR2.out
                have lx := lt_of_cell cx
                go_wp2_with fail
                have cx := own_cell OW.out HR2.out
                have lx := lt_of_cell cx
                go_quiet (fail)
                obtain ⟨v4, hv4⟩ : ∃ v4, v4 = v3.drewN nq := ⟨_, rfl⟩
                have k34 : Kept v3 v4 := by rw [hv4]; exact (Kept.refl _).drewN _
                have EVR := Lib.hid (EVR.out.grow k34)
                have OW := Lib.hid (own_keep OW.out k34)
                have OL := Lib.hid (own_keep OL.out k34)
                have hz4 : b2 ≤ v4.heap.size := by have := k34.size; omega
                rw [← hv4]
                have hm2 : min (k2 + 1) n = k2 + 1 := Nat.min_eq_left hlt2
                have HAT : Hid (atR R (k2 + 1) = r) := Lib.hid (by rw [HRR.out]; unfold atR; rw [if_neg (by omega)]; rfl)
                obtain ⟨bk, hbk⟩ : ∃ b, b = bitM mk k2 := ⟨_, rfl⟩
                have hbk2 : (bits .and .i64 (mk / 2 ^ k2) 1 == 1) = bk := hbk.symm
                rw [hbk2]
                have HMK : Hid (mkR (fun j => bitM mk j) (k2 + 1) = bk) := Lib.hid (by rw [hbk]; rfl)
                have HBK := Lib.hid hbk
                clear hv4 k34 hbk hbk2 cx lx
                cases bk with
                | true =>
                  go_wp2
                  refine ⟨⟨k2 + 1, by omega, by go_num, by rw [hm2, HAT.out], by rw [hm2, HMK.out], L, OL.out, ?_, OW.out, EVR.out, hz4⟩, by simp [intOf]; omega⟩
                  rw [hm2, HL.out]
                  show _ = if bitM mk k2 then _ else _
                  rw [← HBK.out, if_pos rfl]
                | false =>
                  have hl5 : L.length ≤ 5000 := by rw [HL.out]; exact Nat.le_trans (liv_len R _ k2) (by omega)
                  obtain ⟨a', c', w7, hrun, own7, but7⟩ := Lim.app1 OL.out (Kept.refl v4) hz4 hl5 r
                  have O7 := Lib.hid own7
                  clear own7
                  go_wp2
                  refine ⟨⟨k2 + 1, by omega, by go_num, by rw [hm2, HAT.out], by rw [hm2, HMK.out], L ++ [r], ?_, ?_, own_but OW.out but7 (fun g hg e => ?_), EVR.out.but but7 (fun j e => (OL.out.lt j e).1) (by have := HB1.out; have := HB2.out; omega), Nat.le_trans hz4 but7.size⟩, by simp [intOf]; omega⟩
                  · have := O7.out
                    rwa [List.length_append] at this ⊢
                  · rw [hm2, HL.out]
                    show _ = if bitM mk k2 then _ else _
                    rw [← HBK.out, if_neg (by decide), ← HRR.out]
                  · have h1 := OWB.out g hg
                    have h2 := (OL.out.lt g e).1
                    omega
            · have hkn : k2 = n := by omega
              have hli2 : (n : Int) ≤ (k2 : Int) := by omega
              have PRF := fun W => Lib.hid (show Calls Tryz.prog 48 #[.agg #[.int .i64 (-1), .int .i64 0, .bool false]] W fun e w' => e = .returned (.tuple #[.int .u64 wd, .int .i64 0]) ∧ Kept W w' from (Wo.put_ref_good (-1) 0 false W ⟨by omega, by omega, by omega, by omega⟩ (fun h => by omega)).mono fun _ _ ⟨x, k⟩ => ⟨by rw [x, HWD.out]; unfold wdR; rw [if_neg (by have := HN.out; omega)]; simp [Wo.bitOf], kept_of k⟩)
              go_wp2_with fail
              refine ((PRF _).out).mono ?_
              rintro e v1 ⟨rfl, kk⟩
              have EVR := Lib.hid (EVR.out.grow (Kept.trans (b := _) (by first | exact Kept.refl _ | (go_light; repeat (first | (with_reducible exact Kept.refl _) | (with_reducible assumption) | (with_reducible refine Kept.alloc ?_ _ _) | (with_reducible refine Kept.drew ?_) | (with_reducible refine Kept.drewN ?_ _) | ((with_reducible refine Kept.setCell ?_ ?_ _); rotate_left; focus (first | (simp; done) | (simp; omega))) | refine Kept.trans ?_ (by assumption)))) kk))
              have OW := Lib.hid (own_keep OW.out (Kept.trans (b := _) (by first | exact Kept.refl _ | (go_light; repeat (first | (with_reducible exact Kept.refl _) | (with_reducible assumption) | (with_reducible refine Kept.alloc ?_ _ _) | (with_reducible refine Kept.drew ?_) | (with_reducible refine Kept.drewN ?_ _) | ((with_reducible refine Kept.setCell ?_ ?_ _); rotate_left; focus (first | (simp; done) | (simp; omega))) | refine Kept.trans ?_ (by assumption)))) kk))
              have OL := Lib.hid (own_keep OL.out (Kept.trans (b := _) (by first | exact Kept.refl _ | (go_light; repeat (first | (with_reducible exact Kept.refl _) | (with_reducible assumption) | (with_reducible refine Kept.alloc ?_ _ _) | (with_reducible refine Kept.drew ?_) | (with_reducible refine Kept.drewN ?_ _) | ((with_reducible refine Kept.setCell ?_ ?_ _); rotate_left; focus (first | (simp; done) | (simp; omega))) | refine Kept.trans ?_ (by assumption)))) kk))
              have hz1 : b2 ≤ v1.heap.size := by have h1 : Kept wr v1 := (Kept.trans (b := _) (by first | exact Kept.refl _ | (go_light; repeat (first | (with_reducible exact Kept.refl _) | (with_reducible assumption) | (with_reducible refine Kept.alloc ?_ _ _) | (with_reducible refine Kept.drew ?_) | (with_reducible refine Kept.drewN ?_ _) | ((with_reducible refine Kept.setCell ?_ ?_ _); rotate_left; focus (first | (simp; done) | (simp; omega))) | refine Kept.trans ?_ (by assumption)))) kk); have := h1.size; omega
              clear kk a0 a1 a2 a3 a4 a5 a6 a7 a8 a9 a10 a11 a12 lz
              obtain ⟨a0, a1, a2, a3, a4, a5, a6, a7, a8, a9, a10, a11, a12⟩ := EVR.out.tb
              have lz := lt_of_cell a0
              go_wp2_with fail
              refine (NX _).out.mono ?_
              rintro e v2 ⟨rfl, kk⟩
              have EVR := Lib.hid (EVR.out.grow kk)
              have OW := Lib.hid (own_keep OW.out kk)
              have OL := Lib.hid (own_keep OL.out kk)
              have hz2 : b2 ≤ v2.heap.size := by have := kk.size; omega
              clear kk a0 a1 a2 a3 a4 a5 a6 a7 a8 a9 a10 a11 a12 lz
              go_wp2_with fail
              refine (MK _).out.mono ?_
              rintro e _ ⟨rfl, rfl⟩
              go_wp2_with fail
              refine (mvstore EVR.out.mv (by omega) na na.toNat (by omega) ww (by omega) (lw_len ..)).mono ?_
              rintro e v3 ⟨rfl, mm, bb⟩
              have hbB : ∀ j, j = B → j < b1 := fun j e => by have := HB1.out; omega
              have e1 : lw R lev (fun j => bitM mk j) (k2 + 1) = (lw R lev (fun j => bitM mk j) k2).set na.toNat ww := by rw [HNA.out, HWW.out]; rfl
              have EVR : Hid (EV w M B w3.heap.size (lw R lev (fun j => bitM mk j) (k2 + 1)) (16 + (k2 + 1)) v3) := Lib.hid ⟨by rw [e1]; exact mm, EVR.out.tb.but bb (fun e => HBT.out e.symm)⟩
              have OW := Lib.hid (own_but OW.out bb (fun g hg e => by have h1 := (OW.out.lt g hg).1; have := hbB g e; omega))
              have OL := Lib.hid (own_but OL.out bb (fun g hg e => by have h1 := (OL.out.lt g hg).1; have := hbB g e; have := HB2.out; have := hNr; omega))
              have hz3 : b2 ≤ v3.heap.size := by have := bb.size; omega
              clear mm bb hbB
              go_wp2
              have hm2 : min (k2 + 1) n = k2 := by omega
              exact ⟨⟨k2 + 1, by omega, by go_num, by rw [hm2, HATA.out], by rw [hm2, HMKB.out], L, OL.out, by rw [hm2]; exact HL.out, OW.out, EVR.out, hz3⟩, by simp [intOf]; omega⟩
          · have hkn : k2 = n + 1 := by omega
            subst hkn
            have hmin : min (n + 1) n = n := by omega
            rw [hmin] at HL ⊢
            have hli : (n : Int) < ((n + 1 : Nat) : Int) := by omega
            have OK := okR_any HR.out LV (fun j => bitM mk j)
            unfold okR at OK
            rw [← HN.out] at OK
            simp only [Bool.and_eq_true, Bool.or_eq_true, beq_iff_eq, bne_iff_ne, List.all_eq_true, decide_eq_true_eq] at OK
            obtain ⟨⟨⟨ok1, ok2⟩, ok3⟩, ok4⟩ := OK
            obtain ⟨ws, hws⟩ : ∃ ws, ws = lw R lev (fun j => bitM mk j) (n + 1) := ⟨_, rfl⟩
            rw [← hws] at ok1 ok2 ok3 ok4 EVR
            have wf : Wf 34 (fun i => ws.getD i 0) := fun i hi => by
              have hlen : ws.length = 34 := by rw [hws, lw_len]
              have := ok4 (ws[i]'(by omega)) (List.getElem_mem _)
              simpa [List.getD_eq_getElem?_getD, List.getElem?_eq_getElem (show i < ws.length by omega)] using this
            have GW : Hid (∀ W, Mv w M B ws (16 + (n + 1)) W → GivesWords (.pointer (some ⟨M, 0, none⟩)) 34 (fun i => ws.getD i 0) W) := Lib.hid (fun W h => by
              obtain ⟨s, m, h1, _⟩ := h.ex
              have := gives_words m
              rwa [h1] at this)
            have LVL := fun (l : Int) (hl : I64 l) W (h : Mv w M B ws (16 + (n + 1)) W) => Lib.hid (level_told T0 (by decide) l hl _ 34 _ wf (by decide) W (GW.out W h))
            have LIV := fun W (h : Mv w M B ws (16 + (n + 1)) W) => Lib.hid (live_told T0 (by decide) _ 34 _ wf (by decide) W (GW.out W h))
            clear hws ok4
            rcases LV with rfl | rfl
            · have ok2 : liveM 34 (fun i => ws.getD i 0) T0 = livR R (fun j => bitM mk j) n := by
                rcases ok2 with h | h
                · exact absurd h (by decide)
                · exact h
              have HO := Lib.hid (And.intro ok1 ok2)
              clear ok1 ok2 ok3
              have LV0 := fun W h => Lib.hid (show Calls Tryz.prog 38 #[towV T0, .int .i64 0, .pointer (some ⟨M, 0, none⟩)] W (RetI W R) from by have := (LVL 0 (by unfold I64; omega) W h).out; rwa [HO.out.1] at this)
              have LI0 := fun W h => Lib.hid (show Calls Tryz.prog 39 #[towV T0, .pointer (some ⟨M, 0, none⟩)] W (RetI W (livR R (fun j => bitM mk j) n)) from by have := (LIV W h).out; rwa [HO.out.2] at this)
              go_wp2_with fail
              refine (LV0 _ EVR.out.mv).out.mono ?_
              rintro e x1 ⟨la1, lc1, rfl, kk, own⟩
              rw [← HN.out] at own ⊢
              have EVR := Lib.hid (EVR.out.grow kk)
              have OW := Lib.hid (own_keep OW.out kk)
              have OL := Lib.hid (own_keep OL.out kk)
              have O1 := Lib.hid own
              clear kk a0 a1 a2 a3 a4 a5 a6 a7 a8 a9 a10 a11 a12 lz
              obtain ⟨a0, a1, a2, a3, a4, a5, a6, a7, a8, a9, a10, a11, a12⟩ := EVR.out.tb
              have lz := lt_of_cell a0
              go_wp2_with fail
              refine (same_rows HN.out.symm (by omega) O1.out OW.out).mono ?_
              rintro e x1 ⟨rfl, kk⟩
              clear O1
              have EVR := Lib.hid (EVR.out.grow kk)
              have OW := Lib.hid (own_keep OW.out kk)
              have OL := Lib.hid (own_keep OL.out kk)
              clear kk a0 a1 a2 a3 a4 a5 a6 a7 a8 a9 a10 a11 a12 lz
              obtain ⟨a0, a1, a2, a3, a4, a5, a6, a7, a8, a9, a10, a11, a12⟩ := EVR.out.tb
              have lz := lt_of_cell a0
              go_wp2_with fail
              refine (LI0 _ EVR.out.mv).out.mono ?_
              rintro e x1 ⟨la2, lc2, rfl, kk, own⟩
              rw [← HL.out] at own ⊢
              have EVR := Lib.hid (EVR.out.grow kk)
              have OW := Lib.hid (own_keep OW.out kk)
              have OL := Lib.hid (own_keep OL.out kk)
              have O1 := Lib.hid own
              clear kk a0 a1 a2 a3 a4 a5 a6 a7 a8 a9 a10 a11 a12 lz
              obtain ⟨a0, a1, a2, a3, a4, a5, a6, a7, a8, a9, a10, a11, a12⟩ := EVR.out.tb
              have lz := lt_of_cell a0
              go_wp2_with fail
              refine (same_rows rfl (by rw [HL.out]; exact Nat.le_trans (liv_len R _ n) (by omega)) O1.out OL.out).mono ?_
              rintro e x2 ⟨rfl, kk⟩
              go_wp2
              go_ret
              exact ⟨rfl, EVR.out.mv.kept.trans kk⟩
            · have ok3 := ok3.resolve_left (by simp)
              have HO := Lib.hid (And.intro ok1 ok3)
              clear ok1 ok2 ok3
              have LV0 := fun W h => Lib.hid (show Calls Tryz.prog 38 #[towV T0, .int .i64 0, .pointer (some ⟨M, 0, none⟩)] W (RetI W []) from by have := (LVL 0 (by unfold I64; omega) W h).out; rwa [HO.out.2.1] at this)
              have LI0 := fun W h => Lib.hid (show Calls Tryz.prog 39 #[towV T0, .pointer (some ⟨M, 0, none⟩)] W (RetI W []) from by have := (LIV W h).out; rwa [HO.out.2.2] at this)
              have LV1 := fun W h => Lib.hid (show Calls Tryz.prog 38 #[towV T0, .int .i64 1, .pointer (some ⟨M, 0, none⟩)] W (RetI W R) from by have := (LVL 1 (by unfold I64; omega) W h).out; rwa [HO.out.1] at this)
              go_wp2_with fail
              refine (LV0 _ EVR.out.mv).out.mono ?_
              rintro e x1 ⟨la1, lc1, rfl, kk, -⟩
              have EVR := Lib.hid (EVR.out.grow kk)
              have OW := Lib.hid (own_keep OW.out kk)
              have OL := Lib.hid (own_keep OL.out kk)
              clear kk a0 a1 a2 a3 a4 a5 a6 a7 a8 a9 a10 a11 a12 lz
              obtain ⟨a0, a1, a2, a3, a4, a5, a6, a7, a8, a9, a10, a11, a12⟩ := EVR.out.tb
              have lz := lt_of_cell a0
              go_wp2_with fail
              refine (LI0 _ EVR.out.mv).out.mono ?_
              rintro e x1 ⟨la2, lc2, rfl, kk, -⟩
              have EVR := Lib.hid (EVR.out.grow kk)
              have OW := Lib.hid (own_keep OW.out kk)
              have OL := Lib.hid (own_keep OL.out kk)
              clear kk a0 a1 a2 a3 a4 a5 a6 a7 a8 a9 a10 a11 a12 lz
              obtain ⟨a0, a1, a2, a3, a4, a5, a6, a7, a8, a9, a10, a11, a12⟩ := EVR.out.tb
              have lz := lt_of_cell a0
              go_wp2_with fail
              refine (LV1 _ EVR.out.mv).out.mono ?_
              rintro e x1 ⟨la3, lc3, rfl, kk, own⟩
              rw [← HN.out] at own ⊢
              have EVR := Lib.hid (EVR.out.grow kk)
              have OW := Lib.hid (own_keep OW.out kk)
              have OL := Lib.hid (own_keep OL.out kk)
              have O1 := Lib.hid own
              clear kk a0 a1 a2 a3 a4 a5 a6 a7 a8 a9 a10 a11 a12 lz
              obtain ⟨a0, a1, a2, a3, a4, a5, a6, a7, a8, a9, a10, a11, a12⟩ := EVR.out.tb
              have lz := lt_of_cell a0
              go_wp2_with fail
              refine (same_rows HN.out.symm (by omega) O1.out OW.out).mono ?_
              rintro e x2 ⟨rfl, kk⟩
              go_wp2
              go_ret
              exact ⟨rfl, EVR.out.mv.kept.trans kk⟩

theorem levels_law {la : Option Addr} {ll lc : Nat} {w : World} (h : ∃ f : Nat → Int, Row w la ll lc f) (lv mk : Int) : Calls Tryz.prog 7 #[.slice la ll lc, .int .i64 lv, .int .i64 mk] w fun e w' => e = .returned (.bool true) ∧ Kept w w' := by
  obtain ⟨f, hf⟩ := h
  exact tower_levels_any la ll lc f lv mk w hf
end Go.Proofs.YtejiogggocnldaaGreat.Tw.Lv
