/- FifoOne. -/
import Derived.Test.YtpmalbdnjpbijaaFiLawN
namespace Go.Proofs.Ytpmalbdnjpbijaa
open Go.RowKit

structure OneAt (W0 wr : World) (r : Nat) (l : List Opn) (k : Nat) (b : Option Addr) (m d : Nat) : Prop where
  len : m = (playQ r (l.take k)).length
  lay : Lay wr (.slice b m d) m (words (playQ r (l.take k)))
  kept : Kept W0 wr
def OneRel (W0 : World) (r n : Nat) (l : List Opn) (s i : Value) (wr : World) : Prop :=
  ∃ k : Nat, k ≤ n ∧ i = .int .i64 k ∧ ∃ b m d, s = .slice b m d ∧ OneAt W0 wr r l k b m d
theorem actI_of {r : Nat} {q : List Int} {o : Opn} (hq : q.length ≤ r) (r1 : 1 ≤ r) (r2 : r ≤ 1024) : actI r q o = act r q o := by
  unfold actI; rw [if_pos (chk_ok (by omega) (by omega) (by omega))]; rfl
theorem nextI_of {r : Nat} {q : List Int} {o : Opn} (x : Ann) (hq : q.length ≤ r) (r1 : 1 ≤ r) (r2 : r ≤ 1024) : nextI r q o x = (act r q o).elim none (fun p => if x = p.1 then some p.2 else none) := by
  unfold nextI; rw [actI_of hq r1 r2]
theorem nx_none {r : Nat} {q : List Int} {o : Opn} (x : Ann) (hq : q.length ≤ r) (r1 : 1 ≤ r) (r2 : r ≤ 1024) (h : act r q o = none) : nextI r q o x = none := by rw [nextI_of x hq r1 r2, h]; rfl
theorem nx_same {r : Nat} {q : List Int} {o : Opn} {p : Ann × List Int} (x : Ann) (hq : q.length ≤ r) (r1 : 1 ≤ r) (r2 : r ≤ 1024) (h : act r q o = some p) (hx : x = p.1) : nextI r q o x = some p.2 := by
  rw [nextI_of x hq r1 r2, h]; exact if_pos hx
theorem nx_other {r : Nat} {q : List Int} {o : Opn} {p : Ann × List Int} (x : Ann) (hq : q.length ≤ r) (r1 : 1 ≤ r) (r2 : r ≤ 1024) (h : act r q o = some p) (hx : ¬ x = p.1) : nextI r q o x = none := by
  rw [nextI_of x hq r1 r2, h]; exact if_neg hx
/-- What is read in a round: an operation of the list, an answer in a variable. -/
theorem reads7 {w : World} {g i h : Nat} {o : Opn} {x : Ann} (a : OpAt w g i o) (b : AnBox w h x) : w.cell? ⟨g, i, none⟩ = some (.int .i64 o.k) ∧ w.cell? ⟨g, i + 1, none⟩ = some (.int .i64 o.a) ∧ w.cell? ⟨g, i + 2, none⟩ = some (.int .i64 o.b) ∧ w.cell? ⟨g, i + 3, none⟩ = some (.int .u64 o.u) ∧
    w.cell? ⟨h, 0, none⟩ = some (.int .i64 x.e) ∧ w.cell? ⟨h, 1, none⟩ = some (.int .i64 x.n) ∧ w.cell? ⟨h, 2, none⟩ = some (.int .u64 x.v) := ⟨a.c0, a.c1, a.c2, a.c3, b.c0, b.c1, b.c2⟩

set_option maxRecDepth 100000 in
set_option maxHeartbeats 8000000 in
theorem fifoOne_any {w : World} (x0 : Int) {a : Option Addr} {n c : Nat} {ds : Array Value} (hh : ∃ l : List Opn, l.length = n ∧ Lay w (.slice a n c) n (flatO l)) (hd : ∃ x : Ann, ds = (anc x).toArray) :
    Calls Try.prog 7 #[.int .i64 x0, .slice a n c, .agg ds] w fun e w' => e = .returned (.bool true) ∧ Kept w w' := by
  obtain ⟨l, hnl, hL⟩ := hh
  obtain ⟨x, rfl⟩ := hd
  show Calls Try.prog 7 #[.int .i64 x0, .slice a n c, .agg #[.int .i64 x.e, .int .i64 x.n, .int .u64 x.v]] w fun e w' => e = .returned (.bool true) ∧ Kept w w'
  obtain ⟨V0, hV0⟩ : ∃ V0, w.alloc (.cells #[.int .i64 x.e, .int .i64 x.n, .int .u64 x.v] 28) = V0 := ⟨_, rfl⟩
  obtain ⟨X, hX⟩ : ∃ X, w.heap.size = X := ⟨_, rfl⟩
  have AB := Lib.hid (show AnBox V0 X x by rw [← hV0]; exact AnBox.new w x _ _ hX.symm)
  have K0 := Lib.hid (show Kept w V0 by rw [← hV0]; exact (Kept.refl w).alloc _ _)
  have HV := Lib.hid hV0
  have HX := Lib.hid hX
  clear hX
  by_cases hl : 40 < n
  · clear hL hV0 hnl
    go_enter Try.func7, Try.ntmps7
    go_upto_region 1 with fail
    rw [HV.out]
    go_wp2_with fail; refine (known_any _).mono ?_; rintro ed w1 ⟨rfl, k1⟩
    go_wp2
    go_ret
    exact ⟨rfl, K0.out.trans k1⟩
  obtain ⟨r0, hr0⟩ : ∃ r0 : Nat, x0 % 20 = r0 := Int.eq_ofNat_of_zero_le (Int.emod_nonneg x0 (by decide))
  have hr1 : r0 ≤ 19 := by have := Int.emod_lt_of_pos x0 (show (0 : Int) < 20 by decide); omega
  have PK := Lib.hid (fun W => pick_at x0 20 r0 (by decide) (by decide) hr0 W)
  have HL := Lib.hid (hL.kept K0.out)
  have HN := Lib.hid hnl
  have PL := Lib.hid (fun W (k : Kept V0 W) => show Calls Try.prog 19 #[.int .i64 (1 + (r0 : Int)), .slice a n c] W (fun e w' => ∃ a' c' b d, e = .returned (.tuple #[.slice a' n c', .slice b (playQ (1 + r0) l).length d, .int .i64 0]) ∧ Kept W w' ∧ Lay w' (.slice a' n c') n (flatA (playA (1 + r0) l)) ∧ Lay w' (.slice b (playQ (1 + r0) l).length d) (playQ (1 + r0) l).length (words (playQ (1 + r0) l))) by
    subst hnl
    have h := play_ok (r := 1 + r0) (HL.out.kept k) (by omega) (by omega) (by omega)
    rw [show ((1 + r0 : Nat) : Int) = 1 + (r0 : Int) by omega] at h
    refine h.mono ?_
    rintro e w' ⟨a', c', b, d, rfl, k', oa, ow, _⟩
    have la := (own_lies oa).lay
    rw [playA_length] at la
    exact ⟨a', c', b, d, by rw [playA_length], k', la, (own_lies ow).lay⟩)
  obtain ⟨Q, hQ⟩ : ∃ Q, Q = (playQ (1 + r0) l).length := ⟨_, rfl⟩
  have HQ := Lib.hid hQ
  rw [← hQ] at PL
  clear hL hV0 hr0 hnl hQ
  go_enter Try.func7, Try.ntmps7
  go_upto_region 1 with fail
  rw [HV.out, HX.out]
  go_wp2_with fail; refine (known_any _).mono ?_; rintro ed w1 ⟨rfl, k1⟩
  have K1 := Lib.hid k1
  clear k1
  go_wp2_with fail; refine (PK.out _).mono ?_; rintro ed w2 ⟨rfl, rfl⟩
  go_wp2_with fail; refine (PL.out _ K1.out).mono ?_; rintro ed w2 ⟨a2, c2, b2, d2, rfl, k2, la2, lw2⟩
  have K2 := Lib.hid (K1.out.trans k2)
  have LA := Lib.hid la2
  have LW := Lib.hid lw2
  clear k2 la2 lw2
  go_wp2_with fail
  go_loopw [8, 12] (fun s i wr => OneRel w2 (1 + r0) n l s i wr) (fun _ i _ => n - (intOf i).toNat)
  case atStart => exact ⟨0, Nat.zero_le _, rfl, none, 0, 0, rfl, rfl, .inl (.inl ⟨rfl, rfl, rfl⟩), Kept.refl _⟩
  case round =>
    obtain ⟨k, hk, rfl, b, m, d, rfl, hp⟩ := hrel
    have P := Lib.hid hp
    clear hp
    by_cases hlt : k < n
    · obtain ⟨o, ho⟩ : ∃ o, l[k]? = some o := ⟨_, List.getElem?_eq_getElem (by rw [HN.out]; exact hlt)⟩
      have hl' := HL.out.kept (K2.out.trans P.out.kept)
      rw [← HN.out] at hl'
      obtain ⟨g, off, c', e, h1, h2, hc⟩ := hl'.op (by rw [HN.out]; omega)
      cases e
      have OA := Lib.hid (hc k o ho)
      have la' := LA.out.kept P.out.kept
      have hpl : n = (playA (1 + r0) l).length := by rw [playA_length]; exact HN.out.symm
      obtain ⟨t, ht⟩ : ∃ t, tell (1 + r0) (playQ (1 + r0) (l.take k)) o = t := ⟨_, rfl⟩
      obtain ⟨g3, off3, c3, e3, hcell⟩ : ∃ g3 off3 c3, Value.slice a2 n c2 = .slice (some ⟨g3, off3, none⟩) n c3 ∧ AnAt wr g3 (off3 + k * 3) t := by
        rw [hpl] at la'
        obtain ⟨g3, off3, c3, e3, _, _, hc3⟩ := la'.an (by omega)
        refine ⟨g3, off3, c3, by rw [← hpl] at e3; exact e3, hc3 k t (by rw [← ht]; exact playA_get _ l k o ho)⟩
      cases e3
      have A3 := Lib.hid hcell
      have HO := Lib.hid ho
      have HT := Lib.hid ht
      have r1 : 1 ≤ 1 + r0 := by omega
      have r2 : 1 + r0 ≤ 1024 := by omega
      have hq := playQ_room (1 + r0) (l.take k)
      obtain ⟨q, hq0⟩ : ∃ q, playQ (1 + r0) (l.take k) = q := ⟨_, rfl⟩
      have hlen := P.out.len
      have hlay := P.out.lay
      rw [hq0] at hq hlen hlay
      obtain ⟨p, hp⟩ : ∃ p, act (1 + r0) q o = p := ⟨_, rfl⟩
      have tp : p.elim noAnn (·.1) = t := by rw [← ht, ← hp, hq0]; rfl
      have eI : ∀ x, (fun y : Int => nextI y q o x) (1 + (r0 : Int)) = nextI (1 + r0 : Nat) q o x := fun x => by
        show nextI (1 + (r0 : Int)) q o x = _
        rw [show (1 + (r0 : Int)) = ((1 + r0 : Nat) : Int) by omega]
      have aI : actI (1 + (r0 : Int)) q o = p := by
        rw [show (1 + (r0 : Int)) = ((1 + r0 : Nat) : Int) by omega, actI_of hq r1 r2, hp]
      have D1 := Lib.hid (answer_at hlay hlen aI)
      rw [tp] at D1
      have LY := Lib.hid hlay
      have HLEN := Lib.hid hlen
      have HP := Lib.hid hp
      have HQ0 := Lib.hid hq0
      have TP := Lib.hid tp
      have HQL := Lib.hid hq
      have EI := Lib.hid eI
      obtain ⟨o0, o1, o2, o3⟩ := OA.out
      have NE : ∀ W, (binOp .neq 28 (.agg #[.int .i64 t.e, .int .i64 t.n, .int .u64 t.v]) (.agg #[.int .i64 t.e, .int .i64 t.n, .int .u64 t.v])).run Try.prog W = .ok (.bool false) W := fun W => by
        have := ann_neq t t W
        simpa using this
      clear hc ho h1 h2 ht hcell hlay hlen hp tp aI eI hq hq0 hl' la' hpl
      go_wp2_with fail; refine D1.out.mono ?_; rintro ed w4 ⟨rfl, k4⟩
      obtain ⟨V4, hV4⟩ : ∃ V4, w4.alloc (.cells #[.int .i64 t.e, .int .i64 t.n, .int .u64 t.v] 28) = V4 := ⟨_, rfl⟩
      have K4 := Lib.hid (show Kept wr V4 by rw [← hV4]; exact k4.alloc _ _)
      obtain ⟨g4, hg4⟩ : ∃ g4, w4.heap.size = g4 := ⟨_, rfl⟩
      have B4 := Lib.hid (show AnBox V4 g4 t by rw [← hV4]; exact AnBox.new w4 t _ _ hg4.symm)
      have HV4 := Lib.hid hV4
      have HG4 := Lib.hid hg4
      clear k4 hV4 hg4 o0 o1 o2 o3
      go_upto_region 13 with fail
      rw [HV4.out, HG4.out]
      obtain ⟨y0, y1, y2, _⟩ := B4.out
      obtain ⟨z0, z1, z2⟩ : AnAt V4 g3 (off3 + k * 3) t := ⟨K4.out.some A3.out.c0, K4.out.some A3.out.c1, K4.out.some A3.out.c2⟩
      have ti2 : (k : Int) < n := by omega
      go_quiet (fail)
      clear y0 y1 y2 z0 z1 z2 NE
      have O4 := Lib.hid ((OA.out.kept K4.out).kept ((Kept.refl V4).drewN nq))
      have X4 := Lib.hid (((AB.out.kept (K2.out.trans P.out.kept)).kept K4.out).kept ((Kept.refl V4).drewN nq))
      have Y4 := Lib.hid (B4.out.kept ((Kept.refl V4).drewN nq))
      have L4 := Lib.hid ((LY.out.kept K4.out).kept ((Kept.refl V4).drewN nq))
      obtain ⟨W4, hW4⟩ : ∃ W4, V4.drewN nq = W4 := ⟨_, rfl⟩
      have HW4 := Lib.hid hW4
      rw [hW4] at O4 X4 Y4 L4
      have k44 : Kept V4 W4 := by rw [← hW4]; exact (Kept.refl _).drewN _
      have K44 := Lib.hid (K4.out.trans k44)
      clear hW4 k44
      go_upto_region 15 with fail
      rw [HW4.out]
      have kk0 : Kept W4 W4 := Kept.refl _
      obtain ⟨o0, o1, o2, o3⟩ := O4.out
      obtain ⟨x0', x1', x2', _⟩ := X4.out
      have nb := lt_of_cell o0
      have xb := lt_of_cell x0'
      cases p with
      | none =>
        have HA := Lib.hid (show playQ (1 + r0) (l.take (k + 1)) = q by rw [take_snoc l k o HO.out, playQ_snoc, HQ0.out]; unfold after; rw [HP.out]; rfl)
        have D2 := Lib.hid (fun W (kw : Kept W4 W) => next_at (L4.out.kept kw) HLEN.out ((EI.out x).trans (nx_none x HQL.out r1 r2 HP.out)))
        go_region_held3 (fun w' => w'.cell? ⟨g, off + k * 4, none⟩ = some (.int .i64 o.k) ∧ w'.cell? ⟨g, off + k * 4 + 1, none⟩ = some (.int .i64 o.a) ∧ w'.cell? ⟨g, off + k * 4 + 2, none⟩ = some (.int .i64 o.b) ∧ w'.cell? ⟨g, off + k * 4 + 3, none⟩ = some (.int .u64 o.u) ∧ w'.cell? ⟨X, 0, none⟩ = some (.int .i64 x.e) ∧ w'.cell? ⟨X, 1, none⟩ = some (.int .i64 x.n) ∧ w'.cell? ⟨X, 2, none⟩ = some (.int .u64 x.v))
          (first | exact reads7 (O4.out.kept kt) (X4.out.kept kt) | exact reads7 (O4.out.kept kk0.drew) (X4.out.kept kk0.drew) | exact reads7 (O4.out.kept kk0) (X4.out.kept kk0))
          (first | (go_at_call 12; refine (D2.out _ (by first | with_reducible exact kk0 | with_reducible exact kk0.drew | with_reducible exact kk0.drewN _)).mono ?_; rintro ed w5 ⟨a5, c5, rfl, k5, own5⟩; have kt : Kept W4 w5 := (by first | with_reducible exact kk0.trans k5 | with_reducible exact kk0.drew.trans k5 | with_reducible exact (kk0.drewN _).trans k5); clear k5 own5))
        go_wp2
        go_roundw
        case rel => exact ⟨k + 1, by omega, by go_num, b, m, d, rfl, by rw [HA.out]; exact HLEN.out, by rw [HA.out]; exact L4.out.kept kt, (P.out.kept.trans K44.out).trans kt⟩
        case measure => simp [intOf]; omega
      | some p =>
        have HA := Lib.hid (show playQ (1 + r0) (l.take (k + 1)) = p.2 by rw [take_snoc l k o HO.out, playQ_snoc, HQ0.out]; unfold after; rw [HP.out]; rfl)
        have hpt : p.1 = t := TP.out
        have HPT := Lib.hid hpt
        clear hpt
        have D3 := Lib.hid (fun W (kw : Kept W4 W) => next_at (L4.out.kept kw) HLEN.out ((EI.out t).trans (nx_same t HQL.out r1 r2 HP.out HPT.out.symm)))
        have XT := ann_eql x t
        have b0 : (some p).isSome = true := rfl
        by_cases hx : x = t
        · rw [decide_eq_true hx] at XT
          have D2 := Lib.hid (fun W (kw : Kept W4 W) => next_at (L4.out.kept kw) HLEN.out ((EI.out x).trans (nx_same x HQL.out r1 r2 HP.out (hx.trans HPT.out.symm))))
          clear hx
          go_region_held3 (fun w' => w'.cell? ⟨g, off + k * 4, none⟩ = some (.int .i64 o.k) ∧ w'.cell? ⟨g, off + k * 4 + 1, none⟩ = some (.int .i64 o.a) ∧ w'.cell? ⟨g, off + k * 4 + 2, none⟩ = some (.int .i64 o.b) ∧ w'.cell? ⟨g, off + k * 4 + 3, none⟩ = some (.int .u64 o.u) ∧ w'.cell? ⟨X, 0, none⟩ = some (.int .i64 x.e) ∧ w'.cell? ⟨X, 1, none⟩ = some (.int .i64 x.n) ∧ w'.cell? ⟨X, 2, none⟩ = some (.int .u64 x.v))
            (first | exact reads7 (O4.out.kept kt) (X4.out.kept kt) | exact reads7 (O4.out.kept kk0.drew) (X4.out.kept kk0.drew) | exact reads7 (O4.out.kept kk0) (X4.out.kept kk0))
            (first | (go_at_call 12; refine (D2.out _ (by first | with_reducible exact kk0 | with_reducible exact kk0.drew | with_reducible exact kk0.drewN _)).mono ?_; rintro ed w5 ⟨a5, c5, rfl, k5, own5⟩; have kt : Kept W4 w5 := (by first | with_reducible exact kk0.trans k5 | with_reducible exact kk0.drew.trans k5 | with_reducible exact (kk0.drewN _).trans k5); clear k5 own5))
          have K5 := Lib.hid kt
          have O5 := Lib.hid (O4.out.kept kt)
          have Y5 := Lib.hid (Y4.out.kept kt)
          clear o0 o1 o2 o3 x0' x1' x2' nb xb
          obtain ⟨o0, o1, o2, o3⟩ := O5.out
          obtain ⟨x0', x1', x2', _⟩ := X4.out.kept kt
          obtain ⟨y0, y1, y2, _⟩ := Y5.out
          have nb := lt_of_cell o0
          have xb := lt_of_cell x0'
          have yb := lt_of_cell y0
          have kk5 : Kept w5 w5 := Kept.refl _
          clear kt kk0
          go_upto_region 19 with fail
          go_region_held3 (fun w' => w'.cell? ⟨g, off + k * 4, none⟩ = some (.int .i64 o.k) ∧ w'.cell? ⟨g, off + k * 4 + 1, none⟩ = some (.int .i64 o.a) ∧ w'.cell? ⟨g, off + k * 4 + 2, none⟩ = some (.int .i64 o.b) ∧ w'.cell? ⟨g, off + k * 4 + 3, none⟩ = some (.int .u64 o.u) ∧ w'.cell? ⟨g4, 0, none⟩ = some (.int .i64 t.e) ∧ w'.cell? ⟨g4, 1, none⟩ = some (.int .i64 t.n) ∧ w'.cell? ⟨g4, 2, none⟩ = some (.int .u64 t.v))
            (first | exact reads7 (O5.out.kept kt6) (Y5.out.kept kt6) | exact reads7 (O5.out.kept kk5.drew) (Y5.out.kept kk5.drew) | exact reads7 (O5.out.kept kk5) (Y5.out.kept kk5))
            (first | (go_at_call 12; refine (D3.out _ (K5.out.trans (by first | with_reducible exact kk5 | with_reducible exact kk5.drew | with_reducible exact kk5.drewN _))).mono ?_; rintro ed w6 ⟨a6, c6, rfl, k6, own6⟩; have kt6 : Kept w5 w6 := (by first | with_reducible exact kk5.trans k6 | with_reducible exact kk5.drew.trans k6 | with_reducible exact (kk5.drewN _).trans k6); have L6 := Lib.hid (own_lies own6).lay; clear k6 own6))
          go_wp2
          go_roundw
          case rel => exact ⟨k + 1, by omega, by go_num, a6, p.2.length, c6, rfl, by rw [HA.out], by rw [HA.out]; exact L6.out, (P.out.kept.trans K44.out).trans (K5.out.trans kt6)⟩
          case measure => simp [intOf]; omega
        · rw [decide_eq_false hx] at XT
          have D2 := Lib.hid (fun W (kw : Kept W4 W) => next_at (L4.out.kept kw) HLEN.out ((EI.out x).trans (nx_other x HQL.out r1 r2 HP.out (fun h => hx (h.trans HPT.out)))))
          clear hx
          go_region_held3 (fun w' => w'.cell? ⟨g, off + k * 4, none⟩ = some (.int .i64 o.k) ∧ w'.cell? ⟨g, off + k * 4 + 1, none⟩ = some (.int .i64 o.a) ∧ w'.cell? ⟨g, off + k * 4 + 2, none⟩ = some (.int .i64 o.b) ∧ w'.cell? ⟨g, off + k * 4 + 3, none⟩ = some (.int .u64 o.u) ∧ w'.cell? ⟨X, 0, none⟩ = some (.int .i64 x.e) ∧ w'.cell? ⟨X, 1, none⟩ = some (.int .i64 x.n) ∧ w'.cell? ⟨X, 2, none⟩ = some (.int .u64 x.v))
            (first | exact reads7 (O4.out.kept kt) (X4.out.kept kt) | exact reads7 (O4.out.kept kk0.drew) (X4.out.kept kk0.drew) | exact reads7 (O4.out.kept kk0) (X4.out.kept kk0))
            (first | (go_at_call 12; refine (D2.out _ (by first | with_reducible exact kk0 | with_reducible exact kk0.drew | with_reducible exact kk0.drewN _)).mono ?_; rintro ed w5 ⟨a5, c5, rfl, k5, own5⟩; have kt : Kept W4 w5 := (by first | with_reducible exact kk0.trans k5 | with_reducible exact kk0.drew.trans k5 | with_reducible exact (kk0.drewN _).trans k5); clear k5 own5))
          have K5 := Lib.hid kt
          have O5 := Lib.hid (O4.out.kept kt)
          have Y5 := Lib.hid (Y4.out.kept kt)
          clear o0 o1 o2 o3 x0' x1' x2' nb xb
          obtain ⟨o0, o1, o2, o3⟩ := O5.out
          obtain ⟨x0', x1', x2', _⟩ := X4.out.kept kt
          obtain ⟨y0, y1, y2, _⟩ := Y5.out
          have nb := lt_of_cell o0
          have xb := lt_of_cell x0'
          have yb := lt_of_cell y0
          have kk5 : Kept w5 w5 := Kept.refl _
          clear kt kk0
          go_upto_region 19 with fail
          go_region_held3 (fun w' => w'.cell? ⟨g, off + k * 4, none⟩ = some (.int .i64 o.k) ∧ w'.cell? ⟨g, off + k * 4 + 1, none⟩ = some (.int .i64 o.a) ∧ w'.cell? ⟨g, off + k * 4 + 2, none⟩ = some (.int .i64 o.b) ∧ w'.cell? ⟨g, off + k * 4 + 3, none⟩ = some (.int .u64 o.u) ∧ w'.cell? ⟨g4, 0, none⟩ = some (.int .i64 t.e) ∧ w'.cell? ⟨g4, 1, none⟩ = some (.int .i64 t.n) ∧ w'.cell? ⟨g4, 2, none⟩ = some (.int .u64 t.v))
            (first | exact reads7 (O5.out.kept kt6) (Y5.out.kept kt6) | exact reads7 (O5.out.kept kk5.drew) (Y5.out.kept kk5.drew) | exact reads7 (O5.out.kept kk5) (Y5.out.kept kk5))
            (first | (go_at_call 12; refine (D3.out _ (K5.out.trans (by first | with_reducible exact kk5 | with_reducible exact kk5.drew | with_reducible exact kk5.drewN _))).mono ?_; rintro ed w6 ⟨a6, c6, rfl, k6, own6⟩; have kt6 : Kept w5 w6 := (by first | with_reducible exact kk5.trans k6 | with_reducible exact kk5.drew.trans k6 | with_reducible exact (kk5.drewN _).trans k6); have L6 := Lib.hid (own_lies own6).lay; clear k6 own6))
          go_wp2
          go_roundw
          case rel => exact ⟨k + 1, by omega, by go_num, a6, p.2.length, c6, rfl, by rw [HA.out], by rw [HA.out]; exact L6.out, (P.out.kept.trans K44.out).trans (K5.out.trans kt6)⟩
          case measure => simp [intOf]; omega
    · have hkn : k = n := by omega
      subst hkn
      have hlk : l.take k = l := by rw [← HN.out]; exact List.take_length
      have hlen := P.out.len
      have hlay := P.out.lay
      rw [hlk] at hlen hlay
      have hmq : m = Q := hlen.trans HQ.out.symm
      subst hmq
      have SW := Lib.hid (sameWords_n hlay (LW.out.kept P.out.kept) hlen (by have := playQ_room (1 + r0) l; omega))
      have KP := Lib.hid (K0.out.trans (K2.out.trans P.out.kept))
      clear hlk hlen hlay
      go_wp2_with fail; refine SW.out.mono ?_; rintro ed w4 ⟨rfl, k4⟩
      go_wp2
      go_ret
      exact ⟨rfl, KP.out.trans k4⟩
end Go.Proofs.Ytpmalbdnjpbijaa
