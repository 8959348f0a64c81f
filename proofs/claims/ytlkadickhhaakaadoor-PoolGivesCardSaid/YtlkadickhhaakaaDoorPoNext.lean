/- PoolNext. -/
import Derived.Test.YtlkadickhhaakaaDoorPoPlays
namespace Go.Proofs.YtlkadickhhaakaaDoor
open Go.RowKit

theorem nextL_len (s : List Int) (o : Opn) (x : Ann) : (nextL s o x).length ≤ 1024 := by
  unfold nextL; split
  · exact memI_len _
  · simp
theorem allS_len (s : List Int) (o : Opn) : (allS s o).length ≤ 1026 := by
  unfold allS
  split
  · unfold outs
    split
    · rw [List.length_append, List.length_map]; have := memI_len (setOf s); simp; omega
    · split <;> simp
  · simp
theorem opbox_all {W : World} {b : Nat} {o : Opn} (h : OpBox W b o) : W.cell? ⟨b, 0, none⟩ = some (.int .i64 o.k) ∧ W.cell? ⟨b, 1, none⟩ = some (.int .i64 o.a) ∧ W.cell? ⟨b, 2, none⟩ = some (.int .i64 o.b) ∧ W.cell? ⟨b, 3, none⟩ = some (.int .u64 o.u) := ⟨h.c0, h.c1, h.c2, h.c3⟩
theorem opan_all {W : World} {b g oo : Nat} {o : Opn} {x : Ann} (h : OpBox W b o) (h' : AnAt W g oo x) : W.cell? ⟨b, 0, none⟩ = some (.int .i64 o.k) ∧ W.cell? ⟨b, 1, none⟩ = some (.int .i64 o.a) ∧ W.cell? ⟨b, 2, none⟩ = some (.int .i64 o.b) ∧ W.cell? ⟨b, 3, none⟩ = some (.int .u64 o.u) ∧
    W.cell? ⟨g, oo, none⟩ = some (.int .i64 x.e) ∧ W.cell? ⟨g, oo + 1, none⟩ = some (.int .i64 x.n) ∧ W.cell? ⟨g, oo + 2, none⟩ = some (.int .u64 x.v) := ⟨h.c0, h.c1, h.c2, h.c3, h'.c0, h'.c1, h'.c2⟩
/-- Next of an answer that may be given. -/
theorem next_yes {w : World} {a : Option Addr} {n c : Nat} {s : List Int} {o : Opn} {x : Ann} (hx : x ∈ allS s o) (h : Lay w (.slice a n c) n (ints s)) (hn : n = s.length) (hT : Tab w) :
    Calls Tryd.prog 10 #[.slice a n c, .agg #[.int .i64 o.k, .int .i64 o.a, .int .i64 o.b, .int .u64 o.u], .agg #[.int .i64 x.e, .int .i64 x.n, .int .u64 x.v]] w (RetN w (nextL s o x) true) := by
  have := next_S h hn hT o x
  rw [decide_eq_true hx] at this
  exact this

set_option maxRecDepth 100000 in
set_option maxHeartbeats 16000000 in
theorem next_law {w : World} {a : Option Addr} {n c : Nat} {cs1 cs2 : Array Value} (z : Int) (h : ∃ s : List Int, s.length = n ∧ Lay w (.slice a n c) n (ints s)) (ho : ∃ o : Opn, cs1 = (opc o).toArray) (hx : ∃ x : Ann, cs2 = (anc x).toArray) (hT : Tab w) :
    Calls Tryd.prog 3 #[.slice a n c, .agg cs1, .agg cs2, .int .i64 z] w fun e w' => e = .returned (.bool true) ∧ Kept w w' := by
  obtain ⟨s, hn, hl⟩ := h
  obtain ⟨o, rfl⟩ := ho
  obtain ⟨x, rfl⟩ := hx
  have hn := hn.symm
  have T := Lib.hid hT
  show Calls Tryd.prog 3 #[.slice a n c, .agg #[.int .i64 o.k, .int .i64 o.a, .int .i64 o.b, .int .u64 o.u], .agg #[.int .i64 x.e, .int .i64 x.n, .int .u64 x.v], .int .i64 z] w _
  have K0 := Lib.hid (show Kept w ((w.alloc (.cells #[.int .i64 o.k, .int .i64 o.a, .int .i64 o.b, .int .u64 o.u] 25)).alloc (.cells #[.int .i64 x.e, .int .i64 x.n, .int .u64 x.v] 28)) from ((Kept.refl w).alloc _ _).alloc _ _)
  by_cases hlong : 1100 < n
  · have i1 : (n : Int) > 1100 := by omega
    clear hl hn hT hlong
    go_enter Tryd.func3, Tryd.ntmps3
    go_wp2_with fail; refine (awake_any _ (T.out.kept K0.out)).mono ?_; rintro e v1 ⟨rfl, k1⟩
    go_wp2
    go_ret
    exact ⟨rfl, K0.out.trans k1⟩
  · have i1 : ¬ ((n : Int) > 1100) := by omega
    have BO := Lib.hid (show OpBox ((w.alloc (.cells #[.int .i64 o.k, .int .i64 o.a, .int .i64 o.b, .int .u64 o.u] 25)).alloc (.cells #[.int .i64 x.e, .int .i64 x.n, .int .u64 x.v] 28)) w.heap.size o from (OpBox.new w o 25 w.heap.size rfl).kept ((Kept.refl _).alloc _ _))
    have BA := Lib.hid (show AnBox ((w.alloc (.cells #[.int .i64 o.k, .int .i64 o.a, .int .i64 o.b, .int .u64 o.u] 25)).alloc (.cells #[.int .i64 x.e, .int .i64 x.n, .int .u64 x.v] 28)) (w.heap.size + 1) x from AnBox.new _ x 28 _ (by simp))
    have HL := Lib.hid hl
    have HN := Lib.hid hn
    have CI := Lib.hid (fun W (k : Kept w W) => show Calls Tryd.prog 9 #[.slice a n c] W fun e w' => ∃ a c, e = .returned (.slice a n c) ∧ Kept W w' ∧ Lay w' (.slice a n c) n (ints s) by
      subst hn
      exact (copyInts_any (hl.kept k) (by omega)).mono fun e w' hh => by
        obtain ⟨a, c, h1, h2, h3⟩ := hh
        exact ⟨a, c, h1, h2, (own_lies h3).lay⟩)
    have hn' : n ≤ 1100 := by omega
    have NL := Lib.hid (nextL_len s o)
    have ALL := Lib.hid (allS_len s o)
    have ML := Lib.hid (memI_len (restM s (restN z)))
    clear hl hn hT hlong
    go_enter Tryd.func3, Tryd.ntmps3
    go_wp2_with fail; refine (CI.out _ K0.out).mono ?_; rintro e v1 ⟨a1, c1, rfl, k1, l1⟩
    have K1 := Lib.hid (K0.out.trans k1)
    have L1 := Lib.hid l1
    have BO1 := Lib.hid (BO.out.kept k1)
    have BA1 := Lib.hid (BA.out.kept k1)
    clear k1 l1
    obtain ⟨b0, b1, b2, b3⟩ := BO1.out
    obtain ⟨x0, x1, x2, _⟩ := BA1.out
    go_wp2_with fail; refine (next_S L1.out HN.out (T.out.kept K1.out) o x).mono ?_; rintro e v2 ⟨a2, c2, rfl, k2, own2⟩
    have K2 := Lib.hid k2
    have O2 := Lib.hid own2
    clear k2 own2
    obtain ⟨b0', b1', b2', b3'⟩ := BO1.out.kept K2.out
    obtain ⟨x0', x1', x2', _⟩ := BA1.out.kept K2.out
    go_wp2_with fail; refine (refNext_S (HL.out.kept (K1.out.trans K2.out)) HN.out o x).mono ?_; rintro e v3 ⟨a3, c3, rfl, k3, own3⟩
    have K3 := Lib.hid (K2.out.trans k3)
    have O2' := Lib.hid (own_kept O2.out k3)
    have O3 := Lib.hid own3
    clear k3 own3 b0 b1 b2 b3 x0 x1 x2 b0' b1' b2' b3' x0' x1' x2' O2
    obtain ⟨p0, p1, p2, p3⟩ := BO1.out.kept K3.out
    go_wp2
    have KT : Kept v3 v3.drew := (Kept.refl v3).drew
    go_region_held3 (fun w' => w'.cell? ⟨w.heap.size, 0, none⟩ = some (.int .i64 o.k) ∧ w'.cell? ⟨w.heap.size, 1, none⟩ = some (.int .i64 o.a) ∧ w'.cell? ⟨w.heap.size, 2, none⟩ = some (.int .i64 o.b) ∧ w'.cell? ⟨w.heap.size, 3, none⟩ = some (.int .u64 o.u))
      (with_reducible exact opbox_all (BO1.out.kept (K3.out.trans KT)))
      (first
        | (go_at_call 12; refine (all_S (L1.out.kept (K3.out.trans KT)) HN.out (T.out.kept (K1.out.trans (K3.out.trans KT))) o).mono ?_; rintro e v4 ⟨a4, c4, rfl, k4, own4⟩; have KT := KT.trans k4; have OA4 := Lib.hid own4; have LT4 := Lib.hid (fun g hg => (own4.lt g hg).2); clear own4)
        | (go_at_call 13; refine (refAll_S (HL.out.kept (K1.out.trans (K3.out.trans KT))) HN.out o).mono ?_; rintro e v5 ⟨a5, c5, rfl, k5, own5⟩; have KT := KT.trans k5; have OA5 := Lib.hid own5; have GE5 := Lib.hid (fun g hg => (own5.lt g hg).1); have X4 := Lib.hid (own_kept OA4.out k5); clear own5))
    have K5 := Lib.hid (K3.out.trans KT)
    have O2a := Lib.hid (own_kept O2'.out KT)
    have O3a := Lib.hid (own_kept O3.out KT)
    have LT2 := Lib.hid (fun g hg => (O2a.out.lt g hg).2)
    have hs13 := K3.out.size
    have hs15 := K5.out.size
    clear p0 p1 p2 p3 k4 k5
    go_wp2_with fail; refine (rest_S (L1.out.kept K5.out) HN.out (T.out.kept (K1.out.trans K5.out)) z).mono ?_; rintro e v6 ⟨a6, c6, rfl, k6, own6⟩
    have K6 := Lib.hid (K5.out.trans k6)
    have KT6 := Lib.hid k6
    have O6 := Lib.hid own6
    have GE6 := Lib.hid (fun g hg => (own6.lt g hg).1)
    clear k6 own6
    go_wp2_with fail; refine (refRest_S (HL.out.kept (K1.out.trans K6.out)) HN.out z).mono ?_; rintro e v7 ⟨a7, c7, rfl, k7, own7⟩
    have K7 := Lib.hid (K6.out.trans k7)
    have KT7 := Lib.hid (KT6.out.trans k7)
    have O6b := Lib.hid (own_kept O6.out k7)
    have O7 := Lib.hid own7
    clear k7 own7
    have O2b := Lib.hid (own_kept O2a.out KT7.out)
    have O3b := Lib.hid (own_kept O3a.out KT7.out)
    have O4b := Lib.hid (own_kept X4.out KT7.out)
    have O5b := Lib.hid (own_kept OA5.out KT7.out)
    go_wp2_with fail; refine (same_n (own_lies O2b.out).lay (own_lies O3b.out).lay rfl rfl (by have := NL.out x; omega)).mono ?_; rintro e v8 ⟨rfl, k8⟩
    have K8 := Lib.hid k8
    clear k8
    go_wp2_with fail; refine (sameA_n ((own_lies O4b.out).lay.kept K8.out) ((own_lies O5b.out).lay.kept K8.out) rfl rfl (by have := ALL.out; omega)).mono ?_; rintro e v9 ⟨rfl, k9⟩
    have K9 := Lib.hid (K8.out.trans k9)
    clear k9
    go_wp2_with fail; refine (same_n ((own_lies O6b.out).lay.kept K9.out) ((own_lies O7.out).lay.kept K9.out) rfl rfl (by have := ML.out; omega)).mono ?_; rintro e v10 ⟨rfl, k10⟩
    have K10 := Lib.hid (K9.out.trans k10)
    clear k10
    go_wp2_with fail; refine (check_any (L1.out.kept (K7.out.trans K10.out)) HN.out).mono ?_; rintro e v11 ⟨rfl, k11⟩
    have K11 := Lib.hid (K10.out.trans k11)
    clear k11
    go_wp2_with fail; refine (refCheck_any (HL.out.kept (K1.out.trans (K7.out.trans K11.out))) HN.out).mono ?_; rintro e v12 ⟨rfl, k12⟩
    have K12 := Lib.hid (K11.out.trans k12)
    clear k12
    have O2c := Lib.hid (own_kept O2b.out K12.out)
    have O4c := Lib.hid (own_kept O4b.out K12.out)
    have O6c := Lib.hid (own_kept O6b.out K12.out)
    have O5c := Lib.hid (own_kept O5b.out K12.out)
    have KA := Lib.hid (K7.out.trans K12.out)
    clear O2' O3 OA4 X4 OA5 O2a O3a O6 O7 O3b O4b O5b O6b O2b K2 K3 KT K5 K6 KT6 KT7 K7 K8 K9 K10 K11 K12
    go_wp2_with fail; refine (overInts_any O2c.out (by have := NL.out x; omega)).mono ?_; rintro e v13 ⟨rfl, b13⟩
    have A62 : ∀ g, (Value.slice a6 (memI (restM s (restN z))).length c6).ownBlock = some g → ¬ (Value.slice a2 (nextL s o x).length c2).ownBlock = some g := fun g h1 h2 => by have := GE6.out g h1; have := LT2.out g h2; omega
    have O6d := Lib.hid (own_but O6c.out b13 A62)
    have O4d := Lib.hid (own_but O4c.out b13 (fun g h1 h2 => own_apart O4c.out O2c.out g h2 h1))
    have O5d := Lib.hid (own_but O5c.out b13 (fun g h1 h2 => own_apart O5c.out O2c.out g h2 h1))
    have KB := Lib.hid (show Kept v1 v13 from KA.out.wrote b13 (fun j hj => (O2c.out.lt j hj).1))
    clear b13 A62
    go_wp2_with fail; refine (overInts_any O6d.out (by have := ML.out; omega)).mono ?_; rintro e v14 ⟨rfl, b14⟩
    have O4e := Lib.hid (own_but O4d.out b14 (fun g h1 h2 => own_apart O4d.out O6d.out g h2 h1))
    have O5e := Lib.hid (own_but O5d.out b14 (fun g h1 h2 => own_apart O5d.out O6d.out g h2 h1))
    have KC := Lib.hid (show Kept v1 v14 from KB.out.wrote b14 (fun j hj => by have := GE6.out j hj; omega))
    clear b14
    go_wp2_with fail; refine (overAnswers_any O4e.out (by have := ALL.out; omega)).mono ?_; rintro e v15 ⟨rfl, b15⟩
    have A54 : ∀ g, (Value.slice a5 (allS s o).length c5).ownBlock = some g → ¬ (Value.slice a4 (allS s o).length c4).ownBlock = some g := fun g h1 h2 => by have := GE5.out g h1; have := LT4.out g h2; omega
    have O5f := Lib.hid (own_but O5e.out b15 A54)
    have KD := Lib.hid (show Kept v1 v15 from KC.out.wrote b15 (fun j hj => by have := (O4e.out.lt j hj).1; simp at this; omega))
    have LY := Lib.hid (own_lies O5f.out).lay
    clear b15 A54 O2c O4c O6c O5c O6d O4d O5d O4e O5e O5f KA KB KC LT2 LT4 GE5 GE6
    obtain ⟨ny, hny⟩ : ∃ ny, ny = (allS s o).length := ⟨_, rfl⟩
    rw [← hny] at LY ⊢
    have HNY := Lib.hid hny
    have CE := Lib.hid (fun W (k : Kept v15 W) i y hy => an_one (LY.out.kept k) hny i y hy)
    have hny' : ny ≤ 1026 := by rw [hny]; exact ALL.out
    clear hny
    go_wp2
    go_loopw [18] (fun i wr => ∃ k : Nat, k ≤ ny ∧ k ≤ 8 ∧ i = .int .i64 k ∧ Kept v15 wr) (fun i _ => 8 - (intOf i).toNat)
    case atStart => exact ⟨0, Nat.zero_le _, Nat.zero_le _, rfl, Kept.refl _⟩
    case round =>
      obtain ⟨k, hk1, hk2, rfl, hk⟩ := hrel
      have KE := Lib.hid hk
      clear hk
      by_cases hlt : k < ny
      · by_cases hlt8 : k < 8
        · have i2 : (k : Int) < (ny : Int) := by omega
          have i3 : (k : Int) < 8 := by omega
          obtain ⟨y, hy⟩ : ∃ y, (allS s o)[k]? = some y := ⟨_, List.getElem?_eq_getElem (by rw [← HNY.out]; exact hlt)⟩
          have hmem : y ∈ allS s o := List.mem_iff_getElem?.2 ⟨k, hy⟩
          have MEM := Lib.hid hmem
          obtain ⟨g, oo, e5, hat⟩ := CE.out _ KE.out k y hy
          subst e5
          have BW := Lib.hid (fun W (q : Kept wr W) => opan_all (BO1.out.kept (KD.out.trans (KE.out.trans q))) (hat.kept q))
          have LI := Lib.hid (L1.out.kept (KD.out.trans KE.out))
          have LS := Lib.hid (HL.out.kept (K1.out.trans (KD.out.trans KE.out)))
          have TW := Lib.hid (T.out.kept (K1.out.trans (KD.out.trans KE.out)))
          have RN := Lib.hid (fun W (q : Kept wr W) => show Calls Tryd.prog 11 #[.slice a n c, .agg #[.int .i64 o.k, .int .i64 o.a, .int .i64 o.b, .int .u64 o.u], .agg #[.int .i64 y.e, .int .i64 y.n, .int .u64 y.v]] W (RetN W (nextL s o y) true) by
            have := refNext_S (LS.out.kept q) HN.out o y
            rw [decide_eq_true MEM.out] at this
            exact this)
          clear hy hmem hat
          obtain ⟨q0, q1, q2, q3, q4, q5, q6⟩ := BW.out _ (Kept.refl _)
          go_wp2
          have KT : Kept wr wr.drew := (Kept.refl wr).drew
          go_region_held3 (fun w' => w'.cell? ⟨w.heap.size, 0, none⟩ = some (.int .i64 o.k) ∧ w'.cell? ⟨w.heap.size, 1, none⟩ = some (.int .i64 o.a) ∧ w'.cell? ⟨w.heap.size, 2, none⟩ = some (.int .i64 o.b) ∧ w'.cell? ⟨w.heap.size, 3, none⟩ = some (.int .u64 o.u) ∧
              w'.cell? ⟨g, oo + k * 3, none⟩ = some (.int .i64 y.e) ∧ w'.cell? ⟨g, oo + k * 3 + 1, none⟩ = some (.int .i64 y.n) ∧ w'.cell? ⟨g, oo + k * 3 + 2, none⟩ = some (.int .u64 y.v))
            (with_reducible exact BW.out _ KT)
            (first
              | (go_at_call 10; refine (next_yes MEM.out (LI.out.kept KT) HN.out (TW.out.kept KT)).mono ?_; rintro e u1 ⟨a8, c8, rfl, m1, ow1⟩; have KT := KT.trans m1; have OW1 := Lib.hid ow1; clear ow1))
          have KT1 := Lib.hid KT
          have hu1 := m1.size
          clear m1 q0 q1 q2 q3 q4 q5 q6 KT
          obtain ⟨q0, q1, q2, q3, q4, q5, q6⟩ := BW.out _ KT1.out
          go_wp2
          have KT : Kept wr u1.drew := KT1.out.drew
          have KU : Kept u1 u1.drew := (Kept.refl u1).drew
          go_region_held3 (fun w' => w'.cell? ⟨w.heap.size, 0, none⟩ = some (.int .i64 o.k) ∧ w'.cell? ⟨w.heap.size, 1, none⟩ = some (.int .i64 o.a) ∧ w'.cell? ⟨w.heap.size, 2, none⟩ = some (.int .i64 o.b) ∧ w'.cell? ⟨w.heap.size, 3, none⟩ = some (.int .u64 o.u) ∧
              w'.cell? ⟨g, oo + k * 3, none⟩ = some (.int .i64 y.e) ∧ w'.cell? ⟨g, oo + k * 3 + 1, none⟩ = some (.int .i64 y.n) ∧ w'.cell? ⟨g, oo + k * 3 + 2, none⟩ = some (.int .u64 y.v))
            (with_reducible exact BW.out _ KT)
            (first
              | (go_at_call 11; refine (RN.out _ KT).mono ?_; rintro e u2 ⟨a9, c9, rfl, m2, ow2⟩; have KT := KT.trans m2; have KU := KU.trans m2; have OW2 := Lib.hid ow2; clear ow2))
          have OW1' := Lib.hid (own_kept OW1.out KU)
          go_wp2_with fail; refine (same_n (own_lies OW1'.out).lay (own_lies OW2.out).lay rfl rfl (by have := NL.out y; omega)).mono ?_; rintro e u3 ⟨rfl, m3⟩
          have OW3 := Lib.hid (own_kept OW1'.out m3)
          have KT3 := Lib.hid (KT.trans m3)
          clear m3 KT KU m2
          go_wp2_with fail; refine (overInts_any OW3.out (by have := NL.out y; omega)).mono ?_; rintro e u4 ⟨rfl, b4⟩
          have KE4 := Lib.hid (show Kept v15 u4 from KE.out.trans (KT3.out.wrote b4 (fun j hj => (OW3.out.lt j hj).1)))
          clear b4
          go_wp2
          go_roundw
          case rel => exact ⟨k + 1, by omega, by omega, by go_num, KE4.out⟩
          case measure => simp [intOf]; omega
        · have i2 : (k : Int) < (ny : Int) := by omega
          have i3 : ¬ ((k : Int) < 8) := by omega
          have KF := Lib.hid (KD.out.trans KE.out)
          go_wp2_with fail; refine (same_n (L1.out.kept KF.out) (HL.out.kept (K1.out.trans KF.out)) HN.out HN.out (by omega)).mono ?_; rintro e u1 ⟨rfl, m1⟩
          have KG := Lib.hid ((K1.out.trans KF.out).trans m1)
          clear m1
          go_wp2_with fail; refine (awake_any _ (T.out.kept KG.out)).mono ?_; rintro e u2 ⟨rfl, m2⟩
          go_wp2
          go_ret
          exact ⟨rfl, KG.out.trans m2⟩
      · have i2 : ¬ ((k : Int) < (ny : Int)) := by omega
        have KF := Lib.hid (KD.out.trans KE.out)
        go_wp2_with fail; refine (same_n (L1.out.kept KF.out) (HL.out.kept (K1.out.trans KF.out)) HN.out HN.out (by omega)).mono ?_; rintro e u1 ⟨rfl, m1⟩
        have KG := Lib.hid ((K1.out.trans KF.out).trans m1)
        clear m1
        go_wp2_with fail; refine (awake_any _ (T.out.kept KG.out)).mono ?_; rintro e u2 ⟨rfl, m2⟩
        go_wp2
        go_ret
        exact ⟨rfl, KG.out.trans m2⟩
end Go.Proofs.YtlkadickhhaakaaDoor
