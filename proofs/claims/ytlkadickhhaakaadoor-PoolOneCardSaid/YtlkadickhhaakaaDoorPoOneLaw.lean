/- PoolOne: the law. -/
import Derived.Test.YtlkadickhhaakaaDoorPoOne
import Derived.Deep.DeepCutAuto
import Derived.Deep.CutBlock
namespace Go.Proofs.YtlkadickhhaakaaDoor
open Go.RowKit

/-- What the switch leaves: true, and the world has new blocks at most. -/
def OneRel (W0 : World) (v : Value) (W : World) : Prop := v = .bool true ∧ Kept W0 W

set_option maxRecDepth 100000 in
set_option maxHeartbeats 16000000 in
theorem one_law {w : World} {a : Option Addr} {n c : Nat} {cs1 cs2 : Array Value} (h : ∃ s : List Int, s.length = n ∧ Lay w (.slice a n c) n (ints s)) (ho : ∃ o : Opn, cs1 = (opc o).toArray) (hx : ∃ x : Ann, cs2 = (anc x).toArray) (hT : Tab w) :
    Calls Tryd.prog 6 #[.slice a n c, .agg cs1, .agg cs2] w fun e w' => e = .returned (.bool true) ∧ Kept w w' := by
  obtain ⟨s, hn, hl⟩ := h
  obtain ⟨o, rfl⟩ := ho
  obtain ⟨x, rfl⟩ := hx
  have hn := hn.symm
  have T := Lib.hid hT
  show Calls Tryd.prog 6 #[.slice a n c, .agg #[.int .i64 o.k, .int .i64 o.a, .int .i64 o.b, .int .u64 o.u], .agg #[.int .i64 x.e, .int .i64 x.n, .int .u64 x.v]] w _
  have K0 := Lib.hid (show Kept w ((w.alloc (.cells #[.int .i64 o.k, .int .i64 o.a, .int .i64 o.b, .int .u64 o.u] 25)).alloc (.cells #[.int .i64 x.e, .int .i64 x.n, .int .u64 x.v] 28)) from ((Kept.refl w).alloc _ _).alloc _ _)
  by_cases hlong : 60 < n
  · have i1 : (n : Int) > 60 := by omega
    clear hl hn hT hlong
    go_enter Tryd.func6, Tryd.ntmps6
    go_wp2_with fail; refine (known_any _ (T.out.kept K0.out)).mono ?_; rintro e v1 ⟨rfl, k1⟩
    go_wp2
    go_ret
    exact ⟨rfl, K0.out.trans k1⟩
  · have i1 : ¬ ((n : Int) > 60) := by omega
    have BO := Lib.hid (show OpBox ((w.alloc (.cells #[.int .i64 o.k, .int .i64 o.a, .int .i64 o.b, .int .u64 o.u] 25)).alloc (.cells #[.int .i64 x.e, .int .i64 x.n, .int .u64 x.v] 28)) w.heap.size o from (OpBox.new w o 25 w.heap.size rfl).kept ((Kept.refl _).alloc _ _))
    have BA := Lib.hid (show AnBox ((w.alloc (.cells #[.int .i64 o.k, .int .i64 o.a, .int .i64 o.b, .int .u64 o.u] 25)).alloc (.cells #[.int .i64 x.e, .int .i64 x.n, .int .u64 x.v] 28)) (w.heap.size + 1) x from AnBox.new _ x 28 _ (by simp))
    have HL := Lib.hid hl
    have HN := Lib.hid hn
    have hn' : n ≤ 60 := by omega
    have ALL := Lib.hid (allS_len s o)
    clear hl hn hT hlong
    go_enter Tryd.func6, Tryd.ntmps6
    go_wp2_with fail; refine (known_any _ (T.out.kept K0.out)).mono ?_; rintro e v1 ⟨rfl, k1⟩
    have K1 := Lib.hid (K0.out.trans k1)
    have BO1 := Lib.hid (BO.out.kept k1)
    have BA1 := Lib.hid (BA.out.kept k1)
    clear k1
    obtain ⟨b0, b1, b2, b3⟩ := BO1.out
    go_wp2_with fail; refine (all_S (HL.out.kept K1.out) HN.out (T.out.kept K1.out) o).mono ?_; rintro e v2 ⟨a2, c2, rfl, k2, own2⟩
    have K2 := Lib.hid k2
    have LY2 := Lib.hid (own_lies own2).lay
    obtain ⟨ny, hny⟩ : ∃ ny, ny = (allS s o).length := ⟨_, rfl⟩
    rw [← hny] at LY2 ⊢
    have HNY := Lib.hid hny
    have hny' : ny ≤ 1026 := by rw [hny]; exact ALL.out
    clear k2 own2 b0 b1 b2 b3 hny
    obtain ⟨b0, b1, b2, b3⟩ := BO1.out.kept K2.out
    obtain ⟨x0, x1, x2, _⟩ := BA1.out.kept K2.out
    go_wp2_with fail; refine (next_S (HL.out.kept (K1.out.trans K2.out)) HN.out (T.out.kept (K1.out.trans K2.out)) o x).mono ?_; rintro e v3 ⟨a3, c3, rfl, k3, own3⟩
    have K3 := Lib.hid (K2.out.trans k3)
    have LY3 := Lib.hid (LY2.out.kept k3)
    clear k3 own3 b0 b1 b2 b3 x0 x1 x2
    obtain ⟨x0, x1, x2, _⟩ := BA1.out.kept K3.out
    go_wp2_with fail; refine (hasL_any LY3.out HNY.out x).mono ?_; rintro e v4 ⟨rfl, k4⟩
    have K4 := Lib.hid (K3.out.trans k4)
    have LY4 := Lib.hid (LY3.out.kept k4)
    clear k4 x0 x1 x2
    go_wp2_with fail; refine (check_any (HL.out.kept (K1.out.trans K4.out)) HN.out).mono ?_; rintro e v5 ⟨rfl, k5⟩
    have K5 := Lib.hid (K4.out.trans k5)
    have LY5 := Lib.hid (LY4.out.kept k5)
    clear k5
    have TV := Lib.hid (T.out.kept (K1.out.trans K5.out))
    have LV := Lib.hid (HL.out.kept (K1.out.trans K5.out))
    have BV := Lib.hid (BO1.out.kept K5.out)
    have CE := Lib.hid (fun W (k : Kept v5 W) i y hy => an_one (LY5.out.kept k) HNY.out i y hy)
    have SE := Lib.hid (fun W (k : Kept v5 W) i y hy => lay_one (LV.out.kept k) HN.out i y hy)
    by_cases hc : chk s = 0
    · rw [hc]
      clear hc
      go_wp2
      go_loopw [11] (fun i wr => ∃ k : Nat, k ≤ ny ∧ i = .int .i64 k ∧ Kept v5 wr) (fun i _ => ny - (intOf i).toNat)
      case atStart => exact ⟨0, Nat.zero_le _, rfl, Kept.refl _⟩
      case round =>
        obtain ⟨k, hk1, rfl, hk⟩ := hrel
        have KE := Lib.hid hk
        clear hk
        by_cases hlt : k < ny
        · obtain ⟨y, hy⟩ : ∃ y, (allS s o)[k]? = some y := ⟨_, List.getElem?_eq_getElem (by rw [← HNY.out]; exact hlt)⟩
          have hmem : y ∈ allS s o := List.mem_iff_getElem?.2 ⟨k, hy⟩
          have MEM := Lib.hid hmem
          obtain ⟨g, oo, e5, hat⟩ := CE.out _ KE.out k y hy
          subst e5
          have BW := Lib.hid (fun W (q : Kept wr W) => opan_all (BV.out.kept (KE.out.trans q)) (hat.kept q))
          have LW := Lib.hid (LV.out.kept KE.out)
          have TW := Lib.hid (TV.out.kept KE.out)
          clear hy hmem hat
          obtain ⟨q0, q1, q2, q3, q4, q5, q6⟩ := BW.out _ (Kept.refl _)
          go_wp2
          have KT : Kept wr wr.drew := (Kept.refl wr).drew
          go_region_held3 (fun w' => w'.cell? ⟨w.heap.size, 0, none⟩ = some (.int .i64 o.k) ∧ w'.cell? ⟨w.heap.size, 1, none⟩ = some (.int .i64 o.a) ∧ w'.cell? ⟨w.heap.size, 2, none⟩ = some (.int .i64 o.b) ∧ w'.cell? ⟨w.heap.size, 3, none⟩ = some (.int .u64 o.u) ∧
              w'.cell? ⟨g, oo + k * 3, none⟩ = some (.int .i64 y.e) ∧ w'.cell? ⟨g, oo + k * 3 + 1, none⟩ = some (.int .i64 y.n) ∧ w'.cell? ⟨g, oo + k * 3 + 2, none⟩ = some (.int .u64 y.v))
            (with_reducible exact BW.out _ KT)
            (first
              | (go_at_call 10; refine (next_yes MEM.out (LW.out.kept KT) HN.out (TW.out.kept KT)).mono ?_; rintro e u1 ⟨a8, c8, rfl, m1, ow1⟩; have KT := KT.trans m1; have LT := Lib.hid (own_lies ow1).lay; clear ow1))
          have KU := Lib.hid KT
          clear m1 q0 q1 q2 q3 q4 q5 q6 KT
          obtain ⟨nt, hnt⟩ : ∃ nt, nt = (nextL s o y).length := ⟨_, rfl⟩
          rw [← hnt] at LT ⊢
          have HNT := Lib.hid hnt
          clear hnt
          have CT := Lib.hid (show Calls Tryd.prog 18 #[.slice a8 nt c8] u1 fun e w' => e = .returned (.int .i64 0) ∧ Kept u1 w' from check_p LT.out HNT.out (next_chk MEM.out))
          go_wp2_with fail; refine CT.out.mono ?_; rintro e u2 ⟨rfl, m2⟩
          have KU2 := Lib.hid (KU.out.trans m2)
          have LT2 := Lib.hid (LT.out.kept m2)
          clear m2
          obtain ⟨q0, q1, q2, q3, q4, q5, q6⟩ := BW.out _ KU2.out
          have KW := Lib.hid (KE.out.trans KU2.out)
          clear LT CT KU
          go_upto_block 2 with fail
          go_cut [13] (OneRel u2)
          case first =>
            by_cases he : y.e = 0
            · have d0 : (y.e != 0) = false := by simpa using he
              by_cases h7 : o.k = 7
              · obtain ⟨f1, f2, f3, _⟩ := next_alloc MEM.out he h7
                have d7 : (o.k == 7) = true := by simpa using h7
                have A1 := Lib.hid (fun W (q : Kept u2 W) => among_b ((LV.out.kept KW.out).kept q) HN.out (decide_eq_true f2))
                have A2 := Lib.hid (fun W (q : Kept u2 W) => among_b (LT2.out.kept q) HNT.out (decide_eq_false f3))
                have hnt1 : (nt : Int) = (n : Int) - 1 := by have := HNT.out; have := HN.out; omega
                have hnt2 : ((nt : Int) == (n : Int) - 1) = true := by simpa using hnt1
                have hnt3 : ((n : Int) - 1 == (n : Int) - 1) = true := by simp
                clear f1 f2 f3 he h7 hnt1
                go_wp2_with fail; go_at_call 31; refine (A1.out _ (Kept.refl _)).mono ?_; rintro e u3 ⟨rfl, rfl⟩
                go_wp2_with fail; go_at_call 31; refine (A2.out _ (Kept.refl _)).mono ?_; rintro e u4 ⟨rfl, rfl⟩
                go_wp2
                go_meet
                exact ⟨rfl, Kept.refl _⟩
              · obtain ⟨f1, f2, f3, _⟩ := next_free MEM.out he h7
                have d7 : (o.k == 7) = false := by simpa using h7
                have A1 := Lib.hid (fun W (q : Kept u2 W) => among_b ((LV.out.kept KW.out).kept q) HN.out (decide_eq_false f2))
                have A2 := Lib.hid (fun W (q : Kept u2 W) => among_b (LT2.out.kept q) HNT.out (decide_eq_true f3))
                have hnt1 : (nt : Int) = (n : Int) + 1 := by have := HNT.out; have := HN.out; omega
                have hnt2 : ((nt : Int) == (n : Int) + 1) = true := by simpa using hnt1
                clear f1 f2 f3 he h7 hnt1
                go_wp2_with fail; go_at_call 31; refine (A1.out _ (Kept.refl _)).mono ?_; rintro e u3 ⟨rfl, rfl⟩
                go_wp2_with fail; go_at_call 31; refine (A2.out _ (Kept.refl _)).mono ?_; rintro e u4 ⟨rfl, rfl⟩
                go_wp2
                go_meet
                exact ⟨rfl, Kept.refl _⟩
            · have d0 : (y.e != 0) = true := by simpa using he
              have hts := next_err MEM.out he
              have SM := Lib.hid (show Calls Tryd.prog 16 #[.slice a n c, .slice a8 nt c8] u2 fun e w' => e = .returned (.bool true) ∧ Kept u2 w' by
                have l2 := LT2.out
                have h2 := HNT.out
                rw [hts] at l2 h2
                exact same_n (LV.out.kept KW.out) l2 HN.out h2 (by omega))
              clear he hts
              go_wp2_with fail; refine SM.out.mono ?_; rintro e u3 ⟨rfl, m3⟩
              go_wp2
              go_meet
              exact ⟨rfl, m3⟩
          case rest =>
            obtain ⟨rfl, kc⟩ := hcut
            rename_i wc
            have KC := Lib.hid kc
            clear kc q0 q1 q2 q3 q4 q5 q6
            go_wp2
            go_loopw [14, 13] (fun i b wi => ∃ m : Nat, m ≤ n ∧ i = .int .i64 m ∧ b = .bool true ∧ Kept wc wi) (fun i _ _ => n - (intOf i).toNat)
            case atStart => exact ⟨0, Nat.zero_le _, rfl, rfl, Kept.refl _⟩
            case round =>
              obtain ⟨m, hm1, rfl, rfl, hm⟩ := hrel
              have KM := Lib.hid hm
              clear hm
              by_cases hlm : m < n
              · obtain ⟨z, hz⟩ : ∃ z, s[m]? = some z := ⟨_, List.getElem?_eq_getElem (by rw [← HN.out]; exact hlm)⟩
                have hzm : z ∈ s := List.mem_iff_getElem?.2 ⟨m, hz⟩
                have KI := Lib.hid (KW.out.trans (KC.out.trans KM.out))
                obtain ⟨g', o', e6, zc⟩ := SE.out _ KI.out m z hz
                subst e6
                obtain ⟨q0, q1, q2, q3, q4, q5, q6⟩ := BW.out _ (KU2.out.trans (KC.out.trans KM.out))
                have hm2 : (m : Int) < (n : Int) := by omega
                have hk2 : (k : Int) < (ny : Int) := by omega
                rcases Decidable.em (z ∈ nextL s o y) with ht | ht
                · have AMT := Lib.hid (fun W (q : Kept wr W) => among_b (LT2.out.kept ((KC.out.trans KM.out).trans q)) HNT.out (decide_eq_true ht))
                  clear ht hz hzm
                  go_wp2
                  go_quiet (first | (go_at_call 31; refine Calls.quiet_of_same (AMT.out _ ((Kept.refl _).drewN _))))
                  go_wp2
                  go_roundw
                  case rel => exact ⟨m + 1, by omega, by go_num, rfl, KM.out.drewN _⟩
                  case measure => simp [intOf]; omega
                · obtain ⟨h7, he, hzy⟩ := (next_keeps MEM.out z hzm).resolve_left ht
                  have d7 : (o.k == 7) = true := by simpa using h7
                  have de : (y.e == 0) = true := by simpa using he
                  have dz : (z == y.n) = true := by simpa using hzy
                  have AMT := Lib.hid (fun W (q : Kept wr W) => among_b (LT2.out.kept ((KC.out.trans KM.out).trans q)) HNT.out (decide_eq_false ht))
                  clear ht hz hzm h7 he hzy
                  go_wp2
                  go_quiet (first | (go_at_call 31; refine Calls.quiet_of_same (AMT.out _ ((Kept.refl _).drewN _))))
                  go_wp2
                  go_roundw
                  case rel => exact ⟨m + 1, by omega, by go_num, rfl, KM.out.drewN _⟩
                  case measure => simp [intOf]; omega
              · go_wp2
                exact ⟨⟨k + 1, by omega, by go_num, KW.out.trans (KC.out.trans KM.out)⟩, by simp [intOf]; omega⟩
        · have i2 : ¬ ((k : Int) < (ny : Int)) := by omega
          go_wp2
          go_ret
          exact ⟨rfl, K1.out.trans (K5.out.trans KE.out)⟩
    · have hz : ny = 0 := by rw [HNY.out]; simp [allS, hc]
      have d0 : (chk s != 0) = true := by simpa using hc
      have HZ := Lib.hid hz
      clear hc hz
      have hz1 : ¬ (0 < ny) := by have := HZ.out; omega
      have hz2 : ¬ ((ny : Int) > 0) := by omega
      go_wp2
      go_loopw [11] (fun i wr => i = .int .i64 0 ∧ Kept v5 wr) (fun _ _ => 0)
      case atStart => exact ⟨rfl, Kept.refl _⟩
      case round =>
        obtain ⟨rfl, hk⟩ := hrel
        have KE := Lib.hid hk
        clear hk
        have i2 : ¬ ((0 : Int) < (ny : Int)) := by omega
        go_wp2
        go_ret
        exact ⟨rfl, K1.out.trans (K5.out.trans KE.out)⟩
end Go.Proofs.YtlkadickhhaakaaDoor
