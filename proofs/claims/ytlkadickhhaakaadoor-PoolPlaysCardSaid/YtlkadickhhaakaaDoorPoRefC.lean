/- The document's answers: Play. -/
import Derived.Test.YtlkadickhhaakaaDoorPoRefB
namespace Go.Proofs.YtlkadickhhaakaaDoor
open Go.RowKit
attribute [local go_sem ↓] app_named

/-! ### what is told of a list, and of its set -/
theorem outs_congr {M N : Nat → Bool} (h : ∀ i, i < 1024 → M i = N i) (o : Opn) : outs M o = outs N o := by
  have hf : freed M o.a = freed N o.a := by
    unfold freed
    cases hq : noIdx o.a with
    | true => rfl
    | false =>
      obtain ⟨i, hi, e⟩ := noIdx_iff.1 hq
      rw [e, Int.toNat_natCast, h i hi]
  unfold outs
  rw [memI_congr h, hf]
theorem aft_congr {M N : Nat → Bool} (h : ∀ i, i < 1024 → M i = N i) (o : Opn) (x : Ann) (i : Nat) (hi : i < 1024) : aft M o x i = aft N o x i := by
  unfold aft
  split
  · unfold upd; split
    · rfl
    · exact h i hi
  · split
    · unfold upd; split
      · rfl
      · exact h i hi
    · exact h i hi
theorem allS_memI (M : Nat → Bool) (o : Opn) : allS (memI M) o = outs M o := by
  unfold allS
  rw [if_pos (chk_memI M)]
  exact outs_congr (setOf_memI M) o
theorem aft_memI (M : Nat → Bool) (o : Opn) (x : Ann) : memI (aft (setOf (memI M)) o x) = memI (aft M o x) := memI_congr (aft_congr (setOf_memI M) o x)
theorem rest_none (N : Nat) : memI (restM [] N) = memI (first N) := memI_congr (fun i _ => by simp [restM, first])
theorem restN_at (N : Nat) (h : N ≤ 1024) : restN (N : Int) = N := by unfold restN; omega

structure RefAt (w wr : World) (M0 : Nat → Bool) (l : List Opn) (k : Nat) (a7 : Option Addr) (m7 c7 : Nat) (a8 : Option Addr) (m8 c8 : Nat) : Prop where
  free : wr.ownsRow w.heap.size 3 1 (.slice a7 m7 c7) (memI (playM M0 (l.take k))).length (ints (memI (playM M0 (l.take k))))
  freeL : m7 = (memI (playM M0 (l.take k))).length
  told : wr.ownsRow w.heap.size 28 3 (.slice a8 m8 c8) (playA M0 (l.take k)).length (flatA (playA M0 (l.take k)))
  toldL : m8 = k
  kept : Kept w wr

set_option maxRecDepth 100000 in
set_option maxHeartbeats 8000000 in
theorem refPlay_ok {w : World} {a : Option Addr} {n c : Nat} {l : List Opn} (h : Lay w (.slice a n c) n (flatO l)) (hn : n = l.length) (hlen : n ≤ 1000) (N : Nat) (hN : N ≤ 1024) :
    Calls Tryd.prog 24 #[.int .i64 N, .slice a n c] w (RetPl w (playA (first N) l) (memI (playM (first N) l)) 0) := by
  have CE := Lib.hid (fun W (k : Kept w W) i y hy => op_one (h.kept k) hn i y hy)
  have HN := Lib.hid hn
  have RS := Lib.hid (show Calls Tryd.prog 15 #[.slice none 0 0, .int .i64 N] w (RetI w (memI (first N))) by
    have := refRest_S (w := w) (a := none) (n := 0) (c := 0) (s := []) (.inl (.inl ⟨rfl, rfl, rfl⟩)) rfl (N : Int)
    rw [restN_at N hN, rest_none] at this
    exact this)
  obtain ⟨M0, hM0⟩ : ∃ M0, M0 = first N := ⟨_, rfl⟩
  rw [← hM0] at RS ⊢
  have i1 : ¬ ((N : Int) < 0) := by omega
  have i2 : ¬ ((N : Int) > 1024) := by omega
  clear h hn hM0
  go_enter Tryd.func24, Tryd.ntmps24
  go_wp2_with fail; refine RS.out.mono ?_; rintro e w1 ⟨a1, c1, rfl, k1, own1⟩
  obtain ⟨m1, hm1⟩ : ∃ m1, m1 = (memI M0).length := ⟨_, rfl⟩
  have R0 := Lib.hid (show RefAt w w1 M0 l 0 a1 m1 c1 none 0 0 from ⟨by rw [hm1]; exact own1, hm1, World.ownsRow_nil _ _ _ _, rfl, k1⟩)
  rw [← hm1]
  clear own1 k1 hm1
  go_wp2
  go_loopw [9, 7, 8] (fun i s t wr => ∃ (k : Nat) (a7 : Option Addr) (m7 c7 : Nat) (a8 : Option Addr) (m8 c8 : Nat), k ≤ n ∧ i = .int .i64 k ∧ s = .slice a7 m7 c7 ∧ t = .slice a8 m8 c8 ∧ RefAt w wr M0 l k a7 m7 c7 a8 m8 c8) (fun i _ _ _ => n - (intOf i).toNat)
  case atStart => exact ⟨0, a1, m1, c1, none, 0, 0, Nat.zero_le _, rfl, rfl, rfl, R0.out⟩
  case round =>
    obtain ⟨k, a7, m7, c7, a8, m8, c8, hkn, rfl, rfl, rfl, hp⟩ := hrel
    have PA := Lib.hid hp
    clear hp
    by_cases hlt : k < n
    · obtain ⟨o, ho⟩ : ∃ o, l[k]? = some o := ⟨_, List.getElem?_eq_getElem (by rw [← HN.out]; omega)⟩
      obtain ⟨g, oo, rfl, q0, q1, q2, q3⟩ := CE.out _ PA.out.kept k o ho
      have HO := Lib.hid ho
      obtain ⟨M, hM⟩ : ∃ M, M = playM M0 (l.take k) := ⟨_, rfl⟩
      have FR := Lib.hid (show OwnI wr w.heap.size (.slice a7 m7 c7) (memI M) by rw [hM]; exact PA.out.free)
      have FL := Lib.hid (show m7 = (memI M).length by rw [hM]; exact PA.out.freeL)
      have lay7 : Lay wr (.slice a7 m7 c7) m7 (ints (memI M)) := by have := (own_lies FR.out).lay; rw [← FL.out] at this; exact this
      have L7 := Lib.hid lay7
      have AL := Lib.hid (refAll_S lay7 FL.out o)
      rw [allS_memI] at AL
      have OQ := Lib.hid (show ∀ W, Kept wr W → OpAt W g (oo + k * 4) o from fun W kk => OpAt.kept ⟨q0, q1, q2, q3⟩ kk)
      have hml : (memI M).length ≤ 1024 := memI_len M
      have TL := Lib.hid (show m8 = (playA M0 (l.take k)).length by rw [PA.out.toldL, playA_length, List.length_take, ← HN.out]; omega)
      have hm8 : m8 ≤ 1000 := by have := PA.out.toldL; omega
      have HM := Lib.hid hM
      clear ho hM lay7
      cases hx : outs M o with
      | nil =>
        have HX := Lib.hid hx
        have hone : one M o = noAnn := by simp [one, hx]
        have hst : stepM M o = M := by unfold stepM; exact aft_none _ hx
        have HONE := Lib.hid hone
        have HST := Lib.hid hst
        clear hx hone hst
        go_wp2_with fail; refine AL.out.mono ?_; rintro e w4 ⟨a4, c4, rfl, k4, own4⟩
        rw [HX.out]
        have k5 : Kept wr (w4.alloc (.cells #[.int .i64 0, .int .i64 0, .int .u64 0] 28)) := k4.alloc _ _
        obtain ⟨a6, c6, w6, hr, own6, but6⟩ := ans_app (W := (w4.alloc (.cells #[.int .i64 0, .int .i64 0, .int .u64 0] 28))) (L := playA M0 (l.take k)) (own_kept PA.out.told k5) (Nat.le_trans PA.out.kept.size k5.size) (by rw [← TL.out]; omega) [noAnn] (by simp) #[.int .i64 0, .int .i64 0, .int .u64 0] (by rfl) m8 1 TL.out rfl
        have R6 := Lib.hid (show RefAt w w6 M0 l (k + 1) a7 m7 c7 a6 (m8 + 1) c6 by
          have hk6 : Kept w w6 := (PA.out.kept.trans k5).wrote but6 (fun j hj => (PA.out.told.lt j hj).1)
          refine ⟨?_, ?_, ?_, by rw [PA.out.toldL], hk6⟩
          · rw [take_snoc l k o HO.out, playM_snoc, ← HM.out, HST.out]
            refine own_but (own_kept FR.out k5) but6 (fun g hg hg' => ?_)
            rcases FR.out.2 with ⟨hv, _⟩ | ⟨g1, cap, cur, hv, _, hh, _⟩
            · rw [hv] at hg; cases hg
            · rcases PA.out.told.2 with ⟨hv', _⟩ | ⟨g2, cap', cur', hv', _, hh', _⟩
              · rw [hv'] at hg'; cases hg'
              · rw [hv] at hg; rw [hv'] at hg'
                have e1 : g1 = g := by simpa [Value.ownBlock] using hg
                have e2 : g2 = g := by simpa [Value.ownBlock] using hg'
                subst e1; subst e2
                rw [hh] at hh'
                simp at hh'
          · rw [take_snoc l k o HO.out, playM_snoc, ← HM.out, HST.out]; exact FL.out
          · rw [take_snoc l k o HO.out, playA_snoc, ← HM.out, HONE.out, List.length_append, ← TL.out]; exact own6)
        rw [World.size_alloc] at hr
        clear own4 k4 own6 but6 k5
        go_wp2
        go_roundw
        case rel => exact ⟨k + 1, _, _, _, _, _, _, by omega, by go_num, rfl, rfl, R6.out⟩
        case measure => simp [intOf]; omega
      | cons x rest =>
        have HX := Lib.hid hx
        have hone : one M o = x := by simp [one, hx]
        have hst : stepM M o = aft M o x := by unfold stepM; rw [hone]
        have HONE := Lib.hid hone
        have HST := Lib.hid hst
        have HOL := Lib.hid (show 0 < (outs M o).length by rw [hx]; simp)
        have HO0 := Lib.hid (show (outs M o)[0]? = some x by rw [hx]; rfl)
        have hol : (outs M o).length ≤ 1026 := by
          unfold outs
          split
          · rw [List.length_append, List.length_map]; simp; omega
          · split <;> simp
        clear hx hone hst
        go_wp2_with fail; refine AL.out.mono ?_; rintro e w4 ⟨a4, c4, rfl, k4, own4⟩
        obtain ⟨g4, o4, rfl, y0, y1, y2⟩ := an_one (own_lies own4).lay rfl 0 x HO0.out
        obtain ⟨no, hno⟩ : ∃ no, no = (outs M o).length := ⟨_, rfl⟩
        rw [← hno] at hol ⊢
        have hno0 : 0 < no := by rw [hno]; exact HOL.out
        have hno0' : (0 : Int) < (no : Int) := by omega
        have hno1 : decide ((no : Int) > 0) = true := by simp; omega
        rw [Nat.zero_mul, Nat.add_zero] at y0 y1 y2
        have hg4 := lt_of_cell y0
        obtain ⟨W6, hW6⟩ : ∃ W6, (w4.alloc (.cells #[.int .i64 x.e, .int .i64 x.n, .int .u64 x.v] 28)) = W6 := ⟨_, rfl⟩
        have bx1 : AnBox W6 w4.heap.size x := by rw [← hW6]; exact AnBox.new w4 x 28 w4.heap.size rfl
        have k46 : Kept w4 W6 := by rw [← hW6]; exact (Kept.refl w4).alloc _ _
        have K6 := Lib.hid (show Kept wr W6 from k4.trans k46)
        have PK := Lib.hid (fun W (kk : Kept W6 W) => show W.cell? ⟨g, oo + k * 4, none⟩ = some (.int .i64 o.k) ∧ W.cell? ⟨g, oo + k * 4 + 1, none⟩ = some (.int .i64 o.a) ∧ W.cell? ⟨g, oo + k * 4 + 2, none⟩ = some (.int .i64 o.b) ∧ W.cell? ⟨g, oo + k * 4 + 3, none⟩ = some (.int .u64 o.u) ∧
            W.cell? ⟨w4.heap.size, 0, none⟩ = some (.int .i64 x.e) ∧ W.cell? ⟨w4.heap.size, 1, none⟩ = some (.int .i64 x.n) ∧ W.cell? ⟨w4.heap.size, 2, none⟩ = some (.int .u64 x.v) by
          have v := OQ.out _ (K6.out.trans kk)
          have u := bx1.kept kk
          exact ⟨v.c0, v.c1, v.c2, v.c3, u.c0, u.c1, u.c2⟩)
        have BH := Lib.hid (fun W (kk : Kept W6 W) => behind_any (L7.out.kept (K6.out.trans kk)) FL.out (chk_memI M) o x)
        obtain ⟨v0, v1, v2, v3, u0, u1, u2⟩ := PK.out _ (Kept.refl _)
        clear own4 k4 bx1 k46 hno
        go_wp2
        go_region_held3 (fun w' => w'.cell? ⟨g, oo + k * 4, none⟩ = some (.int .i64 o.k) ∧ w'.cell? ⟨g, oo + k * 4 + 1, none⟩ = some (.int .i64 o.a) ∧ w'.cell? ⟨g, oo + k * 4 + 2, none⟩ = some (.int .i64 o.b) ∧ w'.cell? ⟨g, oo + k * 4 + 3, none⟩ = some (.int .u64 o.u) ∧
            w'.cell? ⟨w4.heap.size, 0, none⟩ = some (.int .i64 x.e) ∧ w'.cell? ⟨w4.heap.size, 1, none⟩ = some (.int .i64 x.n) ∧ w'.cell? ⟨w4.heap.size, 2, none⟩ = some (.int .u64 x.v))
          (first | (with_reducible exact PK.out _ KT) | (with_reducible exact PK.out _ (by repeat (first | (with_reducible exact Kept.refl _) | (with_reducible refine Kept.drew ?_) | (with_reducible refine Kept.drewN ?_ _)))))
          (first
            | (go_at_call 38; refine (BH.out _ (by repeat (first | (with_reducible exact Kept.refl _) | (with_reducible refine Kept.drew ?_) | (with_reducible refine Kept.drewN ?_ _)))).mono ?_; rintro e w7 ⟨a9, c9, rfl, k9, own9⟩; have KT : Kept W6 w7 := Kept.trans (by repeat (first | (with_reducible exact Kept.refl _) | (with_reducible refine Kept.drew ?_) | (with_reducible refine Kept.drewN ?_ _))) k9; have O9 := Lib.hid (own_mono own9 (Nat.le_trans PA.out.kept.size (Nat.le_trans K6.out.size (Kept.size (by repeat (first | (with_reducible exact Kept.refl _) | (with_reducible refine Kept.drew ?_) | (with_reducible refine Kept.drewN ?_ _))))))); clear own9 k9))
        obtain ⟨v0', v1', v2', v3', u0', u1', u2'⟩ := PK.out _ KT
        have KW := Lib.hid (K6.out.trans KT)
        obtain ⟨a6, c6, w8, hr, own6, but6⟩ := ans_app (W := w7) (L := playA M0 (l.take k)) (own_kept PA.out.told KW.out) (Nat.le_trans PA.out.kept.size KW.out.size) (by rw [← TL.out]; omega) [x] (by simp) #[.int .i64 x.e, .int .i64 x.n, .int .u64 x.v] (by rfl) m8 1 TL.out rfl
        have R6 := Lib.hid (show RefAt w w8 M0 l (k + 1) a9 (memI (aft (setOf (memI M)) o x)).length c9 a6 (m8 + 1) c6 by
          have hk6 : Kept w w8 := (PA.out.kept.trans KW.out).wrote but6 (fun j hj => (PA.out.told.lt j hj).1)
          have e9 : memI (aft (setOf (memI M)) o x) = memI (playM M0 (l.take (k + 1))) := by
            rw [take_snoc l k o HO.out, playM_snoc, ← HM.out, HST.out, aft_memI]
          have o9 := O9.out
          rw [e9] at o9 ⊢
          refine ⟨?_, rfl, ?_, by rw [PA.out.toldL], hk6⟩
          · refine own_but o9 but6 (fun g hg hg' => ?_)
            rcases o9.2 with ⟨hv, _⟩ | ⟨g1, cap, cur, hv, _, hh, _⟩
            · rw [hv] at hg; cases hg
            · rcases (own_kept PA.out.told KW.out).2 with ⟨hv', _⟩ | ⟨g2, cap', cur', hv', _, hh', _⟩
              · rw [hv'] at hg'; cases hg'
              · rw [hv] at hg; rw [hv'] at hg'
                have e1 : g1 = g := by simpa [Value.ownBlock] using hg
                have e2 : g2 = g := by simpa [Value.ownBlock] using hg'
                subst e1; subst e2
                rw [hh] at hh'
                simp at hh'
          · rw [take_snoc l k o HO.out, playA_snoc, ← HM.out, HONE.out, List.length_append, ← TL.out]; exact own6)
        clear own6 but6
        go_wp2
        go_roundw
        case rel => exact ⟨k + 1, _, _, _, _, _, _, by omega, by go_num, rfl, rfl, R6.out⟩
        case measure => simp [intOf]; omega
    · obtain rfl : k = n := by omega
      have hall : l.take k = l := by rw [HN.out]; exact List.take_length
      have RT := Lib.hid (show RetPl w (playA M0 l) (memI (playM M0 l)) 0 (.returned (.tuple #[.slice a8 m8 c8, .slice a7 m7 c7, .int .i64 0])) wr by
        have hp := PA.out
        have e8 : m8 = (playA M0 l).length := by rw [hp.toldL, playA_length]; exact HN.out
        have h1 := hp.freeL
        have h2 := hp.free
        have h3 := hp.told
        rw [hall] at h1 h2 h3
        rw [e8] at h3
        rw [h1] at h2
        refine ⟨a8, c8, a7, c7, by rw [e8, h1], hp.kept, h3, h2⟩)
      clear hall
      go_wp2
      exact bodyPost_ret (v := .tuple #[.slice a8 m8 c8, .slice a7 m7 c7, .int .i64 0]) (by simp [results, Tryd.results24, go_sem]) rfl RT.out

set_option maxHeartbeats 1000000 in
theorem refPlay_no {w : World} (v : Value) (z : Int) (hz : z < 0 ∨ 1024 < z) :
    Calls Tryd.prog 24 #[.int .i64 z, v] w (RetPl w [] [] 3) := by
  rcases hz with hz | hz
  · go_enter Tryd.func24, Tryd.ntmps24
    go_wp2
    exact bodyPost_ret (v := .tuple #[.slice none 0 0, .slice none 0 0, .int .i64 3]) (by simp [results, Tryd.results24, go_sem]) rfl ⟨none, 0, none, 0, rfl, Kept.refl _, World.ownsRow_nil _ _ _ _, World.ownsRow_nil _ _ _ _⟩
  · have i1 : ¬ (z < 0) := by omega
    have i2 : z > 1024 := hz
    go_enter Tryd.func24, Tryd.ntmps24
    go_wp2
    exact bodyPost_ret (v := .tuple #[.slice none 0 0, .slice none 0 0, .int .i64 3]) (by simp [results, Tryd.results24, go_sem]) rfl ⟨none, 0, none, 0, rfl, Kept.refl _, World.ownsRow_nil _ _ _ _, World.ownsRow_nil _ _ _ _⟩
theorem refPlay_S {w : World} {a : Option Addr} {n c : Nat} {l : List Opn} (h : Lay w (.slice a n c) n (flatO l)) (hn : n = l.length) (hlen : n ≤ 1000) (z : Int) :
    Calls Tryd.prog 24 #[.int .i64 z, .slice a n c] w (RetPl w (plA z l) (plQ z l) (plE z)) := by
  unfold plA plQ plE
  by_cases hz : z < 0 ∨ 1024 < z
  · rw [if_pos hz, if_pos hz, if_pos hz]; exact refPlay_no _ z hz
  · rw [if_neg hz, if_neg hz, if_neg hz]
    obtain ⟨N, rfl⟩ : ∃ N : Nat, z = N := ⟨z.toNat, by omega⟩
    exact refPlay_ok h hn hlen N (by omega)
end Go.Proofs.YtlkadickhhaakaaDoor
