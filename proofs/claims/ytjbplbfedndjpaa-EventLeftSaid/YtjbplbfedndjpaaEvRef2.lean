/- The document's answers: Only, Whole, Pending, Most. -/
import Derived.Test.YtjbplbfedndjpaaEvRefCalls
namespace Go.Proofs.Ytjbplbfedndjpaa
open Go.RowKit

theorem filter_snoc (q : Ev → Bool) (h : List Ev) (k : Nat) (e : Ev) (he : h[k]? = some e) : (h.take (k + 1)).filter q = (h.take k).filter q ++ (if q e then [e] else []) := by
  rw [take_snoc h k e he, List.filter_append]
  congr 1
  cases hq : q e <;> simp [hq]
theorem filter_le (q : Ev → Bool) (h : List Ev) (k : Nat) : ((h.take k).filter q).length ≤ k := by
  have h1 := List.length_filter_le q (h.take k)
  rw [List.length_take] at h1
  omega
/-- What a loop that collects events has when k rounds are over. -/
def Got (w : World) (q : Ev → Bool) (h : List Ev) (v i : Value) (W : World) : Prop :=
  ∃ k : Nat, k ≤ h.length ∧ i = .int .i64 k ∧ Kept w W ∧ ∃ a c, v = .slice a ((h.take k).filter q).length c ∧ OwnE W w.heap.size (.slice a ((h.take k).filter q).length c) ((h.take k).filter q)

set_option maxHeartbeats 4000000 in
theorem refOnly_any {w : World} {a : Option Addr} {c : Nat} {h : List Ev} {l : List Int} {vl : Value} (hE : Lay w (.slice a h.length c) h.length (flatE h)) (hl : h.length ≤ 5000) (hI : Lay w vl l.length (ints l)) (hll : l.length ≤ 5000) :
    Calls Try.prog 28 #[.slice a h.length c, vl] w (RetE w (onl h l)) := by
  by_cases h0 : h = []
  · subst h0
    obtain ⟨al, cl, rfl, _⟩ := hI.form
    clear hE hl hI hll
    go_enter Try.func28, Try.ntmps28
    go_wp2
    go_loopw [5, 6] (fun v i wr => v = .slice none 0 0 ∧ i = .int .i64 0 ∧ wr = w) (fun _ _ _ => 0)
    case atStart => exact ⟨rfl, rfl, rfl⟩
    case round =>
      obtain ⟨rfl, rfl, rfl⟩ := hrel
      go_wp2
      go_ret
      exact ⟨_, _, rfl, Kept.refl _, World.ownsRow_nil _ _ _ _⟩
  · have hp : 0 < h.length := List.length_pos_iff.2 h0
    obtain ⟨g, o, c, e, h1, h2, hc⟩ := hE.ev hp
    cases e
    have HC := Lib.hid hc
    have HI := Lib.hid hI
    obtain ⟨n, hn⟩ : ∃ n, n = h.length := ⟨_, rfl⟩
    have HN := Lib.hid hn
    rw [← hn] at hl ⊢
    obtain ⟨i0, hi0, hz0, hz1, hz2⟩ := info_parts infoEv
    clear hc hE h0 hp hn hI
    obtain ⟨q, hq⟩ : ∃ q, q = fun e : Ev => among l e.id := ⟨_, rfl⟩
    have HQ := Lib.hid hq
    have hon : onl h l = h.filter q := by rw [hq]; rfl
    rw [hon]
    clear hq hon
    go_enter Try.func28, Try.ntmps28
    go_wp2
    go_loopw [5, 6] (fun v i wr => Got w q h v i wr) (fun _ i _ => n - (intOf i).toNat)
    case atStart => exact ⟨0, Nat.zero_le _, rfl, Kept.refl _, none, 0, by simp, by simp [flatE]; exact World.ownsRow_nil _ _ _ _⟩
    case round =>
      obtain ⟨k, hk, rfl, hkept, a2, c2, rfl, own2⟩ := hrel
      rw [← HN.out] at hk
      have KR := Lib.hid hkept
      have OW := Lib.hid own2
      clear hkept own2
      by_cases hlt : k < n
      · obtain ⟨e, he⟩ : ∃ e, h[k]? = some e := ⟨_, List.getElem?_eq_getElem (by rw [← HN.out]; exact hlt)⟩
        obtain ⟨x0, x1, x2, x3, x4, x5, x6, x7, x8⟩ := (HC.out k e he).kept KR.out
        have FS := Lib.hid (filter_snoc q h k e he)
        have tl := filter_le q h k
        clear he
        cases hqe : q e with
        | false =>
          have AM := Lib.hid (among_at (HI.out.kept KR.out) (by omega) e.id false (by have := congrFun HQ.out e; rw [hqe] at this; exact this.symm))
          have Q0 := Lib.hid hqe
          clear hqe
          go_wp2_with fail; refine AM.out.mono ?_; rintro ed w1 ⟨rfl, rfl⟩
          go_wp2
          go_roundw
          case rel =>
            have e3 : (h.take (k + 1)).filter q = (h.take k).filter q := by rw [FS.out, Q0.out]; simp
            refine ⟨k + 1, by rw [← HN.out]; omega, by go_num, KR.out, a2, c2, by rw [e3], ?_⟩
            rw [e3]
            exact OW.out
          case measure => simp [intOf]; omega
        | true =>
          have AM := Lib.hid (among_at (HI.out.kept KR.out) (by omega) e.id true (by have := congrFun HQ.out e; rw [hqe] at this; exact this.symm))
          have Q0 := Lib.hid hqe
          clear hqe
          go_wp2_with fail; refine AM.out.mono ?_; rintro ed w1 ⟨rfl, rfl⟩
          go_wp2_with (at_builtin; refine wpList_append_lay _ rfl _ _ _ rfl w.heap.size 51 i0 _ 9 72 Try.underlying22 hi0 hz0 hz1 hz2 (by rfl) (by decide) (.slice a2 ((h.take k).filter q).length c2) ((h.take k).filter q).length (flatE ((h.take k).filter q)) (by simp [Act.eval, Act.put]) (own_same OW.out (fun g hg => ((Kept.refl _).alloc _ _).below.block g (OW.out.lt g hg).2)) _ 1 (flatE [e]) (by simp [Act.eval, Act.put]) (flatE_length [e]) (lay_new (heap_alloc_new _ _) (by decide)) (flatE_one _) (by unfold maxLen; omega) (by omega) (by have := KR.out.size; simp; omega) ?_; intro a4 c4 w4 own4 but4 at4)
          go_roundw
          case rel =>
            have e3 : (h.take (k + 1)).filter q = (h.take k).filter q ++ [e] := by rw [FS.out, Q0.out]; simp
            refine ⟨k + 1, by rw [← HN.out]; omega, by go_num, (((KR.out.alloc _ _).but _).trans but4 (fun _ _ h => h)).kept (fun k hk e => by have := (OW.out.lt k e).1; omega), a4, c4, by rw [e3]; simp, ?_⟩
            unfold OwnE
            rw [e3, flatE_snoc, List.length_append]
            simpa [flatE] using own4
          case measure => simp [intOf]; omega
      · obtain rfl : k = n := by omega
        have tt : (h.take k).filter q = h.filter q := by rw [HN.out, List.take_length]
        rw [tt] at OW ⊢
        go_wp2
        go_ret
        exact ⟨a2, c2, rfl, KR.out, OW.out⟩

/-! ### Pending -/
theorem pendOf_take (L : List Sp) (k : Nat) (s : Sp) (hs : L[k]? = some s) : pendOf (L.take (k + 1)) = pendOf (L.take k) ++ (if s.to < 0 then [s.id] else []) := by
  rw [take_snoc L k s hs, pendOf_snoc]
theorem pendOf_le (L : List Sp) (k : Nat) : (pendOf (L.take k)).length ≤ k := by
  have h1 := pendOf_length (L.take k)
  rw [List.length_take] at h1
  omega
def PendAt (w : World) (L : List Sp) (v i : Value) (W : World) : Prop :=
  ∃ k : Nat, k ≤ L.length ∧ i = .int .i64 k ∧ Kept w W ∧ ∃ a c, v = .slice a (pendOf (L.take k)).length c ∧ OwnI W w.heap.size (.slice a (pendOf (L.take k)).length c) (pendOf (L.take k))

set_option maxHeartbeats 4000000 in
theorem refPending_of {w : World} {v : Value} {L : List Sp} {x : Int} (hC : Calls Try.prog 12 #[v] w (RetS2 w L x)) (hL : L.length ≤ 5000) :
    Calls Try.prog 18 #[v] w (RetI w (pendOf L)) := by
  have CC := Lib.hid hC
  clear hC
  obtain ⟨i0, hi0, hz0, hz1, hz2⟩ := info_parts infoI
  by_cases h0 : L = []
  · subst h0
    clear hL
    go_enter Try.func18, Try.ntmps18
    go_wp2_with fail; refine CC.out.mono ?_; rintro ed w1 ⟨a, c, rfl, k1, own1⟩
    have K1 := Lib.hid k1
    clear k1 own1
    go_wp2
    go_loopw [5, 6] (fun v i wr => v = .slice none 0 0 ∧ i = .int .i64 0 ∧ wr = w1) (fun _ _ _ => 0)
    case atStart => exact ⟨rfl, rfl, rfl⟩
    case round =>
      obtain ⟨rfl, rfl, rfl⟩ := hrel
      go_wp2
      go_ret
      exact ⟨none, 0, rfl, K1.out, World.ownsRow_nil _ _ _ _⟩
  · have hp : 0 < L.length := List.length_pos_iff.2 h0
    clear h0
    go_enter Try.func18, Try.ntmps18
    go_wp2_with fail; refine CC.out.mono ?_; rintro ed w1 ⟨a, c, rfl, k1, own1⟩
    obtain ⟨g, o, c', e, _, _, hc⟩ := (own_lies own1).lay.sp hp
    cases e
    have K1 := Lib.hid k1
    have HC := Lib.hid hc
    obtain ⟨n, hn⟩ : ∃ n, n = L.length := ⟨_, rfl⟩
    have HN := Lib.hid hn
    rw [← hn] at hL ⊢
    clear k1 own1 hc hp hn
    go_wp2
    go_loopw [5, 6] (fun v i wr => PendAt w1 L v i wr) (fun _ i _ => n - (intOf i).toNat)
    case atStart => exact ⟨0, Nat.zero_le _, rfl, Kept.refl _, none, 0, by simp [pendOf], by simp [pendOf, ints]; exact World.ownsRow_nil _ _ _ _⟩
    case round =>
      obtain ⟨k, hk, rfl, hkept, a2, c2, rfl, own2⟩ := hrel
      rw [← HN.out] at hk
      have KR := Lib.hid hkept
      have OW := Lib.hid own2
      clear hkept own2
      by_cases hlt : k < n
      · obtain ⟨s, hs⟩ : ∃ s, L[k]? = some s := ⟨_, List.getElem?_eq_getElem (by rw [← HN.out]; exact hlt)⟩
        have x0 := ((HC.out k s hs).kept KR.out).c0
        have x2 := ((HC.out k s hs).kept KR.out).c2
        have FS := Lib.hid (pendOf_take L k s hs)
        have tl := pendOf_le L k
        clear hs
        by_cases hz : s.to < 0
        · have HZ := Lib.hid hz
          go_wp2_with (at_builtin; refine wpList_append_lay _ rfl _ _ _ rfl w1.heap.size 3 i0 _ 1 8 Try.underlying29 hi0 hz0 hz1 hz2 (by rfl) (by decide) (.slice a2 (pendOf (L.take k)).length c2) (pendOf (L.take k)).length (ints (pendOf (L.take k))) (by simp [Act.eval, Act.put]) (own_kept OW.out ((Kept.refl _).alloc _ _)) _ 1 (ints [s.id]) (by simp [Act.eval, Act.put]) (by rfl) (lay_new (heap_alloc_new _ _) (by decide)) (ints_one _) (by unfold maxLen; omega) (by omega) (by have := KR.out.size; simp; omega) ?_; intro a4 c4 w4 own4 but4 at4)
          go_roundw
          case rel =>
            have e3 : pendOf (L.take (k + 1)) = pendOf (L.take k) ++ [s.id] := by rw [FS.out, if_pos HZ.out]
            refine ⟨k + 1, by rw [← HN.out]; omega, by go_num, (((KR.out.alloc _ _).but _).trans but4 (fun _ _ h => h)).kept (fun b hb e => by have := (OW.out.lt b e).1; omega), a4, c4, by rw [e3]; simp, ?_⟩
            unfold OwnI
            rw [e3, ints_append, List.length_append]
            exact own4
          case measure => simp [intOf]; omega
        · have HZ := Lib.hid hz
          go_wp2
          go_roundw
          case rel =>
            have e3 : pendOf (L.take (k + 1)) = pendOf (L.take k) := by rw [FS.out, if_neg HZ.out]; simp
            refine ⟨k + 1, by rw [← HN.out]; omega, by go_num, KR.out, a2, c2, by rw [e3], ?_⟩
            rw [e3]
            exact OW.out
          case measure => simp [intOf]; omega
      · have tt : pendOf (L.take k) = pendOf L := by rw [show k = L.length by rw [← HN.out]; omega, List.take_length]
        rw [tt] at OW ⊢
        clear tt
        go_wp2
        go_ret
        exact ⟨a2, c2, rfl, K1.out.trans KR.out, own_mono OW.out K1.out.size⟩

/-! ### Whole -/
theorem vd_of_chk {h : List Ev} (hv : chk h = 0) : Vd h := by
  unfold chk at hv
  split at hv
  · cases hv
  · exact hv
theorem keep_eq {h : List Ev} (hv : Vd h) : (h.filter fun e => !among (pend h) e.id) = keep h := by
  unfold keep
  refine List.filter_congr fun e he => ?_
  obtain ⟨i, hi⟩ := List.getElem?_of_mem he
  exact among_pend hv hi

set_option maxHeartbeats 4000000 in
theorem refWhole_bad {w : World} {a : Option Addr} {c : Nat} {h : List Ev} (hE : Lay w (.slice a h.length c) h.length (flatE h)) (hl : h.length ≤ 5000) (v : Int) (hv : chk h = v) (hz : v ≠ 0) :
    Calls Try.prog 26 #[.slice a h.length c] w (RetE2 w [] v) := by
  have b1 : (v != 0) = true := by simpa using hz
  have CK := Lib.hid (hv ▸ refCheck_any hE hl)
  clear hE hv hz
  go_enter Try.func26, Try.ntmps26
  go_wp2_with fail; refine CK.out.mono ?_; rintro ed w1 ⟨rfl, k1⟩
  go_wp2
  go_ret2
  exact ⟨none, 0, rfl, k1, World.ownsRow_nil _ _ _ _⟩

set_option maxHeartbeats 4000000 in
theorem refWhole_ok {w : World} {a : Option Addr} {c : Nat} {h : List Ev} (hE : Lay w (.slice a h.length c) h.length (flatE h)) (hl : h.length ≤ 5000) (hv : chk h = 0) :
    Calls Try.prog 26 #[.slice a h.length c] w (RetE2 w (keep h) 0) := by
  rw [← keep_eq (vd_of_chk hv)]
  have CK := Lib.hid (hv ▸ refCheck_any hE hl)
  have PL : (pend h).length ≤ 5000 := by
    have h1 := pendOf_length (spans h)
    have h2 := cls_length h
    have h3 : (spans h).length = (cls h).length := by simp [spans]
    unfold pend
    omega
  have HE := Lib.hid hE
  have HP := Lib.hid (fun (W : World) (k : Kept w W) => refPending_of (refCalls_ok (HE.out.kept k) hl hv) (by
    have h2 := cls_length h
    have h3 : (spans h).length = (cls h).length := by simp [spans]
    omega))
  by_cases h0 : h = []
  · subst h0
    clear hE hl hv
    go_enter Try.func26, Try.ntmps26
    go_wp2_with fail; refine CK.out.mono ?_; rintro ed w1 ⟨rfl, k1⟩
    have K1 := Lib.hid k1
    clear k1
    go_wp2_with fail; refine (HP.out _ K1.out).mono ?_; rintro ed w2 ⟨a5, c5, rfl, k2, own2⟩
    have K2 := Lib.hid k2
    clear k2 own2
    go_wp2
    go_loopw [6, 7] (fun v i wr => v = .slice none 0 0 ∧ i = .int .i64 0 ∧ wr = w2) (fun _ _ _ => 0)
    case atStart => exact ⟨rfl, rfl, rfl⟩
    case round =>
      obtain ⟨rfl, rfl, rfl⟩ := hrel
      go_wp2
      go_ret2
      exact ⟨none, 0, rfl, K1.out.trans K2.out, World.ownsRow_nil _ _ _ _⟩
  · have hp : 0 < h.length := List.length_pos_iff.2 h0
    obtain ⟨g, o, c, e, h1, h2, hc⟩ := hE.ev hp
    cases e
    have HC := Lib.hid hc
    obtain ⟨n, hn⟩ : ∃ n, n = h.length := ⟨_, rfl⟩
    have HN := Lib.hid hn
    rw [← hn] at hl CK HP ⊢
    obtain ⟨i0, hi0, hz0, hz1, hz2⟩ := info_parts infoEv
    obtain ⟨P, hP⟩ : ∃ P, P = pend h := ⟨_, rfl⟩
    rw [show pendOf (spans h) = P from hP.symm] at HP
    rw [← hP] at PL ⊢
    obtain ⟨q, hq⟩ : ∃ q, q = fun e : Ev => !among P e.id := ⟨_, rfl⟩
    rw [← hq]
    have HQ := Lib.hid hq
    clear hc hE h0 hp hn hv hq hP HE
    go_enter Try.func26, Try.ntmps26
    go_wp2_with fail; refine CK.out.mono ?_; rintro ed w1 ⟨rfl, k1⟩
    have K1 := Lib.hid k1
    clear k1
    go_wp2_with fail; refine (HP.out _ K1.out).mono ?_; rintro ed w2 ⟨a5, c5, rfl, k2, own2⟩
    have K2 := Lib.hid k2
    have LP := Lib.hid (own_lies own2).lay
    clear k2 own2
    go_wp2
    go_loopw [6, 7] (fun v i wr => Got w2 q h v i wr) (fun _ i _ => n - (intOf i).toNat)
    case atStart => exact ⟨0, Nat.zero_le _, rfl, Kept.refl _, none, 0, by simp, by simp [flatE]; exact World.ownsRow_nil _ _ _ _⟩
    case round =>
      obtain ⟨k, hk, rfl, hkept, a2, c2, rfl, own2⟩ := hrel
      rw [← HN.out] at hk
      have KR := Lib.hid hkept
      have OW := Lib.hid own2
      clear hkept own2
      by_cases hlt : k < n
      · obtain ⟨e, he⟩ : ∃ e, h[k]? = some e := ⟨_, List.getElem?_eq_getElem (by rw [← HN.out]; exact hlt)⟩
        obtain ⟨x0, x1, x2, x3, x4, x5, x6, x7, x8⟩ := (HC.out k e he).kept ((K1.out.trans K2.out).trans KR.out)
        have FS := Lib.hid (filter_snoc q h k e he)
        have tl := filter_le q h k
        clear he
        cases hqe : q e with
        | false =>
          have AM := Lib.hid (among_at (LP.out.kept KR.out) (by omega) e.id true (by have := congrFun HQ.out e; rw [hqe] at this; simpa using this.symm))
          have Q0 := Lib.hid hqe
          clear hqe
          go_wp2_with fail; refine AM.out.mono ?_; rintro ed w3 ⟨rfl, rfl⟩
          go_wp2
          go_roundw
          case rel =>
            have e3 : (h.take (k + 1)).filter q = (h.take k).filter q := by rw [FS.out, Q0.out]; simp
            refine ⟨k + 1, by rw [← HN.out]; omega, by go_num, KR.out, a2, c2, by rw [e3], ?_⟩
            rw [e3]
            exact OW.out
          case measure => simp [intOf]; omega
        | true =>
          have AM := Lib.hid (among_at (LP.out.kept KR.out) (by omega) e.id false (by have := congrFun HQ.out e; rw [hqe] at this; simpa using this.symm))
          have Q0 := Lib.hid hqe
          clear hqe
          go_wp2_with fail; refine AM.out.mono ?_; rintro ed w3 ⟨rfl, rfl⟩
          go_wp2_with (at_builtin; refine wpList_append_lay _ rfl _ _ _ rfl w2.heap.size 51 i0 _ 9 72 Try.underlying22 hi0 hz0 hz1 hz2 (by rfl) (by decide) (.slice a2 ((h.take k).filter q).length c2) ((h.take k).filter q).length (flatE ((h.take k).filter q)) (by simp [Act.eval, Act.put]) (own_kept OW.out ((Kept.refl _).alloc _ _)) _ 1 (flatE [e]) (by simp [Act.eval, Act.put]) (flatE_length [e]) (lay_new (heap_alloc_new _ _) (by decide)) (flatE_one _) (by unfold maxLen; omega) (by omega) (by have := KR.out.size; simp; omega) ?_; intro a4 c4 w4 own4 but4 at4)
          go_roundw
          case rel =>
            have e3 : (h.take (k + 1)).filter q = (h.take k).filter q ++ [e] := by rw [FS.out, Q0.out]; simp
            refine ⟨k + 1, by rw [← HN.out]; omega, by go_num, (((KR.out.alloc _ _).but _).trans but4 (fun _ _ h => h)).kept (fun k hk e => by have := (OW.out.lt k e).1; omega), a4, c4, by rw [e3]; simp, ?_⟩
            unfold OwnE
            rw [e3, flatE_snoc, List.length_append]
            simpa [flatE] using own4
          case measure => simp [intOf]; omega
      · have tt : (h.take k).filter q = h.filter q := by rw [show k = h.length by rw [← HN.out]; omega, List.take_length]
        rw [tt] at OW ⊢
        clear tt
        go_wp2
        go_ret2
        exact ⟨a2, c2, rfl, (K1.out.trans K2.out).trans KR.out, own_mono OW.out (K1.out.trans K2.out).size⟩

/-! ### Most -/
def MostAt (h : List Ev) (W0 : World) (now most_ i : Value) (W : World) : Prop :=
  ∃ k : Nat, k ≤ h.length ∧ i = .int .i64 k ∧ W = W0 ∧ now = .int .i64 (most (h.take k)).1 ∧ most_ = .int .i64 (most (h.take k)).2

set_option maxHeartbeats 4000000 in
theorem refMost_bad {w : World} {a : Option Addr} {c : Nat} {h : List Ev} (hE : Lay w (.slice a h.length c) h.length (flatE h)) (hl : h.length ≤ 5000) (v : Int) (hv : chk h = v) (hz : v ≠ 0) :
    Calls Try.prog 20 #[.slice a h.length c] w fun ed w' => ed = .returned (.int .i64 0) ∧ Kept w w' := by
  have b1 : (v != 0) = true := by simpa using hz
  have CK := Lib.hid (hv ▸ refCheck_any hE hl)
  clear hE hv hz
  go_enter Try.func20, Try.ntmps20
  go_wp2_with fail; refine CK.out.mono ?_; rintro ed w1 ⟨rfl, k1⟩
  go_wp2
  go_ret
  exact ⟨rfl, k1⟩

set_option maxHeartbeats 4000000 in
theorem refMost_ok {w : World} {a : Option Addr} {c : Nat} {h : List Ev} (hE : Lay w (.slice a h.length c) h.length (flatE h)) (hl : h.length ≤ 5000) (hv : chk h = 0) :
    Calls Try.prog 20 #[.slice a h.length c] w fun ed w' => ed = .returned (.int .i64 (most h).2) ∧ Kept w w' := by
  have CK := Lib.hid (hv ▸ refCheck_any hE hl)
  by_cases h0 : h = []
  · subst h0
    clear hE hl hv
    go_enter Try.func20, Try.ntmps20
    go_wp2_with fail; refine CK.out.mono ?_; rintro ed w1 ⟨rfl, k1⟩
    have K1 := Lib.hid k1
    clear k1
    go_wp2
    go_loopw [3, 4, 5] (fun _ v i wr => v = .int .i64 0 ∧ i = .int .i64 0 ∧ wr = w1) (fun _ _ _ _ => 0)
    case atStart => exact ⟨rfl, rfl, rfl⟩
    case round =>
      obtain ⟨rfl, rfl, rfl⟩ := hrel
      go_wp2
      go_ret
      exact ⟨rfl, K1.out⟩
  · have hp : 0 < h.length := List.length_pos_iff.2 h0
    obtain ⟨g, o, c, e, h1, h2, hc⟩ := hE.ev hp
    cases e
    have HC := Lib.hid hc
    obtain ⟨n, hn⟩ : ∃ n, n = h.length := ⟨_, rfl⟩
    have HN := Lib.hid hn
    rw [← hn] at hl CK ⊢
    obtain ⟨R, hR⟩ : ∃ R, R = (most h).2 := ⟨_, rfl⟩
    rw [← hR]
    have HR := Lib.hid hR
    clear hc hE h0 hp hn hv hR
    go_enter Try.func20, Try.ntmps20
    go_wp2_with fail; refine CK.out.mono ?_; rintro ed w1 ⟨rfl, k1⟩
    have K1 := Lib.hid k1
    clear k1
    go_wp2
    go_loopw [3, 4, 5] (fun now v i wr => MostAt h w1 now v i wr) (fun _ _ i _ => n - (intOf i).toNat)
    case atStart => exact ⟨0, Nat.zero_le _, rfl, rfl, rfl, rfl⟩
    case round =>
      obtain ⟨k, hk, rfl, rfl, rfl, rfl⟩ := hrel
      rw [← HN.out] at hk
      have ml := most_le (h.take k)
      have mk : (h.take k).length ≤ k := by rw [List.length_take]; omega
      obtain ⟨m1, m2, m3, m4⟩ := ml
      by_cases hlt : k < n
      · obtain ⟨e, he⟩ : ∃ e, h[k]? = some e := ⟨_, List.getElem?_eq_getElem (by rw [← HN.out]; exact hlt)⟩
        have x1 := ((HC.out k e he).kept K1.out).c1
        have MS := Lib.hid (show most (h.take (k + 1)) = mst (most (h.take k)) e by rw [take_snoc h k e he, most_snoc])
        clear he
        generalize hs : most (h.take k) = s at *
        obtain ⟨p, q⟩ := s
        have HS := Lib.hid hs
        dsimp only at m1 m2 m3 m4
        have b1 : -5000 ≤ p := by omega
        have b2 : q ≤ 5000 := by omega
        clear hs m2 m3 mk
        cases hqe : e.ans with
        | true =>
          rw [hqe] at x1
          have Q0 := Lib.hid hqe
          clear hqe
          go_wp2
          go_roundw
          case rel =>
            refine ⟨k + 1, by rw [← HN.out]; omega, by go_num, rfl, ?_, ?_⟩
            · rw [MS.out]; simp [mst, Q0.out]
            · rw [MS.out]; simp [mst, Q0.out]
          case measure => simp [intOf]; omega
        | false =>
          rw [hqe] at x1
          have Q0 := Lib.hid hqe
          clear hqe
          by_cases hgt : q < p + 1
          · go_wp2
            go_roundw
            case rel =>
              refine ⟨k + 1, by rw [← HN.out]; omega, by go_num, rfl, ?_, ?_⟩
              · rw [MS.out]; simp [mst, Q0.out]
              · rw [MS.out]; simp [mst, Q0.out]; omega
            case measure => simp [intOf]; omega
          · go_wp2
            go_roundw
            case rel =>
              refine ⟨k + 1, by rw [← HN.out]; omega, by go_num, rfl, ?_, ?_⟩
              · rw [MS.out]; simp [mst, Q0.out]
              · rw [MS.out]; simp [mst, Q0.out]; omega
            case measure => simp [intOf]; omega
      · have HK := Lib.hid (show R = (most (h.take k)).2 by rw [HR.out, show k = h.length by rw [← HN.out]; omega, List.take_length])
        go_wp2
        go_ret
        refine ⟨?_, K1.out⟩
        rw [HK.out]
        rfl
end Go.Proofs.Ytjbplbfedndjpaa
