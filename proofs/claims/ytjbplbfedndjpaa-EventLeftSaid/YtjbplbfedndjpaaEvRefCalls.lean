/- The document's Calls. -/
import Derived.Test.YtjbplbfedndjpaaEvRef
namespace Go.Proofs.Ytjbplbfedndjpaa
open Go.RowKit

/-- The calls of a beginning, with the answers of the whole. -/
def some_ (h : List Ev) (k : Nat) : List Sp := (cls (h.take k)).map (sp h)
theorem some_le (h : List Ev) (k : Nat) : (some_ h k).length ≤ k := by
  unfold some_
  have := cls_length (h.take k)
  rw [List.length_take] at this
  rw [List.length_map]; omega
def CallsAt (w : World) (h : List Ev) (v i : Value) (W : World) : Prop :=
  ∃ k : Nat, k ≤ h.length ∧ i = .int .i64 k ∧ Kept w W ∧ ∃ a c, v = .slice a (some_ h k).length c ∧ OwnS W w.heap.size (.slice a (some_ h k).length c) (some_ h k)

/-- A round that appends a span. -/
theorem callsAt_next {w wr W : World} {h : List Ev} {n k : Nat} {e : Ev} {a a2 : Option Addr} {c c2 : Nat} {s : Sp} (hN : n = h.length) (hk : k < n) (hf : cls (h.take (k + 1)) = cls (h.take k) ++ (if e.ans then [] else [(k, e)])) (ha : e.ans = false)
    (hs : sp h (k, e) = s) (hb : But (fun b => (Value.slice a2 (some_ h k).length c2).ownBlock = some b) w W) (ho : OwnS wr w.heap.size (.slice a2 (some_ h k).length c2) (some_ h k))
    (own : W.ownsRow w.heap.size 57 10 (.slice a ((some_ h k).length + 1) c) ((some_ h k).length + 1) (flatS (some_ h k) ++ flatS [s])) :
    CallsAt w h (.slice a ((some_ h k).length + 1) c) (.int .i64 ((k : Int) + 1)) W := by
  have e3 : some_ h (k + 1) = some_ h k ++ [s] := by unfold some_; rw [hf, ha, ← hs]; simp
  refine ⟨k + 1, by omega, by go_num, hb.kept (fun b hb he => by have := (ho.lt b he).1; omega), a, c, by rw [e3]; simp, ?_⟩
  unfold OwnS
  rw [e3, flatS_snoc, List.length_append]
  simpa [flatS] using own

set_option maxHeartbeats 4000000 in
theorem refCalls_bad {w : World} {a : Option Addr} {c : Nat} {h : List Ev} (hE : Lay w (.slice a h.length c) h.length (flatE h)) (hl : h.length ≤ 5000) (v : Int) (hv : chk h = v) (hz : v ≠ 0) :
    Calls Try.prog 12 #[.slice a h.length c] w (RetS2 w [] v) := by
  have b1 : (v != 0) = true := by simpa using hz
  have CK := Lib.hid (hv ▸ refCheck_any hE hl)
  clear hE hv hz
  go_enter Try.func12, Try.ntmps12
  go_wp2_with fail; refine CK.out.mono ?_; rintro ed w1 ⟨rfl, k1⟩
  go_wp2
  go_ret2
  exact ⟨none, 0, rfl, k1, World.ownsRow_nil _ _ _ _⟩

set_option maxHeartbeats 4000000 in
theorem refCalls_ok {w : World} {a : Option Addr} {c : Nat} {h : List Ev} (hE : Lay w (.slice a h.length c) h.length (flatE h)) (hl : h.length ≤ 5000) (hv : chk h = 0) :
    Calls Try.prog 12 #[.slice a h.length c] w (RetS2 w (spans h) 0) := by
  have CK := Lib.hid (hv ▸ refCheck_any hE hl)
  by_cases h0 : h = []
  · subst h0
    clear hE hl hv
    go_enter Try.func12, Try.ntmps12
    go_wp2_with fail; refine CK.out.mono ?_; rintro ed w1 ⟨rfl, k1⟩
    go_wp2
    go_loopw [5, 6] (fun v i wr => v = .slice none 0 0 ∧ i = .int .i64 0 ∧ wr = w1) (fun _ _ _ => 0)
    case atStart => exact ⟨rfl, rfl, rfl⟩
    case round =>
      obtain ⟨rfl, rfl, rfl⟩ := hrel
      go_wp2
      go_ret2
      exact ⟨none, 0, rfl, k1, World.ownsRow_nil _ _ _ _⟩
  · have hp : 0 < h.length := List.length_pos_iff.2 h0
    obtain ⟨g, o, c, e, h1, h2, hc⟩ := hE.ev hp
    cases e
    have HC := Lib.hid hc
    have HE := Lib.hid hE
    obtain ⟨n, hn⟩ : ∃ n, n = h.length := ⟨_, rfl⟩
    have HN := Lib.hid hn
    rw [← hn] at hl CK ⊢
    obtain ⟨i0, hi0, hz0, hz1, hz2⟩ := info_parts infoSp
    clear hc hE h0 hp hn hv
    go_enter Try.func12, Try.ntmps12
    go_wp2_with fail; refine CK.out.mono ?_; rintro ed w1 ⟨rfl, k1⟩
    go_wp2
    go_loopw [5, 6] (fun v i wr => CallsAt w h v i wr) (fun _ i _ => n - (intOf i).toNat)
    case atStart => exact ⟨0, Nat.zero_le _, rfl, k1, none, 0, by simp [some_, cls, clsAt], by simp [some_, cls, clsAt, flatS]; exact World.ownsRow_nil _ _ _ _⟩
    case round =>
      obtain ⟨k, hk, rfl, hkept, a2, c2, rfl, own2⟩ := hrel
      rw [← HN.out] at hk
      have KR := Lib.hid hkept
      have OW := Lib.hid own2
      clear hkept own2
      by_cases hlt : k < n
      · obtain ⟨e, he⟩ : ∃ e, h[k]? = some e := ⟨_, List.getElem?_eq_getElem (by rw [← HN.out]; exact hlt)⟩
        obtain ⟨x0, x1, x2, x3, x4, x5, x6, x7, x8⟩ := (HC.out k e he).kept KR.out
        have FS := Lib.hid (cls_take h k e he)
        have tl := some_le h k
        clear he
        cases hqe : e.ans with
        | true =>
          rw [hqe] at x1
          have Q0 := Lib.hid hqe
          clear hqe
          go_wp2
          go_roundw
          case rel =>
            have e3 : some_ h (k + 1) = some_ h k := by unfold some_; rw [FS.out, Q0.out]; simp
            refine ⟨k + 1, by rw [← HN.out]; omega, by go_num, KR.out, a2, c2, by rw [e3], ?_⟩
            rw [e3]
            exact OW.out
          case measure => simp [intOf]; omega
        | false =>
          rw [hqe] at x1
          have Q0 := Lib.hid hqe
          clear hqe
          cases hx : ix h e.id true with
          | none =>
            have HX := Lib.hid (show has h e.id true = false by rw [← ix_some, hx]; rfl)
            have AT := Lib.hid (fun W (L : Lay W (.slice (some ⟨g, o, none⟩) h.length c) h.length (flatE h)) => (show pos h e.id true = -1 by unfold pos; rw [hx]) ▸ at_any L rfl (by rw [← HN.out]; omega) e.id true)
            rw [← HN.out] at AT
            clear hx
            go_wp2_with fail
            go_region_held3 (fun w' => w'.cell? ⟨g, o + k * 9, none⟩ = some (.int .i64 e.id) ∧ w'.cell? ⟨g, o + k * 9 + 2, none⟩ = some (.int .i64 e.k) ∧ w'.cell? ⟨g, o + k * 9 + 3, none⟩ = some (.int .i64 e.x) ∧ w'.cell? ⟨g, o + k * 9 + 4, none⟩ = some (.int .i64 e.y) ∧ w'.cell? ⟨g, o + k * 9 + 5, none⟩ = some (.int .u64 e.u))
              (first | go_keep)
              (first | (go_at_call 36; refine (AT.out _ ?_).mono ?_; (exact HN.out ▸ (HE.out.kept (by first | with_reducible exact KR.out | with_reducible exact KR.out.drew | with_reducible exact KR.out.drewN _ | with_reducible exact (KR.out.alloc _ _).drew | with_reducible exact (KR.out.alloc _ _).drewN _))); rintro ed w2 ⟨rfl, rfl⟩))
            all_goals go_wp2_with (at_builtin; refine wpList_append_lay _ rfl _ _ _ rfl w.heap.size 57 i0 _ 10 80 Try.underlying25 hi0 hz0 hz1 hz2 (by rfl) (by decide) (.slice a2 (some_ h k).length c2) (some_ h k).length (flatS (some_ h k)) (by simp [Act.eval, Act.put]) (own_kept OW.out (by repeat (first | with_reducible exact Kept.refl _ | with_reducible refine Kept.alloc ?_ _ _ | with_reducible refine Kept.drew ?_ | with_reducible refine Kept.drewN ?_ _))) _ 1 (flatS [⟨e.id, (k : Int), -1, e.k, e.x, e.y, e.u, 0, 0, 0⟩]) (by simp [Act.eval, Act.put]) (flatS_length [_]) (lay_new (heap_alloc_new _ _) (by decide)) (flatS_one _) (by unfold maxLen; omega) (by omega) (by have := KR.out.size; simp; omega) ?_; intro a4 c4 w4 own4 but4 at4)
            all_goals go_roundw
            case rel => exact callsAt_next HN.out hlt FS.out Q0.out (sp_open HX.out) (((show Kept w _ from (by repeat (first | with_reducible exact KR.out | with_reducible refine Kept.alloc ?_ _ _ | with_reducible refine Kept.drew ?_ | with_reducible refine Kept.drewN ?_ _))).but _).trans but4 (fun _ _ h => h)) OW.out own4
            case measure => simp [intOf]; omega
            case rel => exact callsAt_next HN.out hlt FS.out Q0.out (sp_open HX.out) (((show Kept w _ from (by repeat (first | with_reducible exact KR.out | with_reducible refine Kept.alloc ?_ _ _ | with_reducible refine Kept.drew ?_ | with_reducible refine Kept.drewN ?_ _))).but _).trans but4 (fun _ _ h => h)) OW.out own4
            case measure => simp [intOf]; omega
          | some j =>
            obtain ⟨f, hf, _⟩ := ix_at hx
            have hjl : j < n := by rw [HN.out]; exact ix_lt hx
            have HX := Lib.hid hx
            have HF := Lib.hid hf
            have y6 := ((HC.out j f hf).kept KR.out).c6
            have gl := lt_of_cell y6
            have y7 : wr.cell? ⟨g, o + j * 9 + 6 + 1, none⟩ = some (.int .i64 f.n) := ((HC.out j f hf).kept KR.out).c7
            have y8 : wr.cell? ⟨g, o + j * 9 + 6 + 2, none⟩ = some (.int .u64 f.v) := ((HC.out j f hf).kept KR.out).c8
            have AT := Lib.hid (fun W (L : Lay W (.slice (some ⟨g, o, none⟩) h.length c) h.length (flatE h)) => (show pos h e.id true = (j : Int) by unfold pos; rw [hx]) ▸ at_any L rfl (by rw [← HN.out]; omega) e.id true)
            rw [← HN.out] at AT
            clear hx hf
            go_wp2_with fail
            go_region_held3 (fun w' => w'.cell? ⟨g, o + k * 9, none⟩ = some (.int .i64 e.id) ∧ w'.cell? ⟨g, o + k * 9 + 2, none⟩ = some (.int .i64 e.k) ∧ w'.cell? ⟨g, o + k * 9 + 3, none⟩ = some (.int .i64 e.x) ∧ w'.cell? ⟨g, o + k * 9 + 4, none⟩ = some (.int .i64 e.y) ∧ w'.cell? ⟨g, o + k * 9 + 5, none⟩ = some (.int .u64 e.u))
              (first | go_keep)
              (first | (go_at_call 36; refine (AT.out _ ?_).mono ?_; (exact HN.out ▸ (HE.out.kept (by first | with_reducible exact KR.out | with_reducible exact KR.out.drew | with_reducible exact KR.out.drewN _ | with_reducible exact (KR.out.alloc _ _).drew | with_reducible exact (KR.out.alloc _ _).drewN _))); rintro ed w2 ⟨rfl, rfl⟩))
            all_goals go_wp2_with (at_builtin; refine wpList_append_lay _ rfl _ _ _ rfl w.heap.size 57 i0 _ 10 80 Try.underlying25 hi0 hz0 hz1 hz2 (by rfl) (by decide) (.slice a2 (some_ h k).length c2) (some_ h k).length (flatS (some_ h k)) (by simp [Act.eval, Act.put]) (own_kept OW.out (by repeat (first | with_reducible exact Kept.refl _ | with_reducible refine Kept.alloc ?_ _ _ | with_reducible refine Kept.drew ?_ | with_reducible refine Kept.drewN ?_ _))) _ 1 (flatS [⟨e.id, (k : Int), (j : Int), e.k, e.x, e.y, e.u, f.er, f.n, f.v⟩]) (by simp [Act.eval, Act.put]) (flatS_length [_]) (lay_new (heap_alloc_new _ _) (by decide)) (flatS_one _) (by unfold maxLen; omega) (by omega) (by have := KR.out.size; simp; omega) ?_; intro a4 c4 w4 own4 but4 at4)
            all_goals go_roundw
            case rel => exact callsAt_next HN.out hlt FS.out Q0.out (sp_shut HX.out HF.out) (((show Kept w _ from (by repeat (first | with_reducible exact KR.out | with_reducible refine Kept.alloc ?_ _ _ | with_reducible refine Kept.drew ?_ | with_reducible refine Kept.drewN ?_ _))).but _).trans but4 (fun _ _ h => h)) OW.out own4
            case measure => simp [intOf]; omega
            case rel => exact callsAt_next HN.out hlt FS.out Q0.out (sp_shut HX.out HF.out) (((show Kept w _ from (by repeat (first | with_reducible exact KR.out | with_reducible refine Kept.alloc ?_ _ _ | with_reducible refine Kept.drew ?_ | with_reducible refine Kept.drewN ?_ _))).but _).trans but4 (fun _ _ h => h)) OW.out own4
            case measure => simp [intOf]; omega
      · have hkn : k = n := by omega
        have tt : some_ h k = spans h := by unfold some_ spans; rw [hkn, HN.out, List.take_length]
        rw [tt] at OW ⊢
        clear hkn tt
        go_wp2
        go_ret2
        exact ⟨a2, c2, rfl, KR.out, OW.out⟩
end Go.Proofs.Ytjbplbfedndjpaa
