/- The program's Whole and Only. -/
import Derived.Test.YtjbplbfedndjpaaEvProg
namespace Go.Proofs.Ytjbplbfedndjpaa
open Go.RowKit Go.Maps

/-! ### Whole -/
set_option maxHeartbeats 2000000 in
theorem whole1_any {W : World} {B b n : Nat} {m : Int → Option (Int × Int)} (hc : W.cell? ⟨B, 1, none⟩ = some (.map (some b))) (hs : Seen W b n m) (e : Ev) (we : Wf e) :
    Calls Try.prog 39 #[.agg #[.int .i64 e.id, .bool e.ans, .int .i64 e.k, .int .i64 e.x, .int .i64 e.y, .int .u64 e.u, .int .i64 e.er, .int .i64 e.n, .int .u64 e.v], .pointer (some ⟨B, 0, none⟩)] W fun ed w' => ed = .returned (.bool (!decide (((m e.id).getD (0, 0)).2 < 0))) ∧ Kept W w' := by
  have K0 : Kept W (W.alloc (.cells #[.int .i64 e.id, .bool e.ans, .int .i64 e.k, .int .i64 e.x, .int .i64 e.y, .int .u64 e.u, .int .i64 e.er, .int .i64 e.n, .int .u64 e.v] 51)) := (Kept.refl W).alloc _ _
  have lk := (hs.kept K0).look (wf_back we)
  have hB := lt_of_cell hc
  clear hs we
  obtain ⟨i0, i1, i2, i3, i4, i5, i6, i7, i8⟩ := e
  dsimp only at lk K0 ⊢
  generalize (m i0).getD (0, 0) = o at lk ⊢
  obtain ⟨x, y⟩ := o
  dsimp only at lk ⊢
  obtain ⟨q, hq⟩ : ∃ q, decide (y < 0) = q := ⟨_, rfl⟩
  have PQ := Lib.hid (fun W => pending_at x y q hq W)
  rw [hq]
  clear hq
  go_enter Try.func39, Try.ntmps39
  go_wp2_with fail; refine (PQ.out _).mono ?_; rintro ed w1 ⟨rfl, k1⟩
  go_wp2
  go_ret
  exact ⟨rfl, K0.trans k1⟩

theorem keep_mp {h : List Ev} (hv : Vd h) : (h.filter fun e => !decide (((mp h e.id).getD (0, 0)).2 < 0)) = keep h := by
  unfold keep
  refine List.filter_congr fun e he => ?_
  obtain ⟨i, hi⟩ := List.getElem?_of_mem he
  have hc : has h e.id false = true := by
    cases ha : e.ans with
    | false =>
      have := ix_some h e.id e.ans
      rw [ix_of h hv i e hi, ha] at this
      exact this.symm
    | true =>
      refine has_call h hv e.id ?_
      have := ix_some h e.id e.ans
      rw [ix_of h hv i e hi, ha] at this
      exact this.symm
  obtain ⟨j, hj⟩ : ∃ j, ix h e.id false = some j := Option.isSome_iff_exists.1 (by rw [ix_some]; exact hc)
  have e1 : ((mp h e.id).getD (0, 0)).2 = too h e.id := by simp [mp, hj]
  rw [e1, too_neg]
  simp

set_option maxHeartbeats 2000000 in
theorem whole_bad {w : World} {a : Option Addr} {c : Nat} {h : List Ev} (hE : Lay w (.slice a h.length c) h.length (flatE h)) (hw : ∀ e ∈ h, Wf e) (hl : h.length ≤ 5000) (v : Int) (hv : chk h = v) (hz : v ≠ 0) :
    Calls Try.prog 25 #[.slice a h.length c] w (RetE2 w [] v) := by
  have RD := Lib.hid (read_bad hE hw hl v hv hz)
  have b1 : (v != 0) = true := by simpa using hz
  clear hE hv hz hw
  go_enter Try.func25, Try.ntmps25
  go_wp2_with fail; refine RD.out.mono ?_; rintro ed w1 ⟨rfl, k1⟩
  have K1 := Lib.hid k1
  clear k1
  go_wp2
  go_ret2
  exact ⟨none, 0, rfl, K1.out.alloc _ _, World.ownsRow_nil _ _ _ _⟩

set_option maxHeartbeats 2000000 in
theorem whole_ok {w : World} {a : Option Addr} {c : Nat} {h : List Ev} (hE : Lay w (.slice a h.length c) h.length (flatE h)) (hw : ∀ e ∈ h, Wf e) (hl : h.length ≤ 5000) (hv : chk h = 0) :
    Calls Try.prog 25 #[.slice a h.length c] w (RetE2 w (keep h) 0) := by
  have RD := Lib.hid (read_ok hE hw hl hv)
  have HE := Lib.hid hE
  have HW := Lib.hid hw
  have HV := Lib.hid hv
  rw [← keep_mp (vd_of_chk hv)]
  clear hE hv hw
  go_enter Try.func25, Try.ntmps25
  go_wp2_with fail; refine RD.out.mono ?_; rintro ed w1 ⟨b, rfl, hs, hb, k1⟩
  have K1 := Lib.hid k1
  have HS := Lib.hid hs
  clear k1 hs
  have KA : Kept w1 (w1.alloc (.cells #[.slice a h.length c, .map (some b)] 62)) := (Kept.refl w1).alloc _ _
  have TH := Lib.hid (those_whole (w := w1.alloc (.cells #[.slice a h.length c, .map (some b)] 62)) (B := w1.heap.size) (fun e => !decide (((mp h e.id).getD (0, 0)).2 < 0)) (HE.out.kept (K1.out.trans KA)) HW.out hl
    (fun W e k we => whole1_any (k.some (cell_new _ _ _ _ 1 rfl)) ((HS.out.kept KA).kept k) e we))
  have KAH := Lib.hid KA
  clear KA
  go_wp2_with fail; refine TH.out.mono ?_; rintro ed w2 ⟨a5, c5, rfl, k2, own2⟩
  have K2 := Lib.hid k2
  have OW := Lib.hid own2
  clear k2 own2
  go_wp2
  go_ret2
  exact ⟨a5, c5, rfl, (K1.out.trans KAH.out).trans K2.out, own_mono OW.out (K1.out.trans KAH.out).size⟩

/-! ### Only -/
set_option maxHeartbeats 2000000 in
theorem only1_any {W : World} {B b n : Nat} {P : Int → Bool} (hc : W.cell? ⟨B, 0, none⟩ = some (.map (some b))) (hs : Asked W b n P) (e : Ev) (we : Wf e) :
    Calls Try.prog 41 #[.agg #[.int .i64 e.id, .bool e.ans, .int .i64 e.k, .int .i64 e.x, .int .i64 e.y, .int .u64 e.u, .int .i64 e.er, .int .i64 e.n, .int .u64 e.v], .pointer (some ⟨B, 0, none⟩)] W fun ed w' => ed = .returned (.bool (P e.id)) ∧ Kept W w' := by
  have K0 : Kept W (W.alloc (.cells #[.int .i64 e.id, .bool e.ans, .int .i64 e.k, .int .i64 e.x, .int .i64 e.y, .int .u64 e.u, .int .i64 e.er, .int .i64 e.n, .int .u64 e.v] 51)) := (Kept.refl W).alloc _ _
  have lk := (hs.kept K0).look_ok (wf_back we)
  have hB := lt_of_cell hc
  clear hs we
  obtain ⟨i0, i1, i2, i3, i4, i5, i6, i7, i8⟩ := e
  dsimp only at lk K0 ⊢
  go_enter Try.func41, Try.ntmps41
  go_wp2
  go_ret
  exact ⟨rfl, K0.alloc _ _⟩

theorem run_make_hint (n : Int) (w : World) : (Instr.makeMap 75 (some (.int .i64 n))).run Try.prog w = .ok (.map (some w.heap.size)) (w.alloc (.map #[] 0)) := by
  simp [Instr.makeMap, run_underlying Try.underlying75, asInt, asIntOf, Result.andThen]

/-- The set while it is filled. -/
def AskAt (w0 : World) (b : Nat) (l : List Int) (i : Value) (W : World) : Prop :=
  ∃ k : Nat, k ≤ l.length ∧ i = .int .i64 k ∧ But (fun x => x = b) w0 W ∧ Asked W b k (among (l.take k))
theorem among_take (l : List Int) (k : Nat) (d : Int) (hd : l[k]? = some d) : among (l.take (k + 1)) = fun x => among (l.take k) x || x == d := by
  funext x
  unfold among
  rw [take_snoc l k d hd, List.any_append]
  simp [BEq.comm]

set_option maxHeartbeats 4000000 in
theorem only_any {w : World} {a : Option Addr} {c : Nat} {h : List Ev} {l : List Int} {vl : Value} (hE : Lay w (.slice a h.length c) h.length (flatE h)) (hw : ∀ e ∈ h, Wf e) (hl : h.length ≤ 5000)
    (hI : Lay w vl l.length (ints l)) (hwl : ∀ x ∈ l, -9223372036854775808 ≤ x ∧ x ≤ 9223372036854775807) (hll : l.length ≤ 5000) :
    Calls Try.prog 27 #[.slice a h.length c, vl] w (RetE w (onl h l)) := by
  have hmm := run_make_hint
  have tail : ∀ (W : World) (n : Nat), But (fun x => x = w.heap.size) ((w.alloc (.map #[] 0)).alloc (.cells #[.map (some w.heap.size)] 75)) W → Asked W w.heap.size n (among l) →
      Calls Try.prog 38 #[.slice a h.length c, .func (.func 41) #[] #[.pointer (some ⟨w.heap.size + 1, 0, none⟩)]] W (RetE W (onl h l)) ∧ Kept w W := by
    intro W n hb ha
    have kw : Kept w ((w.alloc (.map #[] 0)).alloc (.cells #[.map (some w.heap.size)] 75)) := ((Kept.refl w).object _).alloc _ _
    have kW : Kept w W := ((kw.but _).trans hb (fun _ _ h => h)).kept (fun k hk e => by omega)
    have hc : W.cell? ⟨w.heap.size + 1, 0, none⟩ = some (.map (some w.heap.size)) := hb.some (cell_new _ _ _ _ 0 (by simp)) (by omega)
    exact ⟨those_only (fun e => among l e.id) (hE.kept kW) hw hl (fun W' e k we => only1_any (k.some hc) (ha.kept k) e we), kW⟩
  have TL := Lib.hid tail
  clear tail hE hw
  by_cases h0 : l = []
  · subst h0
    obtain ⟨al, cl, rfl, _⟩ := hI.form
    have A0 : Asked ((w.alloc (.map #[] 0)).alloc (.cells #[.map (some w.heap.size)] 75)) w.heap.size 0 (among []) := by
      have := (Asked.made w).kept ((Kept.refl _).alloc #[.map (some w.heap.size)] 75)
      exact this
    obtain ⟨t1, t2⟩ := TL.out _ 0 (But.refl _ _) A0
    have T1 := Lib.hid t1
    have T2 := Lib.hid t2
    clear hI hwl t1 t2 A0 hll
    go_enter Try.func27, Try.ntmps27
    go_wp2_with fail
    go_loopw [13] (fun i wr => i = .int .i64 0 ∧ wr = (w.alloc (.map #[] 0)).alloc (.cells #[.map (some w.heap.size)] 75)) (fun _ _ => 0)
    case atStart => exact ⟨rfl, rfl⟩
    case round =>
      obtain ⟨rfl, rfl⟩ := hrel
      go_wp2_with fail; refine T1.out.mono ?_; rintro ed w2 ⟨a5, c5, rfl, k2, own2⟩
      have K2 := Lib.hid k2
      have OW := Lib.hid own2
      clear k2 own2
      go_wp2
      go_ret
      exact ⟨a5, c5, rfl, T2.out.trans K2.out, own_mono OW.out T2.out.size⟩
  · have hp : 0 < l.length := List.length_pos_iff.2 h0
    obtain ⟨g, o, cl, rfl, _, _, hc⟩ := hI.num hp
    have hg : g < w.heap.size := lt_of_cell (hc 0 _ (List.getElem?_eq_getElem hp))
    have HC := Lib.hid hc
    have HW := Lib.hid hwl
    obtain ⟨n, hn⟩ : ∃ n, n = l.length := ⟨_, rfl⟩
    have HN := Lib.hid hn
    rw [← hn] at hll ⊢
    clear hc hI h0 hp hn hwl
    go_enter Try.func27, Try.ntmps27
    go_wp2_with fail
    have A0 : Asked ((w.alloc (.map #[] 0)).alloc (.cells #[.map (some w.heap.size)] 75)) w.heap.size 0 (among []) := by
      have := (Asked.made w).kept ((Kept.refl _).alloc #[.map (some w.heap.size)] 75)
      exact this
    have hb0 : ((w.alloc (.map #[] 0)).alloc (.cells #[.map (some w.heap.size)] 75)).cell? ⟨w.heap.size + 1, 0, none⟩ = some (.map (some w.heap.size)) := cell_new _ _ _ _ 0 (by simp)
    have kw : Kept w ((w.alloc (.map #[] 0)).alloc (.cells #[.map (some w.heap.size)] 75)) := ((Kept.refl w).object _).alloc _ _
    generalize (w.alloc (.map #[] 0)).alloc (.cells #[.map (some w.heap.size)] 75) = W0 at *
    have AH := Lib.hid A0
    have BH := Lib.hid hb0
    have KW := Lib.hid kw
    clear A0 hb0 kw hmm
    go_loopw [13] (fun i wr => AskAt W0 w.heap.size l i wr) (fun i _ => n - (intOf i).toNat)
    case atStart => exact ⟨0, Nat.zero_le _, rfl, But.refl _ _, by simpa using AH.out⟩
    case round =>
      obtain ⟨k, hk, rfl, hb, ha⟩ := hrel
      rw [← HN.out] at hk
      have HB := Lib.hid hb
      have HA := Lib.hid ha
      clear hb ha
      by_cases hlt : k < n
      · obtain ⟨d, hd⟩ : ∃ d, l[k]? = some d := ⟨_, List.getElem?_eq_getElem (by rw [← HN.out]; exact hlt)⟩
        have x0 := HB.out.some (KW.out.some (HC.out k d hd)) (by omega)
        have m0 := HB.out.some BH.out (by omega)
        have WD := Lib.hid (wf_back (HW.out d (List.mem_of_getElem? hd)))
        have AT := Lib.hid (among_take l k d hd)
        clear hd
        go_wp2_with (at_mapUpdate; refine wpList_ask rfl _ _ _ rfl HA.out (by unfold maxLen; omega) WD.out rfl rfl rfl ?_; intro w' hs hb)
        go_roundw
        case rel =>
          refine ⟨k + 1, by rw [← HN.out]; omega, by go_num, HB.out.trans hb (fun _ _ h => h), ?_⟩
          rw [AT.out]
          exact hs
        case measure => simp [intOf]; omega
      · have hkn : l.take k = l := by rw [show k = l.length by rw [← HN.out]; omega, List.take_length]
        have ha := HA.out
        rw [hkn] at ha
        obtain ⟨t1, t2⟩ := TL.out _ k HB.out ha
        have T1 := Lib.hid t1
        have T2 := Lib.hid t2
        clear t1 t2 ha hkn
        go_wp2_with fail; refine T1.out.mono ?_; rintro ed w2 ⟨a5, c5, rfl, k2, own2⟩
        have K2 := Lib.hid k2
        have OW := Lib.hid own2
        clear k2 own2
        go_wp2
        go_ret
        exact ⟨a5, c5, rfl, T2.out.trans K2.out, own_mono OW.out T2.out.size⟩
end Go.Proofs.Ytjbplbfedndjpaa
