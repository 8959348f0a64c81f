/- these, below, after: sets that are made. -/
import Derived.Test.YtlkadickhhaakaaDoorPoCheck
namespace Go.Proofs.YtlkadickhhaakaaDoor
open Go.RowKit
attribute [local go_sem ↓] ld_named st_named lv_named ix_named zv_named

theorem setOf_take {s : List Int} {k i : Nat} (h : s[k]? = some (i : Int)) (j : Nat) : upd (setOf (s.take k)) i true j = setOf (s.take (k + 1)) j := by
  have hk := (List.getElem?_eq_some_iff.1 h).1
  have e : s.take (k + 1) = s.take k ++ [(i : Int)] := by
    rw [List.take_add_one, h]
    rfl
  unfold upd setOf
  rw [e]
  by_cases hj : (j : Int) = i
  · rw [if_pos hj, hj]; simp
  · rw [if_neg hj]; simp [hj]

set_option maxRecDepth 100000 in
set_option maxHeartbeats 2000000 in
theorem these_any {w : World} {a : Option Addr} {n c : Nat} {s : List Int} (h : Lay w (.slice a n c) n (ints s)) (hn : n = s.length) (hs : s.any noIdx = false) :
    Calls Tryd.prog 33 #[.slice a n c] w fun e w' => ∃ R, e = .returned (.agg R) ∧ Ws R (setOf s) ∧ Kept w w' := by
  obtain ⟨a', c', e, hnc, hcm⟩ := h.form
  cases e
  unfold maxLen at hcm
  obtain ⟨Z, hZ, hz⟩ := zeroed
  have IX := Lib.hid (any_noIdx.1 hs)
  have CE := Lib.hid (fun W (k : Kept w W) i x hx => lay_one (h.kept k) hn i x hx)
  have HN := Lib.hid hn
  have k1 : Kept w ((w.alloc (.cells Z 57)).alloc (.cells Z 57)) := ((Kept.refl w).alloc _ _).alloc _ _
  have b1 : WsAt ((w.alloc (.cells Z 57)).alloc (.cells Z 57)) w.heap.size Z := (WsAt.new w Z _ hZ.size hZ.one _ rfl).kept ((Kept.refl _).alloc _ _)
  have b2 : WsAt ((w.alloc (.cells Z 57)).alloc (.cells Z 57)) (w.heap.size + 1) Z := WsAt.new _ Z _ hZ.size hZ.one _ (by simp)
  have HZ := Lib.hid hZ
  have K1 := Lib.hid k1
  have B1 := Lib.hid b1
  have B2 := Lib.hid b2
  clear h hn hs k1 b1 b2 hZ
  go_enter Tryd.func33, Tryd.ntmps33
  go_wp2
  go_loopw [8] (fun i wr => ∃ (k : Nat) (Rk : Array Value), i = .int .i64 k ∧ k ≤ n ∧ Ws Rk (setOf (s.take k)) ∧ WsAt wr (w.heap.size + 1) Rk ∧ WsAt wr w.heap.size Z ∧ Kept w wr) (fun i _ => n - (intOf i).toNat)
  case atStart => exact ⟨0, Z, rfl, Nat.zero_le _, HZ.out.congr (fun i _ => by simp [setOf]), B2.out, B1.out, K1.out⟩
  case round =>
    obtain ⟨k, Rk, rfl, hkn, hWs, hb2, hb1, hk⟩ := hrel
    have KE := Lib.hid hk
    have WSK := Lib.hid hWs
    have LB2 := Lib.hid hb2
    have LB1 := Lib.hid hb1
    clear hk hWs hb1 hb2
    by_cases hlt : k < n
    · obtain ⟨x, hx⟩ : ∃ x, s[k]? = some x := ⟨_, List.getElem?_eq_getElem (by rw [← HN.out]; omega)⟩
      obtain ⟨i, hi, e⟩ := IX.out x (List.mem_iff_getElem?.2 ⟨k, hx⟩)
      subst e
      obtain ⟨g, o, rfl, c0⟩ := CE.out _ KE.out k _ hx
      have HX := Lib.hid hx
      have ld := ws_ld LB2.out
      have WI := Lib.hid (fun W => with_any WSK.out i hi W)
      clear hx
      go_wp2_with fail; refine (WI.out _).mono ?_; rintro e w1 ⟨R1, rfl, hR1, k1⟩
      obtain ⟨w2, run2, but2, big2, s2⟩ := ws_st (LB2.out.kept k1) hR1.size hR1.one
      have H1 := Lib.hid (LB1.out.kept k1 |>.but but2 (by omega))
      have H2 := Lib.hid big2
      have H3 := Lib.hid ((KE.out.trans k1).wrote1 but2 (by omega))
      have H4 := Lib.hid hR1
      clear k1 but2 big2 s2 hR1 ld
      go_wp2
      go_roundw
      case rel => exact ⟨k + 1, R1, by go_num, by omega, H4.out.congr (fun j _ => setOf_take HX.out j), H2.out, H1.out, H3.out⟩
      case measure => simp [intOf]; omega
    · obtain rfl : k = n := by omega
      have hall : s.take k = s := by rw [HN.out]; exact List.take_length
      have ld := ws_ld LB2.out
      obtain ⟨w2, run2, but2, big2, s2⟩ := ws_st LB1.out WSK.out.size WSK.out.one
      have RS := Lib.hid (show Ws Rk (setOf s) by have := WSK.out; rw [hall] at this; exact this)
      have KK := Lib.hid (KE.out.wrote1 but2 (Nat.le_refl _))
      clear but2 s2 hall
      go_wp2
      exact bodyPost_ret (v := .agg Rk) (ws_result Tryd.results33 rfl big2) rfl ⟨Rk, rfl, RS.out, KK.out⟩

/-- The first n indices. -/
def first (n : Nat) : Nat → Bool := fun i => decide (i < n)
theorem first_succ (k j : Nat) : upd (first k) k true j = first (k + 1) j := by
  unfold upd first
  by_cases hj : (j : Int) = k
  · rw [if_pos hj]; simp; omega
  · rw [if_neg hj, Bool.eq_iff_iff]; simp; omega

set_option maxRecDepth 100000 in
set_option maxHeartbeats 2000000 in
theorem below_any (n : Nat) (hn : n ≤ 1024) (w : World) :
    Calls Tryd.prog 40 #[.int .i64 n] w fun e w' => ∃ R, e = .returned (.agg R) ∧ Ws R (first n) ∧ Kept w w' := by
  obtain ⟨Z, hZ, hz⟩ := zeroed
  have k1 : Kept w ((w.alloc (.cells Z 57)).alloc (.cells Z 57)) := ((Kept.refl w).alloc _ _).alloc _ _
  have b1 : WsAt ((w.alloc (.cells Z 57)).alloc (.cells Z 57)) w.heap.size Z := (WsAt.new w Z _ hZ.size hZ.one _ rfl).kept ((Kept.refl _).alloc _ _)
  have b2 : WsAt ((w.alloc (.cells Z 57)).alloc (.cells Z 57)) (w.heap.size + 1) Z := WsAt.new _ Z _ hZ.size hZ.one _ (by simp)
  have HZ := Lib.hid hZ
  have K1 := Lib.hid k1
  have B1 := Lib.hid b1
  have B2 := Lib.hid b2
  clear k1 b1 b2 hZ
  go_enter Tryd.func40, Tryd.ntmps40
  go_wp2
  go_loopw [6] (fun i wr => ∃ (k : Nat) (Rk : Array Value), i = .int .i64 k ∧ k ≤ n ∧ Ws Rk (first k) ∧ WsAt wr (w.heap.size + 1) Rk ∧ WsAt wr w.heap.size Z ∧ Kept w wr) (fun i _ => n - (intOf i).toNat)
  case atStart => exact ⟨0, Z, rfl, Nat.zero_le _, HZ.out.congr (fun i _ => by simp [first]), B2.out, B1.out, K1.out⟩
  case round =>
    obtain ⟨k, Rk, rfl, hkn, hWs, hb2, hb1, hk⟩ := hrel
    have KE := Lib.hid hk
    have WSK := Lib.hid hWs
    have LB2 := Lib.hid hb2
    have LB1 := Lib.hid hb1
    clear hk hWs hb1 hb2
    by_cases hlt : k < n
    · have ld := ws_ld LB2.out
      have WI := Lib.hid (fun W => with_any WSK.out k (by omega) W)
      go_wp2_with fail; refine (WI.out _).mono ?_; rintro e w1 ⟨R1, rfl, hR1, k1⟩
      obtain ⟨w2, run2, but2, big2, s2⟩ := ws_st (LB2.out.kept k1) hR1.size hR1.one
      have H1 := Lib.hid (LB1.out.kept k1 |>.but but2 (by omega))
      have H2 := Lib.hid big2
      have H3 := Lib.hid ((KE.out.trans k1).wrote1 but2 (by omega))
      have H4 := Lib.hid hR1
      clear k1 but2 big2 s2 hR1 ld
      go_wp2
      go_roundw
      case rel => exact ⟨k + 1, R1, by go_num, by omega, H4.out.congr (fun j _ => first_succ k j), H2.out, H1.out, H3.out⟩
      case measure => simp [intOf]; omega
    · obtain rfl : k = n := by omega
      have ld := ws_ld LB2.out
      obtain ⟨w2, run2, but2, big2, s2⟩ := ws_st LB1.out WSK.out.size WSK.out.one
      have KK := Lib.hid (KE.out.wrote1 but2 (Nat.le_refl _))
      clear but2 s2
      go_wp2
      exact bodyPost_ret (v := .agg Rk) (ws_result Tryd.results40 rfl big2) rfl ⟨Rk, rfl, WSK.out, KK.out⟩

/-! ### after -/
/-- Which answers 'after' is asked of. -/
def Fits (o : Opn) (x : Ann) : Prop := (x.e = 0 → o.k = 7 → ∃ i : Nat, i < 1024 ∧ x.n = i) ∧ (x.e = 0 → o.k = 8 → ∃ i : Nat, i < 1024 ∧ o.a = i)

set_option maxRecDepth 100000 in
set_option maxHeartbeats 2000000 in
theorem after_any {R : Array Value} {M : Nat → Bool} (hR : Ws R M) (o : Opn) (x : Ann) (hf : Fits o x) (w : World) :
    Calls Tryd.prog 36 #[.agg R, .agg #[.int .i64 o.k, .int .i64 o.a, .int .i64 o.b, .int .u64 o.u], .agg #[.int .i64 x.e, .int .i64 x.n, .int .u64 x.v]] w fun e w' => ∃ R', e = .returned (.agg R') ∧ Ws R' (aft M o x) ∧ Kept w w' := by
  obtain ⟨Z, hZ, hz⟩ := zeroed
  obtain ⟨ok, oa, ob, ou⟩ := o
  obtain ⟨xe, xn, xv⟩ := x
  simp only [] at hf ⊢
  have k4 : Kept w ((((w.alloc (.cells R 57)).alloc (.cells #[.int .i64 ok, .int .i64 oa, .int .i64 ob, .int .u64 ou] 25)).alloc (.cells #[.int .i64 xe, .int .i64 xn, .int .u64 xv] 28)).alloc (.cells Z 57)) := ((((Kept.refl w).alloc _ _).alloc _ _).alloc _ _).alloc _ _
  have b3 : WsAt ((((w.alloc (.cells R 57)).alloc (.cells #[.int .i64 ok, .int .i64 oa, .int .i64 ob, .int .u64 ou] 25)).alloc (.cells #[.int .i64 xe, .int .i64 xn, .int .u64 xv] 28)).alloc (.cells Z 57)) w.heap.size R :=
    (WsAt.new w R _ hR.size hR.one _ rfl).kept ((((Kept.refl _).alloc _ _).alloc _ _).alloc _ _)
  have b4 : WsAt ((((w.alloc (.cells R 57)).alloc (.cells #[.int .i64 ok, .int .i64 oa, .int .i64 ob, .int .u64 ou] 25)).alloc (.cells #[.int .i64 xe, .int .i64 xn, .int .u64 xv] 28)).alloc (.cells Z 57)) (w.heap.size + 1 + 1 + 1) Z := WsAt.new _ Z _ hZ.size hZ.one _ (by simp)
  have ld := ws_ld b3
  have K4 := Lib.hid k4
  have B4 := Lib.hid b4
  have F := Lib.hid hf
  have WR := Lib.hid hR
  clear k4 b3 b4 hf hR hZ
  by_cases he : xe = 0
  · subst he
    by_cases h7 : ok = 7
    · subst h7
      obtain ⟨i, hi, e⟩ := F.out.1 rfl rfl
      have e : xn = i := e
      subst e
      have WI := Lib.hid (fun W => without_any WR.out i hi W)
      go_enter Tryd.func36, Tryd.ntmps36
      go_wp2_with fail; refine (WI.out _).mono ?_; rintro e w1 ⟨R1, rfl, hR1, k1⟩
      obtain ⟨w2, run2, but2, big2, s2⟩ := ws_st (B4.out.kept k1) hR1.size hR1.one
      have KK := Lib.hid ((K4.out.trans k1).wrote1 but2 (by omega))
      have H4 := Lib.hid hR1
      clear k1 but2 s2 hR1 ld
      go_wp2
      exact bodyPost_ret (v := .agg R1) (ws_result Tryd.results36 rfl big2) rfl ⟨R1, rfl, by simpa [aft] using H4.out, KK.out⟩
    · by_cases h8 : ok = 8
      · subst h8
        obtain ⟨i, hi, e⟩ := F.out.2 rfl rfl
        have e : oa = i := e
        subst e
        have WI := Lib.hid (fun W => with_any WR.out i hi W)
        go_enter Tryd.func36, Tryd.ntmps36
        go_wp2_with fail; refine (WI.out _).mono ?_; rintro e w1 ⟨R1, rfl, hR1, k1⟩
        obtain ⟨w2, run2, but2, big2, s2⟩ := ws_st (B4.out.kept k1) hR1.size hR1.one
        have KK := Lib.hid ((K4.out.trans k1).wrote1 but2 (by omega))
        have H4 := Lib.hid hR1
        clear k1 but2 s2 hR1 ld
        go_wp2
        exact bodyPost_ret (v := .agg R1) (ws_result Tryd.results36 rfl big2) rfl ⟨R1, rfl, by simpa [aft] using H4.out, KK.out⟩
      · obtain ⟨w2, run2, but2, big2, s2⟩ := ws_st B4.out WR.out.size WR.out.one
        have KK := Lib.hid (K4.out.wrote1 but2 (by omega))
        have RR := Lib.hid (show Ws R (aft M ⟨ok, oa, ob, ou⟩ ⟨0, xn, xv⟩) by simpa [aft, h7, h8] using WR.out)
        have d7 : (ok == 7) = false := by simpa using h7
        have d8 : (ok == 8) = false := by simpa using h8
        clear but2 s2 h7 h8
        go_enter Tryd.func36, Tryd.ntmps36
        go_wp2
        exact bodyPost_ret (v := .agg R) (ws_result Tryd.results36 rfl big2) rfl ⟨R, rfl, RR.out, KK.out⟩
  · obtain ⟨w2, run2, but2, big2, s2⟩ := ws_st B4.out WR.out.size WR.out.one
    have KK := Lib.hid (K4.out.wrote1 but2 (by omega))
    have RR := Lib.hid (show Ws R (aft M ⟨ok, oa, ob, ou⟩ ⟨xe, xn, xv⟩) by simpa [aft, he] using WR.out)
    have d0 : (xe == 0) = false := by simpa using he
    clear but2 s2 he
    go_enter Tryd.func36, Tryd.ntmps36
    go_wp2
    exact bodyPost_ret (v := .agg R) (ws_result Tryd.results36 rfl big2) rfl ⟨R, rfl, RR.out, KK.out⟩
end Go.Proofs.YtlkadickhhaakaaDoor
