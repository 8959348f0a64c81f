/- The program's Rest. -/
import Derived.Test.YtlkadickhhaakaaDoorPoProg
namespace Go.Proofs.YtlkadickhhaakaaDoor
open Go.RowKit
attribute [local go_sem ↓] ld_named st_named lv_named ix_named zv_named

theorem restM_no {s : List Int} {k N : Nat} {x : Int} (h : s[k]? = some x) (hx : noIdx x = true) (j : Nat) (hj : j < 1024) : restM (s.take k) N j = restM (s.take (k + 1)) N j := by
  have e : s.take (k + 1) = s.take k ++ [x] := by rw [List.take_add_one, h]; rfl
  have hne : (j : Int) ≠ x := fun e' => by
    have := noIdx_iff.2 ⟨j, hj, e'.symm⟩
    rw [this] at hx; cases hx
  unfold restM
  rw [e]
  simp [hne]
theorem restM_at {s : List Int} {k N i : Nat} (h : s[k]? = some (i : Int)) (j : Nat) : upd (restM (s.take k) N) i false j = restM (s.take (k + 1)) N j := by
  have e : s.take (k + 1) = s.take k ++ [(i : Int)] := by rw [List.take_add_one, h]; rfl
  unfold upd restM
  rw [e]
  by_cases hj : (j : Int) = i
  · rw [if_pos hj, hj]; simp
  · rw [if_neg hj]; simp [hj]

set_option maxRecDepth 100000 in
set_option maxHeartbeats 4000000 in
theorem rest_a {w : World} {a : Option Addr} {n c : Nat} {s : List Int} (h : Lay w (.slice a n c) n (ints s)) (hn : n = s.length) (hT : Tab w) (z : Int) (N : Nat) (hN : N ≤ 1024) (hz0 : z < 0) (hN0 : N = 0) :
    Calls Tryd.prog 14 #[.slice a n c, .int .i64 z] w (RetI w (memI (restM s N))) := by
  obtain ⟨a', c', e, hnc, hcm⟩ := h.form
  cases e
  unfold maxLen at hcm
  obtain ⟨Z, hZ, hz⟩ := zeroed
  have CE := Lib.hid (fun W (k : Kept w W) i x hx => lay_one (h.kept k) hn i x hx)
  have HN := Lib.hid hn
  have TT := Lib.hid hT
  have BL := Lib.hid (fun W => below_any N hN W)
  have e0 : (N : Int) = 0 := by omega
  rw [e0] at BL
  clear e0 hN0
  have i1 : (0 : Int) > z := hz0
  clear h hn hT
  go_enter Tryd.func14, Tryd.ntmps14
  go_wp2_with fail; refine (BL.out _).mono ?_; rintro e w1 ⟨R, rfl, hR, k1⟩
  obtain ⟨w3, run3, but3, big3, s3⟩ := ws_st (WsAt.new w1 Z 57 hZ.size hZ.one _ rfl) hR.size hR.one
  have K3 := Lib.hid ((k1.alloc Z 57).wrote1 but3 k1.size)
  have B3 := Lib.hid big3
  have HR := Lib.hid hR
  have hwB := k1.size
  clear k1 but3 big3 s3 hR hZ
  obtain ⟨B, hB⟩ : ∃ B, w1.heap.size = B := ⟨_, rfl⟩
  rw [hB] at run3 B3 hwB
  go_wp2
  go_loopw [14] (fun i wr => ∃ (k : Nat) (Rk : Array Value), i = .int .i64 k ∧ k ≤ n ∧ Ws Rk (restM (s.take k) N) ∧ WsAt wr B Rk ∧ Kept w wr) (fun i _ => n - (intOf i).toNat)
  case atStart => exact ⟨0, R, rfl, Nat.zero_le _, HR.out.congr (fun i _ => by simp [restM, first]), B3.out, K3.out⟩
  case round =>
    obtain ⟨k, Rk, rfl, hkn, hWs, hb2, hk⟩ := hrel
    have KE := Lib.hid hk
    have WSK := Lib.hid hWs
    have LB2 := Lib.hid hb2
    clear hk hWs hb2
    by_cases hlt : k < n
    · obtain ⟨x, hx⟩ : ∃ x, s[k]? = some x := ⟨_, List.getElem?_eq_getElem (by rw [← HN.out]; omega)⟩
      obtain ⟨g, o, rfl, c0⟩ := CE.out _ KE.out k _ hx
      have HX := Lib.hid hx
      have NI := Lib.hid (fun W => noIdx_any x W)
      clear hx
      cases hq : noIdx x with
      | true =>
        have HQ := Lib.hid hq
        rw [hq] at NI
        clear hq
        go_wp2_with fail; refine (NI.out _).mono ?_; rintro e w4 ⟨rfl, rfl⟩
        go_wp2
        go_roundw
        case rel => exact ⟨k + 1, Rk, by go_num, by omega, WSK.out.congr (fun j hj => restM_no HX.out HQ.out j hj), LB2.out, KE.out⟩
        case measure => simp [intOf]; omega
      | false =>
        obtain ⟨i, hi, e⟩ := noIdx_iff.1 hq
        rw [hq] at NI
        subst e
        have ld := ws_ld LB2.out
        have WI := Lib.hid (fun W => without_any WSK.out i hi W)
        clear hq
        go_wp2_with fail; refine (NI.out _).mono ?_; rintro e w4 ⟨rfl, rfl⟩
        go_wp2_with fail; refine (WI.out _).mono ?_; rintro e w5 ⟨R1, rfl, hR1, k5⟩
        obtain ⟨w6, run6, but6, big6, s6⟩ := ws_st (LB2.out.kept k5) hR1.size hR1.one
        have H2 := Lib.hid big6
        have H3 := Lib.hid ((KE.out.trans k5).wrote1 but6 hwB)
        have H4 := Lib.hid hR1
        clear k5 but6 big6 s6 hR1 ld
        go_wp2
        go_roundw
        case rel => exact ⟨k + 1, R1, by go_num, by omega, H4.out.congr (fun j _ => restM_at HX.out j), H2.out, H3.out⟩
        case measure => simp [intOf]; omega
    · obtain rfl : k = n := by omega
      have hall : s.take k = s := by rw [HN.out]; exact List.take_length
      have ld := ws_ld LB2.out
      have RS := Lib.hid (show Ws Rk (restM s N) by have := WSK.out; rw [hall] at this; exact this)
      clear hall
      go_wp2_with fail; refine (list_any RS.out (TT.out.kept KE.out)).mono ?_; rintro e w7 ⟨a7, c7, rfl, k7, own7⟩
      go_wp2
      go_ret
      exact ⟨a7, c7, rfl, KE.out.trans k7, own_mono own7 KE.out.size⟩

set_option maxRecDepth 100000 in
set_option maxHeartbeats 4000000 in
theorem rest_b {w : World} {a : Option Addr} {n c : Nat} {s : List Int} (h : Lay w (.slice a n c) n (ints s)) (hn : n = s.length) (hT : Tab w) (z : Int) (N : Nat) (hN : N ≤ 1024) (hzN : z = N) :
    Calls Tryd.prog 14 #[.slice a n c, .int .i64 z] w (RetI w (memI (restM s N))) := by
  obtain ⟨a', c', e, hnc, hcm⟩ := h.form
  cases e
  unfold maxLen at hcm
  obtain ⟨Z, hZ, hz⟩ := zeroed
  have CE := Lib.hid (fun W (k : Kept w W) i x hx => lay_one (h.kept k) hn i x hx)
  have HN := Lib.hid hn
  have TT := Lib.hid hT
  have BL := Lib.hid (fun W => below_any N hN W)
  subst hzN
  have i1 : ¬ ((0 : Int) > (N : Int)) := by omega
  have i2 : ¬ ((1024 : Int) < (N : Int)) := by omega
  clear h hn hT
  go_enter Tryd.func14, Tryd.ntmps14
  go_wp2_with fail; refine (BL.out _).mono ?_; rintro e w1 ⟨R, rfl, hR, k1⟩
  obtain ⟨w3, run3, but3, big3, s3⟩ := ws_st (WsAt.new w1 Z 57 hZ.size hZ.one _ rfl) hR.size hR.one
  have K3 := Lib.hid ((k1.alloc Z 57).wrote1 but3 k1.size)
  have B3 := Lib.hid big3
  have HR := Lib.hid hR
  have hwB := k1.size
  clear k1 but3 big3 s3 hR hZ
  obtain ⟨B, hB⟩ : ∃ B, w1.heap.size = B := ⟨_, rfl⟩
  rw [hB] at run3 B3 hwB
  go_wp2
  go_loopw [14] (fun i wr => ∃ (k : Nat) (Rk : Array Value), i = .int .i64 k ∧ k ≤ n ∧ Ws Rk (restM (s.take k) N) ∧ WsAt wr B Rk ∧ Kept w wr) (fun i _ => n - (intOf i).toNat)
  case atStart => exact ⟨0, R, rfl, Nat.zero_le _, HR.out.congr (fun i _ => by simp [restM, first]), B3.out, K3.out⟩
  case round =>
    obtain ⟨k, Rk, rfl, hkn, hWs, hb2, hk⟩ := hrel
    have KE := Lib.hid hk
    have WSK := Lib.hid hWs
    have LB2 := Lib.hid hb2
    clear hk hWs hb2
    by_cases hlt : k < n
    · obtain ⟨x, hx⟩ : ∃ x, s[k]? = some x := ⟨_, List.getElem?_eq_getElem (by rw [← HN.out]; omega)⟩
      obtain ⟨g, o, rfl, c0⟩ := CE.out _ KE.out k _ hx
      have HX := Lib.hid hx
      have NI := Lib.hid (fun W => noIdx_any x W)
      clear hx
      cases hq : noIdx x with
      | true =>
        have HQ := Lib.hid hq
        rw [hq] at NI
        clear hq
        go_wp2_with fail; refine (NI.out _).mono ?_; rintro e w4 ⟨rfl, rfl⟩
        go_wp2
        go_roundw
        case rel => exact ⟨k + 1, Rk, by go_num, by omega, WSK.out.congr (fun j hj => restM_no HX.out HQ.out j hj), LB2.out, KE.out⟩
        case measure => simp [intOf]; omega
      | false =>
        obtain ⟨i, hi, e⟩ := noIdx_iff.1 hq
        rw [hq] at NI
        subst e
        have ld := ws_ld LB2.out
        have WI := Lib.hid (fun W => without_any WSK.out i hi W)
        clear hq
        go_wp2_with fail; refine (NI.out _).mono ?_; rintro e w4 ⟨rfl, rfl⟩
        go_wp2_with fail; refine (WI.out _).mono ?_; rintro e w5 ⟨R1, rfl, hR1, k5⟩
        obtain ⟨w6, run6, but6, big6, s6⟩ := ws_st (LB2.out.kept k5) hR1.size hR1.one
        have H2 := Lib.hid big6
        have H3 := Lib.hid ((KE.out.trans k5).wrote1 but6 hwB)
        have H4 := Lib.hid hR1
        clear k5 but6 big6 s6 hR1 ld
        go_wp2
        go_roundw
        case rel => exact ⟨k + 1, R1, by go_num, by omega, H4.out.congr (fun j _ => restM_at HX.out j), H2.out, H3.out⟩
        case measure => simp [intOf]; omega
    · obtain rfl : k = n := by omega
      have hall : s.take k = s := by rw [HN.out]; exact List.take_length
      have ld := ws_ld LB2.out
      have RS := Lib.hid (show Ws Rk (restM s N) by have := WSK.out; rw [hall] at this; exact this)
      clear hall
      go_wp2_with fail; refine (list_any RS.out (TT.out.kept KE.out)).mono ?_; rintro e w7 ⟨a7, c7, rfl, k7, own7⟩
      go_wp2
      go_ret
      exact ⟨a7, c7, rfl, KE.out.trans k7, own_mono own7 KE.out.size⟩

set_option maxRecDepth 100000 in
set_option maxHeartbeats 4000000 in
theorem rest_c {w : World} {a : Option Addr} {n c : Nat} {s : List Int} (h : Lay w (.slice a n c) n (ints s)) (hn : n = s.length) (hT : Tab w) (z : Int) (N : Nat) (hN : N ≤ 1024) (hz1 : 1024 < z) (hN0 : N = 1024) :
    Calls Tryd.prog 14 #[.slice a n c, .int .i64 z] w (RetI w (memI (restM s N))) := by
  obtain ⟨a', c', e, hnc, hcm⟩ := h.form
  cases e
  unfold maxLen at hcm
  obtain ⟨Z, hZ, hz⟩ := zeroed
  have CE := Lib.hid (fun W (k : Kept w W) i x hx => lay_one (h.kept k) hn i x hx)
  have HN := Lib.hid hn
  have TT := Lib.hid hT
  have BL := Lib.hid (fun W => below_any N hN W)
  have e0 : (N : Int) = 1024 := by omega
  rw [e0] at BL
  clear e0 hN0
  have i1 : ¬ ((0 : Int) > z) := by omega
  clear h hn hT
  go_enter Tryd.func14, Tryd.ntmps14
  go_wp2_with fail; refine (BL.out _).mono ?_; rintro e w1 ⟨R, rfl, hR, k1⟩
  obtain ⟨w3, run3, but3, big3, s3⟩ := ws_st (WsAt.new w1 Z 57 hZ.size hZ.one _ rfl) hR.size hR.one
  have K3 := Lib.hid ((k1.alloc Z 57).wrote1 but3 k1.size)
  have B3 := Lib.hid big3
  have HR := Lib.hid hR
  have hwB := k1.size
  clear k1 but3 big3 s3 hR hZ
  obtain ⟨B, hB⟩ : ∃ B, w1.heap.size = B := ⟨_, rfl⟩
  rw [hB] at run3 B3 hwB
  go_wp2
  go_loopw [14] (fun i wr => ∃ (k : Nat) (Rk : Array Value), i = .int .i64 k ∧ k ≤ n ∧ Ws Rk (restM (s.take k) N) ∧ WsAt wr B Rk ∧ Kept w wr) (fun i _ => n - (intOf i).toNat)
  case atStart => exact ⟨0, R, rfl, Nat.zero_le _, HR.out.congr (fun i _ => by simp [restM, first]), B3.out, K3.out⟩
  case round =>
    obtain ⟨k, Rk, rfl, hkn, hWs, hb2, hk⟩ := hrel
    have KE := Lib.hid hk
    have WSK := Lib.hid hWs
    have LB2 := Lib.hid hb2
    clear hk hWs hb2
    by_cases hlt : k < n
    · obtain ⟨x, hx⟩ : ∃ x, s[k]? = some x := ⟨_, List.getElem?_eq_getElem (by rw [← HN.out]; omega)⟩
      obtain ⟨g, o, rfl, c0⟩ := CE.out _ KE.out k _ hx
      have HX := Lib.hid hx
      have NI := Lib.hid (fun W => noIdx_any x W)
      clear hx
      cases hq : noIdx x with
      | true =>
        have HQ := Lib.hid hq
        rw [hq] at NI
        clear hq
        go_wp2_with fail; refine (NI.out _).mono ?_; rintro e w4 ⟨rfl, rfl⟩
        go_wp2
        go_roundw
        case rel => exact ⟨k + 1, Rk, by go_num, by omega, WSK.out.congr (fun j hj => restM_no HX.out HQ.out j hj), LB2.out, KE.out⟩
        case measure => simp [intOf]; omega
      | false =>
        obtain ⟨i, hi, e⟩ := noIdx_iff.1 hq
        rw [hq] at NI
        subst e
        have ld := ws_ld LB2.out
        have WI := Lib.hid (fun W => without_any WSK.out i hi W)
        clear hq
        go_wp2_with fail; refine (NI.out _).mono ?_; rintro e w4 ⟨rfl, rfl⟩
        go_wp2_with fail; refine (WI.out _).mono ?_; rintro e w5 ⟨R1, rfl, hR1, k5⟩
        obtain ⟨w6, run6, but6, big6, s6⟩ := ws_st (LB2.out.kept k5) hR1.size hR1.one
        have H2 := Lib.hid big6
        have H3 := Lib.hid ((KE.out.trans k5).wrote1 but6 hwB)
        have H4 := Lib.hid hR1
        clear k5 but6 big6 s6 hR1 ld
        go_wp2
        go_roundw
        case rel => exact ⟨k + 1, R1, by go_num, by omega, H4.out.congr (fun j _ => restM_at HX.out j), H2.out, H3.out⟩
        case measure => simp [intOf]; omega
    · obtain rfl : k = n := by omega
      have hall : s.take k = s := by rw [HN.out]; exact List.take_length
      have ld := ws_ld LB2.out
      have RS := Lib.hid (show Ws Rk (restM s N) by have := WSK.out; rw [hall] at this; exact this)
      clear hall
      go_wp2_with fail; refine (list_any RS.out (TT.out.kept KE.out)).mono ?_; rintro e w7 ⟨a7, c7, rfl, k7, own7⟩
      go_wp2
      go_ret
      exact ⟨a7, c7, rfl, KE.out.trans k7, own_mono own7 KE.out.size⟩

def restN (z : Int) : Nat := (min (max z 0) 1024).toNat
theorem rest_S {w : World} {a : Option Addr} {n c : Nat} {s : List Int} (h : Lay w (.slice a n c) n (ints s)) (hn : n = s.length) (hT : Tab w) (z : Int) :
    Calls Tryd.prog 14 #[.slice a n c, .int .i64 z] w (RetI w (memI (restM s (restN z)))) := by
  by_cases h1 : z < 0
  · rw [show restN z = 0 by unfold restN; omega]
    exact rest_a h hn hT z 0 (by decide) h1 rfl
  · by_cases h2 : 1024 < z
    · rw [show restN z = 1024 by unfold restN; omega]
      exact rest_c h hn hT z 1024 (by decide) h2 rfl
    · obtain ⟨N, rfl⟩ : ∃ N : Nat, z = N := ⟨z.toNat, by omega⟩
      rw [show restN (N : Int) = N by unfold restN; omega]
      exact rest_b h hn hT N N (by omega) rfl
end Go.Proofs.YtlkadickhhaakaaDoor
