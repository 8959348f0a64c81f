/- The program's All, Next, Rest. -/
import Derived.Test.YtbfmmndpboagdaaGreatDoorGP2
import Derived.Test.YtbfmmndpboagdaaGreatDoorGP1
import Derived.Deep.QuietTactic
import Derived.BigQuiet
import Derived.OwnWalk
import Derived.LoopN
import Derived.Lib.Hide
namespace Go.Proofs.YtbfmmndpboagdaaGreatDoor.Po
set_option maxRecDepth 20000
open Go.RowKit
attribute [local go_sem ↓] ld_named st_named lv_named ix_named zv_named

def RetA (w : World) (l : List Ann) (ed : Ending) (w' : World) : Prop := ∃ a c, ed = .returned (.slice a l.length c) ∧ Kept w w' ∧ OwnA w' w.heap.size (.slice a l.length c) l
def RetN (w : World) (l : List Int) (b : Bool) (ed : Ending) (w' : World) : Prop := ∃ a c, ed = .returned (.tuple #[.slice a l.length c, .bool b]) ∧ Kept w w' ∧ OwnI w' w.heap.size (.slice a l.length c) l
def nextL (s : List Int) (o : Opn) (x : Ann) : List Int := if x ∈ allS s o then memI (aft (setOf s) o x) else []

theorem fits_of_mem {M : Nat → Bool} {o : Opn} {x : Ann} (h : x ∈ outs M o) : Fits o x := by
  unfold outs at h
  split at h
  · rename_i h7
    rcases List.mem_append.1 h with h | h
    · obtain ⟨i, hi, rfl⟩ := List.mem_map.1 h
      obtain ⟨j, hj, _, rfl⟩ := memI_mem.1 hi
      exact ⟨fun _ _ => ⟨j, hj, rfl⟩, fun _ h8 => by omega⟩
    · simp at h
      rcases h with rfl | rfl
      · exact ⟨fun e _ => by simp at e, fun e _ => by simp at e⟩
      · exact ⟨fun e _ => by simp at e, fun e _ => by simp at e⟩
  · split at h
    · rename_i h7 h8
      rw [List.mem_singleton] at h
      subst h
      refine ⟨fun _ e => absurd e h7, fun e _ => ?_⟩
      have e' : freed M o.a = 0 := e
      unfold freed at e'
      split at e'
      · omega
      · rename_i hn
        exact noIdx_iff.1 (by simpa using hn)
    · simp at h

set_option maxRecDepth 100000 in
set_option maxHeartbeats 4000000 in
theorem all_S {w : World} {a : Option Addr} {n c : Nat} {s : List Int} (h : Lay w (.slice a n c) n (ints s)) (hn : n = s.length) (hT : Tab w) (o : Opn) :
    Calls Tryz.prog 63 #[.slice a n c, .agg #[.int .i64 o.k, .int .i64 o.a, .int .i64 o.b, .int .u64 o.u]] w (RetA w (allS s o)) := by
  have CH := Lib.hid (fun W (k : Kept w W) => check_any (h.kept k) hn)
  have BX := Lib.hid (OpBox.new w o 24 w.heap.size rfl)
  have K0 := Lib.hid (show Kept w (w.alloc (.cells #[.int .i64 o.k, .int .i64 o.a, .int .i64 o.b, .int .u64 o.u] 24)) from (Kept.refl w).alloc _ _)
  by_cases hc : chk s = 0
  · have TH := Lib.hid (fun W (k : Kept w W) => these_any (h.kept k) hn (chk_ok hc).1)
    have PS := Lib.hid (fun W (k : Kept w W) (R : Array Value) (hR : Ws R (setOf s)) => poss_any hR (hT.kept k) o 1026 (by decide))
    have HA := Lib.hid (show allS s o = outs (setOf s) o by simp [allS, hc])
    rw [hc] at CH
    clear h hn hT hc
    go_enter Tryz.func63, Tryz.ntmps63
    go_wp2_with fail; refine (CH.out _ K0.out).mono ?_; rintro e w1 ⟨rfl, k1⟩
    obtain ⟨b0, b1, b2, b3⟩ := BX.out.kept k1
    have K1 := Lib.hid (K0.out.trans k1)
    clear k1
    go_wp2
    go_region_held3 (fun w' => w'.cell? ⟨w.heap.size, 0, none⟩ = some (.int .i64 o.k) ∧ w'.cell? ⟨w.heap.size, 1, none⟩ = some (.int .i64 o.a) ∧ w'.cell? ⟨w.heap.size, 2, none⟩ = some (.int .i64 o.b) ∧ w'.cell? ⟨w.heap.size, 3, none⟩ = some (.int .u64 o.u))
      (first | go_keep | (with_reducible exact ⟨k2.some b0, k2.some b1, k2.some b2, k2.some b3⟩) | (with_reducible exact ⟨k3.some b0, k3.some b1, k3.some b2, k3.some b3⟩))
      (first
        | (go_at_call 96; refine (TH.out _ (K1.out.trans (by repeat (first | (with_reducible exact Kept.refl _) | (with_reducible refine Kept.drew ?_) | (with_reducible refine Kept.drewN ?_ _))))).mono ?_; rintro e w2 ⟨R, rfl, hR, k2⟩; have KT : Kept w1 w2 := Kept.trans (by repeat (first | (with_reducible exact Kept.refl _) | (with_reducible refine Kept.drew ?_) | (with_reducible refine Kept.drewN ?_ _))) k2; have k2 := KT; have HR := Lib.hid hR; clear hR)
        | (go_at_call 95; refine (PS.out _ (K1.out.trans KT) _ HR.out).mono ?_; rintro e w3 hp; obtain ⟨a3, c3, rfl, k3', own3⟩ := hp.all; have k3 := KT.trans k3'; have O3 := Lib.hid (own_mono own3 (Nat.le_trans K1.out.size KT.size)); clear own3 k3'))
    go_wp2
    go_ret
    rw [HA.out]
    exact ⟨a3, c3, rfl, K1.out.trans k3, O3.out⟩
  · have HA := Lib.hid (show allS s o = [] by simp [allS, hc])
    have d0 : (chk s != 0) = true := by simpa using hc
    clear h hn hT hc
    go_enter Tryz.func63, Tryz.ntmps63
    go_wp2_with fail; refine (CH.out _ K0.out).mono ?_; rintro e w1 ⟨rfl, k1⟩
    go_wp2
    go_ret
    rw [HA.out]
    exact ⟨none, 0, rfl, K0.out.trans k1, World.ownsRow_nil _ _ _ _⟩

set_option maxRecDepth 100000 in
set_option maxHeartbeats 8000000 in
theorem next_S {w : World} {a : Option Addr} {n c : Nat} {s : List Int} (h : Lay w (.slice a n c) n (ints s)) (hn : n = s.length) (hT : Tab w) (o : Opn) (x : Ann) :
    Calls Tryz.prog 64 #[.slice a n c, .agg #[.int .i64 o.k, .int .i64 o.a, .int .i64 o.b, .int .u64 o.u], .agg #[.int .i64 x.e, .int .i64 x.n, .int .u64 x.v]] w (RetN w (nextL s o x) (decide (x ∈ allS s o))) := by
  have CH := Lib.hid (fun W (k : Kept w W) => check_any (h.kept k) hn)
  have K0 := Lib.hid (show Kept w ((w.alloc (.cells #[.int .i64 o.k, .int .i64 o.a, .int .i64 o.b, .int .u64 o.u] 24)).alloc (.cells #[.int .i64 x.e, .int .i64 x.n, .int .u64 x.v] 27)) from ((Kept.refl w).alloc _ _).alloc _ _)
  have BO := Lib.hid (show OpBox ((w.alloc (.cells #[.int .i64 o.k, .int .i64 o.a, .int .i64 o.b, .int .u64 o.u] 24)).alloc (.cells #[.int .i64 x.e, .int .i64 x.n, .int .u64 x.v] 27)) w.heap.size o from (OpBox.new w o 24 w.heap.size rfl).kept ((Kept.refl _).alloc _ _))
  have BA := Lib.hid (show AnBox ((w.alloc (.cells #[.int .i64 o.k, .int .i64 o.a, .int .i64 o.b, .int .u64 o.u] 24)).alloc (.cells #[.int .i64 x.e, .int .i64 x.n, .int .u64 x.v] 27)) (w.heap.size + 1) x from AnBox.new _ x 27 _ (by simp))
  by_cases hc : chk s = 0
  · have TH := Lib.hid (fun W (k : Kept w W) => these_any (h.kept k) hn (chk_ok hc).1)
    have PS := Lib.hid (fun W (k : Kept w W) (R : Array Value) (hR : Ws R (setOf s)) => poss_any hR (hT.kept k) o 1026 (by decide))
    have HC := Lib.hid (fun W a n c (hl : Lay W (.slice a n c) n (flatA (outs (setOf s) o))) hn => has_ans hl hn x)
    have HA := Lib.hid (show allS s o = outs (setOf s) o by simp [allS, hc])
    have TT := Lib.hid hT
    rw [hc] at CH
    obtain ⟨Z, hZ, hz⟩ := zeroed
    clear h hn hT hc
    have HM := Lib.hid (show x ∈ outs (setOf s) o → Fits o x from fits_of_mem)
    rw [HA.out]
    by_cases hx : x ∈ outs (setOf s) o
    · have HL := Lib.hid (show nextL s o x = memI (aft (setOf s) o x) by unfold nextL; rw [HA.out, if_pos hx])
      have AF := Lib.hid (fun W R (hR : Ws R (setOf s)) => after_any hR o x (HM.out hx) W)
      rw [decide_eq_true hx] at HC ⊢
      clear hx
      go_enter Tryz.func64, Tryz.ntmps64
      go_wp2_with fail; refine (CH.out _ K0.out).mono ?_; rintro e w1 ⟨rfl, k1⟩
      go_wp2_with fail; refine (TH.out _ (K0.out.trans k1)).mono ?_; rintro e w2 ⟨R, rfl, hR, k2⟩
      obtain ⟨cs, rfl⟩ : ∃ cs : List Value, R = cs.toArray := ⟨R.toList, by simp⟩
      have hcs : (Tryz.prog.info? 156).map (·.size) = some cs.length := by rw [infoWsSize]; have := hR.size; rw [List.size_toArray] at this; rw [this]
      have hun := Tryz.underlying156
      have K2 := Lib.hid (K0.out.trans (k1.trans k2))
      obtain ⟨w3, run3, but3, big3, s3⟩ := ws_st (WsAt.new w2 Z 156 hZ.size hZ.one _ rfl) hR.size hR.one
      have k3 := ((k1.trans k2).alloc Z 156).wrote1_Po but3 (k1.trans k2).size
      have k3' := (K2.out.alloc Z 156).wrote1_Po but3 K2.out.size
      have PK := Lib.hid (fun W (k : Kept w3 W) => show W.rangeAt w2.heap.size 0 cs ∧ W.cell? ⟨w.heap.size, 0, none⟩ = some (.int .i64 o.k) ∧ W.cell? ⟨w.heap.size, 1, none⟩ = some (.int .i64 o.a) ∧ W.cell? ⟨w.heap.size, 2, none⟩ = some (.int .i64 o.b) ∧ W.cell? ⟨w.heap.size, 3, none⟩ = some (.int .u64 o.u) ∧
          W.cell? ⟨w.heap.size + 1, 0, none⟩ = some (.int .i64 x.e) ∧ W.cell? ⟨w.heap.size + 1, 1, none⟩ = some (.int .i64 x.n) ∧ W.cell? ⟨w.heap.size + 1, 2, none⟩ = some (.int .u64 x.v) by
        have b := (BO.out.kept k3).kept k
        have y := (BA.out.kept k3).kept k
        exact ⟨(big3.kept k).at_, b.c0, b.c1, b.c2, b.c3, y.c0, y.c1, y.c2⟩)
      have K3 := Lib.hid k3'
      have B3 := Lib.hid big3
      have HR := Lib.hid hR
      clear k1 k2 k3 k3' but3 big3 s3 hR hZ
      obtain ⟨B, hB⟩ : ∃ B, w2.heap.size = B := ⟨_, rfl⟩
      rw [hB] at run3 PK B3
      go_wp2
      obtain ⟨ld3, b0, b1, b2, b3, x0, x1, x2⟩ := PK.out w3 (Kept.refl _)
      go_region_held3 (fun w' => w'.rangeAt B 0 cs ∧ w'.cell? ⟨w.heap.size, 0, none⟩ = some (.int .i64 o.k) ∧ w'.cell? ⟨w.heap.size, 1, none⟩ = some (.int .i64 o.a) ∧ w'.cell? ⟨w.heap.size, 2, none⟩ = some (.int .i64 o.b) ∧ w'.cell? ⟨w.heap.size, 3, none⟩ = some (.int .u64 o.u) ∧
          w'.cell? ⟨w.heap.size + 1, 0, none⟩ = some (.int .i64 x.e) ∧ w'.cell? ⟨w.heap.size + 1, 1, none⟩ = some (.int .i64 x.n) ∧ w'.cell? ⟨w.heap.size + 1, 2, none⟩ = some (.int .u64 x.v))
        (first | (with_reducible exact PK.out _ KT) | (with_reducible exact PK.out _ (by repeat (first | (with_reducible exact Kept.refl _) | (with_reducible refine Kept.drew ?_) | (with_reducible refine Kept.drewN ?_ _)))))
        (first
          | (go_at_call 95; refine (PS.out _ (K3.out.trans (by repeat (first | (with_reducible exact Kept.refl _) | (with_reducible refine Kept.drew ?_) | (with_reducible refine Kept.drewN ?_ _)))) _ HR.out).mono ?_; rintro e w4 hp; obtain ⟨a4, c4, rfl, k4', own4⟩ := hp.all; have KT : Kept w3 w4 := Kept.trans (by repeat (first | (with_reducible exact Kept.refl _) | (with_reducible refine Kept.drew ?_) | (with_reducible refine Kept.drewN ?_ _))) k4'; have L4 := Lib.hid (own_lies own4).lay; clear own4 k4')
          | (go_at_call 97; refine (HC.out _ _ _ _ L4.out rfl).mono ?_; rintro e w5 ⟨rfl, k5⟩; have KT := KT.trans k5))
      have ld5 := ws_ld (B3.out.kept KT)
      go_wp2_with fail; refine (AF.out _ _ HR.out).mono ?_; rintro e w6 ⟨R6, rfl, hR6, k6⟩
      have K6 := Lib.hid (K3.out.trans (KT.trans k6))
      go_wp2_with fail; refine (list_any hR6 (TT.out.kept K6.out)).mono ?_; rintro e w7 ⟨a7, c7, rfl, k7, own7⟩
      go_wp2
      exact bodyPost_ret (v := .tuple #[.slice a7 (memI (aft (setOf s) o x)).length c7, .bool true]) (by simp [results, Tryz.results64, go_sem]) rfl (by rw [HL.out]; exact ⟨a7, c7, rfl, K6.out.trans k7, own_mono own7 K6.out.size⟩)
    · have HL := Lib.hid (show nextL s o x = [] by unfold nextL; rw [HA.out, if_neg hx])
      rw [decide_eq_false hx] at HC ⊢
      clear hx
      go_enter Tryz.func64, Tryz.ntmps64
      go_wp2_with fail; refine (CH.out _ K0.out).mono ?_; rintro e w1 ⟨rfl, k1⟩
      go_wp2_with fail; refine (TH.out _ (K0.out.trans k1)).mono ?_; rintro e w2 ⟨R, rfl, hR, k2⟩
      obtain ⟨cs, rfl⟩ : ∃ cs : List Value, R = cs.toArray := ⟨R.toList, by simp⟩
      have hcs : (Tryz.prog.info? 156).map (·.size) = some cs.length := by rw [infoWsSize]; have := hR.size; rw [List.size_toArray] at this; rw [this]
      have hun := Tryz.underlying156
      have K2 := Lib.hid (K0.out.trans (k1.trans k2))
      obtain ⟨w3, run3, but3, big3, s3⟩ := ws_st (WsAt.new w2 Z 156 hZ.size hZ.one _ rfl) hR.size hR.one
      have k3 := ((k1.trans k2).alloc Z 156).wrote1_Po but3 (k1.trans k2).size
      have k3' := (K2.out.alloc Z 156).wrote1_Po but3 K2.out.size
      have PK := Lib.hid (fun W (k : Kept w3 W) => show W.rangeAt w2.heap.size 0 cs ∧ W.cell? ⟨w.heap.size, 0, none⟩ = some (.int .i64 o.k) ∧ W.cell? ⟨w.heap.size, 1, none⟩ = some (.int .i64 o.a) ∧ W.cell? ⟨w.heap.size, 2, none⟩ = some (.int .i64 o.b) ∧ W.cell? ⟨w.heap.size, 3, none⟩ = some (.int .u64 o.u) ∧
          W.cell? ⟨w.heap.size + 1, 0, none⟩ = some (.int .i64 x.e) ∧ W.cell? ⟨w.heap.size + 1, 1, none⟩ = some (.int .i64 x.n) ∧ W.cell? ⟨w.heap.size + 1, 2, none⟩ = some (.int .u64 x.v) by
        have b := (BO.out.kept k3).kept k
        have y := (BA.out.kept k3).kept k
        exact ⟨(big3.kept k).at_, b.c0, b.c1, b.c2, b.c3, y.c0, y.c1, y.c2⟩)
      have K3 := Lib.hid k3'
      have B3 := Lib.hid big3
      have HR := Lib.hid hR
      clear k1 k2 k3 k3' but3 big3 s3 hR hZ
      obtain ⟨B, hB⟩ : ∃ B, w2.heap.size = B := ⟨_, rfl⟩
      rw [hB] at run3 PK B3
      go_wp2
      obtain ⟨ld3, b0, b1, b2, b3, x0, x1, x2⟩ := PK.out w3 (Kept.refl _)
      go_region_held3 (fun w' => w'.rangeAt B 0 cs ∧ w'.cell? ⟨w.heap.size, 0, none⟩ = some (.int .i64 o.k) ∧ w'.cell? ⟨w.heap.size, 1, none⟩ = some (.int .i64 o.a) ∧ w'.cell? ⟨w.heap.size, 2, none⟩ = some (.int .i64 o.b) ∧ w'.cell? ⟨w.heap.size, 3, none⟩ = some (.int .u64 o.u) ∧
          w'.cell? ⟨w.heap.size + 1, 0, none⟩ = some (.int .i64 x.e) ∧ w'.cell? ⟨w.heap.size + 1, 1, none⟩ = some (.int .i64 x.n) ∧ w'.cell? ⟨w.heap.size + 1, 2, none⟩ = some (.int .u64 x.v))
        (first | (with_reducible exact PK.out _ KT) | (with_reducible exact PK.out _ (by repeat (first | (with_reducible exact Kept.refl _) | (with_reducible refine Kept.drew ?_) | (with_reducible refine Kept.drewN ?_ _)))))
        (first
          | (go_at_call 95; refine (PS.out _ (K3.out.trans (by repeat (first | (with_reducible exact Kept.refl _) | (with_reducible refine Kept.drew ?_) | (with_reducible refine Kept.drewN ?_ _)))) _ HR.out).mono ?_; rintro e w4 hp; obtain ⟨a4, c4, rfl, k4', own4⟩ := hp.all; have KT : Kept w3 w4 := Kept.trans (by repeat (first | (with_reducible exact Kept.refl _) | (with_reducible refine Kept.drew ?_) | (with_reducible refine Kept.drewN ?_ _))) k4'; have L4 := Lib.hid (own_lies own4).lay; clear own4 k4')
          | (go_at_call 97; refine (HC.out _ _ _ _ L4.out rfl).mono ?_; rintro e w5 ⟨rfl, k5⟩; have KT := KT.trans k5))
      go_wp2
      exact bodyPost_ret (v := .tuple #[.slice none 0 0, .bool false]) (by simp [results, Tryz.results64, go_sem]) rfl (by rw [HL.out]; exact ⟨none, 0, by simp, K3.out.trans KT, World.ownsRow_nil _ _ _ _⟩)
  · have HA := Lib.hid (show allS s o = [] by simp [allS, hc])
    have HL := Lib.hid (show nextL s o x = [] by unfold nextL; rw [HA.out]; simp)
    have d0 : (chk s != 0) = true := by simpa using hc
    clear h hn hT hc
    go_enter Tryz.func64, Tryz.ntmps64
    go_wp2_with fail; refine (CH.out _ K0.out).mono ?_; rintro e w1 ⟨rfl, k1⟩
    go_wp2
    exact bodyPost_ret (v := .tuple #[.slice none 0 0, .bool false]) (by simp [results, Tryz.results64, go_sem]) rfl (by rw [HA.out, HL.out]; exact ⟨none, 0, by simp, K0.out.trans k1, World.ownsRow_nil _ _ _ _⟩)
end Go.Proofs.YtbfmmndpboagdaaGreatDoor.Po

namespace Go.Proofs.YtbfmmndpboagdaaGreatDoor.Po
set_option maxRecDepth 20000
open Go.RowKit
attribute [local go_sem ↓] ld_named st_named lv_named ix_named zv_named

theorem restM_no {s : List Int} {k N : Nat} {x : Int} (h : s[k]? = some x) (hx : noIdx x = true) (j : Nat) (hj : j < 1024) : restM (s.take k) N j = restM (s.take (k + 1)) N j := by
  have e : s.take (k + 1) = s.take k ++ [x] := by rw [List.take_add_one, h]; rfl
  have hne : (j : Int) ≠ x := fun e' => by
    have := noIdx_iff.2 ⟨j, hj, e'.symm⟩
    rw [this] at hx; cases hx
  unfold restM
  rw [e]
  simp [hne]
theorem restM_at {s : List Int} {k N i : Nat} (h : s[k]? = some (i : Int)) (j : Nat) : upd (restM (s.take k) N) i false j = restM (s.take (k + 1)) N j := by
  have e : s.take (k + 1) = s.take k ++ [(i : Int)] := by rw [List.take_add_one, h]; rfl
  unfold upd restM
  rw [e]
  by_cases hj : (j : Int) = i
  · rw [if_pos hj, hj]; simp
  · rw [if_neg hj]; simp [hj]

set_option maxRecDepth 100000 in
set_option maxHeartbeats 4000000 in
theorem rest_a {w : World} {a : Option Addr} {n c : Nat} {s : List Int} (h : Lay w (.slice a n c) n (ints s)) (hn : n = s.length) (hT : Tab w) (z : Int) (N : Nat) (hN : N ≤ 1024) (hz0 : z < 0) (hN0 : N = 0) :
    Calls Tryz.prog 60 #[.slice a n c, .int .i64 z] w (RetI w (memI (restM s N))) := by
  obtain ⟨a', c', e, hnc, hcm⟩ := h.form
  cases e
  unfold maxLen at hcm
  obtain ⟨Z, hZ, hz⟩ := zeroed
  have CE := Lib.hid (fun W (k : Kept w W) i x hx => lay_one (h.kept k) hn i x hx)
  have HN := Lib.hid hn
  have TT := Lib.hid hT
  have BL := Lib.hid (fun W => below_any N hN W)
  have e0 : (N : Int) = 0 := by omega
  rw [e0] at BL
  clear e0 hN0
  have i1 : (0 : Int) > z := hz0
  clear h hn hT
  go_enter Tryz.func60, Tryz.ntmps60
  go_wp2_with fail; refine (BL.out _).mono ?_; rintro e w1 ⟨R, rfl, hR, k1⟩
  obtain ⟨w3, run3, but3, big3, s3⟩ := ws_st (WsAt.new w1 Z 156 hZ.size hZ.one _ rfl) hR.size hR.one
  have K3 := Lib.hid ((k1.alloc Z 156).wrote1_Po but3 k1.size)
  have B3 := Lib.hid big3
  have HR := Lib.hid hR
  have hwB := k1.size
  clear k1 but3 big3 s3 hR hZ
  obtain ⟨B, hB⟩ : ∃ B, w1.heap.size = B := ⟨_, rfl⟩
  rw [hB] at run3 B3 hwB
  go_wp2
  go_loopw [14] (fun i wr => ∃ (k : Nat) (Rk : Array Value), i = .int .i64 k ∧ k ≤ n ∧ Ws Rk (restM (s.take k) N) ∧ WsAt wr B Rk ∧ Kept w wr) (fun i _ => n - (intOf i).toNat)
  case atStart => exact ⟨0, R, rfl, Nat.zero_le _, HR.out.congr (fun i _ => by simp [restM, first]), B3.out, K3.out⟩
  case round =>
    obtain ⟨k, Rk, rfl, hkn, hWs, hb2, hk⟩ := hrel
    have KE := Lib.hid hk
    have WSK := Lib.hid hWs
    have LB2 := Lib.hid hb2
    clear hk hWs hb2
    by_cases hlt : k < n
    · obtain ⟨x, hx⟩ : ∃ x, s[k]? = some x := ⟨_, List.getElem?_eq_getElem (by rw [← HN.out]; omega)⟩
      obtain ⟨g, o, rfl, c0⟩ := CE.out _ KE.out k _ hx
      have HX := Lib.hid hx
      have NI := Lib.hid (fun W => noIdx_any x W)
      clear hx
      cases hq : noIdx x with
      | true =>
        have HQ := Lib.hid hq
        rw [hq] at NI
        clear hq
        go_wp2_with fail; refine (NI.out _).mono ?_; rintro e w4 ⟨rfl, rfl⟩
        go_wp2
        go_roundw
        case rel => exact ⟨k + 1, Rk, by go_num, by omega, WSK.out.congr (fun j hj => restM_no HX.out HQ.out j hj), LB2.out, KE.out⟩
        case measure => simp [intOf]; omega
      | false =>
        obtain ⟨i, hi, e⟩ := noIdx_iff.1 hq
        rw [hq] at NI
        subst e
        have ld := ws_ld LB2.out
        have WI := Lib.hid (fun W => without_any WSK.out i hi W)
        clear hq
        go_wp2_with fail; refine (NI.out _).mono ?_; rintro e w4 ⟨rfl, rfl⟩
        go_wp2_with fail; refine (WI.out _).mono ?_; rintro e w5 ⟨R1, rfl, hR1, k5⟩
        obtain ⟨w6, run6, but6, big6, s6⟩ := ws_st (LB2.out.kept k5) hR1.size hR1.one
        have H2 := Lib.hid big6
        have H3 := Lib.hid ((KE.out.trans k5).wrote1_Po but6 hwB)
        have H4 := Lib.hid hR1
        clear k5 but6 big6 s6 hR1 ld
        go_wp2
        go_roundw
        case rel => exact ⟨k + 1, R1, by go_num, by omega, H4.out.congr (fun j _ => restM_at HX.out j), H2.out, H3.out⟩
        case measure => simp [intOf]; omega
    · obtain rfl : k = n := by omega
      have hall : s.take k = s := by rw [HN.out]; exact List.take_length
      have ld := ws_ld LB2.out
      have RS := Lib.hid (show Ws Rk (restM s N) by have := WSK.out; rw [hall] at this; exact this)
      clear hall
      go_wp2_with fail; refine (list_any RS.out (TT.out.kept KE.out)).mono ?_; rintro e w7 ⟨a7, c7, rfl, k7, own7⟩
      go_wp2
      go_ret
      exact ⟨a7, c7, rfl, KE.out.trans k7, own_mono own7 KE.out.size⟩

set_option maxRecDepth 100000 in
set_option maxHeartbeats 4000000 in
theorem rest_b {w : World} {a : Option Addr} {n c : Nat} {s : List Int} (h : Lay w (.slice a n c) n (ints s)) (hn : n = s.length) (hT : Tab w) (z : Int) (N : Nat) (hN : N ≤ 1024) (hzN : z = N) :
    Calls Tryz.prog 60 #[.slice a n c, .int .i64 z] w (RetI w (memI (restM s N))) := by
  obtain ⟨a', c', e, hnc, hcm⟩ := h.form
  cases e
  unfold maxLen at hcm
  obtain ⟨Z, hZ, hz⟩ := zeroed
  have CE := Lib.hid (fun W (k : Kept w W) i x hx => lay_one (h.kept k) hn i x hx)
  have HN := Lib.hid hn
  have TT := Lib.hid hT
  have BL := Lib.hid (fun W => below_any N hN W)
  subst hzN
  have i1 : ¬ ((0 : Int) > (N : Int)) := by omega
  have i2 : ¬ ((1024 : Int) < (N : Int)) := by omega
  clear h hn hT
  go_enter Tryz.func60, Tryz.ntmps60
  go_wp2_with fail; refine (BL.out _).mono ?_; rintro e w1 ⟨R, rfl, hR, k1⟩
  obtain ⟨w3, run3, but3, big3, s3⟩ := ws_st (WsAt.new w1 Z 156 hZ.size hZ.one _ rfl) hR.size hR.one
  have K3 := Lib.hid ((k1.alloc Z 156).wrote1_Po but3 k1.size)
  have B3 := Lib.hid big3
  have HR := Lib.hid hR
  have hwB := k1.size
  clear k1 but3 big3 s3 hR hZ
  obtain ⟨B, hB⟩ : ∃ B, w1.heap.size = B := ⟨_, rfl⟩
  rw [hB] at run3 B3 hwB
  go_wp2
  go_loopw [14] (fun i wr => ∃ (k : Nat) (Rk : Array Value), i = .int .i64 k ∧ k ≤ n ∧ Ws Rk (restM (s.take k) N) ∧ WsAt wr B Rk ∧ Kept w wr) (fun i _ => n - (intOf i).toNat)
  case atStart => exact ⟨0, R, rfl, Nat.zero_le _, HR.out.congr (fun i _ => by simp [restM, first]), B3.out, K3.out⟩
  case round =>
    obtain ⟨k, Rk, rfl, hkn, hWs, hb2, hk⟩ := hrel
    have KE := Lib.hid hk
    have WSK := Lib.hid hWs
    have LB2 := Lib.hid hb2
    clear hk hWs hb2
    by_cases hlt : k < n
    · obtain ⟨x, hx⟩ : ∃ x, s[k]? = some x := ⟨_, List.getElem?_eq_getElem (by rw [← HN.out]; omega)⟩
      obtain ⟨g, o, rfl, c0⟩ := CE.out _ KE.out k _ hx
      have HX := Lib.hid hx
      have NI := Lib.hid (fun W => noIdx_any x W)
      clear hx
      cases hq : noIdx x with
      | true =>
        have HQ := Lib.hid hq
        rw [hq] at NI
        clear hq
        go_wp2_with fail; refine (NI.out _).mono ?_; rintro e w4 ⟨rfl, rfl⟩
        go_wp2
        go_roundw
        case rel => exact ⟨k + 1, Rk, by go_num, by omega, WSK.out.congr (fun j hj => restM_no HX.out HQ.out j hj), LB2.out, KE.out⟩
        case measure => simp [intOf]; omega
      | false =>
        obtain ⟨i, hi, e⟩ := noIdx_iff.1 hq
        rw [hq] at NI
        subst e
        have ld := ws_ld LB2.out
        have WI := Lib.hid (fun W => without_any WSK.out i hi W)
        clear hq
        go_wp2_with fail; refine (NI.out _).mono ?_; rintro e w4 ⟨rfl, rfl⟩
        go_wp2_with fail; refine (WI.out _).mono ?_; rintro e w5 ⟨R1, rfl, hR1, k5⟩
        obtain ⟨w6, run6, but6, big6, s6⟩ := ws_st (LB2.out.kept k5) hR1.size hR1.one
        have H2 := Lib.hid big6
        have H3 := Lib.hid ((KE.out.trans k5).wrote1_Po but6 hwB)
        have H4 := Lib.hid hR1
        clear k5 but6 big6 s6 hR1 ld
        go_wp2
        go_roundw
        case rel => exact ⟨k + 1, R1, by go_num, by omega, H4.out.congr (fun j _ => restM_at HX.out j), H2.out, H3.out⟩
        case measure => simp [intOf]; omega
    · obtain rfl : k = n := by omega
      have hall : s.take k = s := by rw [HN.out]; exact List.take_length
      have ld := ws_ld LB2.out
      have RS := Lib.hid (show Ws Rk (restM s N) by have := WSK.out; rw [hall] at this; exact this)
      clear hall
      go_wp2_with fail; refine (list_any RS.out (TT.out.kept KE.out)).mono ?_; rintro e w7 ⟨a7, c7, rfl, k7, own7⟩
      go_wp2
      go_ret
      exact ⟨a7, c7, rfl, KE.out.trans k7, own_mono own7 KE.out.size⟩

set_option maxRecDepth 100000 in
set_option maxHeartbeats 4000000 in
theorem rest_c {w : World} {a : Option Addr} {n c : Nat} {s : List Int} (h : Lay w (.slice a n c) n (ints s)) (hn : n = s.length) (hT : Tab w) (z : Int) (N : Nat) (hN : N ≤ 1024) (hz1 : 1024 < z) (hN0 : N = 1024) :
    Calls Tryz.prog 60 #[.slice a n c, .int .i64 z] w (RetI w (memI (restM s N))) := by
  obtain ⟨a', c', e, hnc, hcm⟩ := h.form
  cases e
  unfold maxLen at hcm
  obtain ⟨Z, hZ, hz⟩ := zeroed
  have CE := Lib.hid (fun W (k : Kept w W) i x hx => lay_one (h.kept k) hn i x hx)
  have HN := Lib.hid hn
  have TT := Lib.hid hT
  have BL := Lib.hid (fun W => below_any N hN W)
  have e0 : (N : Int) = 1024 := by omega
  rw [e0] at BL
  clear e0 hN0
  have i1 : ¬ ((0 : Int) > z) := by omega
  clear h hn hT
  go_enter Tryz.func60, Tryz.ntmps60
  go_wp2_with fail; refine (BL.out _).mono ?_; rintro e w1 ⟨R, rfl, hR, k1⟩
  obtain ⟨w3, run3, but3, big3, s3⟩ := ws_st (WsAt.new w1 Z 156 hZ.size hZ.one _ rfl) hR.size hR.one
  have K3 := Lib.hid ((k1.alloc Z 156).wrote1_Po but3 k1.size)
  have B3 := Lib.hid big3
  have HR := Lib.hid hR
  have hwB := k1.size
  clear k1 but3 big3 s3 hR hZ
  obtain ⟨B, hB⟩ : ∃ B, w1.heap.size = B := ⟨_, rfl⟩
  rw [hB] at run3 B3 hwB
  go_wp2
  go_loopw [14] (fun i wr => ∃ (k : Nat) (Rk : Array Value), i = .int .i64 k ∧ k ≤ n ∧ Ws Rk (restM (s.take k) N) ∧ WsAt wr B Rk ∧ Kept w wr) (fun i _ => n - (intOf i).toNat)
  case atStart => exact ⟨0, R, rfl, Nat.zero_le _, HR.out.congr (fun i _ => by simp [restM, first]), B3.out, K3.out⟩
  case round =>
    obtain ⟨k, Rk, rfl, hkn, hWs, hb2, hk⟩ := hrel
    have KE := Lib.hid hk
    have WSK := Lib.hid hWs
    have LB2 := Lib.hid hb2
    clear hk hWs hb2
    by_cases hlt : k < n
    · obtain ⟨x, hx⟩ : ∃ x, s[k]? = some x := ⟨_, List.getElem?_eq_getElem (by rw [← HN.out]; omega)⟩
      obtain ⟨g, o, rfl, c0⟩ := CE.out _ KE.out k _ hx
      have HX := Lib.hid hx
      have NI := Lib.hid (fun W => noIdx_any x W)
      clear hx
      cases hq : noIdx x with
      | true =>
        have HQ := Lib.hid hq
        rw [hq] at NI
        clear hq
        go_wp2_with fail; refine (NI.out _).mono ?_; rintro e w4 ⟨rfl, rfl⟩
        go_wp2
        go_roundw
        case rel => exact ⟨k + 1, Rk, by go_num, by omega, WSK.out.congr (fun j hj => restM_no HX.out HQ.out j hj), LB2.out, KE.out⟩
        case measure => simp [intOf]; omega
      | false =>
        obtain ⟨i, hi, e⟩ := noIdx_iff.1 hq
        rw [hq] at NI
        subst e
        have ld := ws_ld LB2.out
        have WI := Lib.hid (fun W => without_any WSK.out i hi W)
        clear hq
        go_wp2_with fail; refine (NI.out _).mono ?_; rintro e w4 ⟨rfl, rfl⟩
        go_wp2_with fail; refine (WI.out _).mono ?_; rintro e w5 ⟨R1, rfl, hR1, k5⟩
        obtain ⟨w6, run6, but6, big6, s6⟩ := ws_st (LB2.out.kept k5) hR1.size hR1.one
        have H2 := Lib.hid big6
        have H3 := Lib.hid ((KE.out.trans k5).wrote1_Po but6 hwB)
        have H4 := Lib.hid hR1
        clear k5 but6 big6 s6 hR1 ld
        go_wp2
        go_roundw
        case rel => exact ⟨k + 1, R1, by go_num, by omega, H4.out.congr (fun j _ => restM_at HX.out j), H2.out, H3.out⟩
        case measure => simp [intOf]; omega
    · obtain rfl : k = n := by omega
      have hall : s.take k = s := by rw [HN.out]; exact List.take_length
      have ld := ws_ld LB2.out
      have RS := Lib.hid (show Ws Rk (restM s N) by have := WSK.out; rw [hall] at this; exact this)
      clear hall
      go_wp2_with fail; refine (list_any RS.out (TT.out.kept KE.out)).mono ?_; rintro e w7 ⟨a7, c7, rfl, k7, own7⟩
      go_wp2
      go_ret
      exact ⟨a7, c7, rfl, KE.out.trans k7, own_mono own7 KE.out.size⟩

def restN (z : Int) : Nat := (min (max z 0) 1024).toNat
theorem rest_S {w : World} {a : Option Addr} {n c : Nat} {s : List Int} (h : Lay w (.slice a n c) n (ints s)) (hn : n = s.length) (hT : Tab w) (z : Int) :
    Calls Tryz.prog 60 #[.slice a n c, .int .i64 z] w (RetI w (memI (restM s (restN z)))) := by
  by_cases h1 : z < 0
  · rw [show restN z = 0 by unfold restN; omega]
    exact rest_a h hn hT z 0 (by decide) h1 rfl
  · by_cases h2 : 1024 < z
    · rw [show restN z = 1024 by unfold restN; omega]
      exact rest_c h hn hT z 1024 (by decide) h2 rfl
    · obtain ⟨N, rfl⟩ : ∃ N : Nat, z = N := ⟨z.toNat, by omega⟩
      rw [show restN (N : Int) = N by unfold restN; omega]
      exact rest_b h hn hT N N (by omega) rfl
end Go.Proofs.YtbfmmndpboagdaaGreatDoor.Po

namespace Go.Proofs.YtbfmmndpboagdaaGreatDoor.Po
set_option maxRecDepth 20000
open Go.RowKit

set_option maxHeartbeats 2000000 in
theorem sameInts_yes {w : World} {v v' : Value} {l : List Int} (h : Lay w v l.length (ints l)) (h' : Lay w v' l.length (ints l)) (hl : l.length ≤ 1000000) :
    Calls Tryz.prog 21 #[v, v'] w fun e w' => e = .returned (.bool true) ∧ Kept w w' := by
  by_cases h0 : l = []
  · subst h0
    obtain ⟨a, c, rfl, _⟩ := h.form
    obtain ⟨a', c', rfl, _⟩ := h'.form
    clear h h' hl
    go_enter Tryz.func21, Tryz.ntmps21
    go_wp2
    go_loopw [5, 6] (fun s i wr => s = .bool true ∧ i = .int .i64 0 ∧ wr = w) (fun _ _ _ => 0)
    case atStart => exact ⟨rfl, rfl, rfl⟩
    case round =>
      obtain ⟨rfl, rfl, rfl⟩ := hrel
      go_wp2
      go_ret
      exact ⟨rfl, Kept.refl _⟩
  · have hp : 0 < l.length := List.length_pos_iff.2 h0
    obtain ⟨g, o, c, rfl, _, _, hc⟩ := h.ints_Po hp
    obtain ⟨g', o', c', rfl, _, _, hc'⟩ := h'.ints_Po hp
    have HC := Lib.hid hc
    have HC' := Lib.hid hc'
    obtain ⟨n, hn⟩ : ∃ n, n = l.length := ⟨_, rfl⟩
    rw [← hn] at hl ⊢
    have HN := Lib.hid hn
    clear hc hc' h h' h0 hp hn
    go_enter Tryz.func21, Tryz.ntmps21
    go_wp2
    go_loopw [5, 6] (fun s i wr => ∃ k : Nat, k ≤ n ∧ s = .bool true ∧ i = .int .i64 k ∧ (∃ q, wr = w.drewN q)) (fun _ i _ => n - (intOf i).toNat)
    case atStart => exact ⟨0, Nat.zero_le _, rfl, rfl, 0, rfl⟩
    case round =>
      obtain ⟨k, hk, rfl, rfl, q, rfl⟩ := hrel
      by_cases hlt : k < n
      · obtain ⟨d, hd⟩ : ∃ d, l[k]? = some d := ⟨_, List.getElem?_eq_getElem (by rw [← HN.out]; exact hlt)⟩
        have x0 := HC.out k d hd
        have y0 := HC'.out k d hd
        clear hd
        go_wp2
        go_quiet (fail)
        go_wp2
        go_roundw
        case rel => exact ⟨k + 1, by omega, rfl, by go_num, q + nq, rfl⟩
        case measure => simp [intOf]; omega
      · go_wp2
        go_ret
        exact ⟨rfl, (Kept.refl _).drewN _⟩

theorem tmod_up (x n : Int) (hn : 0 < n) (hn' : n ≤ 1000000) (h : x.tmod n < 0) : wrap64 (x.tmod n + n) = x % n := by
  have e := Int.tmod_eq_emod (a := x) (b := n)
  have h1 := Int.emod_nonneg x (show n ≠ 0 by omega)
  have h2 := Int.emod_lt_of_pos x hn
  unfold wrap64
  split at e <;> omega
theorem tmod_at (x n : Int) (hn : 0 < n) (h : 0 ≤ x.tmod n) : x.tmod n = x % n := by
  have e := Int.tmod_eq_emod (a := x) (b := n)
  have h1 := Int.emod_nonneg x (show n ≠ 0 by omega)
  have h2 := Int.emod_lt_of_pos x hn
  split at e <;> omega
set_option maxHeartbeats 400000 in
theorem pick_any (x n : Int) (hn : 1 ≤ n) (hn' : n ≤ 1000000) (w : World) :
    Calls Tryz.prog 16 #[.int .i64 x, .int .i64 n] w fun e w' => e = .returned (.int .i64 (x % n)) ∧ w = w' := by
  go_enter Tryz.func16, Tryz.ntmps16
  go_wp2
  · rename_i _ h
    go_ret
    exact ⟨by show Ending.returned (.int .i64 (wrap64 (x.tmod n + n))) = _; rw [tmod_up x n (by omega) hn' h], rfl⟩
  · rename_i _ h
    go_ret
    exact ⟨by show Ending.returned (.int .i64 (x.tmod n)) = _; rw [tmod_at x n (by omega) h], rfl⟩
end Go.Proofs.YtbfmmndpboagdaaGreatDoor.Po
