/- The program's All, Next, Rest. -/
import Derived.Test.YtlkadickhhaakaaDoorPoAns
namespace Go.Proofs.YtlkadickhhaakaaDoor
open Go.RowKit
attribute [local go_sem ↓] ld_named st_named lv_named ix_named zv_named

/-- New answers are told. -/
def RetA (w : World) (l : List Ann) (ed : Ending) (w' : World) : Prop := ∃ a c, ed = .returned (.slice a l.length c) ∧ Kept w w' ∧ OwnA w' w.heap.size (.slice a l.length c) l
/-- A new list and a bool. -/
def RetN (w : World) (l : List Int) (b : Bool) (ed : Ending) (w' : World) : Prop := ∃ a c, ed = .returned (.tuple #[.slice a l.length c, .bool b]) ∧ Kept w w' ∧ OwnI w' w.heap.size (.slice a l.length c) l
def nextL (s : List Int) (o : Opn) (x : Ann) : List Int := if x ∈ allS s o then memI (aft (setOf s) o x) else []

theorem fits_of_mem {M : Nat → Bool} {o : Opn} {x : Ann} (h : x ∈ outs M o) : Fits o x := by
  unfold outs at h
  split at h
  · rename_i h7
    rcases List.mem_append.1 h with h | h
    · obtain ⟨i, hi, rfl⟩ := List.mem_map.1 h
      obtain ⟨j, hj, _, rfl⟩ := memI_mem.1 hi
      exact ⟨fun _ _ => ⟨j, hj, rfl⟩, fun _ h8 => by omega⟩
    · simp at h
      rcases h with rfl | rfl
      · exact ⟨fun e _ => by simp at e, fun e _ => by simp at e⟩
      · exact ⟨fun e _ => by simp at e, fun e _ => by simp at e⟩
  · split at h
    · rename_i h7 h8
      rw [List.mem_singleton] at h
      subst h
      refine ⟨fun _ e => absurd e h7, fun e _ => ?_⟩
      have e' : freed M o.a = 0 := e
      unfold freed at e'
      split at e'
      · omega
      · rename_i hn
        exact noIdx_iff.1 (by simpa using hn)
    · simp at h

set_option maxRecDepth 100000 in
set_option maxHeartbeats 4000000 in
theorem all_S {w : World} {a : Option Addr} {n c : Nat} {s : List Int} (h : Lay w (.slice a n c) n (ints s)) (hn : n = s.length) (hT : Tab w) (o : Opn) :
    Calls Tryd.prog 12 #[.slice a n c, .agg #[.int .i64 o.k, .int .i64 o.a, .int .i64 o.b, .int .u64 o.u]] w (RetA w (allS s o)) := by
  have CH := Lib.hid (fun W (k : Kept w W) => check_any (h.kept k) hn)
  have BX := Lib.hid (OpBox.new w o 25 w.heap.size rfl)
  have K0 := Lib.hid (show Kept w (w.alloc (.cells #[.int .i64 o.k, .int .i64 o.a, .int .i64 o.b, .int .u64 o.u] 25)) from (Kept.refl w).alloc _ _)
  by_cases hc : chk s = 0
  · have TH := Lib.hid (fun W (k : Kept w W) => these_any (h.kept k) hn (chk_ok hc).1)
    have PS := Lib.hid (fun W (k : Kept w W) (R : Array Value) (hR : Ws R (setOf s)) => poss_any hR (hT.kept k) o 1026 (by decide))
    have HA := Lib.hid (show allS s o = outs (setOf s) o by simp [allS, hc])
    rw [hc] at CH
    clear h hn hT hc
    go_enter Tryd.func12, Tryd.ntmps12
    go_wp2_with fail; refine (CH.out _ K0.out).mono ?_; rintro e w1 ⟨rfl, k1⟩
    obtain ⟨b0, b1, b2, b3⟩ := BX.out.kept k1
    have K1 := Lib.hid (K0.out.trans k1)
    clear k1
    go_wp2
    go_region_held3 (fun w' => w'.cell? ⟨w.heap.size, 0, none⟩ = some (.int .i64 o.k) ∧ w'.cell? ⟨w.heap.size, 1, none⟩ = some (.int .i64 o.a) ∧ w'.cell? ⟨w.heap.size, 2, none⟩ = some (.int .i64 o.b) ∧ w'.cell? ⟨w.heap.size, 3, none⟩ = some (.int .u64 o.u))
      (first | go_keep | (with_reducible exact ⟨k2.some b0, k2.some b1, k2.some b2, k2.some b3⟩) | (with_reducible exact ⟨k3.some b0, k3.some b1, k3.some b2, k3.some b3⟩))
      (first
        | (go_at_call 33; refine (TH.out _ (K1.out.trans (by repeat (first | (with_reducible exact Kept.refl _) | (with_reducible refine Kept.drew ?_) | (with_reducible refine Kept.drewN ?_ _))))).mono ?_; rintro e w2 ⟨R, rfl, hR, k2⟩; have KT : Kept w1 w2 := Kept.trans (by repeat (first | (with_reducible exact Kept.refl _) | (with_reducible refine Kept.drew ?_) | (with_reducible refine Kept.drewN ?_ _))) k2; have k2 := KT; have HR := Lib.hid hR; clear hR)
        | (go_at_call 35; refine (PS.out _ (K1.out.trans KT) _ HR.out).mono ?_; rintro e w3 hp; obtain ⟨a3, c3, rfl, k3', own3⟩ := hp.all; have k3 := KT.trans k3'; have O3 := Lib.hid (own_mono own3 (Nat.le_trans K1.out.size KT.size)); clear own3 k3'))
    go_wp2
    go_ret
    rw [HA.out]
    exact ⟨a3, c3, rfl, K1.out.trans k3, O3.out⟩
  · have HA := Lib.hid (show allS s o = [] by simp [allS, hc])
    have d0 : (chk s != 0) = true := by simpa using hc
    clear h hn hT hc
    go_enter Tryd.func12, Tryd.ntmps12
    go_wp2_with fail; refine (CH.out _ K0.out).mono ?_; rintro e w1 ⟨rfl, k1⟩
    go_wp2
    go_ret
    rw [HA.out]
    exact ⟨none, 0, rfl, K0.out.trans k1, World.ownsRow_nil _ _ _ _⟩

set_option maxRecDepth 100000 in
set_option maxHeartbeats 8000000 in
theorem next_S {w : World} {a : Option Addr} {n c : Nat} {s : List Int} (h : Lay w (.slice a n c) n (ints s)) (hn : n = s.length) (hT : Tab w) (o : Opn) (x : Ann) :
    Calls Tryd.prog 10 #[.slice a n c, .agg #[.int .i64 o.k, .int .i64 o.a, .int .i64 o.b, .int .u64 o.u], .agg #[.int .i64 x.e, .int .i64 x.n, .int .u64 x.v]] w (RetN w (nextL s o x) (decide (x ∈ allS s o))) := by
  have CH := Lib.hid (fun W (k : Kept w W) => check_any (h.kept k) hn)
  have K0 := Lib.hid (show Kept w ((w.alloc (.cells #[.int .i64 o.k, .int .i64 o.a, .int .i64 o.b, .int .u64 o.u] 25)).alloc (.cells #[.int .i64 x.e, .int .i64 x.n, .int .u64 x.v] 28)) from ((Kept.refl w).alloc _ _).alloc _ _)
  have BO := Lib.hid (show OpBox ((w.alloc (.cells #[.int .i64 o.k, .int .i64 o.a, .int .i64 o.b, .int .u64 o.u] 25)).alloc (.cells #[.int .i64 x.e, .int .i64 x.n, .int .u64 x.v] 28)) w.heap.size o from (OpBox.new w o 25 w.heap.size rfl).kept ((Kept.refl _).alloc _ _))
  have BA := Lib.hid (show AnBox ((w.alloc (.cells #[.int .i64 o.k, .int .i64 o.a, .int .i64 o.b, .int .u64 o.u] 25)).alloc (.cells #[.int .i64 x.e, .int .i64 x.n, .int .u64 x.v] 28)) (w.heap.size + 1) x from AnBox.new _ x 28 _ (by simp))
  by_cases hc : chk s = 0
  · have TH := Lib.hid (fun W (k : Kept w W) => these_any (h.kept k) hn (chk_ok hc).1)
    have PS := Lib.hid (fun W (k : Kept w W) (R : Array Value) (hR : Ws R (setOf s)) => poss_any hR (hT.kept k) o 1026 (by decide))
    have HC := Lib.hid (fun W a n c (hl : Lay W (.slice a n c) n (flatA (outs (setOf s) o))) hn => has_ans hl hn x)
    have HA := Lib.hid (show allS s o = outs (setOf s) o by simp [allS, hc])
    have TT := Lib.hid hT
    rw [hc] at CH
    obtain ⟨Z, hZ, hz⟩ := zeroed
    clear h hn hT hc
    have HM := Lib.hid (show x ∈ outs (setOf s) o → Fits o x from fits_of_mem)
    rw [HA.out]
    by_cases hx : x ∈ outs (setOf s) o
    · have HL := Lib.hid (show nextL s o x = memI (aft (setOf s) o x) by unfold nextL; rw [HA.out, if_pos hx])
      have AF := Lib.hid (fun W R (hR : Ws R (setOf s)) => after_any hR o x (HM.out hx) W)
      rw [decide_eq_true hx] at HC ⊢
      clear hx
      go_enter Tryd.func10, Tryd.ntmps10
      go_wp2_with fail; refine (CH.out _ K0.out).mono ?_; rintro e w1 ⟨rfl, k1⟩
      go_wp2_with fail; refine (TH.out _ (K0.out.trans k1)).mono ?_; rintro e w2 ⟨R, rfl, hR, k2⟩
      obtain ⟨cs, rfl⟩ : ∃ cs : List Value, R = cs.toArray := ⟨R.toList, by simp⟩
      have hcs : (Tryd.prog.info? 57).map (·.size) = some cs.length := by rw [infoWsSize]; have := hR.size; rw [List.size_toArray] at this; rw [this]
      have hun := Tryd.underlying57
      have K2 := Lib.hid (K0.out.trans (k1.trans k2))
      obtain ⟨w3, run3, but3, big3, s3⟩ := ws_st (WsAt.new w2 Z 57 hZ.size hZ.one _ rfl) hR.size hR.one
      have k3 := ((k1.trans k2).alloc Z 57).wrote1 but3 (k1.trans k2).size
      have k3' := (K2.out.alloc Z 57).wrote1 but3 K2.out.size
      have PK := Lib.hid (fun W (k : Kept w3 W) => show W.rangeAt w2.heap.size 0 cs ∧ W.cell? ⟨w.heap.size, 0, none⟩ = some (.int .i64 o.k) ∧ W.cell? ⟨w.heap.size, 1, none⟩ = some (.int .i64 o.a) ∧ W.cell? ⟨w.heap.size, 2, none⟩ = some (.int .i64 o.b) ∧ W.cell? ⟨w.heap.size, 3, none⟩ = some (.int .u64 o.u) ∧
          W.cell? ⟨w.heap.size + 1, 0, none⟩ = some (.int .i64 x.e) ∧ W.cell? ⟨w.heap.size + 1, 1, none⟩ = some (.int .i64 x.n) ∧ W.cell? ⟨w.heap.size + 1, 2, none⟩ = some (.int .u64 x.v) by
        have b := (BO.out.kept k3).kept k
        have y := (BA.out.kept k3).kept k
        exact ⟨(big3.kept k).at_, b.c0, b.c1, b.c2, b.c3, y.c0, y.c1, y.c2⟩)
      have K3 := Lib.hid k3'
      have B3 := Lib.hid big3
      have HR := Lib.hid hR
      clear k1 k2 k3 k3' but3 big3 s3 hR hZ
      obtain ⟨B, hB⟩ : ∃ B, w2.heap.size = B := ⟨_, rfl⟩
      rw [hB] at run3 PK B3
      go_wp2
      obtain ⟨ld3, b0, b1, b2, b3, x0, x1, x2⟩ := PK.out w3 (Kept.refl _)
      go_region_held3 (fun w' => w'.rangeAt B 0 cs ∧ w'.cell? ⟨w.heap.size, 0, none⟩ = some (.int .i64 o.k) ∧ w'.cell? ⟨w.heap.size, 1, none⟩ = some (.int .i64 o.a) ∧ w'.cell? ⟨w.heap.size, 2, none⟩ = some (.int .i64 o.b) ∧ w'.cell? ⟨w.heap.size, 3, none⟩ = some (.int .u64 o.u) ∧
          w'.cell? ⟨w.heap.size + 1, 0, none⟩ = some (.int .i64 x.e) ∧ w'.cell? ⟨w.heap.size + 1, 1, none⟩ = some (.int .i64 x.n) ∧ w'.cell? ⟨w.heap.size + 1, 2, none⟩ = some (.int .u64 x.v))
        (first | (with_reducible exact PK.out _ KT) | (with_reducible exact PK.out _ (by repeat (first | (with_reducible exact Kept.refl _) | (with_reducible refine Kept.drew ?_) | (with_reducible refine Kept.drewN ?_ _)))))
        (first
          | (go_at_call 35; refine (PS.out _ (K3.out.trans (by repeat (first | (with_reducible exact Kept.refl _) | (with_reducible refine Kept.drew ?_) | (with_reducible refine Kept.drewN ?_ _)))) _ HR.out).mono ?_; rintro e w4 hp; obtain ⟨a4, c4, rfl, k4', own4⟩ := hp.all; have KT : Kept w3 w4 := Kept.trans (by repeat (first | (with_reducible exact Kept.refl _) | (with_reducible refine Kept.drew ?_) | (with_reducible refine Kept.drewN ?_ _))) k4'; have L4 := Lib.hid (own_lies own4).lay; clear own4 k4')
          | (go_at_call 34; refine (HC.out _ _ _ _ L4.out rfl).mono ?_; rintro e w5 ⟨rfl, k5⟩; have KT := KT.trans k5))
      have ld5 := ws_ld (B3.out.kept KT)
      go_wp2_with fail; refine (AF.out _ _ HR.out).mono ?_; rintro e w6 ⟨R6, rfl, hR6, k6⟩
      have K6 := Lib.hid (K3.out.trans (KT.trans k6))
      go_wp2_with fail; refine (list_any hR6 (TT.out.kept K6.out)).mono ?_; rintro e w7 ⟨a7, c7, rfl, k7, own7⟩
      go_wp2
      exact bodyPost_ret (v := .tuple #[.slice a7 (memI (aft (setOf s) o x)).length c7, .bool true]) (by simp [results, Tryd.results10, go_sem]) rfl (by rw [HL.out]; exact ⟨a7, c7, rfl, K6.out.trans k7, own_mono own7 K6.out.size⟩)
    · have HL := Lib.hid (show nextL s o x = [] by unfold nextL; rw [HA.out, if_neg hx])
      rw [decide_eq_false hx] at HC ⊢
      clear hx
      go_enter Tryd.func10, Tryd.ntmps10
      go_wp2_with fail; refine (CH.out _ K0.out).mono ?_; rintro e w1 ⟨rfl, k1⟩
      go_wp2_with fail; refine (TH.out _ (K0.out.trans k1)).mono ?_; rintro e w2 ⟨R, rfl, hR, k2⟩
      obtain ⟨cs, rfl⟩ : ∃ cs : List Value, R = cs.toArray := ⟨R.toList, by simp⟩
      have hcs : (Tryd.prog.info? 57).map (·.size) = some cs.length := by rw [infoWsSize]; have := hR.size; rw [List.size_toArray] at this; rw [this]
      have hun := Tryd.underlying57
      have K2 := Lib.hid (K0.out.trans (k1.trans k2))
      obtain ⟨w3, run3, but3, big3, s3⟩ := ws_st (WsAt.new w2 Z 57 hZ.size hZ.one _ rfl) hR.size hR.one
      have k3 := ((k1.trans k2).alloc Z 57).wrote1 but3 (k1.trans k2).size
      have k3' := (K2.out.alloc Z 57).wrote1 but3 K2.out.size
      have PK := Lib.hid (fun W (k : Kept w3 W) => show W.rangeAt w2.heap.size 0 cs ∧ W.cell? ⟨w.heap.size, 0, none⟩ = some (.int .i64 o.k) ∧ W.cell? ⟨w.heap.size, 1, none⟩ = some (.int .i64 o.a) ∧ W.cell? ⟨w.heap.size, 2, none⟩ = some (.int .i64 o.b) ∧ W.cell? ⟨w.heap.size, 3, none⟩ = some (.int .u64 o.u) ∧
          W.cell? ⟨w.heap.size + 1, 0, none⟩ = some (.int .i64 x.e) ∧ W.cell? ⟨w.heap.size + 1, 1, none⟩ = some (.int .i64 x.n) ∧ W.cell? ⟨w.heap.size + 1, 2, none⟩ = some (.int .u64 x.v) by
        have b := (BO.out.kept k3).kept k
        have y := (BA.out.kept k3).kept k
        exact ⟨(big3.kept k).at_, b.c0, b.c1, b.c2, b.c3, y.c0, y.c1, y.c2⟩)
      have K3 := Lib.hid k3'
      have B3 := Lib.hid big3
      have HR := Lib.hid hR
      clear k1 k2 k3 k3' but3 big3 s3 hR hZ
      obtain ⟨B, hB⟩ : ∃ B, w2.heap.size = B := ⟨_, rfl⟩
      rw [hB] at run3 PK B3
      go_wp2
      obtain ⟨ld3, b0, b1, b2, b3, x0, x1, x2⟩ := PK.out w3 (Kept.refl _)
      go_region_held3 (fun w' => w'.rangeAt B 0 cs ∧ w'.cell? ⟨w.heap.size, 0, none⟩ = some (.int .i64 o.k) ∧ w'.cell? ⟨w.heap.size, 1, none⟩ = some (.int .i64 o.a) ∧ w'.cell? ⟨w.heap.size, 2, none⟩ = some (.int .i64 o.b) ∧ w'.cell? ⟨w.heap.size, 3, none⟩ = some (.int .u64 o.u) ∧
          w'.cell? ⟨w.heap.size + 1, 0, none⟩ = some (.int .i64 x.e) ∧ w'.cell? ⟨w.heap.size + 1, 1, none⟩ = some (.int .i64 x.n) ∧ w'.cell? ⟨w.heap.size + 1, 2, none⟩ = some (.int .u64 x.v))
        (first | (with_reducible exact PK.out _ KT) | (with_reducible exact PK.out _ (by repeat (first | (with_reducible exact Kept.refl _) | (with_reducible refine Kept.drew ?_) | (with_reducible refine Kept.drewN ?_ _)))))
        (first
          | (go_at_call 35; refine (PS.out _ (K3.out.trans (by repeat (first | (with_reducible exact Kept.refl _) | (with_reducible refine Kept.drew ?_) | (with_reducible refine Kept.drewN ?_ _)))) _ HR.out).mono ?_; rintro e w4 hp; obtain ⟨a4, c4, rfl, k4', own4⟩ := hp.all; have KT : Kept w3 w4 := Kept.trans (by repeat (first | (with_reducible exact Kept.refl _) | (with_reducible refine Kept.drew ?_) | (with_reducible refine Kept.drewN ?_ _))) k4'; have L4 := Lib.hid (own_lies own4).lay; clear own4 k4')
          | (go_at_call 34; refine (HC.out _ _ _ _ L4.out rfl).mono ?_; rintro e w5 ⟨rfl, k5⟩; have KT := KT.trans k5))
      go_wp2
      exact bodyPost_ret (v := .tuple #[.slice none 0 0, .bool false]) (by simp [results, Tryd.results10, go_sem]) rfl (by rw [HL.out]; exact ⟨none, 0, by simp, K3.out.trans KT, World.ownsRow_nil _ _ _ _⟩)
  · have HA := Lib.hid (show allS s o = [] by simp [allS, hc])
    have HL := Lib.hid (show nextL s o x = [] by unfold nextL; rw [HA.out]; simp)
    have d0 : (chk s != 0) = true := by simpa using hc
    clear h hn hT hc
    go_enter Tryd.func10, Tryd.ntmps10
    go_wp2_with fail; refine (CH.out _ K0.out).mono ?_; rintro e w1 ⟨rfl, k1⟩
    go_wp2
    exact bodyPost_ret (v := .tuple #[.slice none 0 0, .bool false]) (by simp [results, Tryd.results10, go_sem]) rfl (by rw [HA.out, HL.out]; exact ⟨none, 0, by simp, K0.out.trans k1, World.ownsRow_nil _ _ _ _⟩)
end Go.Proofs.YtlkadickhhaakaaDoor
