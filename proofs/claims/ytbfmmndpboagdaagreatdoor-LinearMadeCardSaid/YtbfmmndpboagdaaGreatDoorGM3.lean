/- The first order, told by IDs: a queue. -/
import Derived.Test.YtbfmmndpboagdaaGreatDoorGM1
import Derived.Test.YtbfmmndpboagdaaGreatDoorGM2
import Derived.Test.YtbfmmndpboagdaaGreatDoorGP3
set_option maxRecDepth 20000
namespace Go.Proofs.YtbfmmndpboagdaaGreatDoor
open Go.RowKit Go.Shelf
attribute [local go_sem] Oper.semAt_some
attribute [local go_sem] Kept.refl Kept.drew Kept.drewN Kept.alloc

def IdRelU (W2 : World) (b : Nat) (v : Value) (l : List Sp) (o : List Nat) (n : Nat) (i : Value) (wr : World) : Prop :=
  ∃ k : Nat, k ≤ o.length ∧ i = .int .i64 k ∧ But (fun x => v.ownBlock = some x) W2 wr ∧ wr.ownsRow b 3 1 v n (ints (idsO l (o.take k) ++ SU.casts (o.drop k)))
set_option maxRecDepth 100000 in
theorem meth_fifo (v : Value) (W : World) : (method 339 85 v "coxswain/linear.orders").run Tryz.prog W = .ok (134, v) W := by kernel_rfl
set_option maxRecDepth 100000 in
set_option maxHeartbeats 400000 in
theorem order_fifo {w : World} {a : Option Addr} {n c : Nat} {l : List Sp} (h : Lay w (.slice a n c) n (flatS l)) (hn : n = l.length) (h10 : n ≤ 10) (r : Int) (hc : chkL 1 r l = 0) {I : Nat → List (List SU.El) → Prop} (hI : SU.Inv r (alikeM l) [] I) :
    Calls Tryz.prog 11 #[.int .i64 1, .int .i64 r, .slice a n c] w (RetO w l (dfs (SU.nextM r) (alikeM l) 10 0 [[]])) := by
  have CH := Lib.hid (fun W (k : Kept w W) => check_any 1 r (h.kept k) hn)
  simp only [hc] at CH
  have FI := Lib.hid (fun W (k : Kept w W) => finder_fifo (h.kept k) hn h10 r)
  have OB := fun t0 t1 t2 t3 => ord_box (w := w) (a := a) (n := n) (c := c) t0 t1 t2 t3
  have HOB := Lib.hid OB
  have HI := Lib.hid hI
  have HLay := Lib.hid h
  have HN := Lib.hid hn
  clear h hn hc OB hI
  refine (callsIn_wide (n := 6)).1 ?_
  refine callsIn_of_wp_marks Tryz.func11 rfl trivial ?_ rfl
  simp only [Tryz.ntmps11, List.size_toArray, List.length_cons, List.length_nil, Nat.reduceAdd, Nat.reduceSub, Array.replicate_succ, Array.replicate_zero, List.push_toArray, List.append_toArray, List.nil_append, List.cons_append]
  rw [wpIn_wide]
  go_wp2_with fail; refine (CH.out _ (HOB.out _ _ _ _).kept).mono ?_; rintro e w1 ⟨rfl, k1⟩
  obtain ⟨kw1, q0, q1, q2, q3⟩ := (HOB.out _ _ _ _).next k1
  have K1 := Lib.hid k1
  have SO1 := Lib.hid ((HOB.out _ _ _ _).soft k1)
  have SZ1 := Lib.hid (Nat.le_trans (Nat.le_of_eq (HOB.out _ _ _ _).size.symm) k1.size)
  have KW1 := Lib.hid kw1
  clear k1 kw1
  go_wp2_with fail; refine (FI.out _ KW1.out).mono ?_; rintro e w2 ⟨bM, bA, rb, sa, sc, rfl, k2, hs, henv⟩
  have HEN := Lib.hid henv
  clear henv
  have p0 := k2.some q0
  have p1 := k2.some q1
  have p2 := k2.some q2
  have p3 := k2.some q3
  have K2 := Lib.hid k2
  have HS := Lib.hid hs
  clear k2 hs
  have ME := fun v W => meth_fifo v W
  go_wp2_with fail; refine SU.orders_any.mono ?_; rintro e w3 ⟨bs, rfl, k3, hsb⟩
  have K3 := Lib.hid k3
  have HSB := Lib.hid hsb
  clear k3 hsb
  go_wp2_with fail; rename_i KK hKK
  rw [← wpIn_wide (n := 6)]
  refine range_once (α := List Nat) (Nn := dfs (SU.nextM r) (alikeM l) 10 0 [[]] = none) (So := fun o => dfs (SU.nextM r) (alikeM l) 10 0 [[]] = some o)
    (Arg := fun o v W0 W1 => ∃ a c, v = .slice a (SU.casts o).length c ∧ o.length ≤ 10 ∧ (∀ i ∈ o, i < (alikeM l).length) ∧ OwnI W1 W0.heap.size (.slice a (SU.casts o).length c) (SU.casts o)) (by decide)
    (gf := 137) (lb := #[.pointer (some ⟨bs, 0, none⟩)]) rfl (enters_of Tryz.func137 (by kernel_rfl) rfl)
    ?harg ?hseq ?aa ?hassign (fun o W3 => Kept w W3 ∧ ∃ a c, W3.cell? ⟨w.heap.size + 1, 0, none⟩ = some (.slice a o.length c) ∧ W3.cell? ⟨w.heap.size + 1 + 1, 0, none⟩ = some (.bool true) ∧ W3.cell? ⟨w.heap.size + 1 + 1 + 1, 0, none⟩ = some (.int .i64 0) ∧ OwnI W3 w.heap.size (.slice a o.length c) (idsO l o)) ?hbody ?hdone ?hstop
  case harg =>
    rintro o v W0 W1 ⟨a1, c1, rfl, _, _, own⟩ k hk
    exact (own.lt k hk).1
  case hseq =>
    intro l0 W0 Jx kW hl hy
    refine (callsIn_wide.2 (SU.orders1_any (Jx := Jx) (HSB.out.kept kW) (HS.out.kept (K3.out.trans kW)) (HEN.out.kept (K3.out.trans kW)) HI.out ?_)).mono ?_
    · intro o a1 c1 W1 k1 h10 hlt own
      exact SU.yield_any (hy o _ W1 k1 ⟨a1, c1, rfl, h10, hlt, own⟩)
    · rintro e w' ⟨rfl, h⟩
      exact ⟨⟨_, rfl⟩, h⟩
  case hassign =>
    intro l0 v W K hK
    gi_wp2
    exact hK
  case hbody =>
    rintro l0 o v W0 W1 W2 kW hge hl0 k1 ⟨a1, c1, rfl, ho10, hlo, own⟩ hb
    have il : (SU.casts o).length = o.length := by simp [SU.casts]
    have qL := hb.some (k1.some (kW.some (K3.out.some p0))) (by have h1 := SZ1.out; have h2 := K2.out.size; have h3 := K3.out.size; omega)
    have OW := Lib.hid (own_but own hb fun g hg e => by have := (own.lt g hg).1; omega)
    rw [alike_len] at hlo
    have HLO := Lib.hid hlo
    clear own hlo
    gi_wp2
    rw [il] at OW
    simp only [il]
    gi_loopw [28] (IdRelU W2 W0.heap.size (.slice a1 o.length c1) l o o.length) (fun i _ => o.length - (intOf i).toNat)
    case atStart => exact ⟨0, Nat.zero_le _, rfl, But.refl _ _, by simpa [idsO] using OW.out⟩
    case round =>
      obtain ⟨k, hk, rfl, hbk, hok⟩ := hrel
      have BK := Lib.hid hbk
      have OK := Lib.hid hok
      clear hbk hok
      have qk := BK.out.some qL (fun e => by have h1 := SZ1.out; have h2 := K2.out.size; have h3 := K3.out.size; have h4 := kW.size; have h5 := (OW.out.lt _ e).1; omega)
      by_cases hlt : k < o.length
      · obtain ⟨i, hi⟩ : ∃ i, o[k]? = some i := ⟨_, List.getElem?_eq_getElem hlt⟩
        have hil := HLO.out i (List.mem_of_getElem? hi)
        obtain ⟨s, hs⟩ : ∃ s, l[i]? = some s := ⟨_, List.getElem?_eq_getElem hil⟩
        have LL : (idsO l (o.take k) ++ SU.casts (o.drop k)).length = o.length := by simp [idsO, SU.casts]; omega
        have LK : (idsO l (o.take k) ++ SU.casts (o.drop k))[k]? = some (i : Int) := by
          rw [List.getElem?_append_right (by simp [idsO]; omega)]
          simp [idsO, SU.casts, Nat.min_eq_left (Nat.le_of_lt hlt), hi]
        have ST := Lib.hid (show (idsO l (o.take k) ++ SU.casts (o.drop k)).set k s.id = idsO l (o.take (k + 1)) ++ SU.casts (o.drop (k + 1)) by
          have e1 : (idsO l (o.take k)).length = k := by simp [idsO]; omega
          rw [List.set_append_right _ _ (by omega), e1, Nat.sub_self]
          have e2 : o.drop k = i :: o.drop (k + 1) := by
            rw [List.drop_eq_getElem_cons hlt]
            congr 1
            exact Option.some.inj ((List.getElem?_eq_getElem hlt).symm.trans hi)
          have e3 : o.take (k + 1) = o.take k ++ [i] := by rw [List.take_add_one, hi]; rfl
          rw [e2, e3]
          simp [idsO, SU.casts, hs])
        obtain ⟨g, p, e, cn⟩ := num_one (own_lies OK.out).lay LL.symm k (i : Int) LK
        cases e
        obtain ⟨rfl, _, _, _, _, FI⟩ := filled_of_own OK.out
        rw [Nat.zero_add] at cn
        have fz := FI.soft k
        have KWr := Lib.hid (show Kept w wr from ((KW1.out.trans (K2.out.trans (K3.out.trans (kW.trans k1)))).put hb fun j e => by have h1 := SZ1.out; have h2 := K2.out.size; have h3 := K3.out.size; omega).put BK.out fun j e => by have h1 := SZ1.out; have h2 := K2.out.size; have h3 := K3.out.size; have h4 := kW.size; have h5 := (OW.out.lt _ e).1; omega)
        obtain ⟨gl, ol, e, c0, _⟩ := sp_one (HLay.out.kept KWr.out) HN.out i s hs
        cases e
        have inn : (i : Int) < (n : Int) := by have := HN.out; omega
        have LLh := Lib.hid LL
        have LKh := Lib.hid LK
        clear hs hi LL LK FI
        gi_wp2
        go_roundw
        case rel => exact ⟨k + 1, by omega, by go_num, BK.out.setCell (p := ⟨g, k, none⟩) (.inl rfl) _, by
          rw [← ST.out]
          exact own_num (by rw [LLh.out]; omega) OK.out⟩
        case measure => simp [intOf]; omega
      · have hk9 : k = o.length := by omega
        have KWr := Lib.hid (show Kept w wr from ((KW1.out.trans (K2.out.trans (K3.out.trans (kW.trans k1)))).put hb fun j e => by have h1 := SZ1.out; have h2 := K2.out.size; have h3 := K3.out.size; omega).put BK.out fun j e => by have h1 := SZ1.out; have h2 := K2.out.size; have h3 := K3.out.size; have h4 := kW.size; have h5 := (OW.out.lt _ e).1; omega)
        have low := SZ1.out
        have low2 := K2.out.size
        have low3 := K3.out.size
        have low4 := kW.size
        have low5 := k1.size
        have nob : ∀ j, j ≤ w.heap.size + 1 + 1 + 1 → ¬ (Value.slice a1 o.length c1).ownBlock = some j := fun j hj e => by have h5 := (OW.out.lt _ e).1; omega
        have KS := K2.out.trans (K3.out.trans (kW.trans k1))
        have z1 := BK.out.some (hb.some ((kW.trans k1).some (K3.out.some p1)) (by omega)) (nob _ (by omega))
        have z2 := BK.out.some (hb.some ((kW.trans k1).some (K3.out.some p2)) (by omega)) (nob _ (by omega))
        have z3 := BK.out.some (hb.some ((kW.trans k1).some (K3.out.some p3)) (by omega)) (nob _ (by omega))
        have f1 := BK.out.soft (by have := hb.size; omega) (hb.soft (by omega) (KS.soft (by omega) SO1.out.1))
        have f2 := BK.out.soft (by have := hb.size; omega) (hb.soft (by omega) (KS.soft (by omega) SO1.out.2.1))
        have f3 := BK.out.soft (by have := hb.size; omega) (hb.soft (by omega) (KS.soft (by omega) SO1.out.2.2))
        obtain ⟨X, hX, x1, x2, x3, bX⟩ := three_set (W := wr) (b := w.heap.size + 1) (.slice a1 o.length c1) (.bool true) (.int .i64 0) z1 z2 z3
        have FIN := Lib.hid (show (Kept w X ∧ ∃ a c, X.cell? ⟨w.heap.size + 1, 0, none⟩ = some (.slice a o.length c) ∧ X.cell? ⟨w.heap.size + 1 + 1, 0, none⟩ = some (.bool true) ∧ X.cell? ⟨w.heap.size + 1 + 1 + 1, 0, none⟩ = some (.int .i64 0) ∧ OwnI X w.heap.size (.slice a o.length c) (idsO l o)) ∧ But (fun j => j < w3.heap.size ∨ (Value.slice a1 o.length c1).ownBlock = some j) W2 X by
          refine ⟨⟨KWr.out.put bX fun j h => by omega, a1, c1, x1, x2, x3, ?_⟩, (BK.out.mono fun _ _ h => .inr h).trans bX fun j _ h => .inl (by omega)⟩
          have h9 := own_mono (own_but OK.out bX fun g hg h => nob g (by omega) hg) (show w.heap.size ≤ W0.heap.size by omega)
          have e9 : idsO l (o.take k) ++ SU.casts (o.drop k) = idsO l o := by rw [hk9, List.take_length, List.drop_length]; simp [SU.casts]
          rw [e9] at h9
          have e8 : (idsO l o).length = o.length := by simp [idsO]
          unfold OwnI
          rw [e8]
          exact h9)
        have HX := Lib.hid hX
        have F2 := Lib.hid (show OwnI X w.heap.size (.slice a1 o.length c1) (idsO l o) by
          obtain ⟨⟨_, a', c', e1, _, _, h9⟩, _⟩ := FIN.out
          rw [x1] at e1
          injection e1 with e1
          injection e1 with e1 _ e3
          rw [e1, e3]
          exact h9)
        clear hX x1 x2 x3 bX KS low low2 low3 low4 low5 nob
        subst hk9
        gi_wp2
        rw [HX.out]
        exact ⟨⟨FIN.out.1.1, a1, c1, ⟨rfl, rfl⟩, F2.out⟩, FIN.out.2⟩
  case hdone =>
    intro D W hN kW hD hK
    apply hKK
    have p1' := kW.some (K3.out.some p1)
    have p2' := kW.some (K3.out.some p2)
    have p3' := kW.some (K3.out.some p3)
    have KS := K2.out.trans (K3.out.trans kW)
    have f1 := KS.soft (by have := SZ1.out; omega) SO1.out.1
    have f2 := KS.soft (by have := SZ1.out; omega) SO1.out.2.1
    have f3 := KS.soft (by have := SZ1.out; omega) SO1.out.2.2
    have HKD := Lib.hid hK
    have KWW := Lib.hid (KW1.out.trans KS)
    have HD := Lib.hid (show w.heap.size + 1 + 1 + 1 < D by have h1 := SZ1.out; have h2 := K2.out.size; have h3 := K3.out.size; omega)
    obtain ⟨X, hX, x1, x2, x3, bX⟩ := three_set (W := W) (b := w.heap.size + 1) (.slice none 0 0) (.bool false) (.int .i64 0) p1' p2' p3'
    have HX := Lib.hid hX
    have X1 := Lib.hid x1
    have X2 := Lib.hid x2
    have X3 := Lib.hid x3
    have BX := Lib.hid bX
    clear KS hK hX x1 x2 x3 bX
    go_wp2
    rw [HX.out]
    have dX := (BX.out.block D (Array.getElem?_eq_some_iff.1 HKD.out).1 (by have := HD.out; omega)).trans HKD.out
    have bY : But (fun k => k = D) X (X.putObj D (.deferred none)) := (But.refl _ _).turned dX rfl rfl (.inl rfl)
    have y1 := bY.some X1.out (by have := HD.out; omega)
    have y2 := bY.some X2.out (by have := HD.out; omega)
    have y3 := bY.some X3.out (by have := HD.out; omega)
    refine ⟨by simp, .inl ⟨_, _, rfl, run_takeDeferred dX, ?_⟩⟩
    refine ⟨.tuple #[.slice none 0 0, .bool false, .int .i64 0], by simp [results, Tryz.results11, go_sem, y1, y2, y3], ?_, .inl ⟨hN, rfl⟩⟩
    exact (KWW.out.put BX.out fun j h => by omega).put bY fun j h => by have := HD.out; omega
  case hstop =>
    rintro D l0 o W3 W hS ⟨kB, a1, c1, z1, z2, z3, own⟩ hl ⟨ly, hly⟩ hb hD hK
    have hd4 : w.heap.size + 1 + 1 + 1 + 1 ≤ l0 ∧ w.heap.size + 1 + 1 + 1 + 1 ≤ D := by have h1 := SZ1.out; have h2 := K2.out.size; have h3 := K3.out.size; omega
    have il : (idsO l o).length = o.length := by simp [idsO]
    have own2 : OwnI W w.heap.size (.slice a1 o.length c1) (idsO l o) := own_but own hb fun g hg e => by
      subst e
      rcases own.2 with ⟨h1, _⟩ | ⟨g2, c2, cur2, h1, _, h2, _⟩
      · rw [h1] at hg; cases hg
      · rw [h1] at hg
        have e2 : g2 = g := by simpa [Value.ownBlock] using hg
        rw [e2, hly] at h2
        cases h2
    have y1 := hb.some z1 (by omega)
    have y2 := hb.some z2 (by omega)
    have y3 := hb.some z3 (by omega)
    have bY : But (fun k => k = D) W (W.putObj D (.deferred none)) := (But.refl _ _).turned hK rfl rfl (.inl rfl)
    have x1 := bY.some y1 (by omega)
    have x2 := bY.some y2 (by omega)
    have x3 := bY.some y3 (by omega)
    rw [wpIn_wide]
    go_wp2
    refine ⟨by simp, .inl ⟨_, _, rfl, run_takeDeferred hK, ?_⟩⟩
    refine ⟨.tuple #[.slice a1 o.length c1, .bool true, .int .i64 0], by simp [results, Tryz.results11, go_sem, x1, x2, x3], (kB.put hb fun j h => by omega).put bY fun j h => by omega, .inr ⟨o, a1, c1, hS, rfl, ?_⟩⟩
    exact ownsRow_putObj own2 _ hK rfl
end Go.Proofs.YtbfmmndpboagdaaGreatDoor

set_option maxRecDepth 20000
namespace Go.Proofs.YtbfmmndpboagdaaGreatDoor
open Go.RowKit Go.Shelf
attribute [local go_sem] Oper.semAt_some
attribute [local go_sem] Kept.refl Kept.drew Kept.drewN Kept.alloc

def IdRelN (W2 : World) (b : Nat) (v : Value) (l : List Sp) (o : List Nat) (n : Nat) (i : Value) (wr : World) : Prop :=
  ∃ k : Nat, k ≤ o.length ∧ i = .int .i64 k ∧ But (fun x => v.ownBlock = some x) W2 wr ∧ wr.ownsRow b 3 1 v n (ints (idsO l (o.take k) ++ SN.casts (o.drop k)))
set_option maxRecDepth 100000 in
theorem meth_pool (v : Value) (W : World) : (method 339 108 v "coxswain/linear.orders").run Tryz.prog W = .ok (157, v) W := by kernel_rfl
set_option maxRecDepth 100000 in
set_option maxHeartbeats 400000 in
theorem order_pool {w : World} {a : Option Addr} {n c : Nat} {l : List Sp} (h : Lay w (.slice a n c) n (flatS l)) (hn : n = l.length) (h10 : n ≤ 10) (r : Int) (hc : chkL 3 r l = 0) {I : Nat → List (List SN.El) → Prop} (hT : Po.Tab w) (hI : SN.Inv r l (firstN r l) I) :
    Calls Tryz.prog 11 #[.int .i64 3, .int .i64 r, .slice a n c] w (RetO w l (dfs (SN.nextM r) l 10 0 [firstN r l])) := by
  have CH := Lib.hid (fun W (k : Kept w W) => check_any 3 r (h.kept k) hn)
  simp only [hc] at CH
  have FI := Lib.hid (fun W (k : Kept w W) => finder_pool (h.kept k) hn h10 (hT.kept k) r ((hI.ok 0 _ (by decide) hI.start).1 _ (List.mem_singleton_self _)).1 ((hI.ok 0 _ (by decide) hI.start).1 _ (List.mem_singleton_self _)))
  have OB := fun t0 t1 t2 t3 => ord_box (w := w) (a := a) (n := n) (c := c) t0 t1 t2 t3
  have HOB := Lib.hid OB
  have HI := Lib.hid hI
  have HTT := Lib.hid (show SN.Env 0 r w from hT)
  have HLay := Lib.hid h
  have HN := Lib.hid hn
  clear h hn hc OB hI hT
  refine (callsIn_wide (n := 6)).1 ?_
  refine callsIn_of_wp_marks Tryz.func11 rfl trivial ?_ rfl
  simp only [Tryz.ntmps11, List.size_toArray, List.length_cons, List.length_nil, Nat.reduceAdd, Nat.reduceSub, Array.replicate_succ, Array.replicate_zero, List.push_toArray, List.append_toArray, List.nil_append, List.cons_append]
  rw [wpIn_wide]
  go_wp2_with fail; refine (CH.out _ (HOB.out _ _ _ _).kept).mono ?_; rintro e w1 ⟨rfl, k1⟩
  obtain ⟨kw1, q0, q1, q2, q3⟩ := (HOB.out _ _ _ _).next k1
  have K1 := Lib.hid k1
  have SO1 := Lib.hid ((HOB.out _ _ _ _).soft k1)
  have SZ1 := Lib.hid (Nat.le_trans (Nat.le_of_eq (HOB.out _ _ _ _).size.symm) k1.size)
  have KW1 := Lib.hid kw1
  clear k1 kw1
  go_wp2_with fail; refine (FI.out _ KW1.out).mono ?_; rintro e w2 ⟨bM, bA, rfl, k2, hs⟩
  have p0 := k2.some q0
  have p1 := k2.some q1
  have p2 := k2.some q2
  have p3 := k2.some q3
  have K2 := Lib.hid k2
  have HS := Lib.hid hs
  clear k2 hs
  have ME := fun v W => meth_pool v W
  go_wp2_with fail; refine SN.orders_any.mono ?_; rintro e w3 ⟨bs, rfl, k3, hsb⟩
  have K3 := Lib.hid k3
  have HSB := Lib.hid hsb
  clear k3 hsb
  go_wp2_with fail; rename_i KK hKK
  rw [← wpIn_wide (n := 6)]
  refine range_once (α := List Nat) (Nn := dfs (SN.nextM r) l 10 0 [firstN r l] = none) (So := fun o => dfs (SN.nextM r) l 10 0 [firstN r l] = some o)
    (Arg := fun o v W0 W1 => ∃ a c, v = .slice a (SN.casts o).length c ∧ o.length ≤ 10 ∧ (∀ i ∈ o, i < l.length) ∧ OwnI W1 W0.heap.size (.slice a (SN.casts o).length c) (SN.casts o)) (by decide)
    (gf := 159) (lb := #[.pointer (some ⟨bs, 0, none⟩)]) rfl (enters_of Tryz.func159 (by kernel_rfl) rfl)
    ?harg ?hseq ?aa ?hassign (fun o W3 => Kept w W3 ∧ ∃ a c, W3.cell? ⟨w.heap.size + 1, 0, none⟩ = some (.slice a o.length c) ∧ W3.cell? ⟨w.heap.size + 1 + 1, 0, none⟩ = some (.bool true) ∧ W3.cell? ⟨w.heap.size + 1 + 1 + 1, 0, none⟩ = some (.int .i64 0) ∧ OwnI W3 w.heap.size (.slice a o.length c) (idsO l o)) ?hbody ?hdone ?hstop
  case harg =>
    rintro o v W0 W1 ⟨a1, c1, rfl, _, _, own⟩ k hk
    exact (own.lt k hk).1
  case hseq =>
    intro l0 W0 Jx kW hl hy
    refine (callsIn_wide.2 (SN.orders1_any (Jx := Jx) (HSB.out.kept kW) (HS.out.kept (K3.out.trans kW)) (HTT.out.kept (KW1.out.trans (K2.out.trans (K3.out.trans kW)))) HI.out ?_)).mono ?_
    · intro o a1 c1 W1 k1 h10 hlt own
      exact SN.yield_any (hy o _ W1 k1 ⟨a1, c1, rfl, h10, hlt, own⟩)
    · rintro e w' ⟨rfl, h⟩
      exact ⟨⟨_, rfl⟩, h⟩
  case hassign =>
    intro l0 v W K hK
    gi_wp2
    exact hK
  case hbody =>
    rintro l0 o v W0 W1 W2 kW hge hl0 k1 ⟨a1, c1, rfl, ho10, hlo, own⟩ hb
    have il : (SN.casts o).length = o.length := by simp [SN.casts]
    have qL := hb.some (k1.some (kW.some (K3.out.some p0))) (by have h1 := SZ1.out; have h2 := K2.out.size; have h3 := K3.out.size; omega)
    have OW := Lib.hid (own_but own hb fun g hg e => by have := (own.lt g hg).1; omega)
    have HLO := Lib.hid hlo
    clear own hlo
    gi_wp2
    rw [il] at OW
    simp only [il]
    gi_loopw [28] (IdRelN W2 W0.heap.size (.slice a1 o.length c1) l o o.length) (fun i _ => o.length - (intOf i).toNat)
    case atStart => exact ⟨0, Nat.zero_le _, rfl, But.refl _ _, by simpa [idsO] using OW.out⟩
    case round =>
      obtain ⟨k, hk, rfl, hbk, hok⟩ := hrel
      have BK := Lib.hid hbk
      have OK := Lib.hid hok
      clear hbk hok
      have qk := BK.out.some qL (fun e => by have h1 := SZ1.out; have h2 := K2.out.size; have h3 := K3.out.size; have h4 := kW.size; have h5 := (OW.out.lt _ e).1; omega)
      by_cases hlt : k < o.length
      · obtain ⟨i, hi⟩ : ∃ i, o[k]? = some i := ⟨_, List.getElem?_eq_getElem hlt⟩
        have hil := HLO.out i (List.mem_of_getElem? hi)
        obtain ⟨s, hs⟩ : ∃ s, l[i]? = some s := ⟨_, List.getElem?_eq_getElem hil⟩
        have LL : (idsO l (o.take k) ++ SN.casts (o.drop k)).length = o.length := by simp [idsO, SN.casts]; omega
        have LK : (idsO l (o.take k) ++ SN.casts (o.drop k))[k]? = some (i : Int) := by
          rw [List.getElem?_append_right (by simp [idsO]; omega)]
          simp [idsO, SN.casts, Nat.min_eq_left (Nat.le_of_lt hlt), hi]
        have ST := Lib.hid (show (idsO l (o.take k) ++ SN.casts (o.drop k)).set k s.id = idsO l (o.take (k + 1)) ++ SN.casts (o.drop (k + 1)) by
          have e1 : (idsO l (o.take k)).length = k := by simp [idsO]; omega
          rw [List.set_append_right _ _ (by omega), e1, Nat.sub_self]
          have e2 : o.drop k = i :: o.drop (k + 1) := by
            rw [List.drop_eq_getElem_cons hlt]
            congr 1
            exact Option.some.inj ((List.getElem?_eq_getElem hlt).symm.trans hi)
          have e3 : o.take (k + 1) = o.take k ++ [i] := by rw [List.take_add_one, hi]; rfl
          rw [e2, e3]
          simp [idsO, SN.casts, hs])
        obtain ⟨g, p, e, cn⟩ := num_one (own_lies OK.out).lay LL.symm k (i : Int) LK
        cases e
        obtain ⟨rfl, _, _, _, _, FI⟩ := filled_of_own OK.out
        rw [Nat.zero_add] at cn
        have fz := FI.soft k
        have KWr := Lib.hid (show Kept w wr from ((KW1.out.trans (K2.out.trans (K3.out.trans (kW.trans k1)))).put hb fun j e => by have h1 := SZ1.out; have h2 := K2.out.size; have h3 := K3.out.size; omega).put BK.out fun j e => by have h1 := SZ1.out; have h2 := K2.out.size; have h3 := K3.out.size; have h4 := kW.size; have h5 := (OW.out.lt _ e).1; omega)
        obtain ⟨gl, ol, e, c0, _⟩ := sp_one (HLay.out.kept KWr.out) HN.out i s hs
        cases e
        have inn : (i : Int) < (n : Int) := by have := HN.out; omega
        have LLh := Lib.hid LL
        have LKh := Lib.hid LK
        clear hs hi LL LK FI
        gi_wp2
        go_roundw
        case rel => exact ⟨k + 1, by omega, by go_num, BK.out.setCell (p := ⟨g, k, none⟩) (.inl rfl) _, by
          rw [← ST.out]
          exact own_num (by rw [LLh.out]; omega) OK.out⟩
        case measure => simp [intOf]; omega
      · have hk9 : k = o.length := by omega
        have KWr := Lib.hid (show Kept w wr from ((KW1.out.trans (K2.out.trans (K3.out.trans (kW.trans k1)))).put hb fun j e => by have h1 := SZ1.out; have h2 := K2.out.size; have h3 := K3.out.size; omega).put BK.out fun j e => by have h1 := SZ1.out; have h2 := K2.out.size; have h3 := K3.out.size; have h4 := kW.size; have h5 := (OW.out.lt _ e).1; omega)
        have low := SZ1.out
        have low2 := K2.out.size
        have low3 := K3.out.size
        have low4 := kW.size
        have low5 := k1.size
        have nob : ∀ j, j ≤ w.heap.size + 1 + 1 + 1 → ¬ (Value.slice a1 o.length c1).ownBlock = some j := fun j hj e => by have h5 := (OW.out.lt _ e).1; omega
        have KS := K2.out.trans (K3.out.trans (kW.trans k1))
        have z1 := BK.out.some (hb.some ((kW.trans k1).some (K3.out.some p1)) (by omega)) (nob _ (by omega))
        have z2 := BK.out.some (hb.some ((kW.trans k1).some (K3.out.some p2)) (by omega)) (nob _ (by omega))
        have z3 := BK.out.some (hb.some ((kW.trans k1).some (K3.out.some p3)) (by omega)) (nob _ (by omega))
        have f1 := BK.out.soft (by have := hb.size; omega) (hb.soft (by omega) (KS.soft (by omega) SO1.out.1))
        have f2 := BK.out.soft (by have := hb.size; omega) (hb.soft (by omega) (KS.soft (by omega) SO1.out.2.1))
        have f3 := BK.out.soft (by have := hb.size; omega) (hb.soft (by omega) (KS.soft (by omega) SO1.out.2.2))
        obtain ⟨X, hX, x1, x2, x3, bX⟩ := three_set (W := wr) (b := w.heap.size + 1) (.slice a1 o.length c1) (.bool true) (.int .i64 0) z1 z2 z3
        have FIN := Lib.hid (show (Kept w X ∧ ∃ a c, X.cell? ⟨w.heap.size + 1, 0, none⟩ = some (.slice a o.length c) ∧ X.cell? ⟨w.heap.size + 1 + 1, 0, none⟩ = some (.bool true) ∧ X.cell? ⟨w.heap.size + 1 + 1 + 1, 0, none⟩ = some (.int .i64 0) ∧ OwnI X w.heap.size (.slice a o.length c) (idsO l o)) ∧ But (fun j => j < w3.heap.size ∨ (Value.slice a1 o.length c1).ownBlock = some j) W2 X by
          refine ⟨⟨KWr.out.put bX fun j h => by omega, a1, c1, x1, x2, x3, ?_⟩, (BK.out.mono fun _ _ h => .inr h).trans bX fun j _ h => .inl (by omega)⟩
          have h9 := own_mono (own_but OK.out bX fun g hg h => nob g (by omega) hg) (show w.heap.size ≤ W0.heap.size by omega)
          have e9 : idsO l (o.take k) ++ SN.casts (o.drop k) = idsO l o := by rw [hk9, List.take_length, List.drop_length]; simp [SN.casts]
          rw [e9] at h9
          have e8 : (idsO l o).length = o.length := by simp [idsO]
          unfold OwnI
          rw [e8]
          exact h9)
        have HX := Lib.hid hX
        have F2 := Lib.hid (show OwnI X w.heap.size (.slice a1 o.length c1) (idsO l o) by
          obtain ⟨⟨_, a', c', e1, _, _, h9⟩, _⟩ := FIN.out
          rw [x1] at e1
          injection e1 with e1
          injection e1 with e1 _ e3
          rw [e1, e3]
          exact h9)
        clear hX x1 x2 x3 bX KS low low2 low3 low4 low5 nob
        subst hk9
        gi_wp2
        rw [HX.out]
        exact ⟨⟨FIN.out.1.1, a1, c1, ⟨rfl, rfl⟩, F2.out⟩, FIN.out.2⟩
  case hdone =>
    intro D W hN kW hD hK
    apply hKK
    have p1' := kW.some (K3.out.some p1)
    have p2' := kW.some (K3.out.some p2)
    have p3' := kW.some (K3.out.some p3)
    have KS := K2.out.trans (K3.out.trans kW)
    have f1 := KS.soft (by have := SZ1.out; omega) SO1.out.1
    have f2 := KS.soft (by have := SZ1.out; omega) SO1.out.2.1
    have f3 := KS.soft (by have := SZ1.out; omega) SO1.out.2.2
    have HKD := Lib.hid hK
    have KWW := Lib.hid (KW1.out.trans KS)
    have HD := Lib.hid (show w.heap.size + 1 + 1 + 1 < D by have h1 := SZ1.out; have h2 := K2.out.size; have h3 := K3.out.size; omega)
    obtain ⟨X, hX, x1, x2, x3, bX⟩ := three_set (W := W) (b := w.heap.size + 1) (.slice none 0 0) (.bool false) (.int .i64 0) p1' p2' p3'
    have HX := Lib.hid hX
    have X1 := Lib.hid x1
    have X2 := Lib.hid x2
    have X3 := Lib.hid x3
    have BX := Lib.hid bX
    clear KS hK hX x1 x2 x3 bX
    go_wp2
    rw [HX.out]
    have dX := (BX.out.block D (Array.getElem?_eq_some_iff.1 HKD.out).1 (by have := HD.out; omega)).trans HKD.out
    have bY : But (fun k => k = D) X (X.putObj D (.deferred none)) := (But.refl _ _).turned dX rfl rfl (.inl rfl)
    have y1 := bY.some X1.out (by have := HD.out; omega)
    have y2 := bY.some X2.out (by have := HD.out; omega)
    have y3 := bY.some X3.out (by have := HD.out; omega)
    refine ⟨by simp, .inl ⟨_, _, rfl, run_takeDeferred dX, ?_⟩⟩
    refine ⟨.tuple #[.slice none 0 0, .bool false, .int .i64 0], by simp [results, Tryz.results11, go_sem, y1, y2, y3], ?_, .inl ⟨hN, rfl⟩⟩
    exact (KWW.out.put BX.out fun j h => by omega).put bY fun j h => by have := HD.out; omega
  case hstop =>
    rintro D l0 o W3 W hS ⟨kB, a1, c1, z1, z2, z3, own⟩ hl ⟨ly, hly⟩ hb hD hK
    have hd4 : w.heap.size + 1 + 1 + 1 + 1 ≤ l0 ∧ w.heap.size + 1 + 1 + 1 + 1 ≤ D := by have h1 := SZ1.out; have h2 := K2.out.size; have h3 := K3.out.size; omega
    have il : (idsO l o).length = o.length := by simp [idsO]
    have own2 : OwnI W w.heap.size (.slice a1 o.length c1) (idsO l o) := own_but own hb fun g hg e => by
      subst e
      rcases own.2 with ⟨h1, _⟩ | ⟨g2, c2, cur2, h1, _, h2, _⟩
      · rw [h1] at hg; cases hg
      · rw [h1] at hg
        have e2 : g2 = g := by simpa [Value.ownBlock] using hg
        rw [e2, hly] at h2
        cases h2
    have y1 := hb.some z1 (by omega)
    have y2 := hb.some z2 (by omega)
    have y3 := hb.some z3 (by omega)
    have bY : But (fun k => k = D) W (W.putObj D (.deferred none)) := (But.refl _ _).turned hK rfl rfl (.inl rfl)
    have x1 := bY.some y1 (by omega)
    have x2 := bY.some y2 (by omega)
    have x3 := bY.some y3 (by omega)
    rw [wpIn_wide]
    go_wp2
    refine ⟨by simp, .inl ⟨_, _, rfl, run_takeDeferred hK, ?_⟩⟩
    refine ⟨.tuple #[.slice a1 o.length c1, .bool true, .int .i64 0], by simp [results, Tryz.results11, go_sem, x1, x2, x3], (kB.put hb fun j h => by omega).put bY fun j h => by omega, .inr ⟨o, a1, c1, hS, rfl, ?_⟩⟩
    exact ownsRow_putObj own2 _ hK rfl
end Go.Proofs.YtbfmmndpboagdaaGreatDoor

set_option maxRecDepth 20000
namespace Go.Proofs.YtbfmmndpboagdaaGreatDoor
open Go.RowKit

set_option maxHeartbeats 1000000 in
theorem call_any (id f t k x y u e n v : Int) (w : World) : Calls Tryz.prog 6 #[.int .i64 id, .int .i64 f, .int .i64 t, .agg #[.int .i64 k, .int .i64 x, .int .i64 y, .int .u64 u], .agg #[.int .i64 e, .int .i64 n, .int .u64 v]] w
    fun ed w' => ed = .returned (.agg #[.int .i64 id, .int .i64 f, .int .i64 t, .int .i64 k, .int .i64 x, .int .i64 y, .int .u64 u, .int .i64 e, .int .i64 n, .int .u64 v]) ∧ Kept w w' := by
  go_enter Tryz.func6, Tryz.ntmps6
  go_wp2
  refine bodyPost_ret (v := .agg #[.int .i64 id, .int .i64 f, .int .i64 t, .int .i64 k, .int .i64 x, .int .i64 y, .int .u64 u, .int .i64 e, .int .i64 n, .int .u64 v]) (by simp [results, Tryz.results6, go_sem]) rfl ⟨rfl, ?_⟩
  (go_light; repeat (first | (with_reducible exact Kept.refl _) | (with_reducible assumption) | (with_reducible refine Kept.alloc ?_ _ _) | (with_reducible refine Kept.drew ?_) | (with_reducible refine Kept.drewN ?_ _) | ((with_reducible refine Kept.setCell ?_ ?_ _); rotate_left; focus (first | (simp; done) | (simp; omega))) | refine Kept.trans ?_ (by assumption)))
def stS (p v : Value) : Sem Unit := Instr.storeAt 29 p v
theorem stS_named (p v : Value) : Instr.storeAt 29 p v = stS p v := rfl
theorem sizeS : (Tryz.prog.info? 29).map (·.size) = some 10 := by kernel_rfl
theorem spc_one (e : Sp) : ∀ v ∈ spc e, v.oneCell' = true := by
  intro v hv
  simp [spc] at hv
  rcases hv with h | h | h | h | h | h | h | h | h | h <;> subst h <;> rfl
theorem span_home {W v1 : World} (kv : Kept (W.alloc (.cells #[.int .i64 0, .int .i64 0, .int .i64 0, .int .i64 0, .int .i64 0, .int .i64 0, .int .u64 0, .int .i64 0, .int .i64 0, .int .u64 0] 29)) v1) (e : Sp) :
    ∃ W9, (stS (.pointer (some ⟨W.heap.size, 0, none⟩)) (.agg #[.int .i64 e.id, .int .i64 e.from_, .int .i64 e.to, .int .i64 e.k, .int .i64 e.x, .int .i64 e.y, .int .u64 e.u, .int .i64 e.er, .int .i64 e.n, .int .u64 e.v])).run Tryz.prog v1 = .ok () W9 ∧ W9.rangeAt W.heap.size 0 (spc e) ∧ But (fun x => x = W.heap.size) v1 W9 := by
  have TH : v1.there W.heap.size 0 10 := fun j hj => by
    obtain ⟨v, hv⟩ : ∃ v, (#[.int .i64 0, .int .i64 0, .int .i64 0, .int .i64 0, .int .i64 0, .int .i64 0, .int .u64 0, .int .i64 0, .int .i64 0, .int .u64 0] : Array Value)[j]? = some v := ⟨_, Array.getElem?_eq_getElem (by simpa using hj)⟩
    have c := cell_new W #[.int .i64 0, .int .i64 0, .int .i64 0, .int .i64 0, .int .i64 0, .int .i64 0, .int .u64 0, .int .i64 0, .int .i64 0, .int .u64 0] 29 W.heap.size j rfl
    rw [hv] at c
    rw [Nat.zero_add]
    exact ⟨by rw [kv.some c]; rfl, kv.soft (lt_of_cell c) (soft_new _ _ _ _ _ rfl)⟩
  refine ⟨v1.setCells W.heap.size 0 (spc e), ?_, ?_, but_setCells _ _ _ (But.refl _ _)⟩
  · exact storeMid_any (w := v1) (b := W.heap.size) (o := 0) (T := 29) (R := #[.int .i64 e.id, .int .i64 e.from_, .int .i64 e.to, .int .i64 e.k, .int .i64 e.x, .int .i64 e.y, .int .u64 e.u, .int .i64 e.er, .int .i64 e.n, .int .u64 e.v]) TH sizeS (spc_one e)
  · exact World.rangeAt_setCells_same v1 W.heap.size 0 (spc e) TH
theorem span_result {fn : Func} {tmps : Array Value} {n b : Nat} {w : World} {e : Sp} (hr : fn.results = #[.cell n 29]) (ht : tmps.getD n undef = .pointer (some ⟨b, 0, none⟩)) (h : w.rangeAt b 0 (spc e)) :
    (results fn tmps).run Tryz.prog w = .ok (.agg #[.int .i64 e.id, .int .i64 e.from_, .int .i64 e.to, .int .i64 e.k, .int .i64 e.x, .int .i64 e.y, .int .u64 e.u, .int .i64 e.er, .int .i64 e.n, .int .u64 e.v]) w := by
  have hv : (loadVar 29 ⟨b, 0, none⟩).run Tryz.prog w = .ok (.agg (spc e).toArray) w := loadVar_any Tryz.underlying29 rfl sizeS h
  have ht' : tmps[n]?.getD undef = .pointer (some ⟨b, 0, none⟩) := by simpa using ht
  unfold results
  rw [hr]
  simp [ht', asAddr, hv, spc]
attribute [local go_sem ↓] stS_named
set_option maxHeartbeats 1000000 in
theorem push_call (f t : Int) (w : World) : Calls Tryz.prog 14 #[.int .i64 f, .int .i64 t] w
    fun ed w' => ed = .returned (.agg #[.int .i64 1, .int .i64 f, .int .i64 t, .int .i64 1, .int .i64 0, .int .i64 0, .int .u64 5, .int .i64 0, .int .i64 0, .int .u64 0]) ∧ Kept w w' := by
  go_enter Tryz.func14, Tryz.ntmps14
  go_wp2_with fail; refine (call_any _ _ _ _ _ _ _ _ _ _ _).mono ?_; rintro ed w1 ⟨rfl, k1⟩
  obtain ⟨W9, hst, rg, bb⟩ := span_home k1 ⟨1, f, t, 1, 0, 0, 5, 0, 0, 0⟩
  dsimp only at hst
  have RG := Lib.hid rg
  have KK := Lib.hid ((((Kept.refl w).alloc _ _).trans k1).put1 bb (Nat.le_refl _))
  clear k1 rg bb
  go_wp2
  exact bodyPost_ret (span_result Tryz.results14 rfl RG.out) rfl ⟨rfl, KK.out⟩
set_option maxHeartbeats 1000000 in
theorem front_call (f t : Int) (w : World) : Calls Tryz.prog 25 #[.int .i64 f, .int .i64 t] w
    fun ed w' => ed = .returned (.agg #[.int .i64 2, .int .i64 f, .int .i64 t, .int .i64 2, .int .i64 0, .int .i64 0, .int .u64 0, .int .i64 0, .int .i64 0, .int .u64 5]) ∧ Kept w w' := by
  go_enter Tryz.func25, Tryz.ntmps25
  go_wp2_with fail; refine (call_any _ _ _ _ _ _ _ _ _ _ _).mono ?_; rintro ed w1 ⟨rfl, k1⟩
  obtain ⟨W9, hst, rg, bb⟩ := span_home k1 ⟨2, f, t, 2, 0, 0, 0, 0, 0, 5⟩
  dsimp only at hst
  have RG := Lib.hid rg
  have KK := Lib.hid ((((Kept.refl w).alloc _ _).trans k1).put1 bb (Nat.le_refl _))
  clear k1 rg bb
  go_wp2
  exact bodyPost_ret (span_result Tryz.results25 rfl RG.out) rfl ⟨rfl, KK.out⟩
set_option maxHeartbeats 1000000 in
theorem put_call (id f t key : Int) (w : World) : Calls Tryz.prog 9 #[.int .i64 id, .int .i64 f, .int .i64 t, .int .u64 key] w
    fun ed w' => ed = .returned (.agg #[.int .i64 id, .int .i64 f, .int .i64 t, .int .i64 4, .int .i64 0, .int .i64 0, .int .u64 key, .int .i64 0, .int .i64 0, .int .u64 0]) ∧ Kept w w' := by
  go_enter Tryz.func9, Tryz.ntmps9
  go_wp2_with fail; refine (call_any _ _ _ _ _ _ _ _ _ _ _).mono ?_; rintro ed w1 ⟨rfl, k1⟩
  obtain ⟨W9, hst, rg, bb⟩ := span_home k1 ⟨id, f, t, 4, 0, 0, key, 0, 0, 0⟩
  dsimp only at hst
  have RG := Lib.hid rg
  have KK := Lib.hid ((((Kept.refl w).alloc _ _).trans k1).put1 bb (Nat.le_refl _))
  clear k1 rg bb
  go_wp2
  exact bodyPost_ret (span_result Tryz.results9 rfl RG.out) rfl ⟨rfl, KK.out⟩
set_option maxHeartbeats 1000000 in
theorem pick_call (w : World) : Calls Tryz.prog 10 #[] w
    fun ed w' => ed = .returned (.agg #[.int .i64 3, .int .i64 3, .int .i64 4, .int .i64 5, .int .i64 0, .int .i64 0, .int .u64 0, .int .i64 0, .int .i64 0, .int .u64 4]) ∧ Kept w w' := by
  go_enter Tryz.func10, Tryz.ntmps10
  go_wp2_with fail; refine (call_any _ _ _ _ _ _ _ _ _ _ _).mono ?_; rintro ed w1 ⟨rfl, k1⟩
  obtain ⟨W9, hst, rg, bb⟩ := span_home k1 ⟨3, 3, 4, 5, 0, 0, 0, 0, 0, 4⟩
  dsimp only at hst
  have RG := Lib.hid rg
  have KK := Lib.hid ((((Kept.refl w).alloc _ _).trans k1).put1 bb (Nat.le_refl _))
  clear k1 rg bb
  go_wp2
  exact bodyPost_ret (span_result Tryz.results10 rfl RG.out) rfl ⟨rfl, KK.out⟩
set_option maxHeartbeats 1000000 in
theorem pending_call (id : Int) (w : World) : Calls Tryz.prog 12 #[.int .i64 id] w
    fun ed w' => ed = .returned (.agg #[.int .i64 id, .int .i64 0, .int .i64 (-1), .int .i64 7, .int .i64 0, .int .i64 0, .int .u64 0, .int .i64 0, .int .i64 0, .int .u64 0]) ∧ Kept w w' := by
  go_enter Tryz.func12, Tryz.ntmps12
  go_wp2_with fail; refine (call_any _ _ _ _ _ _ _ _ _ _ _).mono ?_; rintro ed w1 ⟨rfl, k1⟩
  obtain ⟨W9, hst, rg, bb⟩ := span_home k1 ⟨id, 0, -1, 7, 0, 0, 0, 0, 0, 0⟩
  dsimp only at hst
  have RG := Lib.hid rg
  have KK := Lib.hid ((((Kept.refl w).alloc _ _).trans k1).put1 bb (Nat.le_refl _))
  clear k1 rg bb
  go_wp2
  exact bodyPost_ret (span_result Tryz.results12 rfl RG.out) rfl ⟨rfl, KK.out⟩
set_option maxHeartbeats 1000000 in
theorem alloc_call (id f t : Int) (w : World) : Calls Tryz.prog 7 #[.int .i64 id, .int .i64 f, .int .i64 t] w
    fun ed w' => ed = .returned (.agg #[.int .i64 id, .int .i64 f, .int .i64 t, .int .i64 7, .int .i64 0, .int .i64 0, .int .u64 0, .int .i64 0, .int .i64 0, .int .u64 0]) ∧ Kept w w' := by
  go_enter Tryz.func7, Tryz.ntmps7
  go_wp2_with fail; refine (call_any _ _ _ _ _ _ _ _ _ _ _).mono ?_; rintro ed w1 ⟨rfl, k1⟩
  obtain ⟨W9, hst, rg, bb⟩ := span_home k1 ⟨id, f, t, 7, 0, 0, 0, 0, 0, 0⟩
  dsimp only at hst
  have RG := Lib.hid rg
  have KK := Lib.hid ((((Kept.refl w).alloc _ _).trans k1).put1 bb (Nat.le_refl _))
  clear k1 rg bb
  go_wp2
  exact bodyPost_ret (span_result Tryz.results7 rfl RG.out) rfl ⟨rfl, KK.out⟩

theorem sameI_n {w : World} {a b : Option Addr} {c d n m : Nat} {l : List Int} (h : Lay w (.slice a n c) n (ints l)) (h' : Lay w (.slice b m d) m (ints l)) (hn : n = l.length) (hm : m = l.length) (hl : n ≤ 100000) :
    Calls Tryz.prog 21 #[.slice a n c, .slice b m d] w fun e w' => e = .returned (.bool true) ∧ Kept w w' := by
  subst hn; subst hm; exact Po.sameInts_yes h h' (by omega)
set_option maxHeartbeats 2000000 in
theorem orders_at {w : World} {mo r : Int} {wa la : Option Addr} {wn wc ln lc : Nat} {want : List Int} {l : List Sp} {d : Option (List Nat)}
    (hO : Calls Tryz.prog 11 #[.int .i64 mo, .int .i64 r, .slice la ln lc] w (RetO w l d)) (hw : Lay w (.slice wa wn wc) wn (ints want)) (hn : wn = want.length) (hs : wn ≤ 100)
    (hd : (d = none ∧ want = []) ∨ ∃ o, d = some o ∧ idsO l o = want ∧ want ≠ []) :
    Calls Tryz.prog 8 #[.int .i64 mo, .int .i64 r, .slice wa wn wc, .slice la ln lc] w fun e w' => e = .returned (.bool true) ∧ Kept w w' := by
  have HO := Lib.hid hO
  have HW := Lib.hid (fun W (k : Kept w W) => hw.kept k)
  clear hO hw
  rcases hd with ⟨rfl, rfl⟩ | ⟨o, rfl, ho, hne⟩
  · have hn0 : wn = 0 := hn
    subst hn0
    have SA := Lib.hid (fun W (k : Kept w W) => sameI_n (a := none) (n := 0) (c := 0) (l := []) (.inl (.inl ⟨rfl, rfl, rfl⟩)) (HW.out W k) rfl rfl (by omega))
    clear hn
    go_enter Tryz.func8, Tryz.ntmps8
    go_wp2_with fail; refine HO.out.mono ?_; rintro e w1 ⟨k1, h1⟩
    have K1 := Lib.hid k1
    clear k1
    rcases h1 with ⟨_, rfl⟩ | ⟨o, _, _, h, _⟩
    · go_wp2_with fail; refine (SA.out _ K1.out).mono ?_; rintro e w2 ⟨rfl, k2⟩
      go_wp2
      go_ret
      exact ⟨rfl, K1.out.trans k2⟩
    · cases h
  · have hpos : 0 < wn := by
      rw [hn]
      exact List.length_pos_iff.2 hne
    have hpos' : (0 : Int) < (wn : Int) := by omega
    have ol : o.length = wn := by rw [hn, ← ho]; simp [idsO]
    have HOL := Lib.hid ho
    have OL := Lib.hid ol
    have HN := Lib.hid hn
    have SA := Lib.hid (fun W (k : Kept w W) a1 c1 (h : OwnI W w.heap.size (.slice a1 o.length c1) (idsO l o)) => sameI_n (n := o.length) (l := want) (by
      have := (own_lies h).lay
      rw [ho] at this
      rw [ol, hn]
      rw [show (Value.slice a1 o.length c1) = .slice a1 want.length c1 by rw [ol, hn]] at this
      exact this) (HW.out W k) (by rw [ol, hn]) hn (by omega))
    clear hn hne ho ol
    go_enter Tryz.func8, Tryz.ntmps8
    go_wp2_with fail; refine HO.out.mono ?_; rintro e w1 ⟨k1, h1⟩
    have K1 := Lib.hid k1
    clear k1
    rcases h1 with ⟨h, _⟩ | ⟨o', a1, c1, h, rfl, own1⟩
    · cases h
    · cases h
      have SS := Lib.hid (SA.out _ K1.out _ _ own1)
      clear own1
      go_wp2_with fail; refine SS.out.mono ?_; rintro e w2 ⟨rfl, k2⟩
      go_wp2
      go_ret
      exact ⟨rfl, K1.out.trans k2⟩
end Go.Proofs.YtbfmmndpboagdaaGreatDoor

set_option maxRecDepth 20000
namespace Go.Proofs.YtbfmmndpboagdaaGreatDoor
open Go.RowKit

theorem ordU {w : World} {a : Option Addr} {n c : Nat} {l : List Sp} (h : Lay w (.slice a n c) n (flatS l)) (hn : n = l.length) (h10 : n ≤ 10) (r : Int) (hc : chkL 1 r l = 0) (hw : SU.Wf l) {d : Option (List Nat)} (hd : dfs (SU.nextM r) (alikeM l) 10 0 [[]] = d) :
    Calls Tryz.prog 11 #[.int .i64 1, .int .i64 r, .slice a n c] w (RetO w l d) := by
  subst hd; exact order_fifo h hn h10 r hc (SU.inv_any r (alike_wf hw (by omega)))
theorem ordH {w : World} {a : Option Addr} {n c : Nat} {l : List Sp} (h : Lay w (.slice a n c) n (flatS l)) (hn : n = l.length) (h10 : n ≤ 10) (r : Int) (hc : chkL 2 r l = 0) (hw : SH.Wf l) {d : Option (List Nat)} (hd : dfs (SH.nextM r) l 10 0 [[]] = d) :
    Calls Tryz.prog 11 #[.int .i64 2, .int .i64 r, .slice a n c] w (RetO w l d) := by
  subst hd; exact order_heap h hn h10 r hc (SH.inv_any r hw)
theorem ordN {w : World} {a : Option Addr} {n c : Nat} {l : List Sp} (h : Lay w (.slice a n c) n (flatS l)) (hn : n = l.length) (h10 : n ≤ 10) (r : Int) (hc : chkL 3 r l = 0) (hT : Po.Tab w) {d : Option (List Nat)} (hd : dfs (SN.nextM r) l 10 0 [firstN r l] = d) :
    Calls Tryz.prog 11 #[.int .i64 3, .int .i64 r, .slice a n c] w (RetO w l d) := by
  subst hd; exact order_pool h hn h10 r hc hT (SN.inv_any r (by omega))
def sA : List Sp := [⟨1, 0, 3, 1, 0, 0, 5, 0, 0, 0⟩, ⟨2, 1, 2, 2, 0, 0, 0, 0, 0, 5⟩]
def sB : List Sp := [⟨2, 0, 1, 2, 0, 0, 0, 0, 0, 5⟩, ⟨1, 2, 3, 1, 0, 0, 5, 0, 0, 0⟩]
def sC : List Sp := [⟨1, 0, 9, 4, 0, 0, 4, 0, 0, 0⟩, ⟨2, 1, 9, 4, 0, 0, 3, 0, 0, 0⟩, ⟨3, 3, 4, 5, 0, 0, 0, 0, 0, 4⟩]
theorem dA : dfs (SU.nextM 2) (alikeM sA) 10 0 [[]] = some [0, 1] := by decide +kernel
theorem dB : dfs (SU.nextM 2) (alikeM sB) 10 0 [[]] = none := by decide +kernel
theorem dC : dfs (SH.nextM 1) sC 10 0 [[]] = some [0, 2, 1] := by decide +kernel
theorem wA : SU.Wf sA := by unfold SU.Wf; decide +kernel
theorem wB : SU.Wf sB := by unfold SU.Wf; decide +kernel
theorem wC : SH.Wf sC := by unfold SH.Wf; decide +kernel

set_option maxRecDepth 100000 in
set_option maxHeartbeats 1000000 in
theorem awake_any (w : World) : Calls Tryz.prog 15 #[] w fun e w' => e = .returned (.bool true) ∧ Kept w w' := by
  go_enter Tryz.func15, Tryz.ntmps15
  go_wp2_with fail; refine (push_call _ _ _).mono ?_; rintro e v1 ⟨rfl, kv1⟩
  have Lv1 := Lib.hid (show Lay v1 (.slice (some ⟨w.heap.size, 0, none⟩) 2 2) 2 (ints [1, 2]) from (lay_new (heap_alloc_new _ _) (by decide)).kept kv1)
  have Kv1 := Lib.hid (((Kept.refl w).alloc _ _).trans kv1)
  clear kv1
  go_wp2_with fail; refine (front_call _ _ _).mono ?_; rintro e v2 ⟨rfl, kv2⟩
  have Lv2 := Lib.hid (Lv1.out.kept kv2)
  have Kv2 := Lib.hid (Kv1.out.trans kv2)
  clear kv2
  go_wp2_with fail; refine (orders_at (ordU (l := sA) (lay_new (heap_alloc_new _ _) (by decide)) rfl (by decide) 2 (by decide +kernel) wA dA) (Lv2.out.kept ((Kept.refl _).alloc _ _)) rfl (by decide) (.inr ⟨_, rfl, by decide, by decide⟩)).mono ?_; rintro e v3 ⟨rfl, kv3⟩
  have Kv3 := Lib.hid ((Kv2.out.alloc _ _).trans kv3)
  clear kv3
  go_wp2_with fail; refine (front_call _ _ _).mono ?_; rintro e v4 ⟨rfl, kv4⟩
  have Kv4 := Lib.hid (Kv3.out.trans kv4)
  clear kv4
  go_wp2_with fail; refine (push_call _ _ _).mono ?_; rintro e v5 ⟨rfl, kv5⟩
  have Kv5 := Lib.hid (Kv4.out.trans kv5)
  clear kv5
  go_wp2_with fail; refine (orders_at (ordU (l := sB) (lay_new (heap_alloc_new _ _) (by decide)) rfl (by decide) 2 (by decide +kernel) wB dB) (want := []) (.inl (.inl ⟨rfl, rfl, rfl⟩)) rfl (by decide) (.inl ⟨rfl, rfl⟩)).mono ?_; rintro e v6 ⟨rfl, kv6⟩
  have Kv6 := Lib.hid ((Kv5.out.alloc _ _).trans kv6)
  clear kv6
  go_wp2_with fail; refine (put_call _ _ _ _ _).mono ?_; rintro e v7 ⟨rfl, kv7⟩
  have Lv7 := Lib.hid (show Lay v7 (.slice (some ⟨v6.heap.size, 0, none⟩) 3 3) 3 (ints [1, 3, 2]) from (lay_new (heap_alloc_new _ _) (by decide)).kept kv7)
  have Kv7 := Lib.hid ((Kv6.out.alloc _ _).trans kv7)
  clear kv7
  go_wp2_with fail; refine (put_call _ _ _ _ _).mono ?_; rintro e v8 ⟨rfl, kv8⟩
  have Lv8 := Lib.hid (Lv7.out.kept kv8)
  have Kv8 := Lib.hid (Kv7.out.trans kv8)
  clear kv8
  go_wp2_with fail; refine (pick_call _).mono ?_; rintro e v9 ⟨rfl, kv9⟩
  have Lv9 := Lib.hid (Lv8.out.kept kv9)
  have Kv9 := Lib.hid (Kv8.out.trans kv9)
  clear kv9
  go_wp2_with fail; refine (orders_at (ordH (l := sC) (lay_new (heap_alloc_new _ _) (by decide)) rfl (by decide) 1 (by decide +kernel) wC dC) (Lv9.out.kept ((Kept.refl _).alloc _ _)) rfl (by decide) (.inr ⟨_, rfl, by decide, by decide⟩)).mono ?_; rintro e v10 ⟨rfl, kv10⟩
  have Kv10 := Lib.hid ((Kv9.out.alloc _ _).trans kv10)
  clear kv10
  go_wp2
  go_ret
  exact ⟨rfl, Kv10.out⟩
end Go.Proofs.YtbfmmndpboagdaaGreatDoor

set_option maxRecDepth 20000
namespace Go.Proofs.YtbfmmndpboagdaaGreatDoor
open Go.RowKit Go.Shelf
attribute [local go_sem] Oper.semAt_some
attribute [local go_sem] Kept.refl Kept.drew Kept.drewN Kept.alloc

set_option maxRecDepth 100000 in
set_option maxHeartbeats 1000000 in
theorem order_err {w : World} {a : Option Addr} {n c : Nat} {l : List Sp} (h : Lay w (.slice a n c) n (flatS l)) (hn : n = l.length) (mo r : Int) {v : Int} (hc : chkL mo r l = v) (hv : (v != 0) = true) :
    Calls Tryz.prog 11 #[.int .i64 mo, .int .i64 r, .slice a n c] w fun e w' => e = .returned (.tuple #[.slice none 0 0, .bool false, .int .i64 v]) ∧ Kept w w' := by
  have CH := Lib.hid (fun W (k : Kept w W) => check_any mo r (h.kept k) hn)
  simp only [hc] at CH
  have OB := fun t0 t1 t2 t3 => ord_box (w := w) (a := a) (n := n) (c := c) t0 t1 t2 t3
  have HOB := Lib.hid OB
  clear h hn hc OB
  refine (callsIn_wide (n := 6)).1 ?_
  refine callsIn_of_wp_marks Tryz.func11 rfl trivial ?_ rfl
  simp only [Tryz.ntmps11, List.size_toArray, List.length_cons, List.length_nil, Nat.reduceAdd, Nat.reduceSub, Array.replicate_succ, Array.replicate_zero, List.push_toArray, List.append_toArray, List.nil_append, List.cons_append]
  rw [wpIn_wide]
  go_wp2_with fail; refine (CH.out _ (HOB.out _ _ _ _).kept).mono ?_; rintro e w1 ⟨rfl, k1⟩
  obtain ⟨kw1, q0, q1, q2, q3⟩ := (HOB.out _ _ _ _).next k1
  obtain ⟨s1, s2, s3⟩ := (HOB.out _ _ _ _).soft k1
  have KW1 := Lib.hid kw1
  obtain ⟨X, hX, x1, x2, x3, bX⟩ := three_set (W := w1) (b := w.heap.size + 1) (.slice none 0 0) (.bool false) (.int .i64 v) q1 q2 q3
  have HX := Lib.hid hX
  have X1 := Lib.hid x1
  have X2 := Lib.hid x2
  have X3 := Lib.hid x3
  have BX := Lib.hid bX
  clear k1 kw1 hX x1 x2 x3 bX
  go_wp2
  have y1 := X1.out
  have y2 := X2.out
  have y3 := X3.out
  rw [HX.out]
  refine ⟨.tuple #[.slice none 0 0, .bool false, .int .i64 v], by simp [results, Tryz.results11, go_sem, y1, y2, y3], rfl, ?_⟩
  exact KW1.out.put BX.out fun j h => by omega

def z10 : Sp := ⟨0, 0, 0, 0, 0, 0, 0, 0, 0, 0⟩
theorem make_spans (n : Nat) (hn : n ≤ 1000) (w : World) : (Instr.makeSlice 38 (.int .i64 (n : Int)) (.int .i64 (n : Int))).run Tryz.prog w = .ok (.slice (some ⟨w.heap.size, 0, none⟩) n n) (w.alloc (.cells (madeCells #[.int .i64 0, .int .i64 0, .int .i64 0, .int .i64 0, .int .i64 0, .int .i64 0, .int .u64 0, .int .i64 0, .int .i64 0, .int .u64 0] (n * 10)) 29)) := by
  obtain ⟨i0, hi, hz0, hz1, hz2⟩ := info_parts infoSp
  have h := run_makeSlice (P := Tryz.prog) w 38 29 i0 _ Tryz.underlying38 hi hz0 .i64 .i64 (n : Int) (n : Int) (by omega) (Int.le_refl _) (by rw [hz1]; omega) (by rw [hz2]; omega) (by omega)
  rw [h, hz1]
  simp [Value.cells]
theorem made_spans (w : World) (t : TypeId) (n : Nat) (hn : n ≤ 100) (e : (flatS (List.replicate n z10)).toArray = madeCells #[.int .i64 0, .int .i64 0, .int .i64 0, .int .i64 0, .int .i64 0, .int .i64 0, .int .u64 0, .int .i64 0, .int .i64 0, .int .u64 0] (n * 10)) :
    Lay (w.alloc (.cells (madeCells #[.int .i64 0, .int .i64 0, .int .i64 0, .int .i64 0, .int .i64 0, .int .i64 0, .int .u64 0, .int .i64 0, .int .i64 0, .int .u64 0] (n * 10)) t)) (.slice (some ⟨w.heap.size, 0, none⟩) n n) n (flatS (List.replicate n z10)) := by
  rw [← e]
  exact lay_new (heap_alloc_new _ _) (by omega)
theorem made11 : (flatS (List.replicate 11 z10)).toArray = madeCells #[.int .i64 0, .int .i64 0, .int .i64 0, .int .i64 0, .int .i64 0, .int .i64 0, .int .u64 0, .int .i64 0, .int .i64 0, .int .u64 0] (11 * 10) := by kernel_rfl
theorem made2 : (flatS (List.replicate 2 z10)).toArray = madeCells #[.int .i64 0, .int .i64 0, .int .i64 0, .int .i64 0, .int .i64 0, .int .i64 0, .int .u64 0, .int .i64 0, .int .i64 0, .int .u64 0] (2 * 10) := by kernel_rfl
theorem fitsU {w : World} {a : Option Addr} {n c : Nat} {l : List Sp} (h : Lay w (.slice a n c) n (flatS l)) (hn : n = l.length) (h10 : n ≤ 10) (r : Int) (hc : chkL 1 r l = 0) (hw : SU.Wf l)
    {oa : Option Addr} {on oc : Nat} {o : List Int} (ho : Lay w (.slice oa on oc) on (ints o)) (hon : on = o.length) (ho10 : on ≤ 10) {v : Int} (hb : (¬ (∀ x ∈ o, x ∈ idsM l) ∧ v = 10) ∨ ((∀ x ∈ o, x ∈ idsM l) ∧ twiceM (o.map (wh l)) = true ∧ v = 8)) :
    Calls Tryz.prog 13 #[.int .i64 1, .int .i64 r, .slice a n c, .slice oa on oc] w fun e w' => e = .returned (.tuple #[.bool false, .int .i64 v]) ∧ Kept w w' := by
  refine (fits_fifo h hn h10 r hc (SU.inv_any r (alike_wf hw (by omega))) ho hon ho10).mono ?_
  rintro e w' ⟨k, h⟩
  rcases hb with ⟨h1, rfl⟩ | ⟨h1, h2, rfl⟩
  · rcases h with ⟨_, e⟩ | ⟨g, _⟩ | ⟨g, _⟩
    · exact ⟨e, k⟩
    · exact absurd g h1
    · exact absurd g h1
  · rcases h with ⟨g, _⟩ | ⟨_, _, e⟩ | ⟨_, g, _⟩
    · exact absurd h1 g
    · exact ⟨e, k⟩
    · rw [h2] at g; cases g
end Go.Proofs.YtbfmmndpboagdaaGreatDoor
