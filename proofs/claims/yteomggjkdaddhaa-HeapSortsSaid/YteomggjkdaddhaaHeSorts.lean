/- HeapSorts. -/
import Derived.Test.YteomggjkdaddhaaHeYes
namespace Go.Proofs.Yteomggjkdaddhaa
open Go.RowKit

/-- An operation's variable, as it was laid. -/
structure OpZ (W : World) (b : Nat) : Prop where
  c0 : W.cell? ⟨b, 0, none⟩ = some (.int .i64 0)
  c1 : W.cell? ⟨b, 1, none⟩ = some (.int .i64 0)
  c2 : W.cell? ⟨b, 2, none⟩ = some (.int .i64 0)
  c3 : W.cell? ⟨b, 3, none⟩ = some (.int .u64 0)
  s0 : W.frozen? ⟨b, 0, none⟩ = false
  s1 : W.frozen? ⟨b, 1, none⟩ = false
  s2 : W.frozen? ⟨b, 2, none⟩ = false
  s3 : W.frozen? ⟨b, 3, none⟩ = false
theorem OpZ.kept {W W' : World} {b : Nat} (h : OpZ W b) (k : Kept W W') : OpZ W' b :=
  ⟨k.some h.c0, k.some h.c1, k.some h.c2, k.some h.c3, k.soft (lt_of_cell h.c0) h.s0, k.soft (lt_of_cell h.c0) h.s1, k.soft (lt_of_cell h.c0) h.s2, k.soft (lt_of_cell h.c0) h.s3⟩
theorem OpZ.new (W : World) (t : TypeId) : OpZ (W.alloc (.cells #[.int .i64 0, .int .i64 0, .int .i64 0, .int .u64 0] t)) W.heap.size :=
  ⟨cell_new _ _ _ _ 0 rfl, cell_new _ _ _ _ 1 rfl, cell_new _ _ _ _ 2 rfl, cell_new _ _ _ _ 3 rfl, by rw [frozen?_alloc_cells]; simp [World.frozen?], by rw [frozen?_alloc_cells]; simp [World.frozen?], by rw [frozen?_alloc_cells]; simp [World.frozen?], by rw [frozen?_alloc_cells]; simp [World.frozen?]⟩
theorem OpZ.all {W : World} {b : Nat} (h : OpZ W b) : W.cell? ⟨b, 0, none⟩ = some (.int .i64 0) ∧ W.cell? ⟨b, 1, none⟩ = some (.int .i64 0) ∧ W.cell? ⟨b, 2, none⟩ = some (.int .i64 0) ∧ W.cell? ⟨b, 3, none⟩ = some (.int .u64 0) ∧
    W.frozen? ⟨b, 0, none⟩ = false ∧ W.frozen? ⟨b, 1, none⟩ = false ∧ W.frozen? ⟨b, 2, none⟩ = false ∧ W.frozen? ⟨b, 3, none⟩ = false := ⟨h.c0, h.c1, h.c2, h.c3, h.s0, h.s1, h.s2, h.s3⟩
theorem OpZ.put {W : World} {b : Nat} (h : OpZ W b) (o : Opn) : OpBox ((((W.setCell ⟨b, 0, none⟩ (.int .i64 o.k)).setCell ⟨b, 1, none⟩ (.int .i64 o.a)).setCell ⟨b, 2, none⟩ (.int .i64 o.b)).setCell ⟨b, 3, none⟩ (.int .u64 o.u)) b o :=
  ⟨by simp [cell_set, h.c0], by simp [cell_set, h.c1], by simp [cell_set, h.c2], by simp [cell_set, h.c3]⟩
theorem Kept.opz {W v : World} {t : TypeId} (k : Kept (W.alloc (.cells #[.int .i64 0, .int .i64 0, .int .i64 0, .int .u64 0] t)) v) : OpZ v W.heap.size := (OpZ.new W t).kept k
theorem Kept.opzd {W v : World} {t : TypeId} (k : Kept (W.alloc (.cells #[.int .i64 0, .int .i64 0, .int .i64 0, .int .u64 0] t)).drew v) : OpZ v W.heap.size := ((OpZ.new W t).kept (Kept.refl _).drew).kept k
def OpCut (wr : World) (o : Opn) (v : Value) (W : World) : Prop := ∃ B, v = .pointer (some ⟨B, 0, none⟩) ∧ OpBox W B o ∧ Kept wr W

def PuRel (w : World) (n : Nat) (s m i : Value) (wr : World) : Prop :=
  ∃ (k q : Nat) (a : Option Addr) (c : Nat) (S : List It), k ≤ n ∧ q ≤ k ∧ i = .int .i64 k ∧ m = .int .i64 q ∧ s = .slice a q c ∧ Lay wr (.slice a q c) q (flatI S) ∧ q = S.length ∧ asc S = true ∧ Kept w wr
def PiRel (w : World) (m : Nat) (s t i : Value) (wr : World) : Prop :=
  ∃ (k q : Nat) (a : Option Addr) (c : Nat) (S : List It) (last : Int), k + q = m ∧ i = .int .i64 k ∧ t = .int .u64 last ∧ s = .slice a q c ∧ Lay wr (.slice a q c) q (flatI S) ∧ q = S.length ∧ asc S = true ∧ (0 < k → ∀ x, S[0]? = some x → ¬ x.k ≤ last) ∧ Kept w wr

set_option maxRecDepth 100000 in
set_option maxHeartbeats 16000000 in
theorem heapSorts_any {w : World} {a : Option Addr} {n c : Nat} (hh : ∃ l : List It, l.length = n ∧ Lay w (.slice a n c) n (flatI l)) :
    Calls Try.prog 8 #[.slice a n c] w fun e w' => e = .returned (.bool true) ∧ Kept w w' := by
  obtain ⟨l, hnl, h⟩ := hh
  by_cases hl : 60 < n
  · clear h hnl
    go_enter Try.func8, Try.ntmps8
    go_wp2_with fail; refine (known_any _).mono ?_; rintro e w1 ⟨rfl, k1⟩
    go_wp2
    go_ret
    exact ⟨rfl, k1⟩
  have HN := Lib.hid hnl.symm
  have CE := Lib.hid (fun i x (W : World) (k : Kept w W) (hi : l[i]? = some x) => show ∃ g o, a = some ⟨g, o, none⟩ ∧ ItAt W g (o + i * 2) x by
    have hl := h.kept k
    have := (List.getElem?_eq_some_iff.1 hi).1
    rw [← hnl] at hl
    obtain ⟨g, o, c', e, _, _, hc⟩ := hl.it (by omega)
    cases e
    exact ⟨g, o, rfl, hc i x hi⟩)
  clear h hnl
  go_enter Try.func8, Try.ntmps8
  go_wp2_with fail; refine (known_any _).mono ?_; rintro e w1 ⟨rfl, k1⟩
  have K1 := Lib.hid k1
  clear k1
  go_wp2
  go_loopw [4, 5, 6] (fun s m i wr => PuRel w n s m i wr) (fun _ _ i _ => n - (intOf i).toNat)
  case atStart => exact ⟨0, 0, none, 0, [], Nat.zero_le _, Nat.le_refl _, rfl, rfl, rfl, .inl (.inl ⟨rfl, rfl, rfl⟩), rfl, rfl, K1.out⟩
  case round =>
    obtain ⟨k, q, b, d, S, hk, hqk, rfl, rfl, rfl, hlay, hq, hasc, hkept⟩ := hrel
    have LS := Lib.hid hlay
    have HQ := Lib.hid hq
    have HA := Lib.hid hasc
    have KE := Lib.hid hkept
    have q60 : q ≤ 60 := by omega
    clear hlay hq hasc hkept
    by_cases hlt : k < n
    · obtain ⟨x, hx⟩ : ∃ x, l[k]? = some x := ⟨_, List.getElem?_eq_getElem (by rw [← HN.out]; exact hlt)⟩
      obtain ⟨g, o, rfl, c0, c1⟩ := CE.out k x wr KE.out hx
      have gl := lt_of_cell c0
      have hlt' : (k : Int) < (n : Int) := by omega
      clear hx
      go_upto_region 9 with fail
      go_cut [7] (OpCut wr ⟨4, x.a, 0, x.k⟩)
      case first =>
        go_upto_region 9 with fail
        have KT : Kept wr wr.drew := (Kept.refl wr).drew
        go_region_held3 (fun w' => w'.cell? ⟨g, o + k * 2, none⟩ = some (.int .u64 x.k) ∧ w'.cell? ⟨g, o + k * 2 + 1, none⟩ = some (.int .i64 x.a))
          (first | with_reducible exact ⟨KT.some c0, KT.some c1⟩ | with_reducible exact ⟨(KT.alloc _ _).some c0, (KT.alloc _ _).some c1⟩ | with_reducible exact ⟨(((Kept.refl _).alloc _ _).drew).some c0, (((Kept.refl _).alloc _ _).drew).some c1⟩ | exact ⟨((KT.but _).trans (((((But.refl _ _).here _ _).here _ _).here _ _).here _ _) (fun _ _ h => h)).some c0 (by omega), ((KT.but _).trans (((((But.refl _ _).here _ _).here _ _).here _ _).here _ _) (fun _ _ h => h)).some c1 (by omega)⟩)
          (first
            | (go_at_call 25; refine (putOp_any _ _ _).mono ?_; rintro e v1 ⟨rfl, j1⟩; have KT1 : Kept wr v1 := Kept.trans (by repeat (first | with_reducible exact KT | with_reducible exact Kept.refl _ | with_reducible refine Kept.alloc ?_ _ _ | with_reducible refine Kept.drew ?_)) j1; have KT := KT1; have sz1 := KT1.size; (first | (have BX := Lib.hid j1.opz; obtain ⟨z0, z1, z2, z3, s0, s1, s2, s3⟩ := BX.out.all) | (have BX := Lib.hid j1.opzd; obtain ⟨z0, z1, z2, z3, s0, s1, s2, s3⟩ := BX.out.all) | skip)))
        all_goals go_wp2
        all_goals go_meet
        all_goals first
          | exact ⟨_, rfl, OpBox.new v1 ⟨4, x.a, 0, x.k⟩ _ _ rfl, KT1.alloc _ _⟩
          | exact ⟨_, rfl, BX.out.put ⟨4, x.a, 0, x.k⟩, KT1.wrote1 (((((But.refl _ _).here _ _).here _ _).here _ _).here _ _) (by omega)⟩
      case rest =>
        obtain ⟨B, rfl, hob, kc⟩ := hcut
        have OB := Lib.hid hob
        have KC := Lib.hid kc
        have HZ := Lib.hid (show chk S = 0 from chk_of (by rw [← HQ.out]; omega) HA.out)
        clear hob kc c0 c1
        rename_i wc
        cases hd : hs x.k S with
        | true =>
          have HT := Lib.hid (show tellS S ⟨4, x.a, 0, x.k⟩ = some ⟨8, 0, 0⟩ by rw [tell_put HZ.out rfl]; rw [if_pos hd])
          have HX := Lib.hid (next_double (o := ⟨4, x.a, 0, x.k⟩) HZ.out rfl hd)
          have AN := Lib.hid (answer_p ⟨4, x.a, 0, x.k⟩ (LS.out.kept KC.out) HQ.out HT.out)
          have NX := Lib.hid (fun W (j : Kept wc W) => next_yes (m := q) ⟨4, x.a, 0, x.k⟩ ⟨8, 0, 0⟩ ((LS.out.kept KC.out).kept j) HQ.out HX.out HQ.out.symm)
          obtain ⟨p0, p1, p2, p3⟩ := OB.out
          clear hd
          go_wp2_with fail; refine AN.out.mono ?_; rintro e w3 ⟨rfl, k3⟩
          obtain ⟨W3, hW3⟩ : ∃ W3, w3.alloc (.cells #[.int .i64 8, .int .i64 0, .int .u64 0] 28) = W3 := ⟨_, rfl⟩
          obtain ⟨B3, hB3⟩ : ∃ B3, w3.heap.size = B3 := ⟨_, rfl⟩
          have K3 := Lib.hid (show Kept wc W3 by rw [← hW3]; exact k3.alloc _ _)
          have Y3 := Lib.hid (show AnBox W3 B3 ⟨8, 0, 0⟩ by rw [← hW3]; exact AnBox.new w3 ⟨8, 0, 0⟩ _ _ hB3.symm)
          have HW3 := Lib.hid hW3
          have HB3 := Lib.hid hB3
          clear k3 hW3 hB3 p0 p1 p2 p3
          go_upto_region 11 with fail
          rw [HW3.out, HB3.out]
          obtain ⟨p0, p1, p2, p3⟩ := OB.out.kept K3.out
          obtain ⟨y0, y1, y2, _⟩ := Y3.out
          go_wp2_with fail; refine (NX.out _ K3.out).mono ?_; rintro e w4 ⟨a4, c4, rfl, k4, own4⟩
          have K4 := Lib.hid (K3.out.trans k4)
          have X4 := Lib.hid (own_lies own4).lay
          obtain ⟨z0, z1, z2, _⟩ := Y3.out.kept k4
          clear k4 own4 p0 p1 p2 p3 y0 y1 y2
          go_wp2
          go_roundw
          case rel => exact ⟨k + 1, q, a4, c4, S, by omega, by omega, by go_num, rfl, rfl, X4.out, HQ.out, HA.out, (KE.out.trans KC.out).trans K4.out⟩
          case measure => simp [intOf]; omega
        | false =>
          have HI := Lib.hid (show q + 1 = (ins ⟨x.k, x.a⟩ S).length by rw [ins_length, HQ.out])
          have HJ := Lib.hid (ins_asc (x := ⟨x.k, x.a⟩) HA.out hd)
          have HT := Lib.hid (show tellS S ⟨4, x.a, 0, x.k⟩ = some ⟨0, 0, 0⟩ by rw [tell_put HZ.out rfl]; rw [if_neg (by simp [hd]), if_pos (by rw [← HQ.out]; omega)])
          have HX := Lib.hid (next_put (o := ⟨4, x.a, 0, x.k⟩) HZ.out rfl hd (by rw [← HQ.out]; omega))
          have AN := Lib.hid (answer_p ⟨4, x.a, 0, x.k⟩ (LS.out.kept KC.out) HQ.out HT.out)
          have NX := Lib.hid (fun W (j : Kept wc W) => next_yes (m := q + 1) ⟨4, x.a, 0, x.k⟩ ⟨0, 0, 0⟩ ((LS.out.kept KC.out).kept j) HQ.out HX.out HI.out.symm)
          obtain ⟨p0, p1, p2, p3⟩ := OB.out
          clear hd
          go_wp2_with fail; refine AN.out.mono ?_; rintro e w3 ⟨rfl, k3⟩
          obtain ⟨W3, hW3⟩ : ∃ W3, w3.alloc (.cells #[.int .i64 0, .int .i64 0, .int .u64 0] 28) = W3 := ⟨_, rfl⟩
          obtain ⟨B3, hB3⟩ : ∃ B3, w3.heap.size = B3 := ⟨_, rfl⟩
          have K3 := Lib.hid (show Kept wc W3 by rw [← hW3]; exact k3.alloc _ _)
          have Y3 := Lib.hid (show AnBox W3 B3 ⟨0, 0, 0⟩ by rw [← hW3]; exact AnBox.new w3 ⟨0, 0, 0⟩ _ _ hB3.symm)
          have HW3 := Lib.hid hW3
          have HB3 := Lib.hid hB3
          clear k3 hW3 hB3 p0 p1 p2 p3
          go_upto_region 11 with fail
          rw [HW3.out, HB3.out]
          obtain ⟨p0, p1, p2, p3⟩ := OB.out.kept K3.out
          obtain ⟨y0, y1, y2, _⟩ := Y3.out
          go_wp2_with fail; refine (NX.out _ K3.out).mono ?_; rintro e w4 ⟨a4, c4, rfl, k4, own4⟩
          have K4 := Lib.hid (K3.out.trans k4)
          have X4 := Lib.hid (own_lies own4).lay
          obtain ⟨z0, z1, z2, _⟩ := Y3.out.kept k4
          clear k4 own4 p0 p1 p2 p3 y0 y1 y2
          go_wp2
          go_roundw
          case rel => exact ⟨k + 1, q + 1, a4, c4, ins ⟨x.k, x.a⟩ S, by omega, by omega, by go_num, by go_num, rfl, X4.out, HI.out, HJ.out, (KE.out.trans KC.out).trans K4.out⟩
          case measure => simp [intOf]; omega
    · obtain rfl : k = n := by omega
      have hlt' : ¬ (k : Int) < (k : Int) := by omega
      obtain ⟨wo, rfl⟩ : ∃ wo : World, wo = wr := ⟨_, rfl⟩
      go_wp2
      go_loopw [4, 12, 13] (fun s t i wr => PiRel w q s t i wr) (fun _ _ i _ => q - (intOf i).toNat)
      case atStart => exact ⟨0, q, b, d, S, 0, by omega, rfl, rfl, rfl, LS.out, HQ.out, HA.out, fun h => absurd h (by omega), KE.out⟩
      case round =>
        clear LS HQ HA KE
        obtain ⟨j, m, b', d', S', last, hjm, rfl, rfl, rfl, hlay, hq, hasc, hgt, hkept⟩ := hrel
        have LS := Lib.hid hlay
        have HQ := Lib.hid hq
        have HA := Lib.hid hasc
        have HG := Lib.hid hgt
        have KE := Lib.hid hkept
        clear hlay hasc hgt hkept
        by_cases hjl : j < q
        · obtain ⟨x, r, rfl⟩ : ∃ x r, S' = x :: r := by
            cases S' with
            | nil => simp at hq; omega
            | cons x r => exact ⟨x, r, rfl⟩
          have hjl' : (j : Int) < (q : Int) := by omega
          have HZ := Lib.hid (show chk (x :: r) = 0 from chk_of (by rw [← HQ.out]; omega) HA.out)
          have HR := Lib.hid (show r.length = m - 1 by simp at hq; omega)
          have HB := Lib.hid (asc_tail HA.out)
          have m1 : 1 ≤ m := by simp at hq; omega
          obtain ⟨W1, hW1⟩ : ∃ W1, wr.alloc (.cells #[.int .i64 5, .int .i64 0, .int .i64 0, .int .u64 0] 25) = W1 := ⟨_, rfl⟩
          obtain ⟨B1, hB1⟩ : ∃ B1, wr.heap.size = B1 := ⟨_, rfl⟩
          have OB := Lib.hid (show OpBox W1 B1 ⟨5, 0, 0, 0⟩ by rw [← hW1]; exact OpBox.new wr ⟨5, 0, 0, 0⟩ _ _ hB1.symm)
          have k1 : Kept wr W1 := by rw [← hW1]; exact (Kept.refl wr).alloc _ _
          have K1' := Lib.hid (KE.out.trans k1)
          have L1 := Lib.hid (LS.out.kept k1)
          have AN := Lib.hid (answer_p ⟨5, 0, 0, 0⟩ L1.out HQ.out (tell_pick HZ.out (.inl rfl)))
          have NX := Lib.hid (fun W (k : Kept W1 W) => next_yes (m := m - 1) ⟨5, 0, 0, 0⟩ ⟨0, x.a, x.k⟩ (L1.out.kept k) HQ.out (next_pick (o := ⟨5, 0, 0, 0⟩) HZ.out rfl) HR.out)
          have HW1 := Lib.hid hW1
          have HB1 := Lib.hid hB1
          have HH := Lib.hid (fun (h : 0 < j) => HG.out h x rfl)
          clear hW1 hB1 k1 hq
          go_upto_region 22 with fail
          rw [HW1.out, HB1.out]
          obtain ⟨p0, p1, p2, p3⟩ := OB.out
          go_wp2_with fail; refine AN.out.mono ?_; rintro e w3 ⟨rfl, k3⟩
          obtain ⟨W3, hW3⟩ : ∃ W3, w3.alloc (.cells #[.int .i64 0, .int .i64 x.a, .int .u64 x.k] 28) = W3 := ⟨_, rfl⟩
          obtain ⟨B3, hB3⟩ : ∃ B3, w3.heap.size = B3 := ⟨_, rfl⟩
          have K3 := Lib.hid (show Kept W1 W3 by rw [← hW3]; exact k3.alloc _ _)
          have Y3 := Lib.hid (show AnBox W3 B3 ⟨0, x.a, x.k⟩ by rw [← hW3]; exact AnBox.new w3 ⟨0, x.a, x.k⟩ _ _ hB3.symm)
          have HW3 := Lib.hid hW3
          have HB3 := Lib.hid hB3
          clear k3 hW3 hB3 p0 p1 p2 p3
          go_upto_region 23 with fail
          rw [HW3.out, HB3.out]
          obtain ⟨p0, p1, p2, p3⟩ := OB.out.kept K3.out
          obtain ⟨y0, y1, y2, _⟩ := Y3.out
          by_cases hj0 : j = 0
          · subst hj0
            go_wp2_with fail; refine (NX.out _ K3.out).mono ?_; rintro e w4 ⟨a4, c4, rfl, k4, own4⟩
            have K4 := Lib.hid (K3.out.trans k4)
            have X4 := Lib.hid (own_lies own4).lay
            clear k4 own4 p0 p1 p2 p3 y0 y1 y2
            go_wp2
            go_roundw
            case rel => exact ⟨1, m - 1, a4, c4, r, x.k, by omega, by go_num, rfl, rfl, X4.out, HR.out.symm, HB.out, fun _ y hy => by
              have := asc_lt HA.out (i := 0) (j := 1) (x := x) (y := y) rfl (by simpa using hy) (by omega)
              omega, K1'.out.trans K4.out⟩
            case measure => simp [intOf]; omega
          · have hg := HH.out (by omega)
            have hj1 : (0 : Int) < (j : Int) := by omega
            have hj2 : 0 < j := by omega
            have hd1 : decide ((j : Int) > 0) = true := by simp; omega
            have hd2 : decide (x.k ≤ last) = false := by simp; omega
            go_wp2_with fail; refine (NX.out _ K3.out).mono ?_; rintro e w4 ⟨a4, c4, rfl, k4, own4⟩
            have K4 := Lib.hid (K3.out.trans k4)
            have X4 := Lib.hid (own_lies own4).lay
            clear k4 own4 p0 p1 p2 p3 y0 y1 y2
            go_wp2
            go_roundw
            case rel => exact ⟨j + 1, m - 1, a4, c4, r, x.k, by omega, by go_num, rfl, rfl, X4.out, HR.out.symm, HB.out, fun _ y hy => by
              have := asc_lt HA.out (i := 0) (j := 1) (x := x) (y := y) rfl (by simpa using hy) (by omega)
              omega, K1'.out.trans K4.out⟩
            case measure => simp [intOf]; omega
        · obtain rfl : j = q := by omega
          obtain rfl : m = 0 := by omega
          clear hq
          have hjl' : ¬ (j : Int) < (j : Int) := by omega
          go_wp2
          go_ret
          exact ⟨rfl, KE.out⟩
end Go.Proofs.Yteomggjkdaddhaa
