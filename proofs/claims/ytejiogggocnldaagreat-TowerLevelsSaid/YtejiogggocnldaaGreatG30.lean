/- TowerApart. Written by gen16n.py. -/
import Derived.Test.YtejiogggocnldaaGreatG28
import Derived.Test.YtejiogggocnldaaGreatG29
import Derived.Test.YtejiogggocnldaaGreatG24
import Derived.Test.YtejiogggocnldaaGreatG05
set_option linter.unusedVariables false
set_option linter.unusedSimpArgs false

namespace Go.Proofs.YtejiogggocnldaaGreat.Tw
set_option maxRecDepth 20000
open Go.RowKit
open Wo (St acc wordAt PMem RefIs)
open Sk (Stk Arn idx Wd fitsA fitsA_ok)

def ARel (w : World) (t : Twr) (n : Nat) (u x : Value) (wr : World) : Prop :=
  ∃ k : Nat, k ≤ n ∧ x = .int .i64 k ∧ u = .int .i64 (cntI t k) ∧ Kept w wr ∧ TB wr w.heap.size t
def BRel (w : World) (t : Twr) (a : Option Addr) (c m : Nat) (l : List Int) (x : Value) (wr : World) : Prop :=
  ∃ k : Nat, k ≤ m ∧ x = .int .i64 k ∧ Kept w wr ∧ TB wr w.heap.size t ∧ wr.ownsRow w.heap.size 3 1 (.slice a m c) m (ints l)
theorem cell14 {w w' : World} {b g o : Nat} {t : Twr} {x : Int} (h : TB w b t) (c : w.cell? ⟨g, o, none⟩ = some (.int .i64 x)) (k : Kept w w') : w'.cell? ⟨b, 0, none⟩ = some (.int .i64 t.D) ∧ w'.cell? ⟨b, 1, none⟩ = some (.int .i64 t.H) ∧ w'.cell? ⟨b, 2, none⟩ = some (.int .i64 t.G) ∧ w'.cell? ⟨b, 3, none⟩ = some (.int .i64 t.A.F.T) ∧ w'.cell? ⟨b, 4, none⟩ = some (.int .i64 t.A.F.K) ∧ w'.cell? ⟨b, 5, none⟩ = some (.int .i64 t.A.F.N) ∧ w'.cell? ⟨b, 6, none⟩ = some (.int .i64 t.A.G) ∧ w'.cell? ⟨b, 7, none⟩ = some (.int .i64 t.A.V) ∧ w'.cell? ⟨b, 8, none⟩ = some (.int .i64 t.A.L) ∧ w'.cell? ⟨b, 9, none⟩ = some (.int .i64 t.E.T) ∧ w'.cell? ⟨b, 10, none⟩ = some (.int .i64 t.E.K) ∧ w'.cell? ⟨b, 11, none⟩ = some (.int .i64 t.E.N) ∧ w'.cell? ⟨b, 12, none⟩ = some (.int .i64 t.P) ∧ w'.cell? ⟨g, o, none⟩ = some (.int .i64 x) := by
  obtain ⟨h0, h1, h2, h3, h4, h5, h6, h7, h8, h9, h10, h11, h12⟩ := tb_all (h.kept k)
  exact ⟨h0, h1, h2, h3, h4, h5, h6, h7, h8, h9, h10, h11, h12, k.some c⟩
theorem cnt_lo (t : Twr) (k : Int) (hq : 0 ≤ t.A.F.N * (4 + t.G)) (hg : 0 ≤ t.G) : 0 ≤ cntI t k ∧ cntI t k ≤ t.A.F.N * (4 + t.G) + t.G := by
  have c : ∀ x m : Int, 0 ≤ m → 0 ≤ clampI x m ∧ clampI x m ≤ m := fun x m hm => by
    unfold clampI
    split
    · omega
    · split <;> omega
  have h1 := c (k - t.D) _ hq
  have h2 := c (k - t.H) _ hg
  unfold cntI
  omega
set_option maxHeartbeats 8000000 in
theorem tower_apart_any (t : Twr) (n : Int) (w : World) : Calls Tryz.prog 5 #[towV t, .int .i64 n] w fun e w' => e = .returned (.bool true) ∧ Kept w w' := by
  have KN := fun W => Lib.hid (known_any W)
  have FT := fun W => Lib.hid (tfits_any t n W)
  obtain ⟨f, hf⟩ : ∃ f, f = fitsT t n := ⟨_, rfl⟩
  rw [← hf] at FT
  go_enter Tryz.func5, Tryz.ntmps5
  go_wp2_with fail
  obtain ⟨W0, hW0⟩ : ∃ W0, W0 = w.alloc (.cells #[.int .i64 t.D, .int .i64 t.H, .int .i64 t.G, .int .i64 t.A.F.T, .int .i64 t.A.F.K, .int .i64 t.A.F.N, .int .i64 t.A.G, .int .i64 t.A.V, .int .i64 t.A.L, .int .i64 t.E.T, .int .i64 t.E.K, .int .i64 t.E.N, .int .i64 t.P] 31) := ⟨_, rfl⟩
  have tb0 : TB W0 w.heap.size t := by rw [hW0]; exact TB.new w _ _ rfl t
  have k0 : Kept w W0 := by rw [hW0]; exact (Kept.refl _).alloc _ _
  rw [← hW0]
  clear hW0
  refine (KN _).out.mono ?_
  rintro e w1 ⟨rfl, k1⟩
  have TT := Lib.hid (tb0.kept k1)
  have KK := Lib.hid (k0.trans k1)
  clear tb0 k0 k1
  obtain ⟨a0, a1, a2, a3, a4, a5, a6, a7, a8, a9, a10, a11, a12⟩ := TT.out
  go_wp2_with fail
  refine (FT _).out.mono ?_
  rintro e w2 ⟨rfl, k2⟩
  have TT := Lib.hid (TT.out.kept k2)
  have KK := Lib.hid (KK.out.trans k2)
  clear k2 a0 a1 a2 a3 a4 a5 a6 a7 a8 a9 a10 a11 a12
  obtain ⟨a0, a1, a2, a3, a4, a5, a6, a7, a8, a9, a10, a11, a12⟩ := TT.out
  by_cases h0 : f = 0
  · have hT : TFit t n := fitsT_ok (by rw [← hf]; exact h0)
    obtain ⟨hA, n1, n2, _⟩ := fitsA_ok hT.l.a
    have e64 : t.E.N ≤ 64 := (Ep.fitsE_ok hT.l.e).2.1
    have hs := hT.s
    have hG1 := hs.G1
    have hG2 := hs.G2
    have hN1 := hs.N1
    have hN2 := hs.N2
    have hq0 := size_lo hs
    have hq1 := size_hi hs
    obtain ⟨q, hq⟩ : ∃ q, q = t.A.F.N * (4 + t.G) := ⟨_, rfl⟩
    have HT := Lib.hid hT
    have HS := Lib.hid hs
    have HQ := Lib.hid hq
    rw [← hq] at hq0 hq1
    have CB : Hid (∀ k : Int, 0 ≤ cntI t k ∧ cntI t k ≤ q + t.G) := Lib.hid (fun k => by rw [hq]; exact cnt_lo t k (by omega) (by omega))
    obtain ⟨m, hm⟩ : ∃ m : Nat, (m : Int) = n := ⟨n.toNat, by omega⟩
    subst hm
    have m4 : m ≤ 4096 := by omega
    have e : IntKind.i64.wrap (t.A.F.N * (4 + t.G)) = q := by rw [← hq, IntKind.wrap_i64]; omega
    have e2 : wrap64 (t.A.F.N * (4 + t.G)) = q := by rw [← hq]; unfold wrap64; omega
    have E1 := Lib.hid (And.intro e e2)
    clear hT hA hs hq hf e e2
    subst h0
    go_wp2_with fail
    clear a0 a1 a2 a3 a4 a5 a6 a7 a8 a9 a10 a11 a12
    go_loopw [6, 7] (ARel w t m) (fun _ x _ => m + 1 - (intOf x).toNat)
    case atStart => exact ⟨0, Nat.zero_le _, rfl, by rw [show cntI t ((0 : Nat) : Int) = 0 from HT.out.all.1], KK.out, TT.out⟩
    case round =>
      obtain ⟨k, hk, rfl, rfl, kr, tr⟩ := hrel
      have KR := Lib.hid kr
      have TR := Lib.hid tr
      obtain ⟨a0, a1, a2, a3, a4, a5, a6, a7, a8, a9, a10, a11, a12⟩ := tr
      have lz := lt_of_cell a0
      have CK := CB.out k
      have CN := Lib.hid (HT.out.cnt k)
      clear kr
      by_cases hlt : k < m
      · have hli : (k : Int) < (m : Int) := by omega
        have hk0 : (0 : Int) ≤ (k : Int) := by omega
        obtain ⟨b, hb⟩ : ∃ b, b = (whoI t k).2.2 := ⟨_, rfl⟩
        have WA : b = true → _ := fun e => who_at (a := (k : Int)) HS.out (by rw [← hb]; exact e)
        have HW := Lib.hid WA
        have HB := Lib.hid hb
        obtain ⟨i, hi⟩ : ∃ i, i = (whoI t k).1 := ⟨_, rfl⟩
        obtain ⟨p, hp⟩ : ∃ p, p = (whoI t k).2.1 := ⟨_, rfl⟩
        have WH := fun W => Lib.hid (show Calls Tryz.prog 34 #[towV t, .int .i64 k] W fun e w' => e = .returned (.tuple #[.int .i64 i, .int .i64 p, .bool b]) ∧ Kept W w' from by rw [hi, hp, hb]; exact who_any t k W)
        rw [← hi, ← hp] at WA
        clear HW hi hp hb
        have HW := Lib.hid WA
        clear WA
        generalize cntI t k = cn at *
        go_wp2_with fail
        refine (WH _).out.mono ?_
        rintro e v1 ⟨rfl, k1⟩
        have KR := Lib.hid (KR.out.trans k1)
        have TR := Lib.hid (TR.out.kept k1)
        clear k1 a0 a1 a2 a3 a4 a5 a6 a7 a8 a9 a10 a11 a12 lz
        obtain ⟨a0, a1, a2, a3, a4, a5, a6, a7, a8, a9, a10, a11, a12⟩ := TR.out
        cases b with
        | false =>
          go_wp2
          refine ⟨⟨k + 1, by omega, by go_num, ?_, KR.out, TR.out⟩, by simp [intOf]; omega⟩
          have := CN.out
          rw [← HB.out, if_neg (by decide)] at this
          rw [show (((k + 1 : Nat) : Int)) = (k : Int) + 1 from by omega, this, Int.add_zero]
        | true =>
          obtain ⟨ea, en, p0, p8, i0, i1⟩ := HW.out rfl
          have AT := fun W => Lib.hid (show Calls Tryz.prog 32 #[towV t, .int .i64 i, .int .i64 p] W fun e w' => e = .returned (.int .i64 k) ∧ Kept W w' from by have := at_any t i p (by unfold I64; omega) W; rwa [ea] at this)
          have HEN := Lib.hid en
          have CT : Hid (cntI t ((k + 1 : Nat) : Int) = cn + 1) := Lib.hid (by
            have := CN.out
            rw [← HB.out, if_pos rfl] at this
            rw [show (((k + 1 : Nat) : Int)) = (k : Int) + 1 from by omega, this])
          clear ea en
          have wc : IntKind.i64.wrap (cn + 1) = cn + 1 := by rw [IntKind.wrap_i64]; omega
          go_wp2_with fail
          refine (AT _).out.mono ?_
          rintro e v2 ⟨rfl, k2⟩
          have KR := Lib.hid (KR.out.trans k2)
          have TR := Lib.hid (TR.out.kept k2)
          clear k2 a0 a1 a2 a3 a4 a5 a6 a7 a8 a9 a10 a11 a12
          obtain ⟨a0, a1, a2, a3, a4, a5, a6, a7, a8, a9, a10, a11, a12⟩ := TR.out
          by_cases h4 : 4 ≤ p
          · have d4 : decide (4 ≤ p) = true := decide_eq_true h4
            have NX := fun W => Lib.hid (show Calls Tryz.prog 33 #[towV t, .int .i64 i, .int .i64 (p - 4)] W fun e w' => e = .returned (.int .i64 k) ∧ Kept W w' from by have := next_any t i (p - 4) (by unfold I64; omega) W; rwa [HEN.out h4] at this)
            go_wp2_with fail
            refine (NX _).out.mono ?_
            rintro e v3 ⟨rfl, k3⟩
            have KR := Lib.hid (KR.out.trans k3)
            have TR := Lib.hid (TR.out.kept k3)
            clear k3 a0 a1 a2 a3 a4 a5 a6 a7 a8 a9 a10 a11 a12
            go_wp2
            exact ⟨⟨k + 1, by omega, by go_num, by rw [CT.out], KR.out, TR.out⟩, by simp [intOf]; omega⟩
          · have d4 : decide (4 ≤ p) = false := decide_eq_false h4
            go_wp2
            exact ⟨⟨k + 1, by omega, by go_num, by rw [CT.out], KR.out, TR.out⟩, by simp [intOf]; omega⟩
      · have hli : (m : Int) ≤ (k : Int) := by omega
        have hkm : k = m := by omega
        subst hkm
        have CA := Lib.hid HT.out.all.2
        have LM := fun W => Lib.hid (Lim.limbos_any t k HT.out.l hN2 W)
        generalize cntI t k = cn at *
        go_wp2_with fail
        refine (LM _).out.mono ?_
        rintro e v4 ⟨la, lc, l, rfl, l1, lin, lown, k4⟩
        have OW := Lib.hid (own_mono lown KR.out.size)
        have KR := Lib.hid (KR.out.trans k4)
        have TR := Lib.hid (TR.out.kept k4)
        have LIN := Lib.hid lin
        obtain ⟨z, hz⟩ : ∃ z, z = l.length := ⟨_, rfl⟩
        rw [← hz] at OW l1 ⊢
        have HZ := Lib.hid hz
        clear k4 lown lin hz a0 a1 a2 a3 a4 a5 a6 a7 a8 a9 a10 a11 a12 lz
        go_wp2_with fail
        go_loopw [12] (BRel w t la lc z l) (fun x _ => z + 1 - (intOf x).toNat)
        case atStart => exact ⟨0, Nat.zero_le _, rfl, KR.out, TR.out, OW.out⟩
        case round =>
          obtain ⟨k2, hk2, rfl, kr, tr, ow⟩ := hrel
          have KR := Lib.hid kr
          have TR := Lib.hid tr
          have OW := Lib.hid ow
          obtain ⟨a0, a1, a2, a3, a4, a5, a6, a7, a8, a9, a10, a11, a12⟩ := tr
          have lz := lt_of_cell a0
          have hk20 : (0 : Int) ≤ (k2 : Int) := by omega
          clear kr
          by_cases hlt : k2 < z
          · have hli : (k2 : Int) < (z : Int) := by omega
            have hx : l[k2]? = some (l[k2]'(by have := HZ.out; omega)) := List.getElem?_eq_getElem _
            obtain ⟨x, hxx⟩ : ∃ x, x = l[k2]'(by have := HZ.out; omega) := ⟨_, rfl⟩
            rw [← hxx] at hx
            have hwx : (whoI t x).2.2 = false := HT.out.free x (LIN.out x (by rw [hxx]; exact List.getElem_mem _))
            have WX := fun W => Lib.hid (show Calls Tryz.prog 34 #[towV t, .int .i64 x] W fun e w' => ∃ u v, e = .returned (.tuple #[.int .i64 u, .int .i64 v, .bool false]) ∧ Kept W w' from (who_any t x W).mono fun _ _ ⟨y, k⟩ => ⟨(whoI t x).1, (whoI t x).2.1, by rw [y, hwx], k⟩)
            rcases own_lies ow with ⟨_, e2, _⟩ | ⟨g, o, c', e1, _, _, hc⟩
            · omega
            · injection e1 with e1 e3 e4
              subst e1
              subst e4
              clear e3
              have cx := hc k2 _ (ints_get l k2 x hx)
              have lg := lt_of_cell cx
              have CX := Lib.hid cx
              clear ow hc hwx hx hxx
              have KT : Kept wr wr := Kept.refl _
              go_wp2_with fail
              go_region_held3 (fun w' => w'.cell? ⟨w.heap.size, 0, none⟩ = some (.int .i64 t.D) ∧ w'.cell? ⟨w.heap.size, 1, none⟩ = some (.int .i64 t.H) ∧ w'.cell? ⟨w.heap.size, 2, none⟩ = some (.int .i64 t.G) ∧ w'.cell? ⟨w.heap.size, 3, none⟩ = some (.int .i64 t.A.F.T) ∧ w'.cell? ⟨w.heap.size, 4, none⟩ = some (.int .i64 t.A.F.K) ∧ w'.cell? ⟨w.heap.size, 5, none⟩ = some (.int .i64 t.A.F.N) ∧ w'.cell? ⟨w.heap.size, 6, none⟩ = some (.int .i64 t.A.G) ∧ w'.cell? ⟨w.heap.size, 7, none⟩ = some (.int .i64 t.A.V) ∧ w'.cell? ⟨w.heap.size, 8, none⟩ = some (.int .i64 t.A.L) ∧ w'.cell? ⟨w.heap.size, 9, none⟩ = some (.int .i64 t.E.T) ∧ w'.cell? ⟨w.heap.size, 10, none⟩ = some (.int .i64 t.E.K) ∧ w'.cell? ⟨w.heap.size, 11, none⟩ = some (.int .i64 t.E.N) ∧ w'.cell? ⟨w.heap.size, 12, none⟩ = some (.int .i64 t.P) ∧ w'.cell? ⟨g, o + k2, none⟩ = some (.int .i64 x)) ((((with_reducible refine cell14 TR.out CX.out ?_); (repeat (first | (with_reducible exact KT) | (with_reducible exact Kept.refl _) | (with_reducible refine Kept.alloc ?_ _ _) | (with_reducible refine Kept.drew ?_) | (with_reducible refine Kept.drewN ?_ _))); done))) (first | (go_at_call 34; (with_reducible refine Calls.mono (WX _).out ?_); rintro e v6 ⟨u6, u7, rfl, y⟩; have KX : Kept wr v6 := Kept.trans (b := _) (by repeat (first | with_reducible exact KT | with_reducible exact Kept.refl _ | with_reducible refine Kept.alloc ?_ _ _ | with_reducible refine Kept.drew ?_ | with_reducible refine Kept.drewN ?_ _)) y; have KT := KX; clear KX y))
              all_goals
                go_wp2
                exact ⟨⟨k2 + 1, by omega, by go_num, KR.out.trans KT, TR.out.kept KT, own_keep OW.out KT⟩, by simp [intOf]; omega⟩
          · have hli : (z : Int) ≤ (k2 : Int) := by omega
            have hcq : cn = q + t.G := by have := CA.out; rw [← HQ.out] at this; exact this
            obtain ⟨e, e2⟩ := E1.out
            have e3 : IntKind.i64.wrap (q + t.G) = q + t.G := by rw [IntKind.wrap_i64]; omega
            subst hcq
            go_wp2
            go_ret
            exact ⟨rfl, KR.out⟩
  · have hd : (f != 0) = true := by simpa using h0
    go_wp2
    go_ret
    exact ⟨rfl, KK.out⟩
theorem apart_law {cs : Array Value} (h : ∃ t : Twr, cs = (towcell t).toArray) (n : Int) (w : World) : Calls Tryz.prog 5 #[.agg cs, .int .i64 n] w fun e w' => e = .returned (.bool true) ∧ Kept w w' := by
  obtain ⟨t, rfl⟩ := h
  exact tower_apart_any t n w
end Go.Proofs.YtejiogggocnldaaGreat.Tw

namespace Go.Proofs.YtejiogggocnldaaGreat.Tw.Lv
set_option maxRecDepth 20000
open Go.RowKit
open Wo (St acc wordAt PMem RefIs)
open Sk (Stk Arn idx Wd p_store p_new pmem_lt pmem_kept pmem_frame kept_of acc_cnt)

structure Mv (w0 : World) (M B : Nat) (l : List Int) (c : Nat) (w : World) : Prop where
  ex : ∃ s, PMem w M B 34 s ∧ s.ws = (fun i => l.getD i 0) ∧ 0 ≤ s.cnt ∧ s.cnt ≤ c
  kept : Kept w0 w
  lM : w0.heap.size ≤ M
  lB : w0.heap.size ≤ B
theorem Mv.grow {w0 w w' : World} {M B c : Nat} {l : List Int} (h : Mv w0 M B l c w) (k : Kept w w') : Mv w0 M B l c w' := by
  obtain ⟨s, m, h1, h2, h3⟩ := h.ex
  exact ⟨⟨s, pmem_kept m k, h1, h2, h3⟩, h.kept.trans k, h.lM, h.lB⟩
theorem Mv.lt {w0 w : World} {M B c : Nat} {l : List Int} (h : Mv w0 M B l c w) : M < w.heap.size ∧ B < w.heap.size := by
  obtain ⟨s, m, _⟩ := h.ex
  exact pmem_lt m
theorem mvstore {w0 w : World} {M B c : Nat} {l : List Int} (m : Mv w0 M B l c w) (hc : c ≤ 1000000) (ai : Int) (a : Nat) (hai : ai = a) (v : Int) (ha : a < 34) (hl : l.length = 34) :
    Calls Tryz.prog 36 #[.pointer (some ⟨M, 0, none⟩), .int .i64 ai, .int .u64 v] w fun e w' => e = .returned (.tuple #[]) ∧ Mv w0 M B (l.set a v) (c + 1) w' ∧ But (fun j => j = B) w w' := by
  obtain ⟨s, hm, hs, c0, c1⟩ := m.ex
  refine (p_store M B 34 s ai v w hm c0 (by omega)).mono ?_
  rintro e w' ⟨x, y, z⟩
  refine ⟨x, ⟨⟨_, y, ?_, ?_, ?_⟩, ((m.kept.but _).trans z (fun _ _ h => h)).kept (fun i hi e => by have := m.lB; have e : i = B := e; omega), m.lM, m.lB⟩, z⟩
  · funext i
    subst hai
    unfold acc
    rw [if_pos ⟨by omega, by omega⟩, if_pos rfl]
    dsimp only
    rw [hs]
    dsimp only
    by_cases hi : i = a
    · subst hi
      rw [if_pos (by simp)]
      simp [hl, ha]
    · rw [if_neg (by simpa using hi)]
      simp [List.getD_eq_getElem?_getD, List.getElem?_set, Ne.symm hi]
  · rw [acc_cnt]; omega
  · rw [acc_cnt]; omega
def AmRel (w : World) (l : List Int) (i : Int) (x : Value) (wr : World) : Prop := ∃ k : Nat, k ≤ l.length ∧ x = .int .i64 k ∧ wr = w ∧ ∀ j (hj : j < l.length), j < k → l[j] ≠ i
set_option maxHeartbeats 1000000 in
theorem among_any {w : World} {base c n : Nat} {a : Option Addr} {l : List Int} (hn : n = l.length) (hl : n ≤ 1000) (own : w.ownsRow base 3 1 (.slice a n c) n (ints l)) (i : Int) : Calls Tryz.prog 47 #[.slice a n c, .int .i64 i] w fun e w' => e = .returned (.bool (decide (i ∈ l))) ∧ w = w' := by
  have HC : Hid (∀ k (hk : k < l.length), ∃ g o, a = some ⟨g, o, none⟩ ∧ w.cell? ⟨g, o + k, none⟩ = some (.int .i64 l[k])) := Lib.hid (fun k hk => by
    rcases own_lies own with ⟨_, e2, _⟩ | ⟨g, o, c', e1, _, _, hc⟩
    · omega
    · injection e1 with e1 _ _
      exact ⟨g, o, e1, hc k _ (ints_get l k _ (List.getElem?_eq_getElem hk))⟩)
  clear own
  subst hn
  go_enter Tryz.func47, Tryz.ntmps47
  go_wp2_with fail
  go_loopw [5] (AmRel w l i) (fun x _ => l.length + 1 - (intOf x).toNat)
  case atStart => exact ⟨0, Nat.zero_le _, rfl, rfl, fun j _ h => absurd h (Nat.not_lt_zero _)⟩
  case round =>
    obtain ⟨k, hk, rfl, rfl, hno⟩ := hrel
    have HN := Lib.hid hno
    clear hno
    by_cases hlt : k < l.length
    · have hli : (k : Int) < (l.length : Int) := by omega
      have hk0 : (0 : Int) ≤ (k : Int) := by omega
      obtain ⟨g, o, rfl, cx⟩ := HC.out k hlt
      have lg := lt_of_cell cx
      obtain ⟨x, hx⟩ : ∃ x, x = l[k] := ⟨_, rfl⟩
      rw [← hx] at cx
      have HX := Lib.hid hx
      clear hx
      by_cases he : x = i
      · have hb : (x == i) = true := by simpa using he
        have hm : decide (i ∈ l) = true := decide_eq_true (by rw [← he, HX.out]; exact List.getElem_mem _)
        have HM := Lib.hid hm
        clear he hm
        go_wp2
        go_ret
        exact ⟨by rw [HM.out]; rfl, rfl⟩
      · have hb : (x == i) = false := by simpa using he
        have HE := Lib.hid he
        clear he
        go_wp2
        refine ⟨⟨k + 1, by omega, by go_num, rfl, fun j hj h => ?_⟩, by simp [intOf]; omega⟩
        by_cases e : j = k
        · subst e
          rw [← HX.out]
          exact HE.out
        · exact HN.out j hj (by omega)
    · have hli : (l.length : Int) ≤ (k : Int) := by omega
      have hm : decide (i ∈ l) = false := decide_eq_false (fun h => by
        obtain ⟨j, hj, e⟩ := List.mem_iff_getElem.1 h
        exact HN.out j hj (by omega) e)
      have HM := Lib.hid hm
      clear hm
      go_wp2
      go_ret
      exact ⟨by rw [HM.out]; rfl, rfl⟩
def rows : List (List Int) := [[], [0], [1], [2], [0, 1], [0, 2], [1, 0], [1, 2], [2, 0], [2, 1], [0, 1, 2], [0, 2, 1], [1, 0, 2], [1, 2, 0], [2, 0, 1], [2, 1, 0]]
theorem rows_snoc : ∀ R ∈ rows, ∀ i ∈ [(0 : Int), 1, 2], ¬ i ∈ R → R ++ [i] ∈ rows := by decide +kernel
theorem rows_len : ∀ R ∈ rows, R.length ≤ 3 := by decide +kernel
theorem rows_in : ∀ R ∈ rows, ∀ i ∈ R, i = 0 ∨ i = 1 ∨ i = 2 := by decide +kernel
def atR (R : List Int) (k : Nat) : Int := if k = 0 then -1 else R.getD (k - 1) 0
def wdR (R : List Int) (k : Nat) : Int := if k < R.length then R.getD k 0 + 1 + (5 + k) * 65536 else 0
def mkR (b : Nat → Bool) (k : Nat) : Bool := if k = 0 then false else b (k - 1)
def base : List Int := [1, 2, 3, 0, 1, 1, 1, 0, 0, 0, 0, 0, 0, 0, 0, 0, 0, 0, 0, 0, 0, 0, 0, 0, 0, 0, 0, 0, 0, 0, 0, 0, 0, 0]
def lw (R : List Int) (lev : Int) (b : Nat → Bool) : Nat → List Int
  | 0 => base
  | k + 1 => (lw R lev b k).set (nextI T0 (atR R k) lev).toNat (Wo.setMark (wdR R k) (mkR b k))
theorem lw_len (R : List Int) (lev : Int) (b : Nat → Bool) : ∀ k, (lw R lev b k).length = 34
  | 0 => rfl
  | k + 1 => by unfold lw; rw [List.length_set, lw_len]
def livR (R : List Int) (b : Nat → Bool) : Nat → List Int
  | 0 => []
  | k + 1 => if b k then livR R b k else livR R b k ++ [R.getD k 0]
def bit3 (x y z : Bool) (k : Nat) : Bool := if k = 0 then x else if k = 1 then y else z
def okR (R : List Int) (lev : Int) (b : Nat → Bool) : Bool :=
  (levelL 34 (fun i => (lw R lev b (R.length + 1)).getD i 0) T0 lev).filter (fun _ => true) == R &&
  (lev == 1 || liveM 34 (fun i => (lw R lev b (R.length + 1)).getD i 0) T0 == livR R b R.length) &&
  (lev != 1 || ((levelL 34 (fun i => (lw R lev b (R.length + 1)).getD i 0) T0 0).filter (fun _ => true) == [] && liveM 34 (fun i => (lw R lev b (R.length + 1)).getD i 0) T0 == [])) &&
  (lw R lev b (R.length + 1)).all (fun x => decide (0 ≤ x ∧ x < 18446744073709551616))
theorem okR_all : ∀ R ∈ rows, ∀ lev ∈ [(0 : Int), 1], ∀ x y z : Bool, okR R lev (bit3 x y z) = true := by decide +kernel
theorem addr_in : ∀ R ∈ rows, ∀ lev ∈ [(0 : Int), 1], ∀ k : Fin 4, k.val ≤ R.length → 0 ≤ nextI T0 (atR R k.val) lev ∧ nextI T0 (atR R k.val) lev < 34 := by decide +kernel
theorem lw_bits (R : List Int) (lev : Int) (b b' : Nat → Bool) : ∀ k, (∀ j, j + 1 < k → b j = b' j) → lw R lev b k = lw R lev b' k
  | 0, _ => rfl
  | k + 1, h => by
    unfold lw
    rw [lw_bits R lev b b' k (fun j hj => h j (by omega))]
    have : mkR b k = mkR b' k := by
      unfold mkR
      split
      · rfl
      · exact h _ (by omega)
    rw [this]
theorem liv_bits (R : List Int) (b b' : Nat → Bool) : ∀ k, (∀ j, j < k → b j = b' j) → livR R b k = livR R b' k
  | 0, _ => rfl
  | k + 1, h => by
    unfold livR
    rw [liv_bits R b b' k (fun j hj => h j (by omega)), h k (by omega)]
theorem okR_any {R : List Int} (hR : R ∈ rows) {lev : Int} (hl : lev = 0 ∨ lev = 1) (b : Nat → Bool) : okR R lev b = true := by
  have h := okR_all R hR lev (by rcases hl with rfl | rfl <;> simp) (b 0) (b 1) (b 2)
  have hlen := rows_len R hR
  have hb : ∀ j, j < 3 → bit3 (b 0) (b 1) (b 2) j = b j := fun j hj => by
    have : j = 0 ∨ j = 1 ∨ j = 2 := by omega
    rcases this with rfl | rfl | rfl <;> rfl
  have e1 := lw_bits R lev (bit3 (b 0) (b 1) (b 2)) b (R.length + 1) (fun j hj => hb j (by omega))
  have e2 := liv_bits R (bit3 (b 0) (b 1) (b 2)) b R.length (fun j hj => hb j (by omega))
  unfold okR at h ⊢
  rwa [e1, e2] at h
end Go.Proofs.YtejiogggocnldaaGreat.Tw.Lv
