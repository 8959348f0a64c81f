/- A limbo's cells, told one by one: limbos, of TowerApart. -/
import Derived.Test.YtejiogggocnldaaGreatG19
import Derived.Test.YtejiogggocnldaaGreatG23
import Derived.Test.YtejiogggocnldaaGreatG28
import Derived.Test.YtejiogggocnldaaGreatG05
import Derived.Test.YtejiogggocnldaaGreatG03
set_option linter.unusedVariables false
set_option linter.unusedSimpArgs false

namespace Go.Proofs.YtejiogggocnldaaGreat.Tw
set_option maxRecDepth 20000
open Go.RowKit
open Wo (St acc wordAt PMem RefIs)
open Sk (Stk Arn idx Wd)

namespace Lim
def appSemI (ts : Array TypeId) (ty : TypeId) (args : Array Value) : Sem Value := Builtin.append_ ts ty args
theorem appI_named (ts : Array TypeId) (ty : TypeId) (args : Array Value) : Builtin.append_ ts ty args = appSemI ts ty args := rfl
attribute [local go_sem ↓] appI_named
theorem infoI : (Tryz.prog.info? 3).map (fun i => (i.zero, i.size, i.bytes)) = some (some (.int .i64 0), 1, 8) := by kernel_rfl
theorem app1 {W W5 : World} {N : Nat} {v : Value} {l : List Int} (hrow : W.ownsRow N 3 1 v l.length (ints l)) (k : Kept W W5) (hN : N ≤ W.heap.size) (hl : l.length ≤ 5000) (x : Int) :
    ∃ a c w1, (appSemI #[71, 71] 71 #[v, .slice (some ⟨W5.heap.size, 0, none⟩) 1 1]).run Tryz.prog (W5.alloc (.cells #[.int .i64 x] 3)) = .ok (.slice a (l.length + 1) c) w1 ∧
      w1.ownsRow N 3 1 (.slice a (l.length + 1) c) (l ++ [x]).length (ints (l ++ [x])) ∧ But (fun j => v.ownBlock = some j) W w1 := by
  obtain ⟨i0, hi, hz0, hz1, hz2⟩ := info_parts infoI
  have kA : Kept W (W5.alloc (.cells #[.int .i64 x] 3)) := k.alloc _ _
  obtain ⟨a, c, w1, hr, own, but, at_⟩ := append_lay (P := Tryz.prog) (W5.alloc (.cells #[.int .i64 x] 3)) N 71 71 3 i0 _ 1 8 Tryz.underlying71 hi hz0 hz1 hz2 (by rfl) (by decide) v l.length (ints l) (own_keep hrow kA) (.slice (some ⟨W5.heap.size, 0, none⟩) 1 1) 1 [.int .i64 x]
    rfl (lay_new (heap_alloc_new _ _) (by omega)) (by simp [Value.oneCell']) (by unfold maxLen; omega) (by omega) (by have := k.size; simp; omega)
  rw [appI_named] at hr
  refine ⟨a, c, w1, hr, ?_, (kA.but _).trans but (fun _ _ h => h)⟩
  rw [List.length_append, ints_append]
  exact own
theorem app2 {W W5 : World} {N : Nat} {v : Value} {l : List Int} (hrow : W.ownsRow N 3 1 v l.length (ints l)) (k : Kept W W5) (hN : N ≤ W.heap.size) (hl : l.length ≤ 5000) (x y : Int) :
    ∃ a c w1, (appSemI #[71, 71] 71 #[v, .slice (some ⟨W5.heap.size, 0, none⟩) 2 2]).run Tryz.prog (W5.alloc (.cells #[.int .i64 x, .int .i64 y] 3)) = .ok (.slice a (l.length + 2) c) w1 ∧
      w1.ownsRow N 3 1 (.slice a (l.length + 2) c) (l ++ [x, y]).length (ints (l ++ [x, y])) ∧ But (fun j => v.ownBlock = some j) W w1 := by
  obtain ⟨i0, hi, hz0, hz1, hz2⟩ := info_parts infoI
  have kA : Kept W (W5.alloc (.cells #[.int .i64 x, .int .i64 y] 3)) := k.alloc _ _
  obtain ⟨a, c, w1, hr, own, but, at_⟩ := append_lay (P := Tryz.prog) (W5.alloc (.cells #[.int .i64 x, .int .i64 y] 3)) N 71 71 3 i0 _ 1 8 Tryz.underlying71 hi hz0 hz1 hz2 (by rfl) (by decide) v l.length (ints l) (own_keep hrow kA) (.slice (some ⟨W5.heap.size, 0, none⟩) 2 2) 2 [.int .i64 x, .int .i64 y]
    rfl (lay_new (heap_alloc_new _ _) (by omega)) (by simp [Value.oneCell']) (by unfold maxLen; omega) (by omega) (by have := k.size; simp; omega)
  rw [appI_named] at hr
  refine ⟨a, c, w1, hr, ?_, (kA.but _).trans but (fun _ _ h => h)⟩
  rw [List.length_append, ints_append]
  exact own
theorem own6 (w : World) (a b c d e f : Int) : (w.alloc (.cells #[.int .i64 a, .int .i64 b, .int .i64 c, .int .i64 d, .int .i64 e, .int .i64 f] 3)).ownsRow w.heap.size 3 1 (.slice (some ⟨w.heap.size, 0, none⟩) 6 6) 6 (ints [a, b, c, d, e, f]) :=
  ⟨rfl, .inr ⟨_, _, _, rfl, Nat.le_refl _, heap_alloc_new _ _, by decide, by decide, rfl, rfl⟩⟩
def InL (t : Twr) (x : Int) : Prop := ∃ s ∈ lparts t, s.1 ≤ x ∧ x < s.1 + s.2
def LRel (w : World) (t : Twr) (m k0 m0 : Nat) (u x : Value) (wr : World) : Prop :=
  ∃ k : Nat, k ≤ m ∧ x = .int .i64 k ∧ ∃ l : List Int, l.length = m0 + k0 * k ∧ (∀ y ∈ l, InL t y) ∧ wr.ownsRow (w.heap.size + 1) 3 1 u l.length (ints l) ∧ Kept w wr ∧ LB wr w.heap.size t
theorem LRel.step {w wr w7 : World} {t : Twr} {u : Value} (kr : Kept w wr) (lb : LB wr w.heap.size t) (hu : ∀ g, u.ownBlock = some g → w.heap.size + 1 ≤ g) (b : But (fun j => u.ownBlock = some j) wr w7) : Kept w w7 ∧ LB w7 w.heap.size t :=
  ⟨((kr.but _).trans b (fun _ _ h => h)).kept (fun j hj e => by have := hu j e; omega), lb.but b (fun e => by have := hu _ e; omega)⟩
def LPost (t : Twr) (w : World) (e : Ending) (w' : World) : Prop := ∃ (a : Option Addr) (c : Nat) (l : List Int), e = .returned (.slice a l.length c) ∧ l.length ≤ 1000 ∧ (∀ y ∈ l, InL t y) ∧ w'.ownsRow w.heap.size 3 1 (.slice a l.length c) l.length (ints l) ∧ Kept w w'
set_option maxHeartbeats 4000000 in
theorem limbos_any (t : Twr) (n : Int) (h : LFit t n) (hN : t.A.F.N ≤ 128) (w : World) : Calls Tryz.prog 42 #[limV t] w (LPost t w) := by
  have ok := lparts_ok h.a h.e h.p0 h.p1
  have ok1 := ok (t.A.F.T, 1) (by simp [lparts])
  have ok2 := ok (t.A.F.K, t.A.F.N) (by simp [lparts])
  have ok3 := ok (t.A.G, t.A.F.N) (by simp [lparts])
  have ok4 := ok (t.A.V, 1) (by simp [lparts])
  have ok5 := ok (t.E.T, 1) (by simp [lparts])
  have ok6 := ok (t.E.K, t.E.N) (by simp [lparts])
  have ok7 := ok (t.P, 3) (by simp [lparts])
  have e64 : t.E.N ≤ 64 := (Ep.fitsE_ok h.e).2.1
  unfold Spn.Ok at ok1 ok2 ok3 ok4 ok5 ok6 ok7
  dsimp only at ok1 ok2 ok3 ok4 ok5 ok6 ok7
  have I6 : Hid (∀ y ∈ [t.A.F.T, t.A.V, t.E.T, t.P, t.P + 1, t.P + 2], InL t y) := Lib.hid (by
    intro y hy
    simp only [List.mem_cons, List.not_mem_nil, or_false] at hy
    rcases hy with rfl | rfl | rfl | rfl | rfl | rfl
    · exact ⟨(t.A.F.T, 1), by simp [lparts], by dsimp only; omega, by dsimp only; omega⟩
    · exact ⟨(t.A.V, 1), by simp [lparts], by dsimp only; omega, by dsimp only; omega⟩
    · exact ⟨(t.E.T, 1), by simp [lparts], by dsimp only; omega, by dsimp only; omega⟩
    · exact ⟨(t.P, 3), by simp [lparts], by dsimp only; omega, by dsimp only; omega⟩
    · exact ⟨(t.P, 3), by simp [lparts], by dsimp only; omega, by dsimp only; omega⟩
    · exact ⟨(t.P, 3), by simp [lparts], by dsimp only; omega, by dsimp only; omega⟩)
  have IK : Hid (∀ k : Nat, (k : Int) < t.A.F.N → InL t (t.A.F.K + k) ∧ InL t (t.A.G + k)) := Lib.hid (fun k hk => ⟨⟨(t.A.F.K, t.A.F.N), by simp [lparts], by dsimp only; omega, by dsimp only; omega⟩, ⟨(t.A.G, t.A.F.N), by simp [lparts], by dsimp only; omega, by dsimp only; omega⟩⟩)
  have IE : Hid (∀ k : Nat, (k : Int) < t.E.N → InL t (t.E.K + k)) := Lib.hid (fun k hk => ⟨(t.E.K, t.E.N), by simp [lparts], by dsimp only; omega, by dsimp only; omega⟩)
  have p1 : IntKind.i64.wrap (t.P + 1) = t.P + 1 := by rw [IntKind.wrap_i64]; omega
  have p2 : IntKind.i64.wrap (t.P + 2) = t.P + 2 := by rw [IntKind.wrap_i64]; omega
  obtain ⟨m, hm⟩ : ∃ m : Nat, (m : Int) = t.A.F.N := ⟨t.A.F.N.toNat, by omega⟩
  obtain ⟨m2, hm2⟩ : ∃ m : Nat, (m : Int) = t.E.N := ⟨t.E.N.toNat, by omega⟩
  have HM := Lib.hid (And.intro hm hm2)
  clear ok h hm hm2
  go_enter Tryz.func42, Tryz.ntmps42
  go_wp2_with fail
  obtain ⟨Wa, hWa⟩ : ∃ Wa, Wa = w.alloc (.cells #[.int .i64 t.A.F.T, .int .i64 t.A.F.K, .int .i64 t.A.F.N, .int .i64 t.A.G, .int .i64 t.A.V, .int .i64 t.A.L, .int .i64 t.E.T, .int .i64 t.E.K, .int .i64 t.E.N, .int .i64 t.P] 29) := ⟨_, rfl⟩
  have lb : LB Wa w.heap.size t := by rw [hWa]; exact LB.new w _ _ rfl t
  have ka : Kept w Wa := by rw [hWa]; exact (Kept.refl _).alloc _ _
  have hz : Wa.heap.size = w.heap.size + 1 := by rw [hWa]; simp
  rw [← hWa, ← hz]
  clear hWa
  obtain ⟨Wc, hWc⟩ : ∃ Wc, Wc = Wa.alloc (.cells #[.int .i64 t.A.F.T, .int .i64 t.A.V, .int .i64 t.E.T, .int .i64 t.P, .int .i64 (t.P + 1), .int .i64 (t.P + 2)] 3) := ⟨_, rfl⟩
  have LC : Hid (LB Wc w.heap.size t) := Lib.hid (by rw [hWc]; exact lb.kept ((Kept.refl _).alloc _ _))
  have KC : Hid (Kept w Wc) := Lib.hid (by rw [hWc]; exact ka.alloc _ _)
  have OC : Hid (Wc.ownsRow (w.heap.size + 1) 3 1 (.slice (some ⟨Wa.heap.size, 0, none⟩) 6 6) 6 (ints [t.A.F.T, t.A.V, t.E.T, t.P, t.P + 1, t.P + 2])) := Lib.hid (by rw [hWc]; exact own_mono (own6 Wa _ _ _ _ _ _) (by omega))
  have hzc : w.heap.size ≤ Wc.heap.size := KC.out.size
  rw [← hWc]
  clear hWc lb ka
  go_loopw [3, 4] (LRel w t m 2 6) (fun _ x _ => m + 1 - (intOf x).toNat)
  case atStart => exact ⟨0, Nat.zero_le _, rfl, [t.A.F.T, t.A.V, t.E.T, t.P, t.P + 1, t.P + 2], rfl, I6.out, OC.out, KC.out, LC.out⟩
  case round =>
    obtain ⟨k, hk, rfl, l, hll, hin, own, kr, lbr⟩ := hrel
    obtain ⟨au, cu, rfl⟩ := own_form own
    have OW := Lib.hid own
    have KR := Lib.hid kr
    have LR := Lib.hid lbr
    have HLL := Lib.hid hll
    have HIN := Lib.hid hin
    obtain ⟨c0, c1, c2, c3, c4, c5, c6, c7, c8, c9⟩ := LR.out
    have lz := lt_of_cell c0
    have hNr : w.heap.size + 1 ≤ wr.heap.size := by omega
    have l5 : l.length ≤ 5000 := by have := HM.out; omega
    clear own kr hin lbr hll
    by_cases hlt : k < m
    · have hl : (k : Int) < t.A.F.N := by have := HM.out.1; omega
      have w1 : IntKind.i64.wrap (t.A.F.K + k) = t.A.F.K + k := by rw [IntKind.wrap_i64]; omega
      have w2 : IntKind.i64.wrap (t.A.G + k) = t.A.G + k := by rw [IntKind.wrap_i64]; omega
      obtain ⟨a', c', w7, hrun, own7, but7⟩ := app2 OW.out (Kept.refl wr) hNr l5 (t.A.F.K + k) (t.A.G + k)
      have O7 := Lib.hid own7
      have IKk := IK.out k hl
      clear own7
      go_wp2
      obtain ⟨K7, B7⟩ := LRel.step KR.out LR.out (fun g hg => (OW.out.lt g hg).1) but7
      refine ⟨⟨k + 1, by omega, by go_num, l ++ [t.A.F.K + k, t.A.G + k], by rw [List.length_append, HLL.out]; simp; omega, fun y hy => ?_, ?_, K7, B7⟩, by simp [intOf]; omega⟩
      · rcases List.mem_append.1 hy with hy | hy
        · exact HIN.out y hy
        · simp only [List.mem_cons, List.not_mem_nil, or_false] at hy
          rcases hy with rfl | rfl
          · exact IKk.1
          · exact IKk.2
      · have := O7.out
        rwa [List.length_append] at this ⊢
    · have hl : t.A.F.N ≤ (k : Int) := by have := HM.out.1; omega
      have hkm : k = m := by omega
      subst hkm
      go_wp2_with fail
      clear c0 c1 c2 c3 c4 c5 c6 c7 c8 c9 lz hNr l5
      go_loopw [3, 5] (LRel w t m2 1 (6 + 2 * k)) (fun _ x _ => m2 + 1 - (intOf x).toNat)
      case atStart => exact ⟨0, Nat.zero_le _, rfl, l, by rw [HLL.out]; omega, HIN.out, OW.out, KR.out, LR.out⟩
      case round =>
        obtain ⟨k2, hk2, rfl, l2, hll2, hin2, own2, kr2, lbr2⟩ := hrel
        obtain ⟨au2, cu2, rfl⟩ := own_form own2
        have OW2 := Lib.hid own2
        have KR2 := Lib.hid kr2
        have LR2 := Lib.hid lbr2
        have HLL2 := Lib.hid hll2
        have HIN2 := Lib.hid hin2
        obtain ⟨c0, c1, c2, c3, c4, c5, c6, c7, c8, c9⟩ := lbr2
        have lz := lt_of_cell c0
        have hNr : w.heap.size + 1 ≤ wr.heap.size := by omega
        have l5 : l2.length ≤ 5000 := by have := HM.out; omega
        clear own2 kr2 hin2 hll2
        by_cases hlt2 : k2 < m2
        · have hl2 : (k2 : Int) < t.E.N := by have := HM.out.2; omega
          have w1 : IntKind.i64.wrap (t.E.K + k2) = t.E.K + k2 := by rw [IntKind.wrap_i64]; omega
          obtain ⟨a', c', w7, hrun, own7, but7⟩ := app1 OW2.out (Kept.refl wr) hNr l5 (t.E.K + k2)
          have O7 := Lib.hid own7
          have IEk := IE.out k2 hl2
          clear own7
          go_wp2
          obtain ⟨K7, B7⟩ := LRel.step KR2.out LR2.out (fun g hg => (OW2.out.lt g hg).1) but7
          refine ⟨⟨k2 + 1, by omega, by go_num, l2 ++ [t.E.K + k2], by rw [List.length_append, HLL2.out]; simp; omega, fun y hy => ?_, ?_, K7, B7⟩, by simp [intOf]; omega⟩
          · rcases List.mem_append.1 hy with hy | hy
            · exact HIN2.out y hy
            · rw [List.mem_singleton] at hy
              subst hy
              exact IEk
          · have := O7.out
            rwa [List.length_append] at this ⊢
        · have hl2 : t.E.N ≤ (k2 : Int) := by have := HM.out.2; omega
          go_wp2
          go_ret
          exact ⟨au2, cu2, l2, rfl, by have := HLL2.out; have := HM.out; omega, HIN2.out, own_mono OW2.out (by omega), KR2.out⟩
end Lim
end Go.Proofs.YtejiogggocnldaaGreat.Tw

namespace Go.Proofs.YtejiogggocnldaaGreat.Tw.Lv
set_option maxRecDepth 20000
open Go.RowKit
open Wo (St acc wordAt PMem RefIs)
open Sk (Stk Arn idx Wd p_store p_new pmem_lt pmem_kept pmem_frame kept_of acc_cnt)

structure Mv (w0 : World) (M B : Nat) (l : List Int) (c : Nat) (w : World) : Prop where
  ex : ∃ s, PMem w M B 34 s ∧ s.ws = (fun i => l.getD i 0) ∧ 0 ≤ s.cnt ∧ s.cnt ≤ c
  kept : Kept w0 w
  lM : w0.heap.size ≤ M
  lB : w0.heap.size ≤ B
theorem Mv.grow {w0 w w' : World} {M B c : Nat} {l : List Int} (h : Mv w0 M B l c w) (k : Kept w w') : Mv w0 M B l c w' := by
  obtain ⟨s, m, h1, h2, h3⟩ := h.ex
  exact ⟨⟨s, pmem_kept m k, h1, h2, h3⟩, h.kept.trans k, h.lM, h.lB⟩
theorem Mv.lt {w0 w : World} {M B c : Nat} {l : List Int} (h : Mv w0 M B l c w) : M < w.heap.size ∧ B < w.heap.size := by
  obtain ⟨s, m, _⟩ := h.ex
  exact pmem_lt m
theorem mvstore {w0 w : World} {M B c : Nat} {l : List Int} (m : Mv w0 M B l c w) (hc : c ≤ 1000000) (ai : Int) (a : Nat) (hai : ai = a) (v : Int) (ha : a < 34) (hl : l.length = 34) :
    Calls Tryz.prog 36 #[.pointer (some ⟨M, 0, none⟩), .int .i64 ai, .int .u64 v] w fun e w' => e = .returned (.tuple #[]) ∧ Mv w0 M B (l.set a v) (c + 1) w' ∧ But (fun j => j = B) w w' := by
  obtain ⟨s, hm, hs, c0, c1⟩ := m.ex
  refine (p_store M B 34 s ai v w hm c0 (by omega)).mono ?_
  rintro e w' ⟨x, y, z⟩
  refine ⟨x, ⟨⟨_, y, ?_, ?_, ?_⟩, ((m.kept.but _).trans z (fun _ _ h => h)).kept (fun i hi e => by have := m.lB; have e : i = B := e; omega), m.lM, m.lB⟩, z⟩
  · funext i
    subst hai
    unfold acc
    rw [if_pos ⟨by omega, by omega⟩, if_pos rfl]
    dsimp only
    rw [hs]
    dsimp only
    by_cases hi : i = a
    · subst hi
      rw [if_pos (by simp)]
      simp [hl, ha]
    · rw [if_neg (by simpa using hi)]
      simp [List.getD_eq_getElem?_getD, List.getElem?_set, Ne.symm hi]
  · rw [acc_cnt]; omega
  · rw [acc_cnt]; omega
def AmRel (w : World) (l : List Int) (i : Int) (x : Value) (wr : World) : Prop := ∃ k : Nat, k ≤ l.length ∧ x = .int .i64 k ∧ wr = w ∧ ∀ j (hj : j < l.length), j < k → l[j] ≠ i
set_option maxHeartbeats 1000000 in
theorem among_any {w : World} {base c n : Nat} {a : Option Addr} {l : List Int} (hn : n = l.length) (hl : n ≤ 1000) (own : w.ownsRow base 3 1 (.slice a n c) n (ints l)) (i : Int) : Calls Tryz.prog 47 #[.slice a n c, .int .i64 i] w fun e w' => e = .returned (.bool (decide (i ∈ l))) ∧ w = w' := by
  have HC : Hid (∀ k (hk : k < l.length), ∃ g o, a = some ⟨g, o, none⟩ ∧ w.cell? ⟨g, o + k, none⟩ = some (.int .i64 l[k])) := Lib.hid (fun k hk => by
    rcases own_lies own with ⟨_, e2, _⟩ | ⟨g, o, c', e1, _, _, hc⟩
    · omega
    · injection e1 with e1 _ _
      exact ⟨g, o, e1, hc k _ (ints_get l k _ (List.getElem?_eq_getElem hk))⟩)
  clear own
  subst hn
  go_enter Tryz.func47, Tryz.ntmps47
  go_wp2_with fail
  go_loopw [5] (AmRel w l i) (fun x _ => l.length + 1 - (intOf x).toNat)
  case atStart => exact ⟨0, Nat.zero_le _, rfl, rfl, fun j _ h => absurd h (Nat.not_lt_zero _)⟩
  case round =>
    obtain ⟨k, hk, rfl, rfl, hno⟩ := hrel
    have HN := Lib.hid hno
    clear hno
    by_cases hlt : k < l.length
    · have hli : (k : Int) < (l.length : Int) := by omega
      have hk0 : (0 : Int) ≤ (k : Int) := by omega
      obtain ⟨g, o, rfl, cx⟩ := HC.out k hlt
      have lg := lt_of_cell cx
      obtain ⟨x, hx⟩ : ∃ x, x = l[k] := ⟨_, rfl⟩
      rw [← hx] at cx
      have HX := Lib.hid hx
      clear hx
      by_cases he : x = i
      · have hb : (x == i) = true := by simpa using he
        have hm : decide (i ∈ l) = true := decide_eq_true (by rw [← he, HX.out]; exact List.getElem_mem _)
        have HM := Lib.hid hm
        clear he hm
        go_wp2
        go_ret
        exact ⟨by rw [HM.out]; rfl, rfl⟩
      · have hb : (x == i) = false := by simpa using he
        have HE := Lib.hid he
        clear he
        go_wp2
        refine ⟨⟨k + 1, by omega, by go_num, rfl, fun j hj h => ?_⟩, by simp [intOf]; omega⟩
        by_cases e : j = k
        · subst e
          rw [← HX.out]
          exact HE.out
        · exact HN.out j hj (by omega)
    · have hli : (l.length : Int) ≤ (k : Int) := by omega
      have hm : decide (i ∈ l) = false := decide_eq_false (fun h => by
        obtain ⟨j, hj, e⟩ := List.mem_iff_getElem.1 h
        exact HN.out j hj (by omega) e)
      have HM := Lib.hid hm
      clear hm
      go_wp2
      go_ret
      exact ⟨by rw [HM.out]; rfl, rfl⟩
def rows : List (List Int) := [[], [0], [1], [2], [0, 1], [0, 2], [1, 0], [1, 2], [2, 0], [2, 1], [0, 1, 2], [0, 2, 1], [1, 0, 2], [1, 2, 0], [2, 0, 1], [2, 1, 0]]
theorem rows_snoc : ∀ R ∈ rows, ∀ i ∈ [(0 : Int), 1, 2], ¬ i ∈ R → R ++ [i] ∈ rows := by decide +kernel
theorem rows_len : ∀ R ∈ rows, R.length ≤ 3 := by decide +kernel
theorem rows_in : ∀ R ∈ rows, ∀ i ∈ R, i = 0 ∨ i = 1 ∨ i = 2 := by decide +kernel
def atR (R : List Int) (k : Nat) : Int := if k = 0 then -1 else R.getD (k - 1) 0
def wdR (R : List Int) (k : Nat) : Int := if k < R.length then R.getD k 0 + 1 + (5 + k) * 65536 else 0
def mkR (b : Nat → Bool) (k : Nat) : Bool := if k = 0 then false else b (k - 1)
def base : List Int := [1, 2, 3, 0, 1, 1, 1, 0, 0, 0, 0, 0, 0, 0, 0, 0, 0, 0, 0, 0, 0, 0, 0, 0, 0, 0, 0, 0, 0, 0, 0, 0, 0, 0]
def lw (R : List Int) (lev : Int) (b : Nat → Bool) : Nat → List Int
  | 0 => base
  | k + 1 => (lw R lev b k).set (nextI T0 (atR R k) lev).toNat (Wo.setMark (wdR R k) (mkR b k))
theorem lw_len (R : List Int) (lev : Int) (b : Nat → Bool) : ∀ k, (lw R lev b k).length = 34
  | 0 => rfl
  | k + 1 => by unfold lw; rw [List.length_set, lw_len]
def livR (R : List Int) (b : Nat → Bool) : Nat → List Int
  | 0 => []
  | k + 1 => if b k then livR R b k else livR R b k ++ [R.getD k 0]
def bit3 (x y z : Bool) (k : Nat) : Bool := if k = 0 then x else if k = 1 then y else z
def okR (R : List Int) (lev : Int) (b : Nat → Bool) : Bool :=
  (levelL 34 (fun i => (lw R lev b (R.length + 1)).getD i 0) T0 lev).filter (fun _ => true) == R &&
  (lev == 1 || liveM 34 (fun i => (lw R lev b (R.length + 1)).getD i 0) T0 == livR R b R.length) &&
  (lev != 1 || ((levelL 34 (fun i => (lw R lev b (R.length + 1)).getD i 0) T0 0).filter (fun _ => true) == [] && liveM 34 (fun i => (lw R lev b (R.length + 1)).getD i 0) T0 == [])) &&
  (lw R lev b (R.length + 1)).all (fun x => decide (0 ≤ x ∧ x < 18446744073709551616))
theorem okR_all : ∀ R ∈ rows, ∀ lev ∈ [(0 : Int), 1], ∀ x y z : Bool, okR R lev (bit3 x y z) = true := by decide +kernel
theorem addr_in : ∀ R ∈ rows, ∀ lev ∈ [(0 : Int), 1], ∀ k : Fin 4, k.val ≤ R.length → 0 ≤ nextI T0 (atR R k.val) lev ∧ nextI T0 (atR R k.val) lev < 34 := by decide +kernel
theorem lw_bits (R : List Int) (lev : Int) (b b' : Nat → Bool) : ∀ k, (∀ j, j + 1 < k → b j = b' j) → lw R lev b k = lw R lev b' k
  | 0, _ => rfl
  | k + 1, h => by
    unfold lw
    rw [lw_bits R lev b b' k (fun j hj => h j (by omega))]
    have : mkR b k = mkR b' k := by
      unfold mkR
      split
      · rfl
      · exact h _ (by omega)
    rw [this]
theorem liv_bits (R : List Int) (b b' : Nat → Bool) : ∀ k, (∀ j, j < k → b j = b' j) → livR R b k = livR R b' k
  | 0, _ => rfl
  | k + 1, h => by
    unfold livR
    rw [liv_bits R b b' k (fun j hj => h j (by omega)), h k (by omega)]
theorem okR_any {R : List Int} (hR : R ∈ rows) {lev : Int} (hl : lev = 0 ∨ lev = 1) (b : Nat → Bool) : okR R lev b = true := by
  have h := okR_all R hR lev (by rcases hl with rfl | rfl <;> simp) (b 0) (b 1) (b 2)
  have hlen := rows_len R hR
  have hb : ∀ j, j < 3 → bit3 (b 0) (b 1) (b 2) j = b j := fun j hj => by
    have : j = 0 ∨ j = 1 ∨ j = 2 := by omega
    rcases this with rfl | rfl | rfl <;> rfl
  have e1 := lw_bits R lev (bit3 (b 0) (b 1) (b 2)) b (R.length + 1) (fun j hj => hb j (by omega))
  have e2 := liv_bits R (bit3 (b 0) (b 1) (b 2)) b R.length (fun j hj => hb j (by omega))
  unfold okR at h ⊢
  rwa [e1, e2] at h
end Go.Proofs.YtejiogggocnldaaGreat.Tw.Lv

namespace Go.Proofs.YtejiogggocnldaaGreat.Tw.Ly
set_option maxRecDepth 20000
open Go.RowKit
open Wo (St acc wordAt PMem RefIs)
open Sk (Stk Arn idx Wd p_store p_new pmem_lt pmem_kept pmem_frame kept_of acc_cnt)
open Lv (base)

def xs (K J H : Nat → Int) (c n : Nat) : LOp := ⟨n, (c : Int) + 1 + 65536, c, K c, J c, H c, if n = 4 then 0 else 14⟩
def vl (K J H : Nat → Int) (c p : Nat) : Int := if p = 0 then K c else if p = 1 then J c else if p = 2 then H c else 2
def wsum (K J H : Nat → Int) (n : Nat → Nat) (i : Nat) : Int := if 16 ≤ i ∧ i < 34 ∧ (i - 16) % 6 < n ((i - 16) / 6) then vl K J H ((i - 16) / 6) ((i - 16) % 6) else base.getD i 0
def bump (n : Nat → Nat) (c : Nat) : Nat → Nat := fun d => if d = c then (if n c < 4 then n c + 1 else 4) else n d
theorem wsum0 (K J H : Nat → Int) : wsum K J H (fun _ => 0) = fun i => base.getD i 0 := by
  funext i
  unfold wsum
  rw [if_neg (fun h => absurd h.2.2 (Nat.not_lt_zero _))]
theorem layOp_xs (K J H : Nat → Int) (c : Nat) {n : Nat → Nat} (hn : n c ≤ 4) : layOp (xs K J H c (n c)) = xs K J H c (bump n c c) := by
  unfold layOp bump
  rw [if_pos rfl]
  by_cases h : n c < 4
  · rw [if_pos (show (xs K J H c (n c)).line < 4 from h), if_pos h]
    show (⟨n c + 1, _, _, _, _, _, if n c = 3 then 0 else 14⟩ : LOp) = ⟨n c + 1, _, _, _, _, _, if n c + 1 = 4 then 0 else 14⟩
    by_cases h3 : n c = 3
    · rw [if_pos h3, if_pos (by omega)]; rfl
    · rw [if_neg h3, if_neg (by omega)]; rfl
  · have h4 : n c = 4 := by omega
    rw [if_neg (show ¬ (xs K J H c (n c)).line < 4 from h), if_neg h, h4]
theorem at_xs {c p : Nat} (hc : c < 3) (hp : p < 6) : atI T0 (c : Int) (p : Int) = ((16 + 6 * c + p : Nat) : Int) := by
  rw [atI_node sndT0 (by omega) (by show (c : Int) < 3; omega) (by omega) (by show (p : Int) < 4 + 2; omega)]
  show (16 : Int) + (c : Int) * (4 + 2) + (p : Int) = _
  omega
theorem val_xs (K J H : Nat → Int) (c n : Nat) (h : n < 4) : (xs K J H c n).val = vl K J H c n := by
  have : n = 0 ∨ n = 1 ∨ n = 2 ∨ n = 3 := by omega
  rcases this with rfl | rfl | rfl | rfl <;> rfl
theorem lay_ws {K J H : Nat → Int} {n : Nat → Nat} {s : St} {c : Nat} (hs : s.ws = wsum K J H n) (hc : c < 3) (hn : n c ≤ 4) : (laySt 34 T0 s (xs K J H c (n c))).ws = wsum K J H (bump n c) := by
  unfold laySt
  by_cases h : n c < 4
  · have bc : bump n c c = n c + 1 := by unfold bump; rw [if_pos rfl, if_pos h]
    have bd : ∀ d, d ≠ c → bump n c d = n d := fun d hd => by unfold bump; rw [if_neg hd]
    rw [if_pos (show (xs K J H c (n c)).line < 4 from h), val_xs _ _ _ _ _ h]
    rw [show atI T0 (xs K J H c (n c)).i ((xs K J H c (n c)).line : Nat) = ((16 + 6 * c + n c : Nat) : Int) from at_xs hc (show n c < 6 by omega)]
    obtain ⟨a, ha⟩ : ∃ a, a = 16 + 6 * c + n c := ⟨_, rfl⟩
    rw [← ha]
    funext i
    unfold acc
    rw [if_pos ⟨by omega, by omega⟩, if_pos rfl]
    dsimp only
    rw [hs, Int.toNat_natCast]
    by_cases hi : i = a
    · have e1 : (i - 16) % 6 = n c := by omega
      have e2 : (i - 16) / 6 = c := by omega
      rw [if_pos (by simpa using hi)]
      unfold wsum
      rw [e1, e2, bc, if_pos ⟨by omega, by omega, by omega⟩]
    · rw [if_neg (by simpa using hi)]
      unfold wsum
      by_cases e2 : (i - 16) / 6 = c
      · rw [e2, bc]
        by_cases h1 : 16 ≤ i ∧ i < 34 ∧ (i - 16) % 6 < n c
        · rw [if_pos h1, if_pos ⟨h1.1, h1.2.1, by omega⟩]
        · rw [if_neg h1, if_neg (by omega)]
      · rw [bd _ e2]
  · rw [if_neg (show ¬ (xs K J H c (n c)).line < 4 from h), hs]
    have h4 : n c = 4 := by omega
    congr 1
    funext d
    unfold bump
    by_cases e : d = c
    · rw [if_pos e, if_neg h, e, h4]
    · rw [if_neg e]
theorem lay_cnt {K J H : Nat → Int} {n : Nat → Nat} {s : St} {c : Nat} (hs : s.cnt = 16 + n 0 + n 1 + n 2) (hc : c < 3) (hn : n c ≤ 4) : (laySt 34 T0 s (xs K J H c (n c))).cnt = 16 + bump n c 0 + bump n c 1 + bump n c 2 := by
  have hb : bump n c c = if n c < 4 then n c + 1 else 4 := by unfold bump; rw [if_pos rfl]
  have hd : ∀ d, d ≠ c → bump n c d = n d := fun d h => by unfold bump; rw [if_neg h]
  have hc3 : c = 0 ∨ c = 1 ∨ c = 2 := by omega
  unfold laySt
  by_cases h : n c < 4
  · rw [if_pos (show (xs K J H c (n c)).line < 4 from h), acc_cnt, hs]
    rw [if_pos h] at hb
    rcases hc3 with rfl | rfl | rfl
    · rw [hb, hd 1 (by decide), hd 2 (by decide)]; omega
    · rw [hb, hd 0 (by decide), hd 2 (by decide)]; omega
    · rw [hb, hd 0 (by decide), hd 1 (by decide)]; omega
  · rw [if_neg (show ¬ (xs K J H c (n c)).line < 4 from h), hs]
    rw [if_neg h] at hb
    rcases hc3 with rfl | rfl | rfl
    · rw [hb, hd 1 (by decide), hd 2 (by decide)]; omega
    · rw [hb, hd 0 (by decide), hd 2 (by decide)]; omega
    · rw [hb, hd 0 (by decide), hd 1 (by decide)]; omega
theorem bump_le {n : Nat → Nat} (hn : ∀ d, n d ≤ 4) (c : Nat) : ∀ d, bump n c d ≤ 4 := fun d => by
  unfold bump
  split
  · split <;> omega
  · exact hn d
theorem xs_ok (K J H : Nat → Int) (c n : Nat) (h : n ≤ 4) : (xs K J H c n).line ≤ 4 ∧ ((xs K J H c n).line < 4 → (xs K J H c n).er = 14) :=
  ⟨h, fun h' => by
    have h' : n < 4 := h'
    show (if n = 4 then (0 : Int) else 14) = 14
    rw [if_neg (by omega)]⟩
theorem new_xs (K J H : Nat → Int) (c : Nat) (hc : c < 3) (hj : 0 ≤ J c ∧ J c ≤ 63) (hh : 1 ≤ H c ∧ H c ≤ 2) : newL T0 ((c : Int) + 1 + 65536) (K c) (J c) (H c) = xs K J H c 0 := by
  have hI : ∀ d : Fin 3, gri ((d.val : Int) + 1 + 65536) = d.val ∧ laidE T0 ((d.val : Int) + 1 + 65536) 5 2 = 0 := by decide +kernel
  have hE : laidE T0 ((c : Int) + 1 + 65536) (J c) (H c) = 0 := by
    have h0 := (hI ⟨c, hc⟩).2
    dsimp only at h0
    unfold laidE at h0 ⊢
    have g2 : T0.G = 2 := rfl
    rw [g2] at h0 ⊢
    repeat' split at h0
    all_goals first | omega | skip
    all_goals simp_all
    all_goals omega
  unfold newL
  rw [if_pos hE, (hI ⟨c, hc⟩).1]
  rfl

structure Crew (w0 wF : World) (M B R : Nat) (K J H : Nat → Int) (P lo hi bs : Nat → Nat) (n : Nat → Nat) (m : Nat) (w : World) : Prop where
  mem : ∃ s, PMem w M B 34 s ∧ s.ws = wsum K J H n ∧ s.cnt = 16 + n 0 + n 1 + n 2
  kept : Kept w0 w
  old : But (fun j => j = B ∨ j = R ∨ bs 0 ≤ j) wF w
  lR : w0.heap.size ≤ R
  lB : w0.heap.size ≤ B
  row : ∀ c, c < m → w.cell? ⟨R, c, none⟩ = some (.pointer (some ⟨P c, 0, none⟩))
  fR : ∀ i, w.frozen? ⟨R, i, none⟩ = false
  lay : ∀ c, c < m → LayAt w (lo c) (hi c) (P c) T0 (xs K J H c (n c))
  sep : ∀ c, c < m → bs c ≤ lo c ∧ lo c ≤ hi c ∧ hi c ≤ bs (c + 1) ∧ bs c ≤ P c ∧ P c < bs (c + 1)
  top : bs m ≤ w.heap.size
  b0 : M < bs 0 ∧ B < bs 0 ∧ R < bs 0 ∧ R ≠ B ∧ R ≠ M ∧ w0.heap.size ≤ bs 0
  hn : ∀ c, n c ≤ 4
theorem Crew.mono {w0 wF w : World} {M B R m : Nat} {K J H : Nat → Int} {P lo hi bs n : Nat → Nat} (h : Crew w0 wF M B R K J H P lo hi bs n m w) : ∀ d, d ≤ m → ∀ c, c ≤ d → bs c ≤ bs d := by
  intro d
  induction d with
  | zero => intro _ c hc; rw [show c = 0 by omega]; exact Nat.le_refl _
  | succ d ih =>
    intro hd c hc
    have s := h.sep d (by omega)
    by_cases e : c = d + 1
    · rw [e]; exact Nat.le_refl _
    · have := ih (by omega) c (by omega)
      omega
theorem Crew.grow {w0 wF w w' : World} {M B R m : Nat} {K J H : Nat → Int} {P lo hi bs n : Nat → Nat} (h : Crew w0 wF M B R K J H P lo hi bs n m w) (k : Kept w w') : Crew w0 wF M B R K J H P lo hi bs n m w' := by
  obtain ⟨s, h1, h2, h3⟩ := h.mem
  have hRz : R < w.heap.size := by
    have := h.top
    have := h.mono m (Nat.le_refl _) 0 (Nat.zero_le _)
    have := h.b0.2.2.1
    omega
  exact ⟨⟨s, pmem_kept h1 k, h2, h3⟩, h.kept.trans k, h.old.trans (k.but _) (fun _ _ h => h), h.lR, h.lB, fun c hc => k.some (h.row c hc), fun i => k.soft hRz (h.fR i), fun c hc => (h.lay c hc).kept k, h.sep, Nat.le_trans h.top k.size, h.b0, h.hn⟩
theorem Crew.step {w0 wF w : World} {M B R m : Nat} {K J H : Nat → Int} {P lo hi bs n : Nat → Nat} (h : Crew w0 wF M B R K J H P lo hi bs n m w) (c : Nat) (hc : c < m) (hm : m ≤ 3) :
    Calls Tryz.prog 18 #[.pointer (some ⟨P c, 0, none⟩), .pointer (some ⟨M, 0, none⟩)] w fun e w' => (∃ b, e = .returned (.bool b)) ∧ Crew w0 wF M B R K J H P lo hi bs (bump n c) m w' := by
  obtain ⟨s, h1, h2, h3⟩ := h.mem
  have hn := h.hn
  have n0 := hn 0
  have n1 := hn 1
  have n2 := hn 2
  have sc := h.sep c hc
  have b0 := h.b0
  have mc := h.mono c (by omega) 0 (Nat.zero_le _)
  refine (step_any M B 34 (lo c) (hi c) (P c) T0 s (xs K J H c (n c)) w h1 (by omega) (by omega) (h.lay c hc) (xs_ok K J H c (n c) (hn c)) (by omega) (by omega) (fun j h1 h2 => by omega)).mono ?_
  rintro e w' ⟨rfl, l', m', b'⟩
  rw [layOp_xs K J H c (hn c)] at l'
  have hRz : R < w.heap.size := by
    have := h.top
    have := h.mono m (Nat.le_refl _) 0 (Nat.zero_le _)
    omega
  refine ⟨⟨_, rfl⟩, ⟨⟨_, m', lay_ws h2 (by omega) (hn c), lay_cnt h3 (by omega) (hn c)⟩, ?_, ?_, h.lR, h.lB, ?_, ?_, ?_, h.sep, Nat.le_trans h.top b'.size, h.b0, bump_le hn c⟩⟩
  · refine ((h.kept.but _).trans b' (fun _ _ h => h)).kept (fun i hi e => ?_)
    have := h.lB
    rcases e with e | e <;> omega
  · refine h.old.trans (b'.mono fun j _ e => ?_) (fun _ _ h => h)
    rcases e with e | e
    · exact .inr (.inr (by omega))
    · exact .inl e
  · exact fun d hd => b'.some (h.row d hd) (fun e => by rcases e with e | e <;> omega)
  · exact fun i => b'.soft hRz (h.fR i)
  · intro d hd
    by_cases e : d = c
    · subst e; exact l'
    · have sd := h.sep d hd
      have : bump n c d = n d := by unfold bump; rw [if_neg e]
      rw [this]
      refine (h.lay d hd).but b' (fun e => ?_) (fun j h1 h2 e => ?_)
      · rcases e with e | e
        · rcases Nat.lt_or_gt_of_ne ‹d ≠ c› with h | h'
          · have := Crew.mono ‹_› c (by omega) (d + 1) (by omega); omega
          · have := Crew.mono ‹_› d (by omega) (c + 1) (by omega); omega
        · have := Crew.mono ‹_› d (by omega) 0 (Nat.zero_le _)
          omega
      · rcases e with e | e
        · rcases Nat.lt_or_gt_of_ne ‹d ≠ c› with h | h'
          · have := Crew.mono ‹_› c (by omega) (d + 1) (by omega); omega
          · have := Crew.mono ‹_› d (by omega) (c + 1) (by omega); omega
        · have := Crew.mono ‹_› d (by omega) 0 (Nat.zero_le _)
          omega
theorem Crew.add {w0 wF w : World} {M B R m : Nat} {K J H : Nat → Int} {P lo hi bs : Nat → Nat} (h : Crew w0 wF M B R K J H P lo hi bs (fun _ => 0) m w) {w' : World} {P1 lo1 hi1 : Nat} (k : Kept w w') (l : LayAt w' lo1 hi1 P1 T0 (xs K J H m 0)) (h1 : w.heap.size ≤ lo1) (h2 : lo1 ≤ hi1) (h3 : hi1 ≤ w'.heap.size) (h4 : w.heap.size ≤ P1) (h5 : P1 < w'.heap.size)
    (z : ∃ v, w'.cell? ⟨R, m, none⟩ = some v) : ∃ P lo hi bs', bs' 0 = bs 0 ∧ Crew w0 wF M B R K J H P lo hi bs' (fun _ => 0) (m + 1) (w'.setCell ⟨R, m, none⟩ (.pointer (some ⟨P1, 0, none⟩))) := by
  have hk := h.grow k
  obtain ⟨v, z⟩ := z
  have b0 := h.b0
  have mm := h.mono m (Nat.le_refl _) 0 (Nat.zero_le _)
  have top := h.top
  have bR : But (fun j => j = R) w' (w'.setCell ⟨R, m, none⟩ (.pointer (some ⟨P1, 0, none⟩))) := (But.refl _ _).here _ _
  obtain ⟨s, m1, m2, m3⟩ := hk.mem
  have hz : (w'.setCell ⟨R, m, none⟩ (.pointer (some ⟨P1, 0, none⟩))).heap.size = w'.heap.size := by simp
  refine ⟨fun c => if c = m then P1 else P c, fun c => if c = m then lo1 else lo c, fun c => if c = m then hi1 else hi c, fun c => if c = m + 1 then w'.heap.size else bs c, if_neg (by omega), ⟨⟨s, pmem_frame m1 bR (by omega) (by omega), m2, m3⟩, ?_, ?_, h.lR, h.lB, ?_, ?_, ?_, ?_, ?_, ?_, h.hn⟩⟩
  · exact ((hk.kept.but _).trans bR (fun _ _ h => h)).kept (fun i hi e => by have := h.lR; omega)
  · refine (hk.old.mono fun j _ e => ?_).trans (bR.mono fun j _ e => .inr (.inl e)) (fun _ _ h => h)
    try dsimp only
    rw [if_neg (by omega)]
    exact e
  · intro c hc
    try dsimp only
    rw [cell_set]
    by_cases e : c = m
    · subst e
      rw [if_pos rfl, if_pos rfl, z]
      rfl
    · rw [if_neg (by omega), if_neg e]
      exact hk.row c (by omega)
  · intro i
    exact bR.soft (by omega) (hk.fR i)
  · intro c hc
    try dsimp only
    by_cases e : c = m
    · subst e
      rw [if_pos rfl, if_pos rfl, if_pos rfl]
      exact l.but bR (by omega) (fun j h1 h2 => by omega)
    · rw [if_neg e, if_neg e, if_neg e]
      have s := h.sep c (by omega)
      have := h.mono c (by omega) 0 (Nat.zero_le _)
      exact (hk.lay c (by omega)).but bR (by omega) (fun j h1 h2 => by omega)
  · intro c hc
    try dsimp only
    by_cases e : c = m
    · subst e
      rw [if_pos rfl, if_pos rfl, if_pos rfl, if_neg (by omega), if_pos rfl]
      omega
    · have s := h.sep c (by omega)
      rw [if_neg e, if_neg e, if_neg e, if_neg (by omega), if_neg (by omega)]
      exact s
  · try dsimp only
    rw [if_pos rfl, hz]
    exact Nat.le_refl _
  · try dsimp only
    rw [if_neg (by omega)]
    exact b0
theorem end_ws {K J H : Nat → Int} {n : Nat → Nat} {c : Nat} (hc : c < 3) (h4 : n c = 4) : hw 34 (wsum K J H n) (atI T0 (c : Int) 0) = K c ∧ hw 34 (wsum K J H n) (atI T0 (c : Int) 1) = J c ∧ hw 34 (wsum K J H n) (atI T0 (c : Int) 2) = H c ∧ hw 34 (wsum K J H n) (atI T0 (c : Int) 3) = 2 ∧ nextL 34 (wsum K J H n) T0 (c : Int) 2 = [0, 0] := by
  have h : ∀ p : Nat, p < 6 → hw 34 (wsum K J H n) (atI T0 (c : Int) (p : Int)) = if p < 4 then vl K J H c p else 0 := by
    intro p hp
    rw [at_xs hc hp]
    unfold hw
    rw [if_pos ⟨by omega, by omega⟩]
    rw [show ((16 + 6 * c + p : Nat) : Int).toNat = 16 + 6 * c + p from Int.toNat_natCast _]
    unfold wsum
    have e1 : (16 + 6 * c + p - 16) % 6 = p := by omega
    have e2 : (16 + 6 * c + p - 16) / 6 = c := by omega
    rw [e1, e2, h4]
    by_cases hp4 : p < 4
    · rw [if_pos ⟨by omega, by omega, hp4⟩, if_pos hp4]
    · rw [if_neg (by omega), if_neg hp4]
      have : ∀ c : Fin 3, ∀ p : Fin 2, base.getD (16 + 6 * c.val + (4 + p.val)) 0 = 0 := by decide +kernel
      have := this ⟨c, hc⟩ ⟨p - 4, by omega⟩
      dsimp only at this
      rwa [show 4 + (p - 4) = p by omega] at this
  refine ⟨h 0 (by decide), h 1 (by decide), h 2 (by decide), h 3 (by decide), ?_⟩
  have h4 := h 4 (by decide)
  have h5 := h 5 (by decide)
  rw [if_neg (by decide)] at h4 h5
  have e0 : nextI T0 (c : Int) ((0 : Nat) : Int) = atI T0 (c : Int) ((4 : Nat) : Int) := by unfold nextI; rw [if_pos (by decide)]; rfl
  have e1 : nextI T0 (c : Int) ((1 : Nat) : Int) = atI T0 (c : Int) ((5 : Nat) : Int) := by unfold nextI; rw [if_pos (by decide)]; rfl
  show [hw 34 (wsum K J H n) (nextI T0 (c : Int) ((0 : Nat) : Int)), hw 34 (wsum K J H n) (nextI T0 (c : Int) ((1 : Nat) : Int))] = [0, 0]
  rw [e0, e1, h4, h5]
end Go.Proofs.YtejiogggocnldaaGreat.Tw.Ly

namespace Go.Proofs.YtejiogggocnldaaGreat.Wo
set_option maxRecDepth 20000
open Go.RowKit

set_option maxHeartbeats 2000000 in
theorem words_full (M B n : Nat) (s : St) (w : World) (hm : PMem w M B n s) : Calls Tryz.prog 29 #[.pointer (some ⟨M, 0, none⟩)] w fun e w' => e = .returned (.slice (some ⟨w.heap.size, 0, none⟩) n n) ∧ w.heap.size < w'.heap.size ∧ (∀ i, i < n → w'.cell? ⟨w.heap.size, i, none⟩ = some (.int .u64 (s.ws i))) ∧ (∀ i, w'.frozen? ⟨w.heap.size, i, none⟩ = false) ∧ Kept w w' := by
  have hp := hm.p
  have hs := hm.size
  have hn := hm.hn
  have hM := hm.lt.1
  have hB := hm.lt.2
  obtain ⟨Z, hZ, hmk⟩ := make_words n (by omega)
  have HZ := Lib.hid hZ
  have HM := Lib.hid hm
  clear hm hZ
  go_enter Tryz.func29, Tryz.ntmps29
  go_wp2_with fail
  refine (valid_yes M _ _ hp).mono ?_
  rintro e w' ⟨rfl, rfl⟩
  go_wp2_with fail
  go_loopw [18] (fun i wr => ∃ k : Nat, k ≤ n ∧ i = .int .i64 k ∧ Kept w wr ∧ w.heap.size < wr.heap.size ∧ (∀ j, wr.frozen? ⟨w.heap.size, j, none⟩ = false) ∧ (∀ j, j < k → wr.cell? ⟨w.heap.size, j, none⟩ = some (.int .u64 (s.ws j))) ∧
    (∀ j, k ≤ j → j < n → wr.cell? ⟨w.heap.size, j, none⟩ = some (.int .u64 0))) (fun i _ => n - (intOf i).toNat)
  case atStart =>
    refine ⟨0, Nat.zero_le _, rfl, ?_, by simp, fun j => by simp, fun j h => absurd h (by omega), fun j _ h => ?_⟩
    · (go_light; repeat (first | (with_reducible exact Kept.refl _) | (with_reducible assumption) | (with_reducible refine Kept.alloc ?_ _ _) | (with_reducible refine Kept.drew ?_) | (with_reducible refine Kept.drewN ?_ _) | ((with_reducible refine Kept.setCell ?_ ?_ _); rotate_left; focus (first | (simp; done) | (simp; omega))) | refine Kept.trans ?_ (by assumption)))
    · rw [cell_new _ _ _ _ _ rfl]; exact HZ.out j h
  case round =>
    obtain ⟨k, hk, rfl, kw, hz, hf, h1, h2⟩ := hrel
    have H1 := Lib.hid h1
    have H2 := Lib.hid h2
    clear h1 h2
    by_cases hlt : k < n
    · have c1 := kw.some hp
      have c2 := H2.out k (Nat.le_refl _) hlt
      obtain ⟨x, hx, hxs⟩ := HM.out.words k (by omega)
      obtain rfl := hxs hlt
      have c3 := kw.some hx
      clear hx hxs
      go_wp2_with fail
      refine (word_at B k _ _ c3).mono ?_
      rintro e w' ⟨rfl, rfl⟩
      go_wp2
      go_roundw
      case rel => exact ⟨k + 1, by omega, by go_num, kw.setCell (Nat.le_refl _) _, by simpa using hz, fun j => by rw [World.frozen?_setCell]; exact hf j, fun j h => by
        rw [cell_set]
        by_cases e : k = j
        · subst e; simp [c2]
        · rw [if_neg e]; exact H1.out j (by omega), fun j h h' => by
        rw [cell_set, if_neg (by omega)]; exact H2.out j (by omega) h'⟩
      case measure => simp [intOf]; omega
    · have e : k = n := by omega
      go_wp2
      go_ret
      exact ⟨rfl, hz, fun i hi => H1.out i (by omega), hf, kw⟩
end Go.Proofs.YtejiogggocnldaaGreat.Wo
