/- A limbo's cells, told one by one: limbos, of TowerApart. -/
import Derived.Test.YtejiogggocnldaaGreatG19
import Derived.Test.YtejiogggocnldaaGreatG23
import Derived.Test.YtejiogggocnldaaGreatG08
import Derived.WalkKit
import Derived.ProofKit
import Derived.Deep.Slices
import Derived.Deep.Fields
import Derived.Lib.SmallJoins
set_option linter.unusedVariables false
set_option linter.unusedSimpArgs false

namespace Go.Proofs.YtejiogggocnldaaGreat.Tw
set_option maxRecDepth 20000
open Go.RowKit
open Wo (St acc wordAt PMem RefIs)
open Sk (Stk Arn idx Wd)

namespace Lim
def appSemI (ts : Array TypeId) (ty : TypeId) (args : Array Value) : Sem Value := Builtin.append_ ts ty args
theorem appI_named (ts : Array TypeId) (ty : TypeId) (args : Array Value) : Builtin.append_ ts ty args = appSemI ts ty args := rfl
attribute [local go_sem ↓] appI_named
theorem infoI : (Tryz.prog.info? 3).map (fun i => (i.zero, i.size, i.bytes)) = some (some (.int .i64 0), 1, 8) := by kernel_rfl
theorem app1 {W W5 : World} {N : Nat} {v : Value} {l : List Int} (hrow : W.ownsRow N 3 1 v l.length (ints l)) (k : Kept W W5) (hN : N ≤ W.heap.size) (hl : l.length ≤ 5000) (x : Int) :
    ∃ a c w1, (appSemI #[71, 71] 71 #[v, .slice (some ⟨W5.heap.size, 0, none⟩) 1 1]).run Tryz.prog (W5.alloc (.cells #[.int .i64 x] 3)) = .ok (.slice a (l.length + 1) c) w1 ∧
      w1.ownsRow N 3 1 (.slice a (l.length + 1) c) (l ++ [x]).length (ints (l ++ [x])) ∧ But (fun j => v.ownBlock = some j) W w1 := by
  obtain ⟨i0, hi, hz0, hz1, hz2⟩ := info_parts infoI
  have kA : Kept W (W5.alloc (.cells #[.int .i64 x] 3)) := k.alloc _ _
  obtain ⟨a, c, w1, hr, own, but, at_⟩ := append_lay (P := Tryz.prog) (W5.alloc (.cells #[.int .i64 x] 3)) N 71 71 3 i0 _ 1 8 Tryz.underlying71 hi hz0 hz1 hz2 (by rfl) (by decide) v l.length (ints l) (own_keep hrow kA) (.slice (some ⟨W5.heap.size, 0, none⟩) 1 1) 1 [.int .i64 x]
    rfl (lay_new (heap_alloc_new _ _) (by omega)) (by simp [Value.oneCell']) (by unfold maxLen; omega) (by omega) (by have := k.size; simp; omega)
  rw [appI_named] at hr
  refine ⟨a, c, w1, hr, ?_, (kA.but _).trans but (fun _ _ h => h)⟩
  rw [List.length_append, ints_append]
  exact own
theorem app2 {W W5 : World} {N : Nat} {v : Value} {l : List Int} (hrow : W.ownsRow N 3 1 v l.length (ints l)) (k : Kept W W5) (hN : N ≤ W.heap.size) (hl : l.length ≤ 5000) (x y : Int) :
    ∃ a c w1, (appSemI #[71, 71] 71 #[v, .slice (some ⟨W5.heap.size, 0, none⟩) 2 2]).run Tryz.prog (W5.alloc (.cells #[.int .i64 x, .int .i64 y] 3)) = .ok (.slice a (l.length + 2) c) w1 ∧
      w1.ownsRow N 3 1 (.slice a (l.length + 2) c) (l ++ [x, y]).length (ints (l ++ [x, y])) ∧ But (fun j => v.ownBlock = some j) W w1 := by
  obtain ⟨i0, hi, hz0, hz1, hz2⟩ := info_parts infoI
  have kA : Kept W (W5.alloc (.cells #[.int .i64 x, .int .i64 y] 3)) := k.alloc _ _
  obtain ⟨a, c, w1, hr, own, but, at_⟩ := append_lay (P := Tryz.prog) (W5.alloc (.cells #[.int .i64 x, .int .i64 y] 3)) N 71 71 3 i0 _ 1 8 Tryz.underlying71 hi hz0 hz1 hz2 (by rfl) (by decide) v l.length (ints l) (own_keep hrow kA) (.slice (some ⟨W5.heap.size, 0, none⟩) 2 2) 2 [.int .i64 x, .int .i64 y]
    rfl (lay_new (heap_alloc_new _ _) (by omega)) (by simp [Value.oneCell']) (by unfold maxLen; omega) (by omega) (by have := k.size; simp; omega)
  rw [appI_named] at hr
  refine ⟨a, c, w1, hr, ?_, (kA.but _).trans but (fun _ _ h => h)⟩
  rw [List.length_append, ints_append]
  exact own
theorem own6 (w : World) (a b c d e f : Int) : (w.alloc (.cells #[.int .i64 a, .int .i64 b, .int .i64 c, .int .i64 d, .int .i64 e, .int .i64 f] 3)).ownsRow w.heap.size 3 1 (.slice (some ⟨w.heap.size, 0, none⟩) 6 6) 6 (ints [a, b, c, d, e, f]) :=
  ⟨rfl, .inr ⟨_, _, _, rfl, Nat.le_refl _, heap_alloc_new _ _, by decide, by decide, rfl, rfl⟩⟩
def InL (t : Twr) (x : Int) : Prop := ∃ s ∈ lparts t, s.1 ≤ x ∧ x < s.1 + s.2
def LRel (w : World) (t : Twr) (m k0 m0 : Nat) (u x : Value) (wr : World) : Prop :=
  ∃ k : Nat, k ≤ m ∧ x = .int .i64 k ∧ ∃ l : List Int, l.length = m0 + k0 * k ∧ (∀ y ∈ l, InL t y) ∧ wr.ownsRow (w.heap.size + 1) 3 1 u l.length (ints l) ∧ Kept w wr ∧ LB wr w.heap.size t
theorem LRel.step {w wr w7 : World} {t : Twr} {u : Value} (kr : Kept w wr) (lb : LB wr w.heap.size t) (hu : ∀ g, u.ownBlock = some g → w.heap.size + 1 ≤ g) (b : But (fun j => u.ownBlock = some j) wr w7) : Kept w w7 ∧ LB w7 w.heap.size t :=
  ⟨((kr.but _).trans b (fun _ _ h => h)).kept (fun j hj e => by have := hu j e; omega), lb.but b (fun e => by have := hu _ e; omega)⟩
def LPost (t : Twr) (w : World) (e : Ending) (w' : World) : Prop := ∃ (a : Option Addr) (c : Nat) (l : List Int), e = .returned (.slice a l.length c) ∧ l.length ≤ 1000 ∧ (∀ y ∈ l, InL t y) ∧ w'.ownsRow w.heap.size 3 1 (.slice a l.length c) l.length (ints l) ∧ Kept w w'
set_option maxHeartbeats 4000000 in
theorem limbos_any (t : Twr) (n : Int) (h : LFit t n) (hN : t.A.F.N ≤ 128) (w : World) : Calls Tryz.prog 42 #[limV t] w (LPost t w) := by
  have ok := lparts_ok h.a h.e h.p0 h.p1
  have ok1 := ok (t.A.F.T, 1) (by simp [lparts])
  have ok2 := ok (t.A.F.K, t.A.F.N) (by simp [lparts])
  have ok3 := ok (t.A.G, t.A.F.N) (by simp [lparts])
  have ok4 := ok (t.A.V, 1) (by simp [lparts])
  have ok5 := ok (t.E.T, 1) (by simp [lparts])
  have ok6 := ok (t.E.K, t.E.N) (by simp [lparts])
  have ok7 := ok (t.P, 3) (by simp [lparts])
  have e64 : t.E.N ≤ 64 := (Ep.fitsE_ok h.e).2.1
  unfold Spn.Ok at ok1 ok2 ok3 ok4 ok5 ok6 ok7
  dsimp only at ok1 ok2 ok3 ok4 ok5 ok6 ok7
  have I6 : Hid (∀ y ∈ [t.A.F.T, t.A.V, t.E.T, t.P, t.P + 1, t.P + 2], InL t y) := Lib.hid (by
    intro y hy
    simp only [List.mem_cons, List.not_mem_nil, or_false] at hy
    rcases hy with rfl | rfl | rfl | rfl | rfl | rfl
    · exact ⟨(t.A.F.T, 1), by simp [lparts], by dsimp only; omega, by dsimp only; omega⟩
    · exact ⟨(t.A.V, 1), by simp [lparts], by dsimp only; omega, by dsimp only; omega⟩
    · exact ⟨(t.E.T, 1), by simp [lparts], by dsimp only; omega, by dsimp only; omega⟩
    · exact ⟨(t.P, 3), by simp [lparts], by dsimp only; omega, by dsimp only; omega⟩
    · exact ⟨(t.P, 3), by simp [lparts], by dsimp only; omega, by dsimp only; omega⟩
    · exact ⟨(t.P, 3), by simp [lparts], by dsimp only; omega, by dsimp only; omega⟩)
  have IK : Hid (∀ k : Nat, (k : Int) < t.A.F.N → InL t (t.A.F.K + k) ∧ InL t (t.A.G + k)) := Lib.hid (fun k hk => ⟨⟨(t.A.F.K, t.A.F.N), by simp [lparts], by dsimp only; omega, by dsimp only; omega⟩, ⟨(t.A.G, t.A.F.N), by simp [lparts], by dsimp only; omega, by dsimp only; omega⟩⟩)
  have IE : Hid (∀ k : Nat, (k : Int) < t.E.N → InL t (t.E.K + k)) := Lib.hid (fun k hk => ⟨(t.E.K, t.E.N), by simp [lparts], by dsimp only; omega, by dsimp only; omega⟩)
  have p1 : IntKind.i64.wrap (t.P + 1) = t.P + 1 := by rw [IntKind.wrap_i64]; omega
  have p2 : IntKind.i64.wrap (t.P + 2) = t.P + 2 := by rw [IntKind.wrap_i64]; omega
  obtain ⟨m, hm⟩ : ∃ m : Nat, (m : Int) = t.A.F.N := ⟨t.A.F.N.toNat, by omega⟩
  obtain ⟨m2, hm2⟩ : ∃ m : Nat, (m : Int) = t.E.N := ⟨t.E.N.toNat, by omega⟩
  have HM := Lib.hid (And.intro hm hm2)
  clear ok h hm hm2
  go_enter Tryz.func42, Tryz.ntmps42
  go_wp2_with fail
  obtain ⟨Wa, hWa⟩ : ∃ Wa, Wa = w.alloc (.cells #[.int .i64 t.A.F.T, .int .i64 t.A.F.K, .int .i64 t.A.F.N, .int .i64 t.A.G, .int .i64 t.A.V, .int .i64 t.A.L, .int .i64 t.E.T, .int .i64 t.E.K, .int .i64 t.E.N, .int .i64 t.P] 29) := ⟨_, rfl⟩
  have lb : LB Wa w.heap.size t := by rw [hWa]; exact LB.new w _ _ rfl t
  have ka : Kept w Wa := by rw [hWa]; exact (Kept.refl _).alloc _ _
  have hz : Wa.heap.size = w.heap.size + 1 := by rw [hWa]; simp
  rw [← hWa, ← hz]
  clear hWa
  obtain ⟨Wc, hWc⟩ : ∃ Wc, Wc = Wa.alloc (.cells #[.int .i64 t.A.F.T, .int .i64 t.A.V, .int .i64 t.E.T, .int .i64 t.P, .int .i64 (t.P + 1), .int .i64 (t.P + 2)] 3) := ⟨_, rfl⟩
  have LC : Hid (LB Wc w.heap.size t) := Lib.hid (by rw [hWc]; exact lb.kept ((Kept.refl _).alloc _ _))
  have KC : Hid (Kept w Wc) := Lib.hid (by rw [hWc]; exact ka.alloc _ _)
  have OC : Hid (Wc.ownsRow (w.heap.size + 1) 3 1 (.slice (some ⟨Wa.heap.size, 0, none⟩) 6 6) 6 (ints [t.A.F.T, t.A.V, t.E.T, t.P, t.P + 1, t.P + 2])) := Lib.hid (by rw [hWc]; exact own_mono (own6 Wa _ _ _ _ _ _) (by omega))
  have hzc : w.heap.size ≤ Wc.heap.size := KC.out.size
  rw [← hWc]
  clear hWc lb ka
  go_loopw [3, 4] (LRel w t m 2 6) (fun _ x _ => m + 1 - (intOf x).toNat)
  case atStart => exact ⟨0, Nat.zero_le _, rfl, [t.A.F.T, t.A.V, t.E.T, t.P, t.P + 1, t.P + 2], rfl, I6.out, OC.out, KC.out, LC.out⟩
  case round =>
    obtain ⟨k, hk, rfl, l, hll, hin, own, kr, lbr⟩ := hrel
    obtain ⟨au, cu, rfl⟩ := own_form own
    have OW := Lib.hid own
    have KR := Lib.hid kr
    have LR := Lib.hid lbr
    have HLL := Lib.hid hll
    have HIN := Lib.hid hin
    obtain ⟨c0, c1, c2, c3, c4, c5, c6, c7, c8, c9⟩ := LR.out
    have lz := lt_of_cell c0
    have hNr : w.heap.size + 1 ≤ wr.heap.size := by omega
    have l5 : l.length ≤ 5000 := by have := HM.out; omega
    clear own kr hin lbr hll
    by_cases hlt : k < m
    · have hl : (k : Int) < t.A.F.N := by have := HM.out.1; omega
      have w1 : IntKind.i64.wrap (t.A.F.K + k) = t.A.F.K + k := by rw [IntKind.wrap_i64]; omega
      have w2 : IntKind.i64.wrap (t.A.G + k) = t.A.G + k := by rw [IntKind.wrap_i64]; omega
      obtain ⟨a', c', w7, hrun, own7, but7⟩ := app2 OW.out (Kept.refl wr) hNr l5 (t.A.F.K + k) (t.A.G + k)
      have O7 := Lib.hid own7
      have IKk := IK.out k hl
      clear own7
      go_wp2
      obtain ⟨K7, B7⟩ := LRel.step KR.out LR.out (fun g hg => (OW.out.lt g hg).1) but7
      refine ⟨⟨k + 1, by omega, by go_num, l ++ [t.A.F.K + k, t.A.G + k], by rw [List.length_append, HLL.out]; simp; omega, fun y hy => ?_, ?_, K7, B7⟩, by simp [intOf]; omega⟩
      · rcases List.mem_append.1 hy with hy | hy
        · exact HIN.out y hy
        · simp only [List.mem_cons, List.not_mem_nil, or_false] at hy
          rcases hy with rfl | rfl
          · exact IKk.1
          · exact IKk.2
      · have := O7.out
        rwa [List.length_append] at this ⊢
    · have hl : t.A.F.N ≤ (k : Int) := by have := HM.out.1; omega
      have hkm : k = m := by omega
      subst hkm
      go_wp2_with fail
      clear c0 c1 c2 c3 c4 c5 c6 c7 c8 c9 lz hNr l5
      go_loopw [3, 5] (LRel w t m2 1 (6 + 2 * k)) (fun _ x _ => m2 + 1 - (intOf x).toNat)
      case atStart => exact ⟨0, Nat.zero_le _, rfl, l, by rw [HLL.out]; omega, HIN.out, OW.out, KR.out, LR.out⟩
      case round =>
        obtain ⟨k2, hk2, rfl, l2, hll2, hin2, own2, kr2, lbr2⟩ := hrel
        obtain ⟨au2, cu2, rfl⟩ := own_form own2
        have OW2 := Lib.hid own2
        have KR2 := Lib.hid kr2
        have LR2 := Lib.hid lbr2
        have HLL2 := Lib.hid hll2
        have HIN2 := Lib.hid hin2
        obtain ⟨c0, c1, c2, c3, c4, c5, c6, c7, c8, c9⟩ := lbr2
        have lz := lt_of_cell c0
        have hNr : w.heap.size + 1 ≤ wr.heap.size := by omega
        have l5 : l2.length ≤ 5000 := by have := HM.out; omega
        clear own2 kr2 hin2 hll2
        by_cases hlt2 : k2 < m2
        · have hl2 : (k2 : Int) < t.E.N := by have := HM.out.2; omega
          have w1 : IntKind.i64.wrap (t.E.K + k2) = t.E.K + k2 := by rw [IntKind.wrap_i64]; omega
          obtain ⟨a', c', w7, hrun, own7, but7⟩ := app1 OW2.out (Kept.refl wr) hNr l5 (t.E.K + k2)
          have O7 := Lib.hid own7
          have IEk := IE.out k2 hl2
          clear own7
          go_wp2
          obtain ⟨K7, B7⟩ := LRel.step KR2.out LR2.out (fun g hg => (OW2.out.lt g hg).1) but7
          refine ⟨⟨k2 + 1, by omega, by go_num, l2 ++ [t.E.K + k2], by rw [List.length_append, HLL2.out]; simp; omega, fun y hy => ?_, ?_, K7, B7⟩, by simp [intOf]; omega⟩
          · rcases List.mem_append.1 hy with hy | hy
            · exact HIN2.out y hy
            · rw [List.mem_singleton] at hy
              subst hy
              exact IEk
          · have := O7.out
            rwa [List.length_append] at this ⊢
        · have hl2 : t.E.N ≤ (k2 : Int) := by have := HM.out.2; omega
          go_wp2
          go_ret
          exact ⟨au2, cu2, l2, rfl, by have := HLL2.out; have := HM.out; omega, HIN2.out, own_mono OW2.out (by omega), KR2.out⟩
end Lim
end Go.Proofs.YtejiogggocnldaaGreat.Tw

namespace Go.Proofs.YtejiogggocnldaaGreat.Tw
set_option maxRecDepth 20000
open Go.RowKit
open Sk (Stk Arn idx Wd)

def clampI (x m : Int) : Int := if x ≤ 0 then 0 else if x ≤ m then x else m
def cntI (t : Twr) (k : Int) : Int := clampI (k - t.D) (t.A.F.N * (4 + t.G)) + clampI (k - t.H) t.G
theorem meets_no {a b : Spn} (h : meetB a b = false) (x : Int) (h1 : a.1 ≤ x) (h2 : x < a.1 + a.2) (h3 : b.1 ≤ x) (h4 : x < b.1 + b.2) : False := by
  unfold meetB at h
  have e1 : decide (a.1 < b.1 + b.2) = true := decide_eq_true (by omega)
  have e2 : decide (b.1 < a.1 + a.2) = true := decide_eq_true (by omega)
  rw [e1, e2] at h
  cases h
theorem TFit.two {t : Twr} {n : Int} (h : TFit t n) (x : Int) (h1 : t.D ≤ x) (h2 : x < t.D + t.A.F.N * (4 + t.G)) (h3 : t.H ≤ x) (h4 : x < t.H + t.G) : False := by
  have := h.ap 1 (show 1 < 2 by decide) (by decide) (t.D, t.A.F.N * (4 + t.G)) (by simp [tparts])
  exact meets_no (a := (t.H, t.G)) (b := (t.D, t.A.F.N * (4 + t.G))) this x h3 h4 h1 h2
theorem TFit.free {t : Twr} {n : Int} (h : TFit t n) (x : Int) (hx : Lim.InL t x) : (whoI t x).2.2 = false := by
  obtain ⟨s, hs, h1, h2⟩ := hx
  have hD : ¬ (t.D ≤ x ∧ x < t.D + t.A.F.N * (4 + t.G)) := fun hD => by
    have := h.ap 0 (show 0 < 2 by decide) (by decide) s (List.mem_append_right _ hs)
    exact meets_no (a := (t.D, t.A.F.N * (4 + t.G))) this x hD.1 hD.2 h1 h2
  have hH : ¬ (t.H ≤ x ∧ x < t.H + t.G) := fun hH => by
    have := h.ap 1 (show 1 < 2 by decide) (by decide) s (List.mem_append_right _ hs)
    exact meets_no (a := (t.H, t.G)) this x hH.1 hH.2 h1 h2
  unfold whoI
  rw [if_neg (not_not_intro h.s), if_neg hD, if_neg hH]
theorem who_node_eq {t : Twr} (hs : t.Sound) {a : Int} (hD : t.D ≤ a ∧ a < t.D + t.A.F.N * (4 + t.G)) : whoI t a = ((a - t.D) / (4 + t.G), (a - t.D) % (4 + t.G), true) := by
  unfold whoI
  rw [if_neg (not_not_intro hs), if_pos hD]
theorem who_head_eq {t : Twr} (hs : t.Sound) {a : Int} (hD : ¬ (t.D ≤ a ∧ a < t.D + t.A.F.N * (4 + t.G))) (hH : t.H ≤ a ∧ a < t.H + t.G) : whoI t a = (-1, a - t.H + 4, true) := by
  unfold whoI
  rw [if_neg (not_not_intro hs), if_neg hD, if_pos hH]
theorem who_none_eq {t : Twr} (hs : t.Sound) {a : Int} (hD : ¬ (t.D ≤ a ∧ a < t.D + t.A.F.N * (4 + t.G))) (hH : ¬ (t.H ≤ a ∧ a < t.H + t.G)) : whoI t a = (0, 0, false) := by
  unfold whoI
  rw [if_neg (not_not_intro hs), if_neg hD, if_neg hH]
theorem clamp_in {x m : Int} (h0 : 0 ≤ x) (h1 : x < m) : clampI (x + 1) m = clampI x m + 1 := by
  unfold clampI
  split <;> split <;> (try split) <;> (try split) <;> omega
theorem clamp_lo {x m : Int} (h0 : x < 0) : clampI (x + 1) m = clampI x m := by
  unfold clampI
  split <;> split <;> (try split) <;> (try split) <;> omega
theorem clamp_hi {x m : Int} (hm : 0 ≤ m) (h0 : m ≤ x) : clampI (x + 1) m = clampI x m := by
  unfold clampI
  split <;> split <;> (try split) <;> (try split) <;> omega
theorem clamp_out {x m : Int} (hm : 0 ≤ m) (h : ¬ (0 ≤ x ∧ x < m)) : clampI (x + 1) m = clampI x m := by
  by_cases h0 : x < 0
  · exact clamp_lo h0
  · exact clamp_hi hm (by omega)
theorem TFit.cnt {t : Twr} {n : Int} (h : TFit t n) (k : Int) : cntI t (k + 1) = cntI t k + (if (whoI t k).2.2 = true then 1 else 0) := by
  have hq := size_lo h.s
  have hg := h.s.G1
  have h2 := h.two k
  obtain ⟨q, hqq⟩ : ∃ q, q = t.A.F.N * (4 + t.G) := ⟨_, rfl⟩
  have e1 : k + 1 - t.D = (k - t.D) + 1 := by omega
  have e2 : k + 1 - t.H = (k - t.H) + 1 := by omega
  unfold cntI
  rw [e1, e2]
  by_cases hD : t.D ≤ k ∧ k < t.D + t.A.F.N * (4 + t.G)
  · rw [who_node_eq h.s hD, if_pos rfl]
    have hH : ¬ (t.H ≤ k ∧ k < t.H + t.G) := fun hH => h2 hD.1 hD.2 hH.1 hH.2
    rw [← hqq] at hD ⊢
    rw [clamp_in (by omega) (by omega), clamp_out (m := t.G) (by omega) (by omega)]
    omega
  · by_cases hH : t.H ≤ k ∧ k < t.H + t.G
    · rw [who_head_eq h.s hD hH, if_pos rfl]
      rw [← hqq] at hD hq ⊢
      rw [clamp_out (m := q) (by omega) (by omega), clamp_in (by omega) (by omega)]
      omega
    · rw [who_none_eq h.s hD hH, if_neg (by decide)]
      rw [← hqq] at hD hq ⊢
      rw [clamp_out (m := q) (by omega) (by omega), clamp_out (m := t.G) (by omega) (by omega)]
      omega
theorem clamp_zero {x m : Int} (h : x ≤ 0) : clampI x m = 0 := if_pos h
theorem clamp_full {x m : Int} (hm : 1 ≤ m) (h : m ≤ x) : clampI x m = m := by
  unfold clampI
  split
  · omega
  · split <;> omega
theorem TFit.all {t : Twr} {n : Int} (h : TFit t n) : cntI t 0 = 0 ∧ cntI t n = t.A.F.N * (4 + t.G) + t.G := by
  have hq := size_lo h.s
  have h1 := h.s.D1
  have h2 := h.s.H1
  have h3 := h.s.G1
  have h4 := h.d
  have h5 := h.h
  unfold cntI
  exact ⟨by rw [clamp_zero (by omega), clamp_zero (by omega)]; rfl, by rw [clamp_full hq (by omega), clamp_full h3 (by omega)]⟩
theorem who_at {t : Twr} (hs : t.Sound) {a : Int} (h : (whoI t a).2.2 = true) : atI t (whoI t a).1 (whoI t a).2.1 = a ∧ (4 ≤ (whoI t a).2.1 → nextI t (whoI t a).1 ((whoI t a).2.1 - 4) = a) ∧ 0 ≤ (whoI t a).2.1 ∧ (whoI t a).2.1 ≤ 8 ∧ -1 ≤ (whoI t a).1 ∧ (whoI t a).1 ≤ 10000 := by
  have hG1 := hs.G1
  have hG2 := hs.G2
  have hN := hs.N1
  have hN2 := hs.N2
  by_cases hD : t.D ≤ a ∧ a < t.D + t.A.F.N * (4 + t.G)
  · rw [who_node_eq hs hD]
    obtain ⟨i, hi⟩ : ∃ i, i = (a - t.D) / (4 + t.G) := ⟨_, rfl⟩
    obtain ⟨p, hp⟩ : ∃ p, p = (a - t.D) % (4 + t.G) := ⟨_, rfl⟩
    have e : i * (4 + t.G) + p = a - t.D := by rw [hi, hp, Int.mul_comm]; exact Int.mul_ediv_add_emod _ _
    have p0 : 0 ≤ p := by rw [hp]; exact Int.emod_nonneg _ (by omega)
    have p1 : p < 4 + t.G := by rw [hp]; exact Int.emod_lt_of_pos _ (by omega)
    have i0 : 0 ≤ i := by rw [hi]; exact Int.ediv_nonneg (by omega) (by omega)
    have i1 : i < t.A.F.N := by rw [hi]; exact Int.ediv_lt_of_lt_mul (by omega) (by omega)
    dsimp only
    rw [← hi, ← hp]
    have ea : atI t i p = a := by rw [atI_node hs i0 i1 p0 p1]; omega
    refine ⟨ea, fun h4 => ?_, p0, by omega, by omega, by omega⟩
    unfold nextI
    rw [if_pos ⟨by omega, by omega⟩, show 4 + (p - 4) = p by omega]
    exact ea
  · by_cases hH : t.H ≤ a ∧ a < t.H + t.G
    · rw [who_head_eq hs hD hH]
      dsimp only
      have ea : atI t (-1) (a - t.H + 4) = a := by rw [atI_head hs (by omega) (by omega)]; omega
      refine ⟨ea, fun h4 => ?_, by omega, by omega, by omega, by omega⟩
      unfold nextI
      rw [if_pos ⟨by omega, by omega⟩, show 4 + (a - t.H + 4 - 4) = a - t.H + 4 by omega]
      exact ea
    · rw [who_none_eq hs hD hH] at h
      cases h
end Go.Proofs.YtejiogggocnldaaGreat.Tw

namespace Go.Proofs.YtejiogggocnldaaGreat.Tw
set_option maxRecDepth 20000
open Go.ChangeShapes Go.WideShapes Go.Deep Go.RowKit
open Sk (Stk Arn)
theorem cells_int : Tryz.prog.cellsOf 3 = 1 := by kernel_rfl
theorem cells_stack : Tryz.prog.cellsOf 23 = 3 := by kernel_rfl
theorem cells_arena : Tryz.prog.cellsOf 25 = 6 := by kernel_rfl
theorem cells_epoch : Tryz.prog.cellsOf 27 = 3 := by kernel_rfl
theorem cells_limbo : Tryz.prog.cellsOf 29 = 10 := by kernel_rfl
theorem cells_tower : Tryz.prog.cellsOf 31 = 13 := by kernel_rfl
def stcell (S : Stk) : List Value := [.int .i64 S.T, .int .i64 S.K, .int .i64 S.N]
def arcell (A : Arn) : List Value := [.int .i64 A.F.T, .int .i64 A.F.K, .int .i64 A.F.N, .int .i64 A.G, .int .i64 A.V, .int .i64 A.L]
def licell (A : Arn) (E : Stk) (P : Int) : List Value := arcell A ++ stcell E ++ [.int .i64 P]
def towcell (t : Twr) : List Value := [.int .i64 t.D, .int .i64 t.H, .int .i64 t.G] ++ licell t.A t.E t.P
section
variable {H : Type} {enc : TypeId × Value → H} {w : World} {base : Nat} {spare : Nat → Bool} {held : Bool}
theorem open_stack {fuel : Nat} {cs : List Value} {x : DataW H × List MemPlace} (h : DataW.trod enc Tryz.prog w base spare held fuel 23 cs = some x) : ∃ S : Stk, cs = stcell S := by
  obtain ⟨xs, n, _, _, hl, hxl, hf⟩ := DataW.trod_struct Tryz.underlying23 h
  rw [cells_stack] at hl
  match cs, hl with
  | [v0, v1, v2], _ =>
    match xs, hxl with
    | [x0, x1, x2], _ =>
      have f0 : DataW.trod enc Tryz.prog w base spare held n 3 (([v0, v1, v2].drop 0).take (Tryz.prog.cellsOf 3)) = some x0 := hf 0 _ rfl
      have f1 : DataW.trod enc Tryz.prog w base spare held n 3 (([v0, v1, v2].drop 1).take (Tryz.prog.cellsOf 3)) = some x1 := hf 1 _ rfl
      have f2 : DataW.trod enc Tryz.prog w base spare held n 3 (([v0, v1, v2].drop 2).take (Tryz.prog.cellsOf 3)) = some x2 := hf 2 _ rfl
      simp only [cells_int, cells_stack, cells_arena, cells_epoch, cells_limbo, List.drop_zero, List.drop_succ_cons, List.take_succ_cons, List.take_zero] at f0 f1 f2
      obtain ⟨q0, e0, _, w0⟩ := DataW.trod_int Tryz.underlying3 f0
      simp at e0
      subst e0
      obtain ⟨q1, e1, _, w1⟩ := DataW.trod_int Tryz.underlying3 f1
      simp at e1
      subst e1
      obtain ⟨q2, e2, _, w2⟩ := DataW.trod_int Tryz.underlying3 f2
      simp at e2
      subst e2
      exact ⟨⟨q0, q1, q2⟩, rfl⟩
theorem open_epoch {fuel : Nat} {cs : List Value} {x : DataW H × List MemPlace} (h : DataW.trod enc Tryz.prog w base spare held fuel 27 cs = some x) : ∃ S : Stk, cs = stcell S := by
  obtain ⟨xs, n, _, _, hl, hxl, hf⟩ := DataW.trod_struct Tryz.underlying27 h
  rw [cells_epoch] at hl
  match cs, hl with
  | [v0, v1, v2], _ =>
    match xs, hxl with
    | [x0, x1, x2], _ =>
      have f0 : DataW.trod enc Tryz.prog w base spare held n 3 (([v0, v1, v2].drop 0).take (Tryz.prog.cellsOf 3)) = some x0 := hf 0 _ rfl
      have f1 : DataW.trod enc Tryz.prog w base spare held n 3 (([v0, v1, v2].drop 1).take (Tryz.prog.cellsOf 3)) = some x1 := hf 1 _ rfl
      have f2 : DataW.trod enc Tryz.prog w base spare held n 3 (([v0, v1, v2].drop 2).take (Tryz.prog.cellsOf 3)) = some x2 := hf 2 _ rfl
      simp only [cells_int, cells_stack, cells_arena, cells_epoch, cells_limbo, List.drop_zero, List.drop_succ_cons, List.take_succ_cons, List.take_zero] at f0 f1 f2
      obtain ⟨q0, e0, _, w0⟩ := DataW.trod_int Tryz.underlying3 f0
      simp at e0
      subst e0
      obtain ⟨q1, e1, _, w1⟩ := DataW.trod_int Tryz.underlying3 f1
      simp at e1
      subst e1
      obtain ⟨q2, e2, _, w2⟩ := DataW.trod_int Tryz.underlying3 f2
      simp at e2
      subst e2
      exact ⟨⟨q0, q1, q2⟩, rfl⟩
theorem open_arena {fuel : Nat} {cs : List Value} {x : DataW H × List MemPlace} (h : DataW.trod enc Tryz.prog w base spare held fuel 25 cs = some x) : ∃ A : Arn, cs = arcell A := by
  obtain ⟨xs, n, _, _, hl, hxl, hf⟩ := DataW.trod_struct Tryz.underlying25 h
  rw [cells_arena] at hl
  match cs, hl with
  | [v0, v1, v2, v3, v4, v5], _ =>
    match xs, hxl with
    | [x0, x1, x2, x3], _ =>
      have f0 : DataW.trod enc Tryz.prog w base spare held n 23 (([v0, v1, v2, v3, v4, v5].drop 0).take (Tryz.prog.cellsOf 23)) = some x0 := hf 0 _ rfl
      have f1 : DataW.trod enc Tryz.prog w base spare held n 3 (([v0, v1, v2, v3, v4, v5].drop 3).take (Tryz.prog.cellsOf 3)) = some x1 := hf 1 _ rfl
      have f2 : DataW.trod enc Tryz.prog w base spare held n 3 (([v0, v1, v2, v3, v4, v5].drop 4).take (Tryz.prog.cellsOf 3)) = some x2 := hf 2 _ rfl
      have f3 : DataW.trod enc Tryz.prog w base spare held n 3 (([v0, v1, v2, v3, v4, v5].drop 5).take (Tryz.prog.cellsOf 3)) = some x3 := hf 3 _ rfl
      simp only [cells_int, cells_stack, cells_arena, cells_epoch, cells_limbo, List.drop_zero, List.drop_succ_cons, List.take_succ_cons, List.take_zero] at f0 f1 f2 f3
      obtain ⟨q0, e0⟩ := open_stack f0
      obtain ⟨q1, e1, _, w1⟩ := DataW.trod_int Tryz.underlying3 f1
      simp at e1
      subst e1
      obtain ⟨q2, e2, _, w2⟩ := DataW.trod_int Tryz.underlying3 f2
      simp at e2
      subst e2
      obtain ⟨q3, e3, _, w3⟩ := DataW.trod_int Tryz.underlying3 f3
      simp at e3
      subst e3
      simp only [stcell, List.cons.injEq, and_true] at e0
      obtain ⟨rfl, rfl, rfl⟩ := e0
      exact ⟨⟨q0, q1, q2, q3⟩, rfl⟩
theorem open_limbo {fuel : Nat} {cs : List Value} {x : DataW H × List MemPlace} (h : DataW.trod enc Tryz.prog w base spare held fuel 29 cs = some x) : ∃ q : Arn × Stk × Int, cs = licell q.1 q.2.1 q.2.2 := by
  obtain ⟨xs, n, _, _, hl, hxl, hf⟩ := DataW.trod_struct Tryz.underlying29 h
  rw [cells_limbo] at hl
  match cs, hl with
  | [v0, v1, v2, v3, v4, v5, v6, v7, v8, v9], _ =>
    match xs, hxl with
    | [x0, x1, x2], _ =>
      have f0 : DataW.trod enc Tryz.prog w base spare held n 25 (([v0, v1, v2, v3, v4, v5, v6, v7, v8, v9].drop 0).take (Tryz.prog.cellsOf 25)) = some x0 := hf 0 _ rfl
      have f1 : DataW.trod enc Tryz.prog w base spare held n 27 (([v0, v1, v2, v3, v4, v5, v6, v7, v8, v9].drop 6).take (Tryz.prog.cellsOf 27)) = some x1 := hf 1 _ rfl
      have f2 : DataW.trod enc Tryz.prog w base spare held n 3 (([v0, v1, v2, v3, v4, v5, v6, v7, v8, v9].drop 9).take (Tryz.prog.cellsOf 3)) = some x2 := hf 2 _ rfl
      simp only [cells_int, cells_stack, cells_arena, cells_epoch, cells_limbo, List.drop_zero, List.drop_succ_cons, List.take_succ_cons, List.take_zero] at f0 f1 f2
      obtain ⟨q0, e0⟩ := open_arena f0
      obtain ⟨q1, e1⟩ := open_epoch f1
      obtain ⟨q2, e2, _, w2⟩ := DataW.trod_int Tryz.underlying3 f2
      simp at e2
      subst e2
      simp only [arcell, List.cons.injEq, and_true] at e0
      simp only [stcell, List.cons.injEq, and_true] at e1
      obtain ⟨rfl, rfl, rfl, rfl, rfl, rfl⟩ := e0
      obtain ⟨rfl, rfl, rfl⟩ := e1
      exact ⟨(q0, q1, q2), rfl⟩
theorem open_tower {fuel : Nat} {cs : List Value} {x : DataW H × List MemPlace} (h : DataW.trod enc Tryz.prog w base spare held fuel 31 cs = some x) : ∃ t : Twr, cs = towcell t := by
  obtain ⟨xs, n, _, _, hl, hxl, hf⟩ := DataW.trod_struct Tryz.underlying31 h
  rw [cells_tower] at hl
  match cs, hl with
  | [v0, v1, v2, v3, v4, v5, v6, v7, v8, v9, v10, v11, v12], _ =>
    match xs, hxl with
    | [x0, x1, x2, x3], _ =>
      have f0 : DataW.trod enc Tryz.prog w base spare held n 3 (([v0, v1, v2, v3, v4, v5, v6, v7, v8, v9, v10, v11, v12].drop 0).take (Tryz.prog.cellsOf 3)) = some x0 := hf 0 _ rfl
      have f1 : DataW.trod enc Tryz.prog w base spare held n 3 (([v0, v1, v2, v3, v4, v5, v6, v7, v8, v9, v10, v11, v12].drop 1).take (Tryz.prog.cellsOf 3)) = some x1 := hf 1 _ rfl
      have f2 : DataW.trod enc Tryz.prog w base spare held n 3 (([v0, v1, v2, v3, v4, v5, v6, v7, v8, v9, v10, v11, v12].drop 2).take (Tryz.prog.cellsOf 3)) = some x2 := hf 2 _ rfl
      have f3 : DataW.trod enc Tryz.prog w base spare held n 29 (([v0, v1, v2, v3, v4, v5, v6, v7, v8, v9, v10, v11, v12].drop 3).take (Tryz.prog.cellsOf 29)) = some x3 := hf 3 _ rfl
      simp only [cells_int, cells_stack, cells_arena, cells_epoch, cells_limbo, List.drop_zero, List.drop_succ_cons, List.take_succ_cons, List.take_zero] at f0 f1 f2 f3
      obtain ⟨q0, e0, _, w0⟩ := DataW.trod_int Tryz.underlying3 f0
      simp at e0
      subst e0
      obtain ⟨q1, e1, _, w1⟩ := DataW.trod_int Tryz.underlying3 f1
      simp at e1
      subst e1
      obtain ⟨q2, e2, _, w2⟩ := DataW.trod_int Tryz.underlying3 f2
      simp at e2
      subst e2
      obtain ⟨q3, e3⟩ := open_limbo f3
      simp only [licell, arcell, stcell, List.cons_append, List.nil_append, List.cons.injEq, and_true] at e3
      obtain ⟨rfl, rfl, rfl, rfl, rfl, rfl, rfl, rfl, rfl, rfl⟩ := e3
      exact ⟨⟨q0, q1, q2, q3.1, q3.2.1, q3.2.2⟩, rfl⟩
theorem open_towerv {fuel : Nat} {cs : Array Value} {x : DataW H × List MemPlace} (h : DataW.trod enc Tryz.prog w base spare held fuel 31 cs.toList = some x) : ∃ t : Twr, cs = (towcell t).toArray := by
  obtain ⟨t, h1⟩ := open_tower h
  exact ⟨t, by rw [← h1]⟩
end
end Go.Proofs.YtejiogggocnldaaGreat.Tw
