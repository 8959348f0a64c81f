/- A Find in a memory that is none. -/
import Derived.Test.YtejiogggocnldaaG14
import Derived.Test.YtejiogggocnldaaG15
import Derived.Test.YtejiogggocnldaaG06
import Derived.Lib.Hide
import Derived.Deep.Light
import Derived.Deep.RegionHeld3
import Derived.Laws.EntriesVeiled
import Derived.Test.YtejiogggocnldaaG05
import Derived.Test.YtejiogggocnldaaG03
import Derived.Test.YtejiogggocnldaaG10
import Derived.Test.YtejiogggocnldaaG00
import Derived.Test.YtejiogggocnldaaG11
set_option linter.unusedVariables false
set_option linter.unusedSimpArgs false

namespace Go.Proofs.Ytejiogggocnldaa.Fd
set_option maxRecDepth 20000
open Go.RowKit
open Wo (St acc wordAt PMem RefIs)
open Sk (Stk Arn idx Wd)
open Tw (Twr TB towV atI nextI)

def Pos.off : Pos := ⟨-1, 0, 0, 0, 4⟩
def nO (g k : Nat) : FOp := ⟨fun j => if g - k ≤ j ∧ j < g then Pos.off else Pos.zero, 0, if k = g then 0 else 14⟩
theorem lvl_is {f : Nat → Pos} : ∀ {g l : Nat}, l < g → (f l).x ≠ 4 → (∀ y, l < y → y < g → (f y).x = 4) → lvl f g = some l
  | 0, l, h, _, _ => by omega
  | g + 1, l, h, hx, hy => by
    unfold lvl
    by_cases e : l = g
    · subst e
      rw [if_neg hx]
    · rw [if_pos (hy g (by omega) (by omega))]
      exact lvl_is (by omega) hx (fun y h1 h2 => hy y h1 (by omega))
theorem idx_zero (N : Int) : idx N 0 < 0 := by
  unfold idx
  split <;> omega
theorem fnil_step (F : Nat) (t : Twr) (key : Int) (g : Nat) (hg : (g : Int) = t.G) (g4 : g ≤ 4) (k : Nat) (hk : k < g) (w : World) (h : FdAt w F t key (nO g k)) :
    Calls Try.prog 13 #[.pointer (some ⟨F, 0, none⟩), .pointer none] w fun e w' => e = .returned (.bool (decide (k + 1 = g))) ∧ FdAt w' F t key (nO g (k + 1)) ∧ But (fun j => j = F) w w' := by
  obtain ⟨l, hl⟩ : ∃ l, l = g - 1 - k := ⟨_, rfl⟩
  have hz : (nO g k).pos l = Pos.zero := if_neg (by omega)
  have hlv : lvl (nO g k).pos g = some l := lvl_is (by omega) (by rw [hz]; decide) (fun y h1 h2 => by
    have : (nO g k).pos y = Pos.off := if_pos ⟨by omega, h2⟩
    rw [this]; rfl)
  have hq : (frm g (nO g k).pos l).p = -1 ∧ (frm g (nO g k).pos l).k = 0 ∧ (frm g (nO g k).pos l).v = 0 := by
    unfold frm
    split
    · have : (nO g k).pos (l + 1) = Pos.off := if_pos ⟨by omega, by omega⟩
      rw [this]; exact ⟨rfl, rfl, rfl⟩
    · exact ⟨rfl, rfl, rfl⟩
  have hf : faced t.A.F.N (frm g (nO g k).pos l) 0 = Pos.off := by
    unfold faced
    rw [if_pos (idx_zero _), hq.1, hq.2.1, hq.2.2]
    rfl
  have h0 : ((upd (nO g k).pos l Pos.off) 0).x = 4 ↔ k + 1 = g := by
    by_cases e : k + 1 = g
    · have : l = 0 := by omega
      subst this
      rw [upd_same]
      exact ⟨fun _ => e, fun _ => rfl⟩
    · rw [upd_other _ _ (by omega), show (nO g k).pos 0 = Pos.zero from if_neg (by omega)]
      exact ⟨fun e => absurd e (by decide), fun h => absurd h e⟩
  refine (fstep_of F none (decide (k + 1 = g)) _ w ?_)
  refine (fstep_at F t key g hg g4 (nO g k) none l hlv (upd (nO g k).pos l Pos.off) 0 (fun _ => True) (fun _ => False) w (fun j e => e.elim) (fun _ _ _ _ _ _ => trivial) h (.inl ⟨by rw [hz]; rfl, fun W kk => ?_⟩)).mono ?_
  · have := enter_any F t key (nO g k) l (by omega) (frm g (nO g k).pos l) (.pointer none) 0 (by decide) (by decide) (fun _ => False) id (fun _ => True) (fun _ _ _ _ => trivial) W (fun _ _ => id) (h.kept kk) (fun X _ => (Wo.no_load_nil _ X).mono fun _ _ ⟨a, b⟩ => ⟨a, trivial, (Sk.kept_of b).but _⟩)
    rw [hf, hq.2.1, if_neg (show ¬ markB 0 = true by decide)] at this
    exact this
  · rintro e w' ⟨a, x, -, b⟩
    refine ⟨by rw [a]; congr 2; exact decide_eq_decide.2 h0, x.like (fun j hj => ?_) rfl ?_, b.mono (fun _ _ h => h.elim id (fun h => h.elim))⟩
    · show (if g - (k + 1) ≤ j ∧ j < g then Pos.off else Pos.zero) = upd (nO g k).pos l Pos.off j
      by_cases e : j = l
      · rw [e, upd_same, if_pos ⟨by omega, by omega⟩]
      · rw [upd_other _ _ e]
        show _ = if g - k ≤ j ∧ j < g then Pos.off else Pos.zero
        by_cases e2 : g - k ≤ j ∧ j < g
        · rw [if_pos e2, if_pos ⟨by omega, e2.2⟩]
        · rw [if_neg e2, if_neg (fun h => e2 ⟨by omega, h.2⟩)]
    · show (if k + 1 = g then (0 : Int) else 14) = if ((upd (nO g k).pos l Pos.off) 0).x = 4 then 0 else (nO g k).er
      by_cases e : k + 1 = g
      · rw [if_pos e, if_pos (h0.2 e)]
      · rw [if_neg e, if_neg (fun h => e (h0.1 h))]
        show (14 : Int) = if k = g then 0 else 14
        rw [if_neg (by omega)]
end Go.Proofs.Ytejiogggocnldaa.Fd

namespace Go.Proofs.Ytejiogggocnldaa.Sk
set_option maxRecDepth 20000
open Go.RowKit
open Wo (St acc wordAt PMem RefIs)

abbrev Arn.v (A : Arn) : Value := .agg #[.int .i64 A.F.T, .int .i64 A.F.K, .int .i64 A.F.N, .int .i64 A.G, .int .i64 A.V, .int .i64 A.L]

set_option maxHeartbeats 400000 in
theorem gen_any (T K N G V L i : Int) (w : World) : Calls Try.prog 151 #[.agg #[.int .i64 T, .int .i64 K, .int .i64 N, .int .i64 G, .int .i64 V, .int .i64 L], .int .i64 i] w fun e w' => e = .returned (.int .i64 (wrap64 (G + i))) ∧ Kept w w' := by
  go_enter Try.func151, Try.ntmps151
  go_wp2
  go_ret
  exact ⟨rfl, by (go_light; repeat (first | (with_reducible exact Kept.refl _) | (with_reducible assumption) | (with_reducible refine Kept.alloc ?_ _ _) | (with_reducible refine Kept.drew ?_) | (with_reducible refine Kept.drewN ?_ _) | ((with_reducible refine Kept.setCell ?_ ?_ _); rotate_left; focus (first | (simp; done) | (simp; omega))) | refine Kept.trans ?_ (by assumption)))⟩
theorem gen_in (T K N G V L i : Int) (w : World) (h0 : 0 ≤ G) (h1 : G ≤ 100000) (h2 : -1 ≤ i) (h3 : i ≤ 100000) : Calls Try.prog 151 #[.agg #[.int .i64 T, .int .i64 K, .int .i64 N, .int .i64 G, .int .i64 V, .int .i64 L], .int .i64 i] w fun e w' => e = .returned (.int .i64 (G + i)) ∧ Kept w w' :=
  (gen_any T K N G V L i w).mono fun _ _ ⟨x, k⟩ => ⟨by rw [x, show wrap64 (G + i) = G + i by unfold wrap64; omega], k⟩
def GenF (x : Int) (w : World) (e : Ending) (w' : World) : Prop :=
  ∃ b, e = .returned (.func (.func 170) #[] #[.pointer (some ⟨b, 0, none⟩)]) ∧ w.heap.size ≤ b ∧ w'.cell? ⟨b, 0, none⟩ = some (.int .u64 x) ∧ (∀ i, w'.frozen? ⟨b, i, none⟩ = false) ∧ Kept w w'
set_option maxHeartbeats 400000 in
theorem generations_any (x : Int) (w : World) : Calls Try.prog 150 #[.int .u64 x] w (GenF x w) := by
  go_enter Try.func150, Try.ntmps150
  go_wp2
  go_ret
  exact ⟨w.heap.size, rfl, Nat.le_refl _, by simp, fun i => by simp, by (go_light; repeat (first | (with_reducible exact Kept.refl _) | (with_reducible assumption) | (with_reducible refine Kept.alloc ?_ _ _) | (with_reducible refine Kept.drew ?_) | (with_reducible refine Kept.drewN ?_ _) | ((with_reducible refine Kept.setCell ?_ ?_ _); rotate_left; focus (first | (simp; done) | (simp; omega))) | refine Kept.trans ?_ (by assumption)))⟩
set_option maxHeartbeats 400000 in
theorem generations1_any (x : Int) (b : Nat) (w : World) (c : w.cell? ⟨b, 0, none⟩ = some (.int .u64 x)) (f : ∀ i, w.frozen? ⟨b, i, none⟩ = false) :
    Calls Try.prog 170 #[.pointer (some ⟨b, 0, none⟩)] w fun e w' => e = .returned (.int .u64 ((x + 1) % 18446744073709551616)) ∧ w' = w.setCell ⟨b, 0, none⟩ (.int .u64 ((x + 1) % 18446744073709551616)) := by
  have hb := lt_of_cell c
  go_enter Try.func170, Try.ntmps170
  go_wp2
  go_ret
  exact ⟨rfl, rfl⟩

end Go.Proofs.Ytejiogggocnldaa.Sk

namespace Go.Proofs.Ytejiogggocnldaa.Sk
set_option maxRecDepth 20000
open Go.RowKit
open Wo (St acc wordAt PMem RefIs)

def fitsE (S : Stk) (n : Int) : Int :=
  if n < 1 ∨ 4096 < n then 3
  else if S.N < 1 ∨ 4096 < S.N ∨ S.T < 0 ∨ n ≤ S.T ∨ S.K < 0 ∨ n - S.N < S.K ∨ (S.K ≤ S.T ∧ S.T < S.K + S.N) then 2 else 0
theorem fitsE_ok {S : Stk} {n : Int} (h : fitsE S n = 0) : S.Ok n.toNat ∧ 1 ≤ n ∧ n ≤ 4096 := by
  unfold fitsE at h
  split at h
  · omega
  · split at h
    · omega
    · exact ⟨⟨by omega, by omega, by omega, by omega, by omega, by omega, by omega, by omega, by omega⟩, by omega, by omega⟩
theorem fitsE_is (S : Stk) (n : Int) : fitsE S n = 0 ∨ fitsE S n = 2 ∨ fitsE S n = 3 := by
  unfold fitsE
  split
  · simp
  · split <;> simp

set_option maxHeartbeats 400000 in
theorem sized_yes (S : Stk) (w : World) (h0 : 1 ≤ S.N) (h1 : S.N ≤ 4096) : Calls Try.prog 167 #[.agg #[.int .i64 S.T, .int .i64 S.K, .int .i64 S.N]] w fun e w' => e = .returned (.bool true) ∧ Kept w w' := by
  go_enter Try.func167, Try.ntmps167
  go_wp2
  go_ret
  exact ⟨rfl, by (go_light; repeat (first | (with_reducible exact Kept.refl _) | (with_reducible assumption) | (with_reducible refine Kept.alloc ?_ _ _) | (with_reducible refine Kept.drew ?_) | (with_reducible refine Kept.drewN ?_ _) | ((with_reducible refine Kept.setCell ?_ ?_ _); rotate_left; focus (first | (simp; done) | (simp; omega))) | refine Kept.trans ?_ (by assumption)))⟩
set_option maxHeartbeats 400000 in
theorem sized_no (S : Stk) (w : World) (h : S.N < 1 ∨ 4096 < S.N) : Calls Try.prog 167 #[.agg #[.int .i64 S.T, .int .i64 S.K, .int .i64 S.N]] w fun e w' => e = .returned (.bool false) ∧ Kept w w' := by
  rcases h with h | h
  · go_enter Try.func167, Try.ntmps167
    go_wp2
    go_ret
    exact ⟨rfl, by (go_light; repeat (first | (with_reducible exact Kept.refl _) | (with_reducible assumption) | (with_reducible refine Kept.alloc ?_ _ _) | (with_reducible refine Kept.drew ?_) | (with_reducible refine Kept.drewN ?_ _) | ((with_reducible refine Kept.setCell ?_ ?_ _); rotate_left; focus (first | (simp; done) | (simp; omega))) | refine Kept.trans ?_ (by assumption)))⟩
  · have h0 : 1 ≤ S.N := by omega
    have h2 : decide (S.N ≤ 4096) = false := by simp; omega
    go_enter Try.func167, Try.ntmps167
    go_wp2
    go_ret
    exact ⟨rfl, by (go_light; repeat (first | (with_reducible exact Kept.refl _) | (with_reducible assumption) | (with_reducible refine Kept.alloc ?_ _ _) | (with_reducible refine Kept.drew ?_) | (with_reducible refine Kept.drewN ?_ _) | ((with_reducible refine Kept.setCell ?_ ?_ _); rotate_left; focus (first | (simp; done) | (simp; omega))) | refine Kept.trans ?_ (by assumption)))⟩
end Go.Proofs.Ytejiogggocnldaa.Sk

namespace Go.Proofs.Ytejiogggocnldaa.Sk
set_option maxRecDepth 20000
open Go.RowKit
open Wo (St acc wordAt PMem RefIs)

def fillTo (n : Nat) (S : Stk) (s : St) : Nat → St
  | 0 => acc n s 2 S.T true 1
  | k + 1 => acc n (fillTo n S s k) 2 (S.K + k) true (k + 2)
def fillSt (n : Nat) (S : Stk) (s : St) : St := acc n (fillTo n S s (S.N.toNat - 1)) 2 (S.K + (S.N - 1)) true 0
theorem fillTo_cnt (n : Nat) (S : Stk) (s : St) (k : Nat) : (fillTo n S s k).cnt = s.cnt + 1 + k := by
  induction k with
  | zero => show (acc n s 2 S.T true 1).cnt = _; rw [acc_cnt]; simp
  | succ k ih => show (acc n (fillTo n S s k) 2 (S.K + k) true (k + 2)).cnt = _; rw [acc_cnt, ih]; omega
theorem fillTo_wd {n : Nat} {S : Stk} {s : St} (h : Wd n s) : ∀ k, k ≤ 100000 → Wd n (fillTo n S s k)
  | 0, _ => h.acc _ _ _ _ (by omega) (by omega)
  | k + 1, hk => (fillTo_wd h k (by omega)).acc _ _ _ _ (by omega) (by omega)
theorem fillSt_cnt {n : Nat} {S : Stk} {s : St} (h : 1 ≤ S.N) : (fillSt n S s).cnt = s.cnt + 1 + S.N := by
  unfold fillSt; rw [acc_cnt, fillTo_cnt]; omega
theorem fillSt_wd {n : Nat} {S : Stk} {s : St} (h : Wd n s) (hN : S.N ≤ 4096) : Wd n (fillSt n S s) := (fillTo_wd h _ (by omega)).acc _ _ _ _ (by omega) (by omega)

set_option maxHeartbeats 2000000 in
theorem p_fill (M B n : Nat) (S : Stk) (s : St) (w : World) (hm : PMem w M B n s) (h0 : 0 ≤ s.cnt) (h1 : s.cnt ≤ 900000) (hS : S.Ok n) :
    Calls Try.prog 149 #[.agg #[.int .i64 S.T, .int .i64 S.K, .int .i64 S.N], .pointer (some ⟨M, 0, none⟩)] w fun e w' => e = .returned (.tuple #[]) ∧ PMem w' M B n (fillSt n S s) ∧ But (fun k => k = B) w w' := by
  have N1 := hS.N1
  have N2 := hS.N2
  have K1 := hS.K1
  have K2 := hS.K2
  have n2 := hS.n2
  have hB := (pmem_lt hm).2
  have HM := Lib.hid hm
  clear hm hS
  go_enter Try.func149, Try.ntmps149
  go_wp2_with fail
  refine (sized_yes S _ N1 N2).mono ?_
  rintro e w1 ⟨rfl, k1⟩
  have a0 : w1.cell? ⟨w.heap.size, 0, none⟩ = some (.int .i64 S.T) := k1.some (by simp)
  have a1 : w1.cell? ⟨w.heap.size, 1, none⟩ = some (.int .i64 S.K) := k1.some (by simp)
  have a2 : w1.cell? ⟨w.heap.size, 2, none⟩ = some (.int .i64 S.N) := k1.some (by simp)
  have hne : w.heap.size ≠ B := by omega
  have K : Hid (Kept w w1) := Lib.hid (by (go_light; repeat (first | (with_reducible exact Kept.refl _) | (with_reducible assumption) | (with_reducible refine Kept.alloc ?_ _ _) | (with_reducible refine Kept.drew ?_) | (with_reducible refine Kept.drewN ?_ _) | ((with_reducible refine Kept.setCell ?_ ?_ _); rotate_left; focus (first | (simp; done) | (simp; omega))) | refine Kept.trans ?_ (by assumption))))
  clear k1
  go_wp2_with fail
  go_region_held3 (fun w' => w'.cell? ⟨w.heap.size, 0, none⟩ = some (.int .i64 S.T) ∧ w'.cell? ⟨w.heap.size, 1, none⟩ = some (.int .i64 S.K) ∧ w'.cell? ⟨w.heap.size, 2, none⟩ = some (.int .i64 S.N)) (first | go_keep | (exact ⟨k2.some a0, k2.some a1, k2.some a2⟩) | (exact ⟨d0, d1, d2⟩)) (first
    | (go_at_call 168; refine (untagged_any 0 _ (by omega) (by omega)).mono ?_; rintro e w2 ⟨rfl, k2⟩; have KT : Kept w1 w2 := Kept.trans (b := _) (by first | exact Kept.refl _ | exact (Kept.refl _).drew | exact (Kept.refl _).drewN _) k2)
    | (go_at_call 26; refine (p_store M B n s S.T 1 _ (pmem_kept HM.out (K.out.trans (by first | exact KT | exact KT.drew | exact KT.drewN _))) h0 (by omega)).mono ?_; rintro e w3 ⟨rfl, m3, b3⟩; have BT : But (fun k => k = B) w1 w3 := (Kept.but (w' := _) (by first | exact KT | exact KT.drew | exact KT.drewN _) _).trans b3 (fun _ _ h => h); have d0 := BT.some a0 hne; have d1 := BT.some a1 hne; have d2 := BT.some a2 hne))
  have M3 := Lib.hid m3
  have BW := Lib.hid ((K.out.but _).trans BT (fun _ _ h => h))
  have D0 := Lib.hid d0
  have D1 := Lib.hid d1
  have D2 := Lib.hid d2
  clear a0 a1 k2 KT m3 b3 BT d0 d1
  obtain ⟨m, hmm⟩ : ∃ m : Nat, (m : Int) = S.N - 1 := ⟨(S.N - 1).toNat, by omega⟩
  have HMM := Lib.hid hmm
  clear hmm
  go_wp2_with fail
  go_loopw [18, 5] (fun i _ wr => ∃ k : Nat, k ≤ m ∧ i = .int .i64 k ∧ PMem wr M B n (fillTo n S s k) ∧ But (fun k => k = B) w3 wr) (fun i _ _ => m - (intOf i).toNat)
  case atStart => exact ⟨0, Nat.zero_le _, rfl, M3.out, But.refl _ _⟩
  case round =>
    obtain ⟨k, hk, rfl, mr, br⟩ := hrel
    have e0 := br.some D0.out hne
    have e1 := br.some D1.out hne
    have e2 := br.some D2.out hne
    have hmm := HMM.out
    have MR := Lib.hid mr
    have BR := Lib.hid br
    have c0 : 0 ≤ (fillTo n S s k).cnt := by rw [fillTo_cnt]; omega
    have c1 : (fillTo n S s k).cnt ≤ 1000000 := by rw [fillTo_cnt]; omega
    clear mr br
    by_cases hlt : k < m
    · have hl : (k : Int) < S.N - 1 := by omega
      clear hmm
      go_wp2_with fail
      refine (link_in S.T S.K S.N k _ K1 (by omega) (by omega) (by omega)).mono ?_
      rintro e w4 ⟨rfl, k4⟩
      go_wp2_with fail
      refine (untagged_any (k + 1) _ (by omega) (by omega)).mono ?_
      rintro e w5 ⟨rfl, k5⟩
      go_wp2_with fail
      refine (p_store M B n _ (S.K + k) (k + 1 + 1) _ (pmem_kept MR.out (k4.trans k5)) c0 c1).mono ?_
      rintro e w6 ⟨rfl, m6, b6⟩
      have M6 := Lib.hid m6
      have B6 := Lib.hid ((BR.out.then (k4.trans k5)).trans b6 (fun _ _ h => h))
      clear k4 k5 m6 b6
      go_wp2
      go_roundw
      case rel => exact ⟨k + 1, by omega, by go_num, by have := M6.out; rw [show ((k : Int) + 1 + 1) = k + 2 by omega] at this; exact this, B6.out⟩
      case measure => simp [intOf]; omega
    · have hl : S.N - 1 ≤ (k : Int) := by omega
      have hkm : k = S.N.toNat - 1 := by omega
      have HKM := Lib.hid hkm
      clear hmm hkm
      go_wp2_with fail
      refine (link_in S.T S.K S.N (S.N - 1) _ K1 (by omega) (by omega) (by omega)).mono ?_
      rintro e w4 ⟨rfl, k4⟩
      go_wp2_with fail
      refine (untagged_any (-1) _ (by omega) (by omega)).mono ?_
      rintro e w5 ⟨rfl, k5⟩
      go_wp2_with fail
      refine (p_store M B n _ (S.K + (S.N - 1)) 0 _ (pmem_kept MR.out (k4.trans k5)) c0 c1).mono ?_
      rintro e w6 ⟨rfl, m6, b6⟩
      have M6 := Lib.hid m6
      have B6 := Lib.hid ((BR.out.then (k4.trans k5)).trans b6 (fun _ _ h => h))
      clear k4 k5 m6 b6
      go_wp2
      go_end0
      refine ⟨rfl, ?_, BW.out.trans B6.out (fun _ _ h => h)⟩
      have := M6.out
      rw [HKM.out] at this
      exact this

end Go.Proofs.Ytejiogggocnldaa.Sk

namespace Go.Proofs.Ytejiogggocnldaa.Sk
set_option maxRecDepth 20000
open Go.RowKit
open Wo (St acc wordAt PMem RefIs)

def afillTo (n : Nat) (A : Arn) (s : St) : Nat → St
  | 0 => acc n (fillSt n A.F s) 2 A.V true 0
  | k + 1 => acc n (afillTo n A s k) 2 (A.G + k) true 1
def afillSt (n : Nat) (A : Arn) (s : St) : St := afillTo n A s A.F.N.toNat
theorem afillTo_cnt (n : Nat) (A : Arn) (s : St) (k : Nat) (h : 1 ≤ A.F.N) : (afillTo n A s k).cnt = s.cnt + 2 + A.F.N + k := by
  induction k with
  | zero => show (acc n (fillSt n A.F s) 2 A.V true 0).cnt = _; rw [acc_cnt, fillSt_cnt h]; omega
  | succ k ih => show (acc n (afillTo n A s k) 2 (A.G + k) true 1).cnt = _; rw [acc_cnt, ih]; omega
theorem afillTo_wd {n : Nat} {A : Arn} {s : St} (h : Wd n s) (hN : A.F.N ≤ 4096) : ∀ k, Wd n (afillTo n A s k)
  | 0 => (fillSt_wd h hN).acc _ _ _ _ (by omega) (by omega)
  | k + 1 => (afillTo_wd h hN k).acc _ _ _ _ (by omega) (by omega)
theorem afillSt_wd {n : Nat} {A : Arn} {s : St} (h : Wd n s) (hN : A.F.N ≤ 4096) : Wd n (afillSt n A s) := afillTo_wd h hN _
theorem afillSt_cnt {n : Nat} {A : Arn} {s : St} (h : 1 ≤ A.F.N) : (afillSt n A s).cnt = s.cnt + 2 + 2 * A.F.N := by
  unfold afillSt; rw [afillTo_cnt _ _ _ _ h]; omega

set_option maxHeartbeats 2000000 in
theorem p_afill (M B n : Nat) (A : Arn) (s : St) (w : World) (hm : PMem w M B n s) (h0 : 0 ≤ s.cnt) (h1 : s.cnt ≤ 900000) (hA : A.Ok n) :
    Calls Try.prog 125 #[.agg #[.int .i64 A.F.T, .int .i64 A.F.K, .int .i64 A.F.N, .int .i64 A.G, .int .i64 A.V, .int .i64 A.L], .pointer (some ⟨M, 0, none⟩)] w fun e w' => e = .returned (.tuple #[]) ∧ PMem w' M B n (afillSt n A s) ∧ But (fun k => k = B) w w' := by
  have N1 := hA.F.N1
  have N2 := hA.F.N2
  have G1 := hA.G1
  have G2 := hA.G2
  have n2 := hA.F.n2
  have hB := pmem_lt hm
  have HF : ∀ W, Kept w W → Hid (Calls Try.prog 149 #[.agg #[.int .i64 A.F.T, .int .i64 A.F.K, .int .i64 A.F.N], .pointer (some ⟨M, 0, none⟩)] W fun e w' => e = .returned (.tuple #[]) ∧ PMem w' M B n (fillSt n A.F s) ∧ But (fun k => k = B) W w') := fun W k => Lib.hid (p_fill M B n A.F s W (pmem_kept hm k) h0 h1 hA.F)
  have C1 : 0 ≤ (fillSt n A.F s).cnt ∧ (fillSt n A.F s).cnt ≤ 1000000 := by rw [fillSt_cnt N1]; omega
  have C2 : ∀ k : Nat, k ≤ 4096 → 0 ≤ (afillTo n A s k).cnt ∧ (afillTo n A s k).cnt ≤ 1000000 := fun k hk => by rw [afillTo_cnt _ _ _ _ N1]; omega
  have HC1 := Lib.hid C1
  have HC2 := Lib.hid C2
  have hne : w.heap.size ≠ B := by omega
  clear hm hA C1 C2
  go_enter Try.func125, Try.ntmps125
  go_wp2_with fail
  refine (HF _ (by (go_light; repeat (first | (with_reducible exact Kept.refl _) | (with_reducible assumption) | (with_reducible refine Kept.alloc ?_ _ _) | (with_reducible refine Kept.drew ?_) | (with_reducible refine Kept.drewN ?_ _) | ((with_reducible refine Kept.setCell ?_ ?_ _); rotate_left; focus (first | (simp; done) | (simp; omega))) | refine Kept.trans ?_ (by assumption))))).out.mono ?_
  rintro e w1 ⟨rfl, m1, b1⟩
  have a0 := b1.some (cell_new w #[.int .i64 A.F.T, .int .i64 A.F.K, .int .i64 A.F.N, .int .i64 A.G, .int .i64 A.V, .int .i64 A.L] 45 w.heap.size 0 rfl) hne
  have a1 := b1.some (cell_new w #[.int .i64 A.F.T, .int .i64 A.F.K, .int .i64 A.F.N, .int .i64 A.G, .int .i64 A.V, .int .i64 A.L] 45 w.heap.size 1 rfl) hne
  have a2 := b1.some (cell_new w #[.int .i64 A.F.T, .int .i64 A.F.K, .int .i64 A.F.N, .int .i64 A.G, .int .i64 A.V, .int .i64 A.L] 45 w.heap.size 2 rfl) hne
  have a3 := b1.some (cell_new w #[.int .i64 A.F.T, .int .i64 A.F.K, .int .i64 A.F.N, .int .i64 A.G, .int .i64 A.V, .int .i64 A.L] 45 w.heap.size 3 rfl) hne
  have a4 := b1.some (cell_new w #[.int .i64 A.F.T, .int .i64 A.F.K, .int .i64 A.F.N, .int .i64 A.G, .int .i64 A.V, .int .i64 A.L] 45 w.heap.size 4 rfl) hne
  have a5 := b1.some (cell_new w #[.int .i64 A.F.T, .int .i64 A.F.K, .int .i64 A.F.N, .int .i64 A.G, .int .i64 A.V, .int .i64 A.L] 45 w.heap.size 5 rfl) hne
  have BW1 : Hid (But (fun k => k = B) w w1) := Lib.hid ((Kept.but ((Kept.refl w).alloc _ _) _).trans b1 (fun _ _ h => h))
  have M1 := Lib.hid m1
  have hz1 := b1.size
  simp at hz1
  clear m1 b1 HF
  go_wp2_with fail
  refine (p_store M B n _ A.V 0 _ M1.out HC1.out.1 HC1.out.2).mono ?_
  rintro e w2 ⟨rfl, m2, b2⟩
  have d0 := b2.some a0 hne
  have d1 := b2.some a1 hne
  have d2 := b2.some a2 hne
  have d3 := b2.some a3 hne
  have d4 := b2.some a4 hne
  have d5 := b2.some a5 hne
  have BW2 := Lib.hid (BW1.out.trans b2 (fun _ _ h => h))
  have M2 : Hid (PMem w2 M B n (afillTo n A s 0)) := Lib.hid m2
  have hz2 := b2.size
  obtain ⟨m, hmm⟩ : ∃ m : Nat, (m : Int) = A.F.N := ⟨A.F.N.toNat, by omega⟩
  have HMM := Lib.hid hmm
  clear m2 b2 a0 a1 a2 a3 a4 a5 hmm M1
  go_wp2_with fail
  go_loopw [27, 4, 5] (fun i _ _ wr => ∃ k : Nat, k ≤ m ∧ i = .int .i64 k ∧ PMem wr M B n (afillTo n A s k) ∧ But (fun k => k = B) w2 wr) (fun i _ _ _ => m - (intOf i).toNat)
  case atStart => exact ⟨0, Nat.zero_le _, rfl, M2.out, But.refl _ _⟩
  case round =>
    obtain ⟨k, hk, rfl, mr, br⟩ := hrel
    have e0 := br.some d0 hne
    have e1 := br.some d1 hne
    have e2 := br.some d2 hne
    have e3 := br.some d3 hne
    have e4 := br.some d4 hne
    have e5 := br.some d5 hne
    have hmm := HMM.out
    have MR := Lib.hid mr
    have BR := Lib.hid br
    have hc := Lib.hid (HC2.out k (by omega))
    clear mr br d0 d1 d2 d3 d4 d5
    by_cases hlt : k < m
    · have hl : (k : Int) < A.F.N := by omega
      have hk2 : (k : Int) ≤ 65534 := by omega
      have HG : ∀ W, Hid (Calls Try.prog 151 #[.agg #[.int .i64 A.F.T, .int .i64 A.F.K, .int .i64 A.F.N, .int .i64 A.G, .int .i64 A.V, .int .i64 A.L], .int .i64 (k : Int)] W fun e w' => e = .returned (.int .i64 (A.G + k)) ∧ Kept W w') := fun W => Lib.hid (gen_in _ _ _ _ _ _ _ W G1 (by omega) (by omega) (by omega))
      clear hmm
      go_wp2_with fail
      refine (generations_any 0 _).mono ?_
      rintro e w4 ⟨b, rfl, hb, cb, fb, k4⟩
      have hbu := lt_of_cell cb
      have g0 := k4.some e0
      have g1 := k4.some e1
      have g2 := k4.some e2
      have g3 := k4.some e3
      have g4 := k4.some e4
      have g5 := k4.some e5
      have K4 := Lib.hid k4
      have FB := Lib.hid fb
      clear k4 fb
      go_wp2_with fail
      refine (HG _).out.mono ?_
      rintro e w5 ⟨rfl, k5⟩
      have cb5 := k5.some cb
      have fb5 : ∀ i, w5.frozen? ⟨b, i, none⟩ = false := fun j => k5.soft hbu (FB.out j)
      have K5 := Lib.hid (K4.out.trans k5)
      clear k5
      go_wp2_with fail
      refine (generations1_any 0 b _ cb5 fb5).mono ?_
      rintro e w6 ⟨rfl, h6⟩
      have K6 := Lib.hid (show Kept _ w6 by rw [h6]; exact Kept.setCell K5.out (p := ⟨b, 0, none⟩) hb _)
      clear h6 cb5 fb5 cb g0 g1 g2 g3 g4 g5
      go_wp2_with fail
      refine (p_store M B n _ (A.G + k) 1 _ (pmem_kept MR.out K6.out) hc.out.1 hc.out.2).mono ?_
      rintro e w7 ⟨rfl, m7, b7⟩
      have M7 := Lib.hid m7
      have B7 := Lib.hid ((BR.out.then K6.out).trans b7 (fun _ _ h => h))
      clear m7 b7
      go_wp2
      go_roundw
      case rel => exact ⟨k + 1, by omega, by go_num, M7.out, B7.out⟩
      case measure => simp [intOf]; omega
    · have hl : A.F.N ≤ (k : Int) := by omega
      have hkm : k = A.F.N.toNat := by omega
      have HKM := Lib.hid hkm
      clear hmm hkm
      go_wp2
      go_end0
      refine ⟨rfl, ?_, BW2.out.trans BR.out (fun _ _ h => h)⟩
      have := MR.out
      rw [HKM.out] at this
      exact this

end Go.Proofs.Ytejiogggocnldaa.Sk

namespace Go.Proofs.Ytejiogggocnldaa.Ep
set_option maxRecDepth 20000
open Go.RowKit
open Wo (St acc wordAt)
open Sk (Stk Wd)

def fitsE (S : Stk) (n : Int) : Int :=
  if n < 1 ∨ 4096 < n then 3
  else if S.N < 1 ∨ 64 < S.N ∨ S.T < 0 ∨ n ≤ S.T ∨ S.K < 0 ∨ n - S.N < S.K ∨ (S.K ≤ S.T ∧ S.T < S.K + S.N) then 2 else 0
theorem fitsE_ok {S : Stk} {n : Int} (h : fitsE S n = 0) : S.Ok n.toNat ∧ S.N ≤ 64 ∧ 1 ≤ n ∧ n ≤ 4096 := by
  unfold fitsE at h
  split at h
  · omega
  · split at h
    · omega
    · exact ⟨⟨by omega, by omega, by omega, by omega, by omega, by omega, by omega, by omega, by omega⟩, by omega, by omega, by omega⟩
theorem fitsE_is (S : Stk) (n : Int) : fitsE S n = 0 ∨ fitsE S n = 2 ∨ fitsE S n = 3 := by
  unfold fitsE
  split
  · simp
  · split <;> simp

set_option maxHeartbeats 400000 in
theorem sized_yes (S : Stk) (w : World) (h0 : 1 ≤ S.N) (h1 : S.N ≤ 64) : Calls Try.prog 152 #[.agg #[.int .i64 S.T, .int .i64 S.K, .int .i64 S.N]] w fun e w' => e = .returned (.bool true) ∧ Kept w w' := by
  go_enter Try.func152, Try.ntmps152
  go_wp2
  go_ret
  exact ⟨rfl, by (go_light; repeat (first | (with_reducible exact Kept.refl _) | (with_reducible assumption) | (with_reducible refine Kept.alloc ?_ _ _) | (with_reducible refine Kept.drew ?_) | (with_reducible refine Kept.drewN ?_ _) | ((with_reducible refine Kept.setCell ?_ ?_ _); rotate_left; focus (first | (simp; done) | (simp; omega))) | refine Kept.trans ?_ (by assumption)))⟩
set_option maxHeartbeats 400000 in
theorem sized_no (S : Stk) (w : World) (h : S.N < 1 ∨ 64 < S.N) : Calls Try.prog 152 #[.agg #[.int .i64 S.T, .int .i64 S.K, .int .i64 S.N]] w fun e w' => e = .returned (.bool false) ∧ Kept w w' := by
  rcases h with h | h
  · go_enter Try.func152, Try.ntmps152
    go_wp2
    go_ret
    exact ⟨rfl, by (go_light; repeat (first | (with_reducible exact Kept.refl _) | (with_reducible assumption) | (with_reducible refine Kept.alloc ?_ _ _) | (with_reducible refine Kept.drew ?_) | (with_reducible refine Kept.drewN ?_ _) | ((with_reducible refine Kept.setCell ?_ ?_ _); rotate_left; focus (first | (simp; done) | (simp; omega))) | refine Kept.trans ?_ (by assumption)))⟩
  · have h0 : 1 ≤ S.N := by omega
    have h2 : decide (S.N ≤ 64) = false := by simp; omega
    go_enter Try.func152, Try.ntmps152
    go_wp2
    go_ret
    exact ⟨rfl, by (go_light; repeat (first | (with_reducible exact Kept.refl _) | (with_reducible assumption) | (with_reducible refine Kept.alloc ?_ _ _) | (with_reducible refine Kept.drew ?_) | (with_reducible refine Kept.drewN ?_ _) | ((with_reducible refine Kept.setCell ?_ ?_ _); rotate_left; focus (first | (simp; done) | (simp; omega))) | refine Kept.trans ?_ (by assumption)))⟩
end Go.Proofs.Ytejiogggocnldaa.Ep

namespace Go.Proofs.Ytejiogggocnldaa.Ep
set_option maxRecDepth 100000
open Go.RowKit Go.Shelf
open Wo (St acc wordAt PMem RefIs)
open Sk (Stk Wd Blk leaves p_store pmem_lt pmem_kept pmem_frame)
attribute [local go_sem] Oper.semAt_some

def fillTo (n : Nat) (S : Stk) (s : St) : Nat → St
  | 0 => acc n s 2 S.T true 0
  | k + 1 => acc n (fillTo n S s k) 2 (S.K + k) true 0
def fillSt (n : Nat) (S : Stk) (s : St) : St := fillTo n S s S.N.toNat
theorem fillTo_cnt (n : Nat) (S : Stk) (s : St) : ∀ k : Nat, (fillTo n S s k).cnt = s.cnt + 1 + k
  | 0 => by show (acc n s 2 S.T true 0).cnt = _; rw [Sk.acc_cnt]; simp
  | k + 1 => by show (acc n (fillTo n S s k) 2 (S.K + k) true 0).cnt = _; rw [Sk.acc_cnt, fillTo_cnt n S s k]; omega
theorem fillTo_wd {n : Nat} {S : Stk} {s : St} (h : Wd n s) : ∀ k : Nat, Wd n (fillTo n S s k)
  | 0 => h.acc _ _ _ _ (by omega) (by omega)
  | k + 1 => (fillTo_wd h k).acc _ _ _ _ (by omega) (by omega)
structure FlI (w : World) (N0 a b M B n : Nat) (S : Stk) (s : St) (pre : List Int) (X : World) : Prop where
  le : (pre.length : Int) ≤ S.N
  mem : PMem X M B n (fillTo n S s pre.length)
  bx : PBoxes X a b S 0
  but : But (fun k => k = B) w X
  mb : X.cell? ⟨w.heap.size + 1, 0, none⟩ = some (.pointer (some ⟨M, 0, none⟩))
  sz : N0 ≤ X.heap.size
structure FlB (w : World) (N0 a b M B : Nat) : Prop where
  la : w.heap.size ≤ a
  lb : w.heap.size ≤ b
  ha : a < N0
  hb : b < N0
  hM : M < w.heap.size
  hB : B < w.heap.size
  hw : w.heap.size + 1 < N0
theorem FlI.keep {w : World} {N0 a b M B n : Nat} {S : Stk} {s : St} {pre : List Int} {X X' : World} (h : FlI w N0 a b M B n S s pre X) (k : Kept X X') : FlI w N0 a b M B n S s pre X' :=
  ⟨h.le, pmem_kept h.mem k, h.bx.kept k, h.but.then k, k.some h.mb, Nat.le_trans h.sz k.size⟩
theorem FlI.turn {w : World} {N0 a b M B n : Nat} {S : Stk} {s : St} {pre : List Int} {X : World} {l : Nat} {y y' : Loop} (h : FlI w N0 a b M B n S s pre X) (hb : FlB w N0 a b M B) (hl : N0 ≤ l) (hy : X.heap[l]? = some (.loop y)) : FlI w N0 a b M B n S s pre (X.putObj l (.loop y')) := by
  have k : But (fun k => k = l) X (X.putObj l (.loop y')) := Sk.but_turned (But.refl _ _) hy rfl rfl (.inl rfl)
  have := hb.ha
  have := hb.hb
  have := hb.hM
  have := hb.hB
  have := hb.hw
  refine ⟨h.le, pmem_frame h.mem k (by omega) (by omega), ⟨k.some h.bx.a0 (by omega), k.some h.bx.a1 (by omega), k.some h.bx.a2 (by omega), k.some h.bx.b0 (by omega)⟩, Sk.but_turned h.but hy rfl rfl (.inr (by omega)), k.some h.mb (by omega), Nat.le_trans h.sz k.size⟩

set_option maxHeartbeats 4000000 in
theorem p_fill (M B n : Nat) (S : Stk) (s : St) (w : World) (hm : PMem w M B n s) (h0 : 0 ≤ s.cnt) (h1 : s.cnt ≤ 900000) (N1 : 1 ≤ S.N) (N2 : S.N ≤ 64) (K0 : 0 ≤ S.K) (K1 : S.K ≤ 10000) :
    Calls Try.prog 126 #[.agg #[.int .i64 S.T, .int .i64 S.K, .int .i64 S.N], .pointer (some ⟨M, 0, none⟩)] w fun e w' => e = .returned (.tuple #[]) ∧ PMem w' M B n (fillSt n S s) ∧ But (fun k => k = B) w w' := by
  have hl := pmem_lt hm
  have HM := Lib.hid hm
  clear hm
  refine (callsIn_wide (n := 6)).1 ?_
  refine callsIn_of_wp_marks Try.func126 rfl trivial ?_ rfl
  simp only [Try.ntmps126, List.size_toArray, List.length_cons, List.length_nil, Nat.reduceAdd, Nat.reduceSub, Array.replicate_succ, Array.replicate_zero, List.push_toArray, List.append_toArray, List.nil_append, List.cons_append]
  rw [wpIn_wide]
  go_wp2_with fail
  obtain ⟨W0, hW0⟩ : ∃ W0, W0 = ((w.alloc (.cells #[.int .i64 S.T, .int .i64 S.K, .int .i64 S.N] 47)).alloc (.cells #[.pointer (some ⟨M, 0, none⟩)] 32)) := ⟨_, rfl⟩
  have a0 : W0.cell? ⟨w.heap.size, 0, none⟩ = some (.int .i64 S.T) := by rw [hW0]; exact ((Kept.refl _).alloc _ _).some (cell_new _ _ _ _ 0 rfl)
  have a1 : W0.cell? ⟨w.heap.size, 1, none⟩ = some (.int .i64 S.K) := by rw [hW0]; exact ((Kept.refl _).alloc _ _).some (cell_new _ _ _ _ 1 rfl)
  have a2 : W0.cell? ⟨w.heap.size, 2, none⟩ = some (.int .i64 S.N) := by rw [hW0]; exact ((Kept.refl _).alloc _ _).some (cell_new _ _ _ _ 2 rfl)
  have b0 : W0.cell? ⟨w.heap.size + 1, 0, none⟩ = some (.pointer (some ⟨M, 0, none⟩)) := by rw [hW0]; exact cell_new _ _ _ _ 0 (by simp)
  have k0 : Kept w W0 := by rw [hW0]; exact ((Kept.refl w).alloc _ _).alloc _ _
  rw [← hW0]
  clear hW0
  refine (sized_yes S _ N1 N2).mono ?_
  rintro e w1 ⟨rfl, k1⟩
  have a0 := k1.some a0
  have a1 := k1.some a1
  have a2 := k1.some a2
  have b0 := k1.some b0
  have K1 := Lib.hid (k0.trans k1)
  clear k0 k1
  go_wp2_with fail
  refine (p_store M B n s S.T 0 _ (pmem_kept HM.out K1.out) h0 (by omega)).mono ?_
  rintro e w2 ⟨rfl, m2, b2⟩
  have a0 := b2.some a0 (by omega)
  have a1 := b2.some a1 (by omega)
  have a2 := b2.some a2 (by omega)
  have b0 := b2.some b0 (by omega)
  have M2 := Lib.hid m2
  have B2 := Lib.hid ((K1.out.but (fun k => k = B)).trans b2 (fun _ _ h => h))
  have z2 : w.heap.size + 1 < w2.heap.size := lt_of_cell b0
  clear m2 b2 K1
  go_wp2_with fail
  refine (pins_any S 0 _).mono ?_
  rintro e w3 ⟨a, b, rfl, la, lb, ha, hb, bs, k3⟩
  have SI : Hid (FlI w w3.heap.size a b M B n S s [] w3) := Lib.hid ⟨by simp; omega, pmem_kept M2.out k3, bs, B2.out.then k3, k3.some b0, Nat.le_refl _⟩
  have SB : Hid (FlB w w3.heap.size a b M B) := Lib.hid ⟨by have := B2.out.size; omega, by have := B2.out.size; omega, ha, hb, hl.1, hl.2, by have := k3.size; omega⟩
  have HBN : B < w3.heap.size := by have := B2.out.size; have := k3.size; omega
  clear a0 a1 a2 b0 la lb ha hb bs k3 M2 B2 z2
  go_wp2_with fail
  rw [← wpIn_wide (n := 6)]
  refine range_manyN (Bs := fun k => k = B ∨ w3.heap.size + 1 + 1 ≤ k) (by decide) (gf := 171) (lb := #[.pointer (some ⟨b, 0, none⟩), .pointer (some ⟨a, 0, none⟩)]) rfl (enters_of Try.func171 (by kernel_rfl) rfl) (fun x : Int => #[Value.int .i64 x, Value.int .i64 (S.K + x)]) (fun _ => rfl)
    (fun k h => by rcases h with h | h <;> omega)
    (fun pre X => FlI w w3.heap.size a b M B n S s pre X)
    (fun cd pre X => False)
    (fun pre x => pre = cs 0 pre.length ∧ x = 0 + (pre.length : Int) ∧ x < S.N) (fun xs => ∃ k : Nat, xs = cs 0 k ∧ S.N ≤ 0 + (k : Int))
    ?_ ?_ ?_ ?_ ?_ ?_
    (fun x => { tmps := #[.agg #[.int .i64 S.T, .int .i64 S.K, .int .i64 S.N], .pointer (some ⟨M, 0, none⟩), .pointer (some ⟨w.heap.size, 0, none⟩), .pointer (some ⟨w.heap.size + 1, 0, none⟩), undef, .int .i64 (S.K + x), .agg #[.int .i64 S.T, .int .i64 S.K, .int .i64 S.N], .bool true, .bool false, .pointer (some ⟨M, 0, none⟩), .pointer (some ⟨w.heap.size, 0, none⟩), .int .i64 S.T, .tuple #[], .agg #[.int .i64 S.T, .int .i64 S.K, .int .i64 S.N],
      .func (.func 171) #[] #[.pointer (some ⟨b, 0, none⟩), .pointer (some ⟨a, 0, none⟩)], .int .i64 x, .int .i64 (S.K + x), undef, undef, undef], defers := [] })
    ?_ ?_ ?_ ?_
  · exact fun X k => SI.out.keep k
  · exact fun pre X X' h k => h.keep k
  · exact fun pre X l y y' hl hy h => h.turn SB.out hl hy
  · exact fun cd pre X X' h k => h
  · exact fun cd pre X l y y' hl hy h => h
  · intro l X0 J Jx k0 z0 hl hJk hJb hY h0
    exact pins_in 5 (by decide) l a b S 0 (by omega) (by omega) (by omega) (by omega) (by omega) J Jx hJk (fun pre X h => (hJb pre X h).1.bx) hY X0 h0
  · intro l x X K hK
    gi_wp2
    exact hK
  · intro l pre x X hI hso hsz hbut
    obtain ⟨hso1, hso2, hso3⟩ := hso
    have HI := Lib.hid hI
    have hmb := hI.mb
    have hcn : (fillTo n S s pre.length).cnt ≤ 1000000 := by rw [fillTo_cnt]; have := hI.le; omega
    have hc0 : 0 ≤ (fillTo n S s pre.length).cnt := by rw [fillTo_cnt]; omega
    have hx : x = (pre.length : Int) := by rw [hso2, Int.zero_add]
    have HX := Lib.hid hx
    have LE := Lib.hid (show ((pre ++ [x]).length : Int) ≤ S.N by simp; omega)
    have ST : ∀ Y, Hid (PMem Y M B n (fillTo n S s pre.length) → Calls Try.prog 26 #[.pointer (some ⟨M, 0, none⟩), .int .i64 (S.K + x), .int .u64 0] Y fun e w' => e = .returned (.tuple #[]) ∧ PMem w' M B n (fillTo n S s (pre ++ [x]).length) ∧ But (fun k => k = B) Y w') := fun Y => Lib.hid (fun h => by
      have k := p_store M B n (fillTo n S s pre.length) (S.K + x) 0 Y h hc0 hcn
      rw [show (pre ++ [x]).length = pre.length + 1 from by simp]
      show Calls _ _ _ _ fun e w' => e = .returned (.tuple #[]) ∧ PMem w' M B n (acc n (fillTo n S s pre.length) 2 (S.K + (pre.length : Int)) true 0) ∧ But (fun k => k = B) Y w'
      rw [← hx]
      exact k)
    clear hI hso1 hso2 hso3 hcn hc0 hx
    gi_wp2_with (refine ⟨trivial, ?_⟩; gi_at_call 26; refine (CallsIn.inRound l (callsIn_wide.2 ((ST _).out HI.out.mem))).mono ?_; rintro e v ⟨rfl, m4, b4⟩)
    have hB := SB.out
    have h3 := hB.ha
    have h4 := hB.hb
    have h5 := hB.la
    have h6 := hB.lb
    have h7 := hB.hB
    refine ⟨⟨LE.out, m4, ⟨b4.some HI.out.bx.a0 (by omega), b4.some HI.out.bx.a1 (by omega), b4.some HI.out.bx.a2 (by omega), b4.some HI.out.bx.b0 (by omega)⟩, HI.out.but.trans b4 (fun _ _ h => h), b4.some HI.out.mb (by omega), Nat.le_trans HI.out.sz b4.size⟩, (Sk.Blk.of b4).mono (fun k _ h => .inl h)⟩
  · intro D xs X hN hI hbut hD hd
    obtain ⟨k, hx, hneg⟩ := hN
    have hk : xs.length = S.N.toNat := by
      have h1 := cs_length 0 k
      rw [← hx] at h1
      have h2 := hI.le
      omega
    have HI := Lib.hid hI
    have HK := Lib.hid hk
    have hDw : w.heap.size < D := by have := SB.out.hw; omega
    clear hI hx hneg hk hbut
    have bD : But (fun k => k = D) X (X.putObj D (.deferred none)) := Sk.but_turned (But.refl _ _) hd rfl rfl (.inl rfl)
    have hB := SB.out
    have h1 := hB.hM
    have h2 := hB.hB
    have hm : PMem (X.putObj D (.deferred none)) M B n (fillSt n S s) := by
      have h := pmem_frame HI.out.mem bD (by omega) (by omega)
      rw [HK.out] at h
      exact h
    have kk : But (fun k => k = B) w (X.putObj D (.deferred none)) := Sk.but_turned HI.out.but hd rfl rfl (.inr (by omega))
    go_wp2
    refine ⟨by simp, .inl ⟨_, _, rfl, run_takeDeferred hd, ?_⟩⟩
    exact ⟨.tuple #[], by simp [results, Try.results126, go_sem], rfl, hm, kk⟩
  · intro D cd xs X hI hbut hD hd
    exact hI.elim
end Go.Proofs.Ytejiogggocnldaa.Ep
