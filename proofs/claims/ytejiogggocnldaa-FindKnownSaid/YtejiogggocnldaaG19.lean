/- The chapter's tower: steps of a Find in words, finds. -/
import Derived.Test.YtejiogggocnldaaG14
import Derived.Test.YtejiogggocnldaaG15
import Derived.Test.YtejiogggocnldaaG18
import Derived.Test.YtejiogggocnldaaG00
import Derived.Test.YtejiogggocnldaaG17
set_option linter.unusedVariables false
set_option linter.unusedSimpArgs false

namespace Go.Proofs.Ytejiogggocnldaa.Fd
set_option maxRecDepth 20000
open Go.RowKit
open Wo (St acc wordAt PMem RefIs)
open Sk (Stk Arn idx Wd p_load p_cas p_store p_new pmem_lt pmem_kept pmem_frame acc_cnt kept_of)
open Tw (Twr TB towV atI nextI T0 sndT0 okT0 pmem_eq)

structure Mw (w0 : World) (M B : Nat) (l : List Int) (c : Nat) (w : World) : Prop where
  ex : ∃ s, PMem w M B 34 s ∧ s.ws = (fun i => l.getD i 0) ∧ 0 ≤ s.cnt ∧ s.cnt ≤ c
  kept : Kept w0 w
  lM : w0.heap.size ≤ M
  lB : w0.heap.size ≤ B
theorem Mw.grow {w0 w w' : World} {M B c : Nat} {l : List Int} (h : Mw w0 M B l c w) (k : Kept w w') : Mw w0 M B l c w' := by
  obtain ⟨s, m, h1, h2, h3⟩ := h.ex
  exact ⟨⟨s, pmem_kept m k, h1, h2, h3⟩, h.kept.trans k, h.lM, h.lB⟩
theorem Mw.lt {w0 w : World} {M B c : Nat} {l : List Int} (h : Mw w0 M B l c w) : M < w.heap.size ∧ B < w.heap.size := by
  obtain ⟨s, m, _⟩ := h.ex
  exact pmem_lt m
theorem Mw.up {w0 w : World} {M B c c' : Nat} {l : List Int} (h : Mw w0 M B l c w) (hc : c ≤ c') : Mw w0 M B l c' w := by
  obtain ⟨s, m, h1, h2, h3⟩ := h.ex
  exact ⟨⟨s, m, h1, h2, by omega⟩, h.kept, h.lM, h.lB⟩
def litW (l : List Int) : St := ⟨fun i => l.getD i 0, 0, 0, 0, 0, false, 0⟩
def litO (ps : List Pos) (r er : Int) : FOp := ⟨fun k => ps.getD k Pos.zero, r, er⟩
def posEq (a b : Pos) : Bool := a.p == b.p && a.k == b.k && a.c == b.c && a.v == b.v && a.x == b.x
theorem posEq_eq {a b : Pos} (h : posEq a b = true) : a = b := by
  unfold posEq at h
  simp only [Bool.and_eq_true, beq_iff_eq] at h
  cases a; cases b
  simp_all
def fineB (n : Nat) (t : Twr) (f : Nat → Pos) (l : Nat) : Bool :=
  ((f l).x == 0 || (f l).x == 1 || (f l).x == 2 || (f l).x == 3) && decide (0 ≤ (f l).c ∧ (f l).c < 18446744073709551616) && decide (0 ≤ (f l).v ∧ (f l).v < 18446744073709551616) && ((f l).x != 2 || decide (0 ≤ nextI t (f l).p l ∧ nextI t (f l).p l < n))
theorem fineB_fine {n : Nat} {t : Twr} {f : Nat → Pos} {l : Nat} (h : fineB n t f l = true) : Fine n t f l := by
  unfold fineB at h
  simp only [Bool.and_eq_true, Bool.or_eq_true, beq_iff_eq, bne_iff_ne, decide_eq_true_eq] at h
  obtain ⟨⟨⟨h1, h2⟩, h3⟩, h4⟩ := h
  exact ⟨by omega, h2.1, h2.2, h3.1, h3.2, fun e => by rcases h4 with h4 | h4; exact absurd e h4; exact h4⟩
def okStep (key : Int) (l : List Int) (o : FOp) (l' : List Int) (o' : FOp) (b : Bool) : Bool :=
  ((List.range 34).map (fSt 34 T0 2 (litW l) o).ws == l') && (List.range 4).all (fun k => posEq ((fOp 34 T0 key 2 (litW l) o).pos k) (o'.pos k)) && (fOp 34 T0 key 2 (litW l) o).r == o'.r && (fOp 34 T0 key 2 (litW l) o).er == o'.er && fEnd 34 T0 key 2 (litW l) o == b &&
    l.all (fun x => decide (0 ≤ x ∧ x < 18446744073709551616)) && (match lvl o.pos 2 with | none => true | some k => fineB 34 T0 o.pos k)
theorem ansI_ws {n : Nat} {s s' : St} (h : s.ws = s'.ws) (a : Ask) : ansI n s a = ansI n s' a := by unfold ansI wordAt; rw [h]
theorem fOp_ws {n : Nat} {t : Twr} {key : Int} {g : Nat} {s s' : St} (h : s.ws = s'.ws) (o : FOp) : fOp n t key g s o = fOp n t key g s' o := by
  unfold fOp
  split
  · rfl
  · rw [ansI_ws h]
theorem fEnd_ws {n : Nat} {t : Twr} {key : Int} {g : Nat} {s s' : St} (h : s.ws = s'.ws) (o : FOp) : fEnd n t key g s o = fEnd n t key g s' o := by unfold fEnd; rw [fOp_ws h]
theorem acc_ws2 {n : Nat} {s s' : St} (h : s.ws = s'.ws) (k a : Int) (b : Bool) (v : Int) : (acc n s k a b v).ws = (acc n s' k a b v).ws := by
  unfold acc
  split
  · split
    · rw [h]
    · exact h
  · exact h
theorem accS_ws {n : Nat} {s s' : St} (h : s.ws = s'.ws) (a : Ask) : (accS n s a).ws = (accS n s' a).ws := by
  have e : wordAt n s a.at_ = wordAt n s' a.at_ := by unfold wordAt; rw [h]
  unfold accS
  split
  · exact acc_ws2 h ..
  · rw [e]; exact acc_ws2 h ..
theorem fSt_ws {n : Nat} {t : Twr} {g : Nat} {s s' : St} (h : s.ws = s'.ws) (o : FOp) : (fSt n t g s o).ws = (fSt n t g s' o).ws := by
  unfold fSt
  split
  · exact h
  · exact accS_ws h _
theorem fSt_cnt (n : Nat) (t : Twr) (g : Nat) (s : St) (o : FOp) : s.cnt ≤ (fSt n t g s o).cnt ∧ (fSt n t g s o).cnt ≤ s.cnt + 1 := by
  unfold fSt
  split
  · omega
  · unfold accS
    split <;> rw [acc_cnt] <;> omega
theorem hG : ((2 : Nat) : Int) = T0.G := rfl
theorem kstep {key : Int} {l l' : List Int} {o o' : FOp} {b : Bool} (h : okStep key l o l' o' b = true) {w0 w : World} {M B F c : Nat} (m : Mw w0 M B l c w) (hc : c ≤ 1000000) (f : FdAt w F T0 key o) (hF : w0.heap.size ≤ F) (hM : F ≠ M) (hB : F ≠ B) :
    Calls Try.prog 13 #[.pointer (some ⟨F, 0, none⟩), .pointer (some ⟨M, 0, none⟩)] w fun e w' => e = .returned (.bool b) ∧ Mw w0 M B l' (c + 1) w' ∧ FdAt w' F T0 key o' ∧ But (fun j => j = F ∨ j = B) w w' := by
  unfold okStep at h
  simp only [Bool.and_eq_true, beq_iff_eq, List.all_eq_true, decide_eq_true_eq, List.mem_range] at h
  obtain ⟨⟨⟨⟨⟨⟨h1, h2⟩, h3⟩, h4⟩, h5⟩, h6⟩, h7⟩ := h
  obtain ⟨s, hm, hs, c0, c1⟩ := m.ex
  have hs2 : s.ws = (litW l).ws := hs
  have hwd : Wd 34 s := by
    have key2 : ∀ i, 0 ≤ s.ws i ∧ s.ws i < 18446744073709551616 := by
      intro i
      rw [hs]
      by_cases hi : i < l.length
      · have := h6 l[i] (List.getElem_mem hi)
        simpa [hi] using this
      · have : l.getD i 0 = 0 := by simp [Nat.le_of_not_lt hi]
        dsimp only
        rw [this]; omega
    exact ⟨fun i => (key2 i).1, fun i => (key2 i).2⟩
  refine (fstep_pm M B 34 F T0 key 2 hG (by decide) s o w hm c0 (by omega) hwd f hM hB (fun k hk => by rw [hk] at h7; exact fineB_fine h7)).mono ?_
  rintro e w' ⟨a, x, y, z⟩
  have hcc := fSt_cnt 34 T0 2 s o
  rw [fOp_ws hs2] at x
  rw [fEnd_ws hs2, h5] at a
  refine ⟨a, ⟨⟨⟨fun i => l'.getD i 0, (fSt 34 T0 2 s o).kind, (fSt 34 T0 2 s o).at_, (fSt 34 T0 2 s o).old, (fSt 34 T0 2 s o).new, (fSt 34 T0 2 s o).held, (fSt 34 T0 2 s o).cnt⟩, ?_, rfl, ?_, ?_⟩, ?_, m.lM, m.lB⟩, x.like (fun k hk => (posEq_eq (h2 k hk)).symm) h3.symm h4.symm, z⟩
  · refine pmem_eq y (fun i hi => ?_) rfl rfl rfl rfl rfl rfl
    rw [fSt_ws hs2]
    exact Tw.listAt h1 i hi
  · show 0 ≤ (fSt 34 T0 2 s o).cnt; omega
  · show (fSt 34 T0 2 s o).cnt ≤ ((c + 1 : Nat) : Int); omega
  · exact ((m.kept.but _).trans z (fun _ _ h => h)).kept (fun i hi e => by have := m.lB; rcases e with e | e <;> omega)
set_option maxHeartbeats 1000000 in
theorem chapter16_any (w : World) : Calls Try.prog 25 #[] w fun e w' => e = .returned (towV T0) ∧ Kept w w' := by
  go_enter Try.func25, Try.ntmps25
  go_wp2
  refine bodyPost_ret (v := .agg #[.int .i64 16, .int .i64 14, .int .i64 2, .int .i64 0, .int .i64 1, .int .i64 3, .int .i64 4, .int .i64 7, .int .i64 9, .int .i64 8, .int .i64 9, .int .i64 2, .int .i64 11]) (by simp [results, Try.results25, go_sem]) rfl ⟨rfl, ?_⟩
  (go_light; repeat (first | (with_reducible exact Kept.refl _) | (with_reducible assumption) | (with_reducible refine Kept.alloc ?_ _ _) | (with_reducible refine Kept.drew ?_) | (with_reducible refine Kept.drewN ?_ _) | ((with_reducible refine Kept.setCell ?_ ?_ _); rotate_left; focus (first | (simp; done) | (simp; omega))) | refine Kept.trans ?_ (by assumption)))
theorem new16 (key : Int) (w : World) : Calls Try.prog 19 #[towV T0, .int .u64 key] w fun e w' => ∃ F, e = .returned (.pointer (some ⟨F, 0, none⟩)) ∧ w.heap.size ≤ F ∧ F < w'.heap.size ∧ FdAt w' F T0 key ⟨fun _ => Pos.zero, 0, 14⟩ ∧ Kept w w' := by
  refine (fnew_any T0 key w).mono ?_
  rintro e w' ⟨F, a, b, c, d, k⟩
  rw [if_pos sndT0, if_pos sndT0] at d
  unfold newF at d
  rw [if_pos sndT0] at d
  exact ⟨F, a, b, c, d, k⟩
theorem reads_own {w : World} {base : Nat} {a : Option Addr} {n c : Nat} {l : List Int} (own : w.ownsRow base 3 1 (.slice a n c) n (cellsI l)) (hl : l.length = n) : Reads w a n (fun i => l.getD i 0) := by
  rcases own_lies own with ⟨e1, e2, _⟩ | ⟨g, o, c', e1, _, _, hc⟩
  · exact .inl e2
  · injection e1 with e1 _ _
    refine .inr ⟨g, o, e1, fun i hi => hc i _ ?_⟩
    unfold cellsI
    rw [List.getElem?_map, List.getElem?_eq_getElem (by omega)]
    simp [show i < l.length by omega]
theorem words_own {w : World} {base : Nat} {a : Option Addr} {n c : Nat} {l : List Int} (own : w.ownsRow base 52 1 (.slice a n c) n (cellsW l)) (hl : l.length = n) (h1 : 1 ≤ n) : ∃ g o, a = some ⟨g, o, none⟩ ∧ ∀ i, i < n → w.cell? ⟨g, o + i, none⟩ = some (.int .u64 (l.getD i 0)) := by
  rcases own_lies own with ⟨e1, e2, _⟩ | ⟨g, o, c', e1, _, _, hc⟩
  · omega
  · injection e1 with e1 _ _
    refine ⟨g, o, e1, fun i hi => hc i _ ?_⟩
    unfold cellsW
    rw [List.getElem?_map, List.getElem?_eq_getElem (by omega)]
    simp [show i < l.length by omega]
structure Two (w : World) (P S : Nat) (p q x y : Int) : Prop where
  p0 : w.cell? ⟨P, 0, none⟩ = some (.int .i64 p)
  p1 : w.cell? ⟨P, 1, none⟩ = some (.int .i64 q)
  s0 : w.cell? ⟨S, 0, none⟩ = some (.int .u64 x)
  s1 : w.cell? ⟨S, 1, none⟩ = some (.int .u64 y)
theorem Two.but {w w' : World} {P S : Nat} {p q x y : Int} (h : Two w P S p q x y) {T : Nat → Prop} (k : But T w w') (hP : ¬ T P) (hS : ¬ T S) : Two w' P S p q x y := ⟨k.some h.p0 hP, k.some h.p1 hP, k.some h.s0 hS, k.some h.s1 hS⟩
theorem Two.kept {w w' : World} {P S : Nat} {p q x y : Int} (h : Two w P S p q x y) (k : Kept w w') : Two w' P S p q x y := h.but (k.but (fun _ => False)) id id
theorem same_preds {w : World} {base P S c : Nat} {a : Option Addr} {f : Nat → Pos} {x y : Int} (own : w.ownsRow base 3 1 (.slice a 2 c) 2 (cellsI (posL f (fun q => q.p) 2))) (h : Two w P S (f 0).p (f 1).p x y) : Calls Try.prog 10 #[.slice a 2 c, .slice (some ⟨P, 0, none⟩) 2 2] w fun e w' => e = .returned (.bool true) ∧ Kept w w' := by
  have hr := reads_own own (posL_len _ _ _)
  refine (sameInts_yes a (some ⟨P, 0, none⟩) 2 c 2 _ w (by decide) hr (.inr ⟨P, 0, rfl, fun i hi => ?_⟩))
  have : i = 0 ∨ i = 1 := by omega
  rcases this with rfl | rfl
  · exact h.p0
  · exact h.p1
theorem same_succs {w : World} {base P S c : Nat} {a : Option Addr} {f : Nat → Pos} {p q : Int} (own : w.ownsRow base 52 1 (.slice a 2 c) 2 (cellsW (posL f (fun q => q.c) 2))) (h : Two w P S p q (f 0).c (f 1).c) : Calls Try.prog 23 #[.slice a 2 c, .slice (some ⟨S, 0, none⟩) 2 2] w fun e w' => e = .returned (.bool true) ∧ Kept w w' := by
  obtain ⟨g, o, rfl, hc⟩ := words_own own (posL_len _ _ _) (by decide)
  refine (Wo.sameWords_yes g o c S 0 2 2 _ w (by decide) hc (fun i hi => ?_)).mono fun _ _ ⟨x, k⟩ => ⟨x, kept_of k⟩
  have : i = 0 ∨ i = 1 := by omega
  rcases this with rfl | rfl
  · exact h.s0
  · exact h.s1
end Go.Proofs.Ytejiogggocnldaa.Fd

namespace Go.Proofs.Ytejiogggocnldaa.Fd
set_option maxRecDepth 20000
open Go.RowKit
open Wo (St acc wordAt PMem RefIs)
open Sk (Stk Arn idx Wd p_load p_cas p_store p_new pmem_lt pmem_kept pmem_frame kept_of acc_cnt)
open Tw (Twr TB towV atI nextI T0 sndT0 okT0 pmem_eq pmem_lit litS p_tfill worF cntF eqn In)

def k9T : Nat → FOp
  | 0 => litO [⟨0, 0, 0, 0, 0⟩, ⟨0, 0, 0, 0, 0⟩] 0 14
  | 1 => litO [⟨0, 0, 0, 0, 0⟩, ⟨(-1), 0, 65537, 0, 1⟩] 0 14
  | 2 => litO [⟨0, 0, 0, 0, 0⟩, ⟨(-1), 0, 65537, 0, 3⟩] 65537 14
  | 3 => litO [⟨0, 0, 0, 0, 0⟩, ⟨(-1), 0, 65537, 0, 4⟩] 65537 14
  | 4 => litO [⟨(-1), 0, 65538, 0, 1⟩, ⟨(-1), 0, 65537, 0, 4⟩] 0 14
  | 5 => litO [⟨(-1), 0, 65538, 65537, 3⟩, ⟨(-1), 0, 65537, 0, 4⟩] 65538 14
  | 6 => litO [⟨1, 65538, 65537, 65537, 1⟩, ⟨(-1), 0, 65537, 0, 4⟩] 65538 14
  | 7 => litO [⟨1, 65538, 65537, 65539, 3⟩, ⟨(-1), 0, 65537, 0, 4⟩] 65537 14
  | _ => litO [⟨1, 65538, 65537, 65539, 4⟩, ⟨(-1), 0, 65537, 0, 4⟩] 65537 0
def k9W : Nat → List Int
  | 0 => [1, 2, 3, 0, 1, 1, 1, 0, 0, 0, 0, 0, 0, 0, 65538, 65537, 9, 0, 0, 0, 65539, 0, 4, 0, 0, 0, 65537, 0, 12, 0, 0, 0, 0, 0]
  | 1 => [1, 2, 3, 0, 1, 1, 1, 0, 0, 0, 0, 0, 0, 0, 65538, 65537, 9, 0, 0, 0, 65539, 0, 4, 0, 0, 0, 65537, 0, 12, 0, 0, 0, 0, 0]
  | 2 => [1, 2, 3, 0, 1, 1, 1, 0, 0, 0, 0, 0, 0, 0, 65538, 65537, 9, 0, 0, 0, 65539, 0, 4, 0, 0, 0, 65537, 0, 12, 0, 0, 0, 0, 0]
  | 3 => [1, 2, 3, 0, 1, 1, 1, 0, 0, 0, 0, 0, 0, 0, 65538, 65537, 9, 0, 0, 0, 65539, 0, 4, 0, 0, 0, 65537, 0, 12, 0, 0, 0, 0, 0]
  | 4 => [1, 2, 3, 0, 1, 1, 1, 0, 0, 0, 0, 0, 0, 0, 65538, 65537, 9, 0, 0, 0, 65539, 0, 4, 0, 0, 0, 65537, 0, 12, 0, 0, 0, 0, 0]
  | 5 => [1, 2, 3, 0, 1, 1, 1, 0, 0, 0, 0, 0, 0, 0, 65538, 65537, 9, 0, 0, 0, 65539, 0, 4, 0, 0, 0, 65537, 0, 12, 0, 0, 0, 0, 0]
  | 6 => [1, 2, 3, 0, 1, 1, 1, 0, 0, 0, 0, 0, 0, 0, 65538, 65537, 9, 0, 0, 0, 65539, 0, 4, 0, 0, 0, 65537, 0, 12, 0, 0, 0, 0, 0]
  | 7 => [1, 2, 3, 0, 1, 1, 1, 0, 0, 0, 0, 0, 0, 0, 65538, 65537, 9, 0, 0, 0, 65539, 0, 4, 0, 0, 0, 65537, 0, 12, 0, 0, 0, 0, 0]
  | _ => [1, 2, 3, 0, 1, 1, 1, 0, 0, 0, 0, 0, 0, 0, 65538, 65537, 9, 0, 0, 0, 65539, 0, 4, 0, 0, 0, 65537, 0, 12, 0, 0, 0, 0, 0]
def k10T : Nat → FOp
  | 0 => litO [⟨0, 0, 0, 0, 0⟩, ⟨0, 0, 0, 0, 0⟩] 0 14
  | 1 => litO [⟨0, 0, 0, 0, 0⟩, ⟨(-1), 0, 65537, 0, 1⟩] 0 14
  | 2 => litO [⟨0, 0, 0, 0, 0⟩, ⟨(-1), 0, 65537, 0, 3⟩] 65537 14
  | 3 => litO [⟨0, 0, 0, 0, 0⟩, ⟨0, 65537, 0, 0, 4⟩] 65537 14
  | 4 => litO [⟨0, 65537, 65539, 0, 1⟩, ⟨0, 65537, 0, 0, 4⟩] 65537 14
  | 5 => litO [⟨0, 65537, 65539, 0, 3⟩, ⟨0, 65537, 0, 0, 4⟩] 65539 14
  | _ => litO [⟨0, 65537, 65539, 0, 4⟩, ⟨0, 65537, 0, 0, 4⟩] 65539 0
def k10W : Nat → List Int
  | 0 => [1, 2, 3, 0, 1, 1, 1, 0, 0, 0, 0, 0, 0, 0, 65538, 65537, 9, 0, 0, 0, 65539, 0, 4, 0, 0, 0, 65537, 0, 12, 0, 0, 0, 0, 0]
  | 1 => [1, 2, 3, 0, 1, 1, 1, 0, 0, 0, 0, 0, 0, 0, 65538, 65537, 9, 0, 0, 0, 65539, 0, 4, 0, 0, 0, 65537, 0, 12, 0, 0, 0, 0, 0]
  | 2 => [1, 2, 3, 0, 1, 1, 1, 0, 0, 0, 0, 0, 0, 0, 65538, 65537, 9, 0, 0, 0, 65539, 0, 4, 0, 0, 0, 65537, 0, 12, 0, 0, 0, 0, 0]
  | 3 => [1, 2, 3, 0, 1, 1, 1, 0, 0, 0, 0, 0, 0, 0, 65538, 65537, 9, 0, 0, 0, 65539, 0, 4, 0, 0, 0, 65537, 0, 12, 0, 0, 0, 0, 0]
  | 4 => [1, 2, 3, 0, 1, 1, 1, 0, 0, 0, 0, 0, 0, 0, 65538, 65537, 9, 0, 0, 0, 65539, 0, 4, 0, 0, 0, 65537, 0, 12, 0, 0, 0, 0, 0]
  | 5 => [1, 2, 3, 0, 1, 1, 1, 0, 0, 0, 0, 0, 0, 0, 65538, 65537, 9, 0, 0, 0, 65539, 0, 4, 0, 0, 0, 65537, 0, 12, 0, 0, 0, 0, 0]
  | _ => [1, 2, 3, 0, 1, 1, 1, 0, 0, 0, 0, 0, 0, 0, 65538, 65537, 9, 0, 0, 0, 65539, 0, 4, 0, 0, 0, 65537, 0, 12, 0, 0, 0, 0, 0]
def k5T : Nat → FOp
  | 0 => litO [⟨0, 0, 0, 0, 0⟩, ⟨0, 0, 0, 0, 0⟩] 0 14
  | 1 => litO [⟨0, 0, 0, 0, 0⟩, ⟨(-1), 0, 65537, 0, 1⟩] 0 14
  | 2 => litO [⟨0, 0, 0, 0, 0⟩, ⟨(-1), 0, 65537, 9223372036854775808, 2⟩] 65537 14
  | 3 => litO [⟨0, 0, 0, 0, 0⟩, ⟨(-1), 0, 0, 9223372036854775808, 4⟩] 0 14
  | 4 => litO [⟨(-1), 0, 65538, 9223372036854775808, 1⟩, ⟨(-1), 0, 0, 9223372036854775808, 4⟩] 0 14
  | 5 => litO [⟨(-1), 0, 65538, 65537, 3⟩, ⟨(-1), 0, 0, 9223372036854775808, 4⟩] 65538 14
  | 6 => litO [⟨1, 65538, 65537, 65537, 1⟩, ⟨(-1), 0, 0, 9223372036854775808, 4⟩] 65538 14
  | 7 => litO [⟨1, 65538, 65537, 9223372036854841347, 2⟩, ⟨(-1), 0, 0, 9223372036854775808, 4⟩] 65537 14
  | 8 => litO [⟨1, 65538, 65539, 9223372036854841347, 1⟩, ⟨(-1), 0, 0, 9223372036854775808, 4⟩] 65538 14
  | 9 => litO [⟨1, 65538, 65539, 0, 3⟩, ⟨(-1), 0, 0, 9223372036854775808, 4⟩] 65539 14
  | _ => litO [⟨1, 65538, 65539, 0, 4⟩, ⟨(-1), 0, 0, 9223372036854775808, 4⟩] 65539 0
def k5W : Nat → List Int
  | 0 => [1, 2, 3, 0, 1, 1, 1, 0, 0, 0, 0, 0, 0, 0, 65538, 65537, 9, 0, 0, 0, 9223372036854841347, 9223372036854775808, 4, 0, 0, 0, 65537, 0, 12, 0, 0, 0, 0, 0]
  | 1 => [1, 2, 3, 0, 1, 1, 1, 0, 0, 0, 0, 0, 0, 0, 65538, 65537, 9, 0, 0, 0, 9223372036854841347, 9223372036854775808, 4, 0, 0, 0, 65537, 0, 12, 0, 0, 0, 0, 0]
  | 2 => [1, 2, 3, 0, 1, 1, 1, 0, 0, 0, 0, 0, 0, 0, 65538, 65537, 9, 0, 0, 0, 9223372036854841347, 9223372036854775808, 4, 0, 0, 0, 65537, 0, 12, 0, 0, 0, 0, 0]
  | 3 => [1, 2, 3, 0, 1, 1, 1, 0, 0, 0, 0, 0, 0, 0, 65538, 0, 9, 0, 0, 0, 9223372036854841347, 9223372036854775808, 4, 0, 0, 0, 65537, 0, 12, 0, 0, 0, 0, 0]
  | 4 => [1, 2, 3, 0, 1, 1, 1, 0, 0, 0, 0, 0, 0, 0, 65538, 0, 9, 0, 0, 0, 9223372036854841347, 9223372036854775808, 4, 0, 0, 0, 65537, 0, 12, 0, 0, 0, 0, 0]
  | 5 => [1, 2, 3, 0, 1, 1, 1, 0, 0, 0, 0, 0, 0, 0, 65538, 0, 9, 0, 0, 0, 9223372036854841347, 9223372036854775808, 4, 0, 0, 0, 65537, 0, 12, 0, 0, 0, 0, 0]
  | 6 => [1, 2, 3, 0, 1, 1, 1, 0, 0, 0, 0, 0, 0, 0, 65538, 0, 9, 0, 0, 0, 9223372036854841347, 9223372036854775808, 4, 0, 0, 0, 65537, 0, 12, 0, 0, 0, 0, 0]
  | 7 => [1, 2, 3, 0, 1, 1, 1, 0, 0, 0, 0, 0, 0, 0, 65538, 0, 9, 0, 0, 0, 9223372036854841347, 9223372036854775808, 4, 0, 0, 0, 65537, 0, 12, 0, 0, 0, 0, 0]
  | 8 => [1, 2, 3, 0, 1, 1, 1, 0, 0, 0, 0, 0, 0, 0, 65538, 0, 9, 0, 0, 0, 9223372036854841347, 9223372036854775808, 4, 0, 0, 0, 65539, 0, 12, 0, 0, 0, 0, 0]
  | 9 => [1, 2, 3, 0, 1, 1, 1, 0, 0, 0, 0, 0, 0, 0, 65538, 0, 9, 0, 0, 0, 9223372036854841347, 9223372036854775808, 4, 0, 0, 0, 65539, 0, 12, 0, 0, 0, 0, 0]
  | _ => [1, 2, 3, 0, 1, 1, 1, 0, 0, 0, 0, 0, 0, 0, 65538, 0, 9, 0, 0, 0, 9223372036854841347, 9223372036854775808, 4, 0, 0, 0, 65539, 0, 12, 0, 0, 0, 0, 0]

theorem ok9 : ∀ j, j < 8 → okStep 9 (k9W j) (k9T j) (k9W (j + 1)) (k9T (j + 1)) (decide (j + 1 = 8)) = true := by
  have : ∀ j : Fin 8, okStep 9 (k9W j.val) (k9T j.val) (k9W (j.val + 1)) (k9T (j.val + 1)) (decide (j.val + 1 = 8)) = true := by decide +kernel
  exact fun j hj => this ⟨j, hj⟩
theorem ok10 : ∀ j, j < 6 → okStep 10 (k10W j) (k10T j) (k10W (j + 1)) (k10T (j + 1)) (decide (j + 1 = 6)) = true := by
  have : ∀ j : Fin 6, okStep 10 (k10W j.val) (k10T j.val) (k10W (j.val + 1)) (k10T (j.val + 1)) (decide (j.val + 1 = 6)) = true := by decide +kernel
  exact fun j hj => this ⟨j, hj⟩
theorem ok5 : ∀ j, j < 10 → okStep 5 (k5W j) (k5T j) (k5W (j + 1)) (k5T (j + 1)) (decide (j + 1 = 10)) = true := by
  have : ∀ j : Fin 10, okStep 5 (k5W j.val) (k5T j.val) (k5W (j.val + 1)) (k5T (j.val + 1)) (decide (j.val + 1 = 10)) = true := by decide +kernel
  exact fun j hj => this ⟨j, hj⟩
def NRel (w0 w1 : World) (M B F : Nat) (key : Int) (k c : Nat) (tr : Nat → FOp) (lw : Nat → List Int) (x : Value) (wr : World) : Prop :=
  ∃ j : Nat, j < k ∧ x = .int .i64 ((j + 1 : Nat) : Int) ∧ FdAt wr F T0 key (tr j) ∧ Mw w0 M B (lw j) (c + j) wr ∧ But (fun i => i = F ∨ i = B) w1 wr
set_option maxHeartbeats 4000000 in
theorem finds_any (w0 : World) (M B c : Nat) (key : Int) (k : Nat) (hk : 1 ≤ k) (hk2 : k ≤ 1000) (hc : c ≤ 900000) (tr : Nat → FOp) (lw : Nat → List Int) (h0 : (∀ i, i < 4 → (tr 0).pos i = Pos.zero) ∧ (tr 0).r = 0 ∧ (tr 0).er = 14) (he : ∀ j, j < k → (tr j).er = 14) (hz : (tr k).er = 0)
    (hs : ∀ j, j < k → okStep key (lw j) (tr j) (lw (j + 1)) (tr (j + 1)) (decide (j + 1 = k)) = true) (P S : Nat) (w : World) (m : Mw w0 M B (lw 0) c w) (t2 : Two w P S ((tr k).pos 0).p ((tr k).pos 1).p ((tr k).pos 0).c ((tr k).pos 1).c) (hP : P ≠ B) (hS : S ≠ B) :
    Calls Try.prog 27 #[.pointer (some ⟨M, 0, none⟩), .int .u64 key, .int .i64 (k : Nat), .slice (some ⟨P, 0, none⟩) 2 2, .slice (some ⟨S, 0, none⟩) 2 2] w fun e w' => e = .returned (.bool true) ∧ Mw w0 M B (lw k) (c + k) w' := by
  have H0 := Lib.hid h0
  have HE := Lib.hid he
  have HZ := Lib.hid hz
  have HS := Lib.hid hs
  have M0 := Lib.hid m
  have T2 := Lib.hid t2
  have lP := lt_of_cell t2.p0
  have lS := lt_of_cell t2.s0
  have lm := m.lt
  have k1 : (1 : Int) ≤ (k : Int) := by omega
  clear h0 he hz hs m t2
  go_enter Try.func27, Try.ntmps27
  go_wp2_with fail
  refine (chapter16_any _).mono ?_
  rintro e w1 ⟨rfl, k1'⟩
  have M1 := Lib.hid (M0.out.grow k1')
  have TT := Lib.hid (T2.out.kept k1')
  have z1 := k1'.size
  clear k1' M0 T2
  go_wp2_with fail
  refine (new16 key _).mono ?_
  rintro e w2 ⟨F, rfl, f1, f2, fd, k2⟩
  have M2 := Lib.hid (M1.out.grow k2)
  have TT := Lib.hid (TT.out.kept k2)
  have F2 : Hid (FdAt w2 F T0 key (tr 0)) := Lib.hid (fd.like H0.out.1 H0.out.2.1 H0.out.2.2)
  have hFP : P ≠ F := by omega
  have hFS : S ≠ F := by omega
  have hFM : F ≠ M := by omega
  have hFB : F ≠ B := by omega
  have hF0 : w0.heap.size ≤ F := by have := M1.out.kept.size; omega
  clear fd k2 M1
  go_wp2_with fail
  go_loopw [12] (NRel w0 w2 M B F key k c tr lw) (fun x _ => k + 1 - (intOf x).toNat)
  case atStart => exact ⟨0, by omega, rfl, F2.out, M2.out, But.refl _ _⟩
  case round =>
    obtain ⟨j, hj, rfl, fj, mj, bj⟩ := hrel
    have BJ := Lib.hid bj
    have FJ := Lib.hid fj
    have MJ := Lib.hid mj
    have EJ := HE.out j hj
    by_cases hl : j + 1 < k
    · have hd : decide (j + 1 = k) = false := decide_eq_false (by omega)
      have ST := Lib.hid (kstep (HS.out j hj) mj (by omega) fj hF0 hFM hFB)
      rw [hd] at ST
      have hlt : ((j + 1 : Nat) : Int) < (k : Int) := by omega
      have EN := HE.out (j + 1) hl
      have ER := fun W (f : FdAt W F T0 key (tr (j + 1))) => Lib.hid (show Calls Try.prog 14 #[.pointer (some ⟨F, 0, none⟩)] W fun e w' => e = .returned (.int .i64 14) ∧ W = w' from by have := ferr_made F _ W f.md f.er; rwa [EN] at this)
      clear fj mj bj hd
      go_wp2_with fail
      refine ST.out.mono ?_
      rintro e w3 ⟨rfl, m3, f3, b3⟩
      have M3 := Lib.hid m3
      have F3 := Lib.hid f3
      have B3 := Lib.hid (BJ.out.trans b3 (fun _ _ h => h))
      clear m3 f3 b3
      go_wp2_with fail
      refine (ER _ F3.out).out.mono ?_
      rintro e _ ⟨rfl, rfl⟩
      go_wp2
      exact ⟨⟨j + 1, hl, by go_num, F3.out, M3.out, B3.out⟩, by simp [intOf]; omega⟩
    · have hjk : j + 1 = k := by omega
      have hd : decide (j + 1 = k) = true := decide_eq_true hjk
      have ST := Lib.hid (kstep (HS.out j hj) mj (by omega) fj hF0 hFM hFB)
      rw [hd] at ST
      have hlt : (k : Int) ≤ ((j + 1 : Nat) : Int) := by omega
      subst hjk
      have ER := fun W (f : FdAt W F T0 key (tr (j + 1))) => Lib.hid (show Calls Try.prog 14 #[.pointer (some ⟨F, 0, none⟩)] W fun e w' => e = .returned (.int .i64 0) ∧ W = w' from by have := ferr_made F _ W f.md f.er; rwa [HZ.out] at this)
      clear fj mj bj hd
      go_wp2_with fail
      refine ST.out.mono ?_
      rintro e w3 ⟨rfl, m3, f3, b3⟩
      have M3 := Lib.hid m3
      have F3 := Lib.hid f3
      have T3 := Lib.hid (TT.out.but (BJ.out.trans b3 (fun _ _ h => h)) (by omega) (by omega))
      clear m3 f3 b3
      go_wp2_with fail
      refine (ER _ F3.out).out.mono ?_
      rintro e _ ⟨rfl, rfl⟩
      go_wp2_with fail
      refine (preds_ok F T0 key _ 2 hG (by decide) _ F3.out HZ.out).mono ?_
      rintro e w4 ⟨a4, c4, rfl, k4, own4⟩
      rw [posL_len] at own4 ⊢
      have O4 := Lib.hid own4
      have M4 := Lib.hid (M3.out.grow k4)
      have F4 := Lib.hid (F3.out.kept k4)
      have T4 := Lib.hid (T3.out.kept k4)
      clear own4 k4
      go_wp2_with fail
      refine (same_preds O4.out T4.out).mono ?_
      rintro e w5 ⟨rfl, k5⟩
      have M5 := Lib.hid (M4.out.grow k5)
      have F5 := Lib.hid (F4.out.kept k5)
      have T5 := Lib.hid (T4.out.kept k5)
      clear k5
      go_wp2_with fail
      refine (succs_ok F T0 key _ 2 hG (by decide) _ F5.out HZ.out).mono ?_
      rintro e w6 ⟨a6, c6, rfl, k6, own6⟩
      rw [posL_len] at own6 ⊢
      have O6 := Lib.hid own6
      have M6 := Lib.hid (M5.out.grow k6)
      have T6 := Lib.hid (T5.out.kept k6)
      clear own6 k6
      go_wp2_with fail
      refine (same_succs O6.out T6.out).mono ?_
      rintro e w7 ⟨rfl, k7⟩
      have M7 := Lib.hid (M6.out.grow k7)
      clear k7
      go_wp2
      go_ret
      exact ⟨rfl, by rw [← Nat.add_assoc]; exact M7.out⟩
end Go.Proofs.Ytejiogggocnldaa.Fd

namespace Go.Proofs.Ytejiogggocnldaa.Fd
set_option maxRecDepth 20000
open Go.RowKit
open Wo (St acc wordAt PMem RefIs)
open Sk (Stk Arn idx Wd p_load p_cas p_store p_new pmem_lt pmem_kept pmem_frame kept_of acc_cnt)
open Tw (Twr TB towV atI nextI T0 sndT0 okT0 pmem_eq pmem_lit litS p_tfill worF cntF eqn In)

theorem z9 : (∀ i, i < 4 → (k9T 0).pos i = Pos.zero) ∧ (k9T 0).r = 0 ∧ (k9T 0).er = 14 := ⟨k4 rfl rfl rfl rfl, rfl, rfl⟩
theorem e9 : ∀ j, j < 8 → (k9T j).er = 14 := by
  have : ∀ j : Fin 8, (k9T j.val).er = 14 := by decide
  exact fun j hj => this ⟨j, hj⟩
theorem z10 : (∀ i, i < 4 → (k10T 0).pos i = Pos.zero) ∧ (k10T 0).r = 0 ∧ (k10T 0).er = 14 := ⟨k4 rfl rfl rfl rfl, rfl, rfl⟩
theorem e10 : ∀ j, j < 6 → (k10T j).er = 14 := by
  have : ∀ j : Fin 6, (k10T j.val).er = 14 := by decide
  exact fun j hj => this ⟨j, hj⟩
theorem z5 : (∀ i, i < 4 → (k5T 0).pos i = Pos.zero) ∧ (k5T 0).r = 0 ∧ (k5T 0).er = 14 := ⟨k4 rfl rfl rfl rfl, rfl, rfl⟩
theorem e5 : ∀ j, j < 10 → (k5T j).er = 14 := by
  have : ∀ j : Fin 10, (k5T j.val).er = 14 := by decide
  exact fun j hj => this ⟨j, hj⟩
theorem neqn (M : Nat) (W : World) : (binOp .neq 32 (.pointer (some ⟨M, 0, none⟩)) (.pointer none)).run Try.prog W = .ok (.bool true) W := by kernel_rfl
theorem mstore {w0 w : World} {M B c : Nat} {l : List Int} (m : Mw w0 M B l c w) (hc : c ≤ 1000000) (ai : Int) (a : Nat) (hai : ai = a) (v : Int) (ha : a < 34) (hl : l.length = 34) :
    Calls Try.prog 26 #[.pointer (some ⟨M, 0, none⟩), .int .i64 ai, .int .u64 v] w fun e w' => e = .returned (.tuple #[]) ∧ Mw w0 M B (l.set a v) (c + 1) w' ∧ But (fun j => j = B) w w' := by
  obtain ⟨s, hm, hs, c0, c1⟩ := m.ex
  refine (p_store M B 34 s ai v w hm c0 (by omega)).mono ?_
  rintro e w' ⟨x, y, z⟩
  refine ⟨x, ⟨⟨_, y, ?_, ?_, ?_⟩, ((m.kept.but _).trans z (fun _ _ h => h)).kept (fun i hi e => by have := m.lB; have e : i = B := e; omega), m.lM, m.lB⟩, z⟩
  · funext i
    subst hai
    unfold acc
    rw [if_pos ⟨by omega, by omega⟩, if_pos rfl]
    dsimp only
    rw [hs]
    dsimp only
    by_cases hi : i = a
    · subst hi
      rw [if_pos (by simp)]
      simp [hl, ha]
    · rw [if_neg (by simpa using hi)]
      simp [List.getD_eq_getElem?_getD, List.getElem?_set, Ne.symm hi]
  · rw [acc_cnt]; omega
  · rw [acc_cnt]; omega
def lW : List Int := [1, 2, 3, 0, 1, 1, 1, 0, 0, 0, 0, 0, 0, 0, 65538, 65537, 9, 0, 0, 0, 65539, 0, 4, 0, 0, 0, 65537, 0, 12, 0, 0, 0, 0, 0]
def Wrote (w : World) (e : Ending) (w' : World) : Prop := ∃ M B, e = .returned (.pointer (some ⟨M, 0, none⟩)) ∧ Mw w M B lW 23 w'
set_option maxHeartbeats 4000000 in
theorem written_any (w : World) : Calls Try.prog 24 #[] w (Wrote w) := by
  have q := eqn
  go_enter Try.func24, Try.ntmps24
  go_wp2_with fail
  refine (p_new 34 (by decide) (by decide) _).mono ?_
  rintro e w1 ⟨rfl, m1, z1, k1⟩
  obtain ⟨M, hM⟩ : ∃ M, M = w.heap.size + 1 := ⟨_, rfl⟩
  rw [← hM] at m1 ⊢
  obtain ⟨B, hB⟩ : ∃ B, B = w.heap.size := ⟨_, rfl⟩
  rw [← hB] at m1
  have I1 := Lib.hid (In.mk m1 k1 (by omega) (by omega))
  clear m1 k1 z1 hM hB
  go_wp2_with fail
  refine (chapter16_any _).mono ?_
  rintro e w2 ⟨rfl, k2⟩
  have I2 := Lib.hid (I1.out.grow k2)
  clear k2 I1
  go_wp2_with fail
  refine (p_tfill M B 34 T0 Wo.St.zero _ I2.out.mem (by decide) (by decide) okT0 sndT0).mono ?_
  rintro e w3 ⟨rfl, m3, b3⟩
  have I3 : Hid (In w M B Tw.sF w3) := Lib.hid ((I2.out.put (P := B) m3 (b3.mono fun _ _ h => .inr h) I2.out.lB).lit worF)
  have N0 : Hid (Mw w M B [1, 2, 3, 0, 1, 1, 1, 0, 0, 0, 0, 0, 0, 0, 0, 0, 0, 0, 0, 0, 0, 0, 0, 0, 0, 0, 0, 0, 0, 0, 0, 0, 0, 0] 16 w3) := Lib.hid ⟨⟨_, I3.out.mem, rfl, by rw [cntF]; decide, by rw [cntF]; decide⟩, I3.out.kept, I3.out.lM, I3.out.lB⟩
  clear m3 b3 I2 I3
  go_wp2_with fail
  refine (mstore N0.out (by decide) 22 22 rfl 4 (by decide) (by decide)).mono ?_
  rintro e v1 ⟨rfl, n1, b1⟩
  have N1 : Hid (Mw w M B [1, 2, 3, 0, 1, 1, 1, 0, 0, 0, 0, 0, 0, 0, 0, 0, 0, 0, 0, 0, 0, 0, 4, 0, 0, 0, 0, 0, 0, 0, 0, 0, 0, 0] 17 v1) := Lib.hid n1
  clear n1 b1 N0
  go_wp2_with fail
  refine (mstore N1.out (by decide) 16 16 rfl 9 (by decide) (by decide)).mono ?_
  rintro e v2 ⟨rfl, n2, b2⟩
  have N2 : Hid (Mw w M B [1, 2, 3, 0, 1, 1, 1, 0, 0, 0, 0, 0, 0, 0, 0, 0, 9, 0, 0, 0, 0, 0, 4, 0, 0, 0, 0, 0, 0, 0, 0, 0, 0, 0] 18 v2) := Lib.hid n2
  clear n2 b2 N1
  go_wp2_with fail
  refine (mstore N2.out (by decide) 28 28 rfl 12 (by decide) (by decide)).mono ?_
  rintro e v3 ⟨rfl, n3, b3⟩
  have N3 : Hid (Mw w M B [1, 2, 3, 0, 1, 1, 1, 0, 0, 0, 0, 0, 0, 0, 0, 0, 9, 0, 0, 0, 0, 0, 4, 0, 0, 0, 0, 0, 12, 0, 0, 0, 0, 0] 19 v3) := Lib.hid n3
  clear n3 b3 N2
  go_wp2_with fail
  refine (mstore N3.out (by decide) 14 14 rfl 65538 (by decide) (by decide)).mono ?_
  rintro e v4 ⟨rfl, n4, b4⟩
  have N4 : Hid (Mw w M B [1, 2, 3, 0, 1, 1, 1, 0, 0, 0, 0, 0, 0, 0, 65538, 0, 9, 0, 0, 0, 0, 0, 4, 0, 0, 0, 0, 0, 12, 0, 0, 0, 0, 0] 20 v4) := Lib.hid n4
  clear n4 b4 N3
  go_wp2_with fail
  refine (mstore N4.out (by decide) 15 15 rfl 65537 (by decide) (by decide)).mono ?_
  rintro e v5 ⟨rfl, n5, b5⟩
  have N5 : Hid (Mw w M B [1, 2, 3, 0, 1, 1, 1, 0, 0, 0, 0, 0, 0, 0, 65538, 65537, 9, 0, 0, 0, 0, 0, 4, 0, 0, 0, 0, 0, 12, 0, 0, 0, 0, 0] 21 v5) := Lib.hid n5
  clear n5 b5 N4
  go_wp2_with fail
  refine (mstore N5.out (by decide) 26 26 rfl 65537 (by decide) (by decide)).mono ?_
  rintro e v6 ⟨rfl, n6, b6⟩
  have N6 : Hid (Mw w M B [1, 2, 3, 0, 1, 1, 1, 0, 0, 0, 0, 0, 0, 0, 65538, 65537, 9, 0, 0, 0, 0, 0, 4, 0, 0, 0, 65537, 0, 12, 0, 0, 0, 0, 0] 22 v6) := Lib.hid n6
  clear n6 b6 N5
  go_wp2_with fail
  refine (mstore N6.out (by decide) 20 20 rfl 65539 (by decide) (by decide)).mono ?_
  rintro e v7 ⟨rfl, n7, b7⟩
  have N7 : Hid (Mw w M B [1, 2, 3, 0, 1, 1, 1, 0, 0, 0, 0, 0, 0, 0, 65538, 65537, 9, 0, 0, 0, 65539, 0, 4, 0, 0, 0, 65537, 0, 12, 0, 0, 0, 0, 0] 23 v7) := Lib.hid n7
  clear n7 b7 N6
  go_wp2
  go_ret
  exact ⟨M, B, rfl, N7.out⟩
theorem two_new {w : World} {P S : Nat} {p q x y : Int} {ty tz : TypeId} (hP : P = w.heap.size) (hS : S = w.heap.size + 1) : Two ((w.alloc (.cells #[.int .i64 p, .int .i64 q] ty)).alloc (.cells #[.int .u64 x, .int .u64 y] tz)) P S p q x y :=
  ⟨((Kept.refl _).alloc _ _).some (cell_new _ _ _ _ 0 hP), ((Kept.refl _).alloc _ _).some (cell_new _ _ _ _ 1 hP), cell_new _ _ _ _ 0 (by rw [hS]; simp), cell_new _ _ _ _ 1 (by rw [hS]; simp)⟩
set_option maxHeartbeats 4000000 in
theorem awake16_any (w : World) : Calls Try.prog 22 #[] w fun e w' => e = .returned (.bool true) ∧ Kept w w' := by
  have q := neqn
  go_enter Try.func22, Try.ntmps22
  go_wp2_with fail
  refine (written_any _).mono ?_
  rintro e w1 ⟨M, B, rfl, m1⟩
  have M1 := Lib.hid m1
  have l1 := m1.lt
  clear m1
  go_wp2_with fail
  refine (finds_any w M B 23 9 8 (by decide) (by decide) (by decide) k9T k9W z9 e9 rfl ok9 _ _ _ (M1.out.grow (((Kept.refl _).alloc _ _).alloc _ _)) (two_new rfl (by simp)) (by omega) (by simp; omega)).mono ?_
  rintro e w2 ⟨rfl, m2⟩
  have M2 : Hid (Mw w M B lW 31 w2) := Lib.hid m2
  have l2 := m2.lt
  clear m2 M1
  go_wp2_with fail
  refine (finds_any w M B 31 10 6 (by decide) (by decide) (by decide) k10T k10W z10 e10 rfl ok10 _ _ _ (M2.out.grow (((Kept.refl _).alloc _ _).alloc _ _)) (two_new rfl (by simp)) (by omega) (by simp; omega)).mono ?_
  rintro e w3 ⟨rfl, m3⟩
  have K3 := Lib.hid m3.kept
  clear m3 M2
  go_wp2
  go_ret
  exact ⟨rfl, K3.out⟩
end Go.Proofs.Ytejiogggocnldaa.Fd
