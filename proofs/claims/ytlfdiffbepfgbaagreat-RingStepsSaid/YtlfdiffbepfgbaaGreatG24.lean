/- What the document's memory tells: its words in a list of their own, its last access, how many there were. -/
import Derived.Test.YtlfdiffbepfgbaaGreatG04
import Derived.Test.YtlfdiffbepfgbaaGreatG22
import Derived.Test.YtlfdiffbepfgbaaGreatG20
import Derived.Deep.RegionHeld3
import Derived.Deep.Light
set_option linter.unusedVariables false
set_option linter.unusedSimpArgs false

namespace Go.Proofs.YtlfdiffbepfgbaaGreat.Ri
set_option maxRecDepth 20000
open Go.RowKit
open Wo (St acc wordAt PMem RefIs)
open Sk (Wd ref_frame ref_kept ref_lt)

theorem infoW : (Tryz.prog.info? 28).map (fun i => (i.zero, i.size, i.bytes)) = some (some (.int .u64 0), 1, 8) := by kernel_rfl
theorem words_length (l : List Int) : (words l).length = l.length * 1 := by simp [words]
theorem words_one (l : List Int) : ∀ u ∈ words l, u.oneCell' = true := by
  intro u h
  obtain ⟨x, _, rfl⟩ := List.mem_map.1 h
  rfl
set_option maxHeartbeats 1000000 in
theorem copyWords_any {w : World} {v : Value} {l : List Int} (h : Lay w v l.length (words l)) (hl : l.length ≤ 100000) :
    Calls Tryz.prog 86 #[v] w fun e w' => ∃ a c, e = .returned (.slice a l.length c) ∧ Kept w w' ∧ w'.ownsRow w.heap.size 28 1 (.slice a l.length c) l.length (words l) := by
  obtain ⟨i0, hi0, hz0, hz1, hz2⟩ := info_parts infoW
  have L := Lib.hid h
  clear h
  go_enter Tryz.func86, Tryz.ntmps86
  go_wp2_with (at_builtin; refine wpList_append_lay _ rfl _ _ _ rfl w.heap.size 28 i0 _ 1 8 Tryz.underlying29 hi0 hz0 hz1 hz2 (by rfl) (by decide) (.slice (some ⟨w.heap.size, 0, none⟩) 0 0) 0 [] (by simp [Act.eval]) (World.ownsRow_made w #[] 0 (Nat.le_refl _) (by decide) rfl) _ l.length (words l) (by simp [Act.eval]) (words_length l) (L.out.kept ((Kept.refl w).alloc _ _)) (words_one _) (by unfold maxLen; omega) (by omega) (by simp) ?_; rintro a' c' w2 own2 but2 at2)
  go_ret
  refine ⟨a', c', by simp, ?_, ?_⟩
  · exact (((Kept.refl w).alloc _ _).but _).trans but2 (fun _ _ h => h) |>.kept (fun k hk e => by simp [Value.ownBlock] at e; omega)
  · simpa using own2
theorem words_of (f : Nat → Int) (n j : Nat) (u : Value) (h : (words ((List.range n).map f))[j]? = some u) : j < n ∧ u = .int .u64 (f j) := by
  have hj : j < n := by
    have := (List.getElem?_eq_some_iff.1 h).1
    simpa [words] using this
  refine ⟨hj, ?_⟩
  simp [words, hj] at h
  exact h.symm
set_option maxHeartbeats 1000000 in
theorem r_words (M B n : Nat) (s : St) (w : World) (hm : RefIs w M B n s) (n1 : 1 ≤ n) (n2 : n ≤ 4096) :
    Calls Tryz.prog 23 #[.pointer (some ⟨M, 0, none⟩)] w fun e w' => ∃ g o c, e = .returned (.slice (some ⟨g, o, none⟩) n c) ∧ (∀ i, i < n → w'.cell? ⟨g, o + i, none⟩ = some (.int .u64 (s.ws i))) ∧ Kept w w' := by
  have c0 := hm.c0
  have LL : ∀ W, Hid (Kept w W → Lay W (.slice (some ⟨B, 0, none⟩) n n) n (words ((List.range n).map s.ws))) := fun W => Lib.hid (fun k => .inl (.inr ⟨B, 0, n, rfl, Nat.le_refl _, by unfold maxLen; omega, fun j u hu => by
    obtain ⟨hj, rfl⟩ := words_of s.ws n j u hu
    rw [Nat.zero_add]
    exact k.some (hm.words j hj)⟩))
  have CW := Lib.hid (fun W (k : Kept w W) => by
    have h := copyWords_any (v := .slice (some ⟨B, 0, none⟩) n n) (l := (List.range n).map s.ws) (w := W) (by simpa using (LL W).out k) (by simp; omega)
    rw [List.length_map, List.length_range] at h
    exact h)
  clear hm LL
  go_enter Tryz.func23, Tryz.ntmps23
  go_wp2_with fail
  refine (CW.out _ (Kept.refl _)).mono ?_
  rintro e w1 ⟨a, c, rfl, k, own⟩
  have HO := Lib.hid own
  have HK := Lib.hid k
  clear own k
  go_wp2
  go_ret
  rcases own_lies HO.out with ⟨e, h0, _⟩ | ⟨g, o, c', e, _, _, hc⟩
  · omega
  · injection e with e1 e2 e3
    subst e1 e3
    exact ⟨g, o, _, rfl, fun i hi => hc i _ (by simp [words, hi]), HK.out⟩
set_option maxHeartbeats 1000000 in
theorem r_last (M B n : Nat) (s : St) (w : World) (hm : RefIs w M B n s) :
    Calls Tryz.prog 25 #[.pointer (some ⟨M, 0, none⟩)] w fun e w' => e = .returned (.agg #[.int .i64 s.kind, .int .i64 s.at_, .int .u64 s.old, .int .u64 s.new, .bool s.held]) ∧ Kept w w' := by
  obtain ⟨c0, c1, c2, c3, c4, c5, c6, _, _, _, _⟩ := hm
  have hl := lt_of_cell c0
  have ne1 : M ≠ w.heap.size := by omega
  have ne2 : w.heap.size ≠ M := by omega
  go_enter Tryz.func25, Tryz.ntmps25
  go_wp2
  refine bodyPost_ret (v := .agg #[.int .i64 s.kind, .int .i64 s.at_, .int .u64 s.old, .int .u64 s.new, .bool s.held]) (by simp [results, Tryz.results25, go_sem, cell_set]) rfl ⟨rfl, ?_⟩
  go_light
  exact (Kept.refl w).alloc _ _
set_option maxHeartbeats 1000000 in
theorem r_count (M B n : Nat) (s : St) (w : World) (hm : RefIs w M B n s) :
    Calls Tryz.prog 27 #[.pointer (some ⟨M, 0, none⟩)] w fun e w' => e = .returned (.int .i64 s.cnt) ∧ Kept w w' := by
  obtain ⟨c0, c1, c2, c3, c4, c5, c6, _, _, _, _⟩ := hm
  go_enter Tryz.func27, Tryz.ntmps27
  go_wp2
  go_ret
  exact ⟨rfl, by (go_light; repeat (first | (with_reducible exact Kept.refl _) | (with_reducible assumption) | (with_reducible refine Kept.alloc ?_ _ _) | (with_reducible refine Kept.drew ?_) | (with_reducible refine Kept.drewN ?_ _) | ((with_reducible refine Kept.setCell ?_ ?_ _); rotate_left; focus (first | (simp; done) | (simp; omega))) | refine Kept.trans ?_ (by assumption)))⟩
end Go.Proofs.YtlfdiffbepfgbaaGreat.Ri

namespace Go.Proofs.YtlfdiffbepfgbaaGreat.Ri
set_option maxRecDepth 20000
open Go.RowKit
open Wo (St acc wordAt PMem RefIs)
open Sk (Wd pmem_kept pmem_lt pmem_frame p_new p_words p_load kept_of)

theorem pmem_eq {w : World} {M B n : Nat} {s s' : St} (hm : PMem w M B n s) (h : ∀ i, i < n → s'.ws i = s.ws i) (h1 : s'.kind = s.kind) (h2 : s'.at_ = s.at_) (h3 : s'.old = s.old) (h4 : s'.new = s.new) (h5 : s'.held = s.held) (h6 : s'.cnt = s.cnt) : PMem w M B n s' :=
  ⟨hm.p, fun i hi => by obtain ⟨x, a, b⟩ := hm.words i hi; exact ⟨x, a, fun hin => (b hin).trans (h i hin).symm⟩, hm.size, by rw [h1]; exact hm.c0, by rw [h2]; exact hm.c1, by rw [h3]; exact hm.c2, by rw [h4]; exact hm.c3, by rw [h5]; exact hm.c4, by rw [h6]; exact hm.cnt, hm.fB, hm.ne, hm.hn⟩
def litS (s : St) (l : List Int) : St := ⟨fun i => l.getD i 0, s.kind, s.at_, s.old, s.new, s.held, s.cnt⟩
theorem listAt {f : Nat → Int} {l : List Int} {n : Nat} (h : (List.range n).map f = l) (i : Nat) (hi : i < n) : l.getD i 0 = f i := by
  subst h
  simp [hi]
theorem wd_lit {s : St} {n : Nat} {l : List Int} (h : ∀ x ∈ l, 0 ≤ x ∧ x < 18446744073709551616) : Wd n (litS s l) := by
  refine ⟨fun i => ?_, fun i => ?_⟩
  · show 0 ≤ l.getD i 0
    rw [List.getD_eq_getElem?_getD]
    cases hg : l[i]? with
    | none => simp
    | some x => have := h x (List.mem_of_getElem? hg); simp; omega
  · show l.getD i 0 < 18446744073709551616
    rw [List.getD_eq_getElem?_getD]
    cases hg : l[i]? with
    | none => simp
    | some x => have := h x (List.mem_of_getElem? hg); simp; omega
theorem In.lit {w0 w : World} {M B : Nat} {s : St} {l : List Int} (h : In w0 M B s w) (hl : (List.range 5).map s.ws = l) (hb : ∀ x ∈ l, 0 ≤ x ∧ x < 18446744073709551616) : In w0 M B (litS s l) w :=
  ⟨pmem_eq h.mem (fun i hi => listAt hl i hi) rfl rfl rfl rfl rfl rfl, h.kept, h.lM, h.lB, h.hM, h.hB, wd_lit hb, h.c0, h.c1⟩
theorem sameWords {b o c b' o' c' n : Nat} {f : Nat → Int} {w : World} (hn : n ≤ 4096)
    (hc : ∀ i, i < n → w.cell? ⟨b, o + i, none⟩ = some (.int .u64 (f i))) (hc' : ∀ i, i < n → w.cell? ⟨b', o' + i, none⟩ = some (.int .u64 (f i))) :
    Calls Tryz.prog 22 #[.slice (some ⟨b, o, none⟩) n c, .slice (some ⟨b', o', none⟩) n c'] w fun e w' => e = .returned (.bool true) ∧ Kept w w' :=
  (Wo.sameWords_yes b o c b' o' c' n f w (by omega) hc hc').mono fun _ _ ⟨x, k⟩ => ⟨x, kept_of k⟩
theorem cells5 {w : World} {g : Nat} {t : TypeId} {a b c d e : Int} {f : Nat → Int} (hf : (List.range 5).map f = [a, b, c, d, e]) (hg : g = w.heap.size) (i : Nat) (hi : i < 5) :
    (w.alloc (.cells #[.int .u64 a, .int .u64 b, .int .u64 c, .int .u64 d, .int .u64 e] t)).cell? ⟨g, 0 + i, none⟩ = some (.int .u64 (f i)) := by
  have e' := listAt hf i hi
  rw [Nat.zero_add, cell_new _ _ _ _ _ hg, ← e']
  have hc : i = 0 ∨ i = 1 ∨ i = 2 ∨ i = 3 ∨ i = 4 := by omega
  rcases hc with rfl | rfl | rfl | rfl | rfl <;> rfl
theorem ints2 {w : World} {g : Nat} {t : TypeId} {a b : Int} (hg : g = w.heap.size) : Reads (w.alloc (.cells #[.int .i64 a, .int .i64 b] t)) (some ⟨g, 0, none⟩) 2 (fun i => [a, b].getD i 0) := by
  refine .inr ⟨g, 0, rfl, fun i hi => ?_⟩
  rw [Nat.zero_add, cell_new _ _ _ _ _ hg]
  have hc : i = 0 ∨ i = 1 := by omega
  rcases hc with rfl | rfl <;> rfl
theorem ints1 {w : World} {g : Nat} {t : TypeId} {a : Int} (hg : g = w.heap.size) : Reads (w.alloc (.cells #[.int .i64 a] t)) (some ⟨g, 0, none⟩) 1 (fun i => [a].getD i 0) := by
  refine .inr ⟨g, 0, rfl, fun i hi => ?_⟩
  rw [Nat.zero_add, cell_new _ _ _ _ _ hg]
  have hc : i = 0 := by omega
  subst hc
  rfl
theorem all2 {w0 w : World} {M B : Nat} {s : St} {l : List Int} (h : In w0 M B s w) (hl : allL 5 s.ws T2 = l) : Calls Tryz.prog 50 #[ringV T2, .pointer (some ⟨M, 0, none⟩)] w fun e w' => ∃ a c, e = .returned (.slice a l.length c) ∧ Kept w w' ∧ Reads w' a l.length (fun i => l.getD i 0) := by
  have hf : Wf 5 s.ws := fun i _ => ⟨h.wd.lo i, h.wd.hi i⟩
  refine (all_any T2 _ 5 s.ws hf (by decide) w (gives_words h.mem) (by decide) (by decide)).mono ?_
  rintro e w' ⟨a, c, rfl, k, own⟩
  rw [hl] at own ⊢
  refine ⟨a, c, rfl, k, ?_⟩
  rcases own_lies own with ⟨e1, e2, _⟩ | ⟨g, o, c', e1, _, _, hc⟩
  · exact .inl e2
  · injection e1 with e1 _ _
    subst e1
    exact .inr ⟨g, o, rfl, fun i hi => hc i _ (by simp [ints, hi])⟩
theorem cnt0 : s0.cnt ≤ 800000 := by decide +kernel
theorem wor0 : (List.range 5).map s0.ws = [0, 0, 0, 0, 0] := by decide +kernel
theorem run1 : Runs s0 (pushNew 5) 4 0 := ⟨by decide +kernel, by decide +kernel, by decide +kernel⟩
theorem wor1 : (List.range 5).map (rPl 5 T2 s0 (pushNew 5) 4).1.ws = [0, 1, 65541, 0, 0] := by decide +kernel
def sK1 : St := litS (rPl 5 T2 s0 (pushNew 5) 4).1 [0, 1, 65541, 0, 0]
theorem cnt1 : sK1.cnt ≤ 800000 := by decide +kernel
theorem run2 : Runs sK1 (pushNew 7) 4 0 := ⟨by decide +kernel, by decide +kernel, by decide +kernel⟩
theorem wor2 : (List.range 5).map (rPl 5 T2 sK1 (pushNew 7) 4).1.ws = [0, 2, 65541, 65543, 0] := by decide +kernel
def sK2 : St := litS (rPl 5 T2 sK1 (pushNew 7) 4).1 [0, 2, 65541, 65543, 0]
theorem cnt2 : sK2.cnt ≤ 800000 := by decide +kernel
theorem run3 : Runs sK2 (pushNew 9) 2 7 := ⟨by decide +kernel, by decide +kernel, by decide +kernel⟩
theorem wor3 : (List.range 5).map (rPl 5 T2 sK2 (pushNew 9) 2).1.ws = [0, 2, 65541, 65543, 0] := by decide +kernel
def sK3 : St := litS (rPl 5 T2 sK2 (pushNew 9) 2).1 [0, 2, 65541, 65543, 0]
theorem cnt3 : sK3.cnt ≤ 800000 := by decide +kernel
theorem run4 : Runs sK3 frontNew 2 0 := ⟨by decide +kernel, by decide +kernel, by decide +kernel⟩
theorem wor4 : (List.range 5).map (rPl 5 T2 sK3 frontNew 2).1.ws = [0, 2, 65541, 65543, 0] := by decide +kernel
theorem fro4 : (rPl 5 T2 sK3 frontNew 2).2.v = 5 ∧ (rPl 5 T2 sK3 frontNew 2).2.t = 0 := by decide +kernel
def sK4 : St := litS (rPl 5 T2 sK3 frontNew 2).1 [0, 2, 65541, 65543, 0]
theorem cnt4 : sK4.cnt ≤ 800000 := by decide +kernel
theorem run5 : Runs sK4 (dropNew 0) 2 0 := ⟨by decide +kernel, by decide +kernel, by decide +kernel⟩
theorem wor5 : (List.range 5).map (rPl 5 T2 sK4 (dropNew 0) 2).1.ws = [1, 2, 4294967296, 65543, 0] := by decide +kernel
def sK5 : St := litS (rPl 5 T2 sK4 (dropNew 0) 2).1 [1, 2, 4294967296, 65543, 0]
theorem cnt5 : sK5.cnt ≤ 800000 := by decide +kernel
theorem wrd1 : (List.range 5).map sK1.ws = [0, 1, 65541, 0, 0] := by decide +kernel
theorem all3 : allL 5 sK3.ws T2 = [5, 7] := by decide +kernel
theorem wrd5 : (List.range 5).map sK5.ws = [1, 2, 4294967296, 65543, 0] := by decide +kernel
theorem all5 : allL 5 sK5.ws T2 = [7] := by decide +kernel
set_option maxHeartbeats 8000000 in
theorem first_any (w : World) : Calls Tryz.prog 107 #[] w (Chap sK5 w) := by
  go_enter Tryz.func107, Tryz.ntmps107
  go_wp2_with fail
  refine (lfilled_any _).mono ?_
  rintro e w1 ⟨M, B, rfl, i1⟩
  have I1 := Lib.hid i1
  clear i1
  go_wp2_with fail
  refine (two_any _).mono ?_
  rintro e w2 ⟨rfl, k2⟩
  have I2 := Lib.hid (I1.out.grow k2)
  clear k2
  go_wp2_with fail
  refine (newPush_yes T2 5 (by decide) (by decide) (by decide) (by decide) _).mono ?_
  rintro e w3 ⟨P3, rfl, lP, gP, o3, k3⟩
  have hP3 := Lib.hid (I2.out.bk lP)
  have I3 := Lib.hid (I2.out.grow k3)
  have O3 := Lib.hid o3
  clear k3 lP gP o3
  go_wp2_with fail
  refine (lpush_any (m := 3) (er := 0) I3.out O3.out hP3.out (pushNew_good (by decide) (by decide)) cnt0 (by decide) run1).mono ?_
  rintro e w4 ⟨rfl, _, i4, _⟩
  have I4 : Hid (In w M B sK1 w4) := Lib.hid (i4.lit wor1 (by decide))
  clear i4 hP3 O3
  go_wp2_with fail
  refine (p_words _ _ 5 sK1 _ I4.out.mem).mono ?_
  rintro e w5 ⟨b5, c5, rfl, hb1, hb2, hw, hf, k5⟩
  have HW5 := Lib.hid hw
  have I5 := Lib.hid (I4.out.grow k5)
  clear hw hf k5 hb1
  go_wp2_with fail
  refine (sameWords (f := sK1.ws) (by decide) (fun i hi => ?_) (fun i hi => cells5 wrd1 rfl i hi)).mono ?_
  · rw [Nat.zero_add]; exact ((Kept.refl _).alloc _ _).some (HW5.out i hi)
  rintro e w6 ⟨rfl, k6⟩
  have I6 := Lib.hid (I5.out.grow (Kept.trans ((Kept.refl _).alloc _ _) k6))
  clear k6 HW5 hb2
  go_wp2_with fail
  refine (two_any _).mono ?_
  rintro e w7 ⟨rfl, k7⟩
  have I7 := Lib.hid (I6.out.grow k7)
  clear k7
  go_wp2_with fail
  refine (newPush_yes T2 7 (by decide) (by decide) (by decide) (by decide) _).mono ?_
  rintro e w8 ⟨P8, rfl, lP, gP, o8, k8⟩
  have hP8 := Lib.hid (I7.out.bk lP)
  have I8 := Lib.hid (I7.out.grow k8)
  have O8 := Lib.hid o8
  clear k8 lP gP o8
  go_wp2_with fail
  refine (lpush_any (m := 3) (er := 0) I8.out O8.out hP8.out (pushNew_good (by decide) (by decide)) cnt1 (by decide) run2).mono ?_
  rintro e w9 ⟨rfl, _, i9, _⟩
  have I9 : Hid (In w M B sK2 w9) := Lib.hid (i9.lit wor2 (by decide))
  clear i9 hP8 O8
  go_wp2_with fail
  refine (two_any _).mono ?_
  rintro e w10 ⟨rfl, k10⟩
  have I10 := Lib.hid (I9.out.grow k10)
  clear k10
  go_wp2_with fail
  refine (newPush_yes T2 9 (by decide) (by decide) (by decide) (by decide) _).mono ?_
  rintro e w11 ⟨P11, rfl, lP, gP, o11, k11⟩
  have hP11 := Lib.hid (I10.out.bk lP)
  have I11 := Lib.hid (I10.out.grow k11)
  have O11 := Lib.hid o11
  clear k11 lP gP o11
  go_wp2_with fail
  refine (lpush_any (m := 1) (er := 7) I11.out O11.out hP11.out (pushNew_good (by decide) (by decide)) cnt2 (by decide) run3).mono ?_
  rintro e w12 ⟨rfl, _, i12, _⟩
  have I12 : Hid (In w M B sK3 w12) := Lib.hid (i12.lit wor3 (by decide))
  clear i12 hP11 O11
  go_wp2_with fail
  refine (two_any _).mono ?_
  rintro e w13 ⟨rfl, k13⟩
  have I13 := Lib.hid (I12.out.grow k13)
  clear k13
  go_wp2_with fail
  refine (all2 I13.out all3).mono ?_
  rintro e w14 ⟨a14, c14, rfl, k14, r14⟩
  have CG14 := Lib.hid r14
  have I14 := Lib.hid (I13.out.grow k14)
  clear k14 r14
  go_wp2_with fail
  refine (sameInts_yes _ _ 2 _ _ (fun i => [5, 7].getD i 0) _ (by decide) (CG14.out.kept ((Kept.refl _).alloc _ _)) (ints2 rfl)).mono ?_
  rintro e w15 ⟨rfl, k15⟩
  have I15 := Lib.hid (I14.out.grow (Kept.trans ((Kept.refl _).alloc _ _) k15))
  clear k15 CG14
  go_wp2_with fail
  refine (lfront_any (want := 5) (at_ := 0) I15.out cnt3 run4 fro4.1 fro4.2).mono ?_
  rintro e w16 ⟨rfl, i16⟩
  have I16 : Hid (In w M B sK4 w16) := Lib.hid (i16.lit wor4 (by decide))
  clear i16
  go_wp2_with fail
  refine (ldrop_any (at_ := 0) (by decide) (by decide) I16.out cnt4 run5).mono ?_
  rintro e w17 ⟨rfl, i17⟩
  have I17 : Hid (In w M B sK5 w17) := Lib.hid (i17.lit wor5 (by decide))
  clear i17
  go_wp2_with fail
  refine (p_words _ _ 5 sK5 _ I17.out.mem).mono ?_
  rintro e w18 ⟨b18, c18, rfl, hb1, hb2, hw, hf, k18⟩
  have HW18 := Lib.hid hw
  have I18 := Lib.hid (I17.out.grow k18)
  clear hw hf k18 hb1
  go_wp2_with fail
  refine (sameWords (f := sK5.ws) (by decide) (fun i hi => ?_) (fun i hi => cells5 wrd5 rfl i hi)).mono ?_
  · rw [Nat.zero_add]; exact ((Kept.refl _).alloc _ _).some (HW18.out i hi)
  rintro e w19 ⟨rfl, k19⟩
  have I19 := Lib.hid (I18.out.grow (Kept.trans ((Kept.refl _).alloc _ _) k19))
  clear k19 HW18 hb2
  go_wp2_with fail
  refine (two_any _).mono ?_
  rintro e w20 ⟨rfl, k20⟩
  have I20 := Lib.hid (I19.out.grow k20)
  clear k20
  go_wp2_with fail
  refine (all2 I20.out all5).mono ?_
  rintro e w21 ⟨a21, c21, rfl, k21, r21⟩
  have CG21 := Lib.hid r21
  have I21 := Lib.hid (I20.out.grow k21)
  clear k21 r21
  go_wp2_with fail
  refine (sameInts_yes _ _ 1 _ _ (fun i => [7].getD i 0) _ (by decide) (CG21.out.kept ((Kept.refl _).alloc _ _)) (ints1 rfl)).mono ?_
  rintro e w22 ⟨rfl, k22⟩
  have I22 := Lib.hid (I21.out.grow (Kept.trans ((Kept.refl _).alloc _ _) k22))
  clear k22 CG21
  go_wp2
  go_ret
  exact ⟨M, B, rfl, I22.out⟩
theorem ffit4 : fitsR T2 4 = 0 := by decide
theorem ffit3 : fitsR T2 3 = 2 := by decide
set_option maxHeartbeats 4000000 in
theorem awake_any (w : World) : Calls Tryz.prog 46 #[] w fun e w' => e = .returned (.bool true) ∧ Kept w w' := by
  have F4 : ∀ W, Hid (Calls Tryz.prog 44 #[ringV T2, .int .i64 4] W fun e w' => e = .returned (.int .i64 0) ∧ Kept W w') := fun W => Lib.hid (by have := pfits_any T2 4 W; rwa [ffit4] at this)
  have F3 : ∀ W, Hid (Calls Tryz.prog 44 #[ringV T2, .int .i64 3] W fun e w' => e = .returned (.int .i64 2) ∧ Kept W w') := fun W => Lib.hid (by have := pfits_any T2 3 W; rwa [ffit3] at this)
  go_enter Tryz.func46, Tryz.ntmps46
  go_wp2_with fail
  refine (first_any _).mono ?_
  rintro e w1 ⟨M, B, rfl, i1⟩
  have K1 := Lib.hid i1.kept
  clear i1
  have nq : ∀ W, (binOp .neq 34 (.pointer (some ⟨M, 0, none⟩)) (.pointer none)).run Tryz.prog W = .ok (.bool true) W := fun W => by kernel_rfl
  go_wp2_with fail
  refine (two_any _).mono ?_
  rintro e w2 ⟨rfl, k2⟩
  go_wp2_with fail
  refine (F4 _).out.mono ?_
  rintro e w3 ⟨rfl, k3⟩
  go_wp2_with fail
  refine (two_any _).mono ?_
  rintro e w4 ⟨rfl, k4⟩
  go_wp2_with fail
  refine (F3 _).out.mono ?_
  rintro e w5 ⟨rfl, k5⟩
  go_wp2
  go_ret
  exact ⟨rfl, (((K1.out.trans k2).trans k3).trans k4).trans k5⟩
end Go.Proofs.YtlfdiffbepfgbaaGreat.Ri
