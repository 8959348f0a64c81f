/- The walk of ArenaSteps. Written by gen11x.py. -/
import Derived.Test.YtbonnfofoepjcaaGreatG28
import Derived.Test.YtbonnfofoepjcaaGreatG29
import Derived.Deep.QuietTactic
import Derived.BigQuiet
set_option linter.unusedVariables false
set_option linter.unusedSimpArgs false

namespace Go.Proofs.YtbonnfofoepjcaaGreat.Sk
set_option maxRecDepth 100000
open Go.RowKit
open Wo (St acc wordAt PMem RefIs)
attribute [local go_sem ↓] ldA_named stA_named

theorem amake_boths : ∃ Z : Array Value, (∀ i, i < 16 → Z[i]? = some (.pointer none)) ∧
    ∀ w : World, (Instr.makeSlice 35 (.int .i64 4) (.int .i64 4)).run Tryz.prog w = .ok (.slice (some ⟨w.heap.size, 0, none⟩) 4 4) (w.alloc (.cells Z 44)) := by
  obtain ⟨i0, hi, hz0, hz1, hz2⟩ := info_parts ainfoPair
  refine ⟨madeCells #[.pointer none, .pointer none, .pointer none, .pointer none] 16, fun i h => ?_, fun w => ?_⟩
  · have hz : ∀ j, j < 4 → (#[Value.pointer none, .pointer none, .pointer none, .pointer none] : Array Value)[j]? = some (.pointer none) := fun j hj => by
      have : j = 0 ∨ j = 1 ∨ j = 2 ∨ j = 3 := by omega
      rcases this with rfl | rfl | rfl | rfl <;> rfl
    have hm := hz (i % 4) (by omega)
    have hz2 : ∀ j, j < 4 → ([Value.pointer none, .pointer none, .pointer none, .pointer none] : List Value)[j]? = some (.pointer none) := fun j hj => by
      have : j = 0 ∨ j = 1 ∨ j = 2 ∨ j = 3 := by omega
      rcases this with rfl | rfl | rfl | rfl <;> rfl
    have hm2 := hz2 (i % 4) (by omega)
    simp [madeCells, h, Array.getElem!_eq_getD, Array.getD_eq_getD_getElem?, hm2]
  · have h := run_makeSlice (P := Tryz.prog) w 35 44 i0 (.agg #[.pointer none, .pointer none, .pointer none, .pointer none]) Tryz.underlying35 hi hz0 .i64 .i64 4 4 (by omega) (Int.le_refl _) (by rw [hz1]; decide) (by rw [hz2]; decide) (by decide)
    rw [h, hz1]
    rfl

def acut (own : Nat → Nat) (n k : Nat) : Nat := if k < n then own k else 2
theorem acut_old {own : Nat → Nat} {n : Nat} : ∀ k, k < n → acut own n k = own k := fun k hk => by unfold acut; rw [if_pos hk]
theorem acut_new {own : Nat → Nat} {n k : Nat} (h : n ≤ k) : acut own n k = 2 := by unfold acut; rw [if_neg (by omega)]

structure SiA (w0 : World) (A : Arn) (M B M2 B2 C n : Nat) (own : Nat → Nat) (st : Nat → AP) (s : St) (k : Nat) (w : World) : Prop where
  d : TDuo own w M B M2 B2 n s
  co : ACores w C st
  is : ∀ c, c < 4 → (st c).Is own c A w
  low : ∀ j, j ≤ w0.heap.size → own j = 2
  oC : own C = 2
  cnt : s.cnt ≤ 10000 + k
  neC : w0.heap.size < C
  kept : Kept w0 w
  t0 : w.cell? ⟨w0.heap.size, 0, none⟩ = some (.int .i64 A.F.T)
  t1 : w.cell? ⟨w0.heap.size, 1, none⟩ = some (.int .i64 A.F.K)
  t2 : w.cell? ⟨w0.heap.size, 2, none⟩ = some (.int .i64 A.F.N)
  t3 : w.cell? ⟨w0.heap.size, 3, none⟩ = some (.int .i64 A.G)
  t4 : w.cell? ⟨w0.heap.size, 4, none⟩ = some (.int .i64 A.V)
  t5 : w.cell? ⟨w0.heap.size, 5, none⟩ = some (.int .i64 A.L)
theorem SiA.keep {w0 : World} {A : Arn} {M B M2 B2 C n : Nat} {own : Nat → Nat} {st : Nat → AP} {s : St} {k : Nat} {w w' : World} (h : SiA w0 A M B M2 B2 C n own st s k w) (kk : Kept w w') : SiA w0 A M B M2 B2 C n own st s k w' :=
  ⟨h.d.kept kk, h.co.kept kk, fun c hc => (h.is c hc).kept kk, h.low, h.oC, h.cnt, h.neC, h.kept.trans kk, kk.some h.t0, kk.some h.t1, kk.some h.t2, kk.some h.t3, kk.some h.t4, kk.some h.t5⟩
theorem SiA.cut {w0 : World} {A : Arn} {M B M2 B2 C n : Nat} {own : Nat → Nat} {st : Nat → AP} {s : St} {k : Nat} {w : World} (h : SiA w0 A M B M2 B2 C n own st s k w) : SiA w0 A M B M2 B2 C n (acut own w.heap.size) st s k w :=
  ⟨h.d.owns acut_old, h.co, fun c hc => (h.is c hc).owns acut_old, fun j hj => by unfold acut; split <;> first | exact h.low j hj | rfl, by rw [acut_old _ h.co.lt]; exact h.oC, h.cnt, h.neC, h.kept, h.t0, h.t1, h.t2, h.t3, h.t4, h.t5⟩
theorem SiA.told {w0 : World} {A : Arn} {M B M2 B2 C n : Nat} {own : Nat → Nat} {st : Nat → AP} {s : St} {k : Nat} {w w' : World} (h : SiA w0 A M B M2 B2 C n own st s k w) {c : Nat} (hc : c < 4) {p' : AP} {s' : St} (hp : p'.cells = (st c).cells) (hi : p'.Is own c A w') (hd : TDuo own w' M B M2 B2 n s') (hs : s'.cnt ≤ s.cnt + 1) (hb : But (tmine own c) w w') :
    SiA w0 A M B M2 B2 C n own (aput st c p') s' (k + 1) w' := by
  have nm : ∀ j, own j = 2 → ¬ tmine own c j := fun j hj h => by unfold tmine at h; omega
  refine ⟨hd, ?_, fun q hq => ?_, h.low, h.oC, by have := h.cnt; omega, h.neC, ((h.kept.but (fun j => tmine own c j)).trans hb (fun _ _ h => h)).kept fun j hj => nm j (h.low j (by omega)), hb.some h.t0 (nm _ (h.low _ (Nat.le_refl _))), hb.some h.t1 (nm _ (h.low _ (Nat.le_refl _))), hb.some h.t2 (nm _ (h.low _ (Nat.le_refl _))), hb.some h.t3 (nm _ (h.low _ (Nat.le_refl _))), hb.some h.t4 (nm _ (h.low _ (Nat.le_refl _))), hb.some h.t5 (nm _ (h.low _ (Nat.le_refl _)))⟩
  · have h2 := h.co.frame hb (nm _ h.oC)
    refine ⟨fun q hq => ?_, h2.f, h2.lt⟩
    unfold aput
    by_cases e : q = c
    · subst e; rw [if_pos rfl, hp]; exact h2.at_ q hq
    · rw [if_neg e]; exact h2.at_ q hq
  · unfold aput
    by_cases e : q = c
    · subst e; rw [if_pos rfl]; exact hi
    · rw [if_neg e]
      exact (h.is q hq).frame hb (fun j hj => by unfold tmine at hj; omega)
theorem SiA.free {w0 : World} {A : Arn} {M B M2 B2 C n : Nat} {own : Nat → Nat} {st : Nat → AP} {s : St} {k b : Nat} {w w' : World} (h : SiA w0 A M B M2 B2 C n own st s k w) (hb : But (fun j => b ≤ j) w w') (ho : ∀ j, b ≤ j → own j = 2) (hC : C < b) (hw : w0.heap.size < b) : SiA w0 A M B M2 B2 C n own st s k w' := by
  refine ⟨h.d.frame hb (fun j hj => by rw [ho j hj]; omega), h.co.frame hb (by omega), fun q hq => (h.is q hq).frame hb (fun j hj => by rw [ho j hj]; omega), h.low, h.oC, h.cnt, h.neC, ((h.kept.but (fun j => b ≤ j)).trans hb (fun _ _ h => h)).kept fun j hj => by omega, hb.some h.t0 (by omega), hb.some h.t1 (by omega), hb.some h.t2 (by omega), hb.some h.t3 (by omega), hb.some h.t4 (by omega), hb.some h.t5 (by omega)⟩
theorem SiA.begun {w0 : World} {A : Arn} {M B M2 B2 C n : Nat} {own own' : Nat → Nat} {st : Nat → AP} {s : St} {k : Nat} {w u : World} (h : SiA w0 A M B M2 B2 C n own st s k w) (ku : Kept w u) {c : Nat} (hc : c < 4) {p : AP} (hi : p.Is own' c A u) (ho : ∀ j, j < w.heap.size → own' j = own j) :
    SiA w0 A M B M2 B2 C n own' (aput st c p) s k (u.setCells C (c * 4) p.cells) := by
  have hb : But (fun j => j = C) u (u.setCells C (c * 4) p.cells) := abut_setCells (S := fun j => j = C) rfl _ _ _ (But.refl _ _)
  have oC : own' C = 2 := (ho _ h.co.lt).trans h.oC
  have hw : w0.heap.size < w.heap.size := lt_of_cell h.t0
  have h2 : SiA w0 A M B M2 B2 C n own' st s k u := by
    have h1 := h.keep ku
    exact ⟨(h.d.owns ho).kept ku, h1.co, fun q hq => ((h.is q hq).owns ho).kept ku, fun j hj => (ho j (by omega)).trans (h.low j hj), oC, h.cnt, h.neC, h1.kept, h1.t0, h1.t1, h1.t2, h1.t3, h1.t4, h1.t5⟩
  have hn := h.neC
  refine ⟨h2.d.frame hb (fun j hj => by rw [hj, oC]; omega), h2.co.set hc p, fun q hq => ?_, h2.low, h2.oC, h2.cnt, h2.neC, ((h2.kept.but (fun j => j = C)).trans hb (fun _ _ h => h)).kept fun j hj => by omega, hb.some h2.t0 (by omega), hb.some h2.t1 (by omega), hb.some h2.t2 (by omega), hb.some h2.t3 (by omega), hb.some h2.t4 (by omega), hb.some h2.t5 (by omega)⟩
  unfold aput
  by_cases e : q = c
  · subst e; rw [if_pos rfl]; exact hi.frame hb (fun j hj => by rw [hj, oC]; omega)
  · rw [if_neg e]; exact (h2.is q hq).frame hb (fun j hj => by rw [hj, oC]; omega)

theorem acount_w {w : World} {M B n : Nat} {s : St} (hm : PMem w M B n s) : Calls Tryz.prog 23 #[.pointer (some ⟨M, 0, none⟩)] w fun e w' => e = .returned (.int .i64 s.cnt) ∧ Kept w w' :=
  (p_count M B n s w hm).mono fun _ _ ⟨a, k⟩ => ⟨a, k ▸ Kept.refl _⟩
theorem asameWords {b o c b' o' c' n : Nat} {f : Nat → Int} {w : World} (hn : n ≤ 4096)
    (hc : ∀ i, i < n → w.cell? ⟨b, o + i, none⟩ = some (.int .u64 (f i))) (hc' : ∀ i, i < n → w.cell? ⟨b', o' + i, none⟩ = some (.int .u64 (f i))) :
    Calls Tryz.prog 18 #[.slice (some ⟨b, o, none⟩) n c, .slice (some ⟨b', o', none⟩) n c'] w fun e w' => e = .returned (.bool true) ∧ Kept w w' :=
  (Wo.sameWords_yes b o c b' o' c' n f w (by omega) hc hc').mono fun _ _ ⟨x, k⟩ => ⟨x, kept_of k⟩
def StRelA (w0 : World) (A : Arn) (M B M2 B2 C n L : Nat) (i : Value) (w : World) : Prop := ∃ (k : Nat) (own : Nat → Nat) (st : Nat → AP) (s : St), k ≤ L ∧ i = .int .i64 k ∧ SiA w0 A M B M2 B2 C n own st s k w
theorem aact_cells {w : World} {g o : Nat} {l : List (Int × Int × Int)} (h : ∀ j u, (l.flatMap actc)[j]? = some u → w.cell? ⟨g, o + j, none⟩ = some u) (k : Nat) (hk : k < l.length) :
    ∃ co wh d : Int, w.cell? ⟨g, o + k * 3, none⟩ = some (.int .i64 co) ∧ w.cell? ⟨g, o + k * 3 + 1, none⟩ = some (.int .i64 wh) ∧ w.cell? ⟨g, o + k * 3 + 2, none⟩ = some (.int .i64 d) := by
  obtain ⟨a, ha⟩ : ∃ a, l[k]? = some a := ⟨_, List.getElem?_eq_getElem hk⟩
  refine ⟨a.1, a.2.1, a.2.2, ?_, ?_, ?_⟩
  · have := h (k * 3 + 0) (.int .i64 a.1) (by rw [wide_get actc_length l k 0 a ha (by decide)]; rfl)
    simpa [Nat.add_assoc] using this
  · have := h (k * 3 + 1) (.int .i64 a.2.1) (by rw [wide_get actc_length l k 1 a ha (by decide)]; rfl)
    simpa [Nat.add_assoc] using this
  · have := h (k * 3 + 2) (.int .i64 a.2.2) (by rw [wide_get actc_length l k 2 a ha (by decide)]; rfl)
    simpa [Nat.add_assoc] using this

theorem SiA.wide {w0 : World} {A : Arn} {M B M2 B2 C n : Nat} {own : Nat → Nat} {st : Nat → AP} {s : St} {k : Nat} {w : World} (h : SiA w0 A M B M2 B2 C n own st s k w) : SiA w0 A M B M2 B2 C n own st s (k + 1) w :=
  ⟨h.d, h.co, h.is, h.low, h.oC, by have := h.cnt; omega, h.neC, h.kept, h.t0, h.t1, h.t2, h.t3, h.t4, h.t5⟩

theorem abegin_any (own : Nat → Nat) (c : Nat) (A : Arn) (co wh i : Int) (hN : A.F.N ≤ 4096) (w : World) : Calls Tryz.prog 17 #[.agg #[.int .i64 A.F.T, .int .i64 A.F.K, .int .i64 A.F.N, .int .i64 A.G, .int .i64 A.V, .int .i64 A.L], .agg #[.int .i64 co, .int .i64 wh, .int .i64 i]] w (ABegun own c A w) := by
  by_cases h : wh = 1
  · subst h; exact abegin_al own c A co 1 i rfl w
  · have hb : (wh == 1) = false := by simpa using h
    by_cases h0 : i < 0
    · exact abegin_lo own c A co wh i hb h0 w
    · by_cases h1 : i < A.F.N
      · exact abegin_in own c A co wh i hb (by omega) h1 (by omega) w
      · exact abegin_hi own c A co wh i hb (by omega) (by omega) w

set_option maxHeartbeats 8000000 in
theorem asteps_main (A : Arn) (n : Nat) (li : List Int) (la : List (Int × Int × Int)) (a2 a3 : Option Addr) (c2 c3 : Nat) (w : World) (h2 : Lay w (.slice a2 li.length c2) li.length (words li)) (hr : ∀ x ∈ li, 0 ≤ x ∧ x < 18446744073709551616) (h3 : Lay w (.slice a3 la.length c3) la.length (la.flatMap actc))
    (hF : fitsA A n = 0) (hG : -9223372036854775808 ≤ A.G ∧ A.G ≤ 9223372036854775807) (hV : -9223372036854775808 ≤ A.V ∧ A.V ≤ 9223372036854775807) (hn : n ≤ 64) (hN12 : A.F.N ≤ 12) (hl2 : li.length ≤ 64) (hl3 : la.length ≤ 120) :
    Calls Tryz.prog 3 #[.agg #[.int .i64 A.F.T, .int .i64 A.F.K, .int .i64 A.F.N, .int .i64 A.G, .int .i64 A.V, .int .i64 A.L], .int .i64 n, .slice a2 li.length c2, .slice a3 la.length c3] w fun e w' => e = .returned (.bool true) ∧ Kept w w' := by
  obtain ⟨hS, hn1, _, _⟩ := fitsA_ok hF
  rw [Int.toNat_natCast] at hS
  have HS := Lib.hid hS
  have HF := Lib.hid hF
  have H2 := Lib.hid h2
  have H3 := Lib.hid h3
  have HR := Lib.hid hr
  obtain ⟨m2, hm2⟩ : ∃ m, m = li.length := ⟨_, rfl⟩
  obtain ⟨m3, hm3⟩ : ∃ m, m = la.length := ⟨_, rfl⟩
  have HM2 := Lib.hid hm2
  have HM3 := Lib.hid hm3
  rw [← hm2] at hl2 ⊢
  rw [← hm3] at hl3 ⊢
  have g2 : (m2 : Int) ≤ 64 := by omega
  have g3 : (m3 : Int) ≤ 120 := by omega
  have gn : (n : Int) ≤ 64 := by omega
  have HFR := Lib.hid (fun W => rfitsA_any A n W hG hV)
  clear hS hF h2 h3 hr hm2 hm3 hG hV
  go_enter Tryz.func3, Tryz.ntmps3
  go_upto_region 1 with fail
  obtain ⟨W1, hW1⟩ : ∃ W1, W1 = w.alloc (.cells #[.int .i64 A.F.T, .int .i64 A.F.K, .int .i64 A.F.N, .int .i64 A.G, .int .i64 A.V, .int .i64 A.L] 25) := ⟨_, rfl⟩
  have t0 : W1.cell? ⟨w.heap.size, 0, none⟩ = some (.int .i64 A.F.T) := by rw [hW1]; exact cell_new w _ _ _ 0 rfl
  have t1 : W1.cell? ⟨w.heap.size, 1, none⟩ = some (.int .i64 A.F.K) := by rw [hW1]; exact cell_new w _ _ _ 1 rfl
  have t2 : W1.cell? ⟨w.heap.size, 2, none⟩ = some (.int .i64 A.F.N) := by rw [hW1]; exact cell_new w _ _ _ 2 rfl
  have t3 : W1.cell? ⟨w.heap.size, 3, none⟩ = some (.int .i64 A.G) := by rw [hW1]; exact cell_new w _ _ _ 3 rfl
  have t4 : W1.cell? ⟨w.heap.size, 4, none⟩ = some (.int .i64 A.V) := by rw [hW1]; exact cell_new w _ _ _ 4 rfl
  have t5 : W1.cell? ⟨w.heap.size, 5, none⟩ = some (.int .i64 A.L) := by rw [hW1]; exact cell_new w _ _ _ 5 rfl
  have k1 : Kept w W1 := by rw [hW1]; exact (Kept.refl w).alloc _ _
  rw [← hW1]
  have K1 := Lib.hid k1
  clear hW1 k1
  have FP : ∀ W, Hid (Calls Tryz.prog 11 #[.agg #[.int .i64 A.F.T, .int .i64 A.F.K, .int .i64 A.F.N, .int .i64 A.G, .int .i64 A.V, .int .i64 A.L], .int .i64 n] W fun e w' => e = .returned (.int .i64 0) ∧ Kept W w') := fun W => Lib.hid (by have h := pfitsA_any A n W; rw [HF.out] at h; exact h)
  have FR : ∀ W, Hid (Calls Tryz.prog 12 #[.agg #[.int .i64 A.F.T, .int .i64 A.F.K, .int .i64 A.F.N, .int .i64 A.G, .int .i64 A.V, .int .i64 A.L], .int .i64 n] W fun e w' => e = .returned (.int .i64 0) ∧ Kept W w') := fun W => Lib.hid (by have h := HFR.out W; rw [HF.out] at h; exact h)
  go_region_held3 (fun w' => w'.cell? ⟨w.heap.size, 0, none⟩ = some (.int .i64 A.F.T) ∧ w'.cell? ⟨w.heap.size, 1, none⟩ = some (.int .i64 A.F.K) ∧ w'.cell? ⟨w.heap.size, 2, none⟩ = some (.int .i64 A.F.N) ∧ w'.cell? ⟨w.heap.size, 3, none⟩ = some (.int .i64 A.G) ∧ w'.cell? ⟨w.heap.size, 4, none⟩ = some (.int .i64 A.V) ∧ w'.cell? ⟨w.heap.size, 5, none⟩ = some (.int .i64 A.L)) (first | go_keep | (exact ⟨k2.some t0, k2.some t1, k2.some t2, k2.some t3, k2.some t4, k2.some t5⟩) | (exact ⟨d0, d1, d2, d3, d4, d5⟩)) (first
    | (go_at_call 11; refine (FP _).out.mono ?_; rintro e w2 ⟨rfl, k2⟩; have KT : Kept W1 w2 := Kept.trans (b := _) (by first | exact Kept.refl _ | exact (Kept.refl _).drew | exact (Kept.refl _).drewN _) k2)
    | (go_at_call 12; refine (FR _).out.mono ?_; rintro e w3 ⟨rfl, k3⟩; have KU : Kept W1 w3 := Kept.trans (b := _) (by first | exact KT | exact KT.drew | exact KT.drewN _) k3; have d0 := KU.some t0; have d1 := KU.some t1; have d2 := KU.some t2; have d3 := KU.some t3; have d4 := KU.some t4; have d5 := KU.some t5))
  have K3 := Lib.hid (K1.out.trans KU)
  clear t0 t1 t2 t3 t4 t5 k2 k3 KT KU K1
  rename_i hcells
  clear hcells
  go_wp2_with fail
  refine (FR _).out.mono ?_
  rintro e w4 ⟨rfl, k4⟩
  have t0 := k4.some d0
  have t1 := k4.some d1
  have t2 := k4.some d2
  have t3 := k4.some d3
  have t4 := k4.some d4
  have t5 := k4.some d5
  have K4 := Lib.hid (K3.out.trans k4)
  clear d0 d1 d2 d3 d4 d5 k4
  go_wp2_with fail
  have hlaid : Calls Tryz.prog 14 #[.agg #[.int .i64 A.F.T, .int .i64 A.F.K, .int .i64 A.F.N, .int .i64 A.G, .int .i64 A.V, .int .i64 A.L], .int .i64 n, .slice a2 m2 c2] w4 (ALaid n w4) := by
    have h := alaid_any A n HS.out li (by have := HM2.out; omega) a2 c2 w4 (H2.out.kept K4.out) HR.out
    rw [← HM2.out] at h
    exact h
  refine hlaid.mono ?_
  rintro e w5 ⟨M, B, M2, B2, s0, rfl, hd5, hs5, k5, lM, lB, lM2, lB2⟩
  have D5 := Lib.hid hd5
  have K5 := Lib.hid (K4.out.trans k5)
  have hc6 := hd5.r.c6
  have u0 := k5.some t0
  have u1 := k5.some t1
  have u2 := k5.some t2
  have u3 := k5.some t3
  have u4 := k5.some t4
  have u5 := k5.some t5
  have z4 : w.heap.size < w4.heap.size := lt_of_cell t0
  clear hlaid hd5 k5 t0 t1 t2 t3 t4 t5
  have eqn : ∀ W, (binOp .eql 31 (.pointer (some ⟨M, 0, none⟩)) (.pointer none)).run Tryz.prog W = .ok (.bool false) W := fun W => by kernel_rfl
  obtain ⟨Z, hZ, hmk⟩ := amake_boths
  have HZ := Lib.hid hZ
  clear hZ
  obtain ⟨C, hC⟩ : ∃ C, C = w5.heap.size := ⟨_, rfl⟩
  have hmk6 := hmk w5
  rw [← hC] at hmk6
  obtain ⟨W8, hW8⟩ : ∃ W, W = w5.alloc (.cells Z 44) := ⟨_, rfl⟩
  rw [← hW8] at hmk6
  have K8 : Hid (Kept w5 W8) := Lib.hid (by rw [hW8]; exact (Kept.refl _).alloc _ _)
  have CO : Hid (ACores W8 C (fun _ => .idle)) := Lib.hid (by
    rw [hW8]
    refine ⟨fun c hc j v hv => ?_, fun i => ?_, by simp; omega⟩
    · have hj : j < 4 := (List.getElem?_eq_some_iff.1 hv).1
      have e1 : (AP.idle).cells[j]? = some (.pointer none) := by
        have : j = 0 ∨ j = 1 ∨ j = 2 ∨ j = 3 := by omega
        rcases this with rfl | rfl | rfl | rfl <;> rfl
      rw [e1] at hv
      rw [cell_new _ _ _ _ _ hC, HZ.out _ (by omega)]
      exact hv
    · rw [frozen?_alloc_cells]; exact afrozen_out _ _ _ (by omega))
  have SI0 : Hid (SiA w A M B M2 B2 C n (afirstOwn M B M2 B2) (fun _ => .idle) s0 0 W8) := Lib.hid (by
    have kk := K8.out
    have l1 := pmem_lt D5.out.p
    have l2 := ref_lt D5.out.r D5.out.n1
    refine ⟨D5.out.kept kk, CO.out, fun _ _ => trivial, fun j hj => ?_, ?_, by omega, by have := lt_of_cell u0; omega, K5.out.trans kk, kk.some u0, kk.some u1, kk.some u2, kk.some u3, kk.some u4, kk.some u5⟩
    · unfold afirstOwn; rw [if_neg (by omega), if_neg (by omega)]
    · unfold afirstOwn; rw [if_neg (by omega), if_neg (by omega)])
  clear hmk hW8 u0 u1 u2 u3 u4 u5 hC hc6
  go_wp2_with fail
  have hAS := aaccess_same
  have N2 := HS.out.F.N2
  go_loopw [12] (fun i wr => StRelA w A M B M2 B2 C n m3 i wr) (fun i _ => m3 - (intOf i).toNat)
  case atStart => exact ⟨0, _, _, s0, Nat.zero_le _, rfl, SI0.out⟩
  case round =>
    obtain ⟨k, own, st, s, hk, rfl, hI⟩ := hrel
    have HI := Lib.hid hI
    clear hI hmk6
    by_cases hlt : k < m3
    · obtain ⟨g, o, cc, e', _, _, hcell⟩ := H3.out.at (by have := HM3.out; omega)
      cases e'
      obtain ⟨co, wh, d, b0, b1, b2⟩ := aact_cells hcell k (by have := HM3.out; omega)
      have e0 := HI.out.kept.some b0
      have e1 := HI.out.kept.some b1
      have e2 := HI.out.kept.some b2
      obtain ⟨c, hc4, hpk⟩ := apick4 co
      have hc4i : (c : Int) < 4 := by omega
      have act_lt : g < w.heap.size := lt_of_cell b0
      clear hcell b0 b1 b2
      go_wp2_with fail
      refine (hpk _).out.mono ?_
      rintro e w' ⟨rfl, rfl⟩
      by_cases hw0 : wh = 0
      · subst hw0
        have hld := ald_pair (HI.out.co.at_ c hc4)
        go_wp2_with fail
        refine (astep_any own c A M B M2 B2 n s (st c) _ (HI.out.is c hc4) HI.out.d HS.out (by have := HI.out.cnt; omega)).mono ?_
        rintro e w17 ⟨rfl, p', s', hpc, hpi, hd17, hs17, hb17⟩
        have SI := Lib.hid (HI.out.told hc4 hpc hpi hd17 hs17 hb17)
        clear hpc hpi hd17 hs17 hb17 hld e0 e1 e2
        go_wp2_with fail
        refine (p_words M B n s' _ SI.out.d.p).mono ?_
        rintro e v1 ⟨bw, cw, rfl, hb1, hb2, hw, hf, kk1⟩
        have KQ1 := Lib.hid kk1
        go_wp2_with fail
        refine (r_words M2 B2 n s' _ (ref_kept SI.out.d.r SI.out.d.n1 KQ1.out) SI.out.d.n1 SI.out.d.n2).mono ?_
        rintro e v2 ⟨gr, og, cr, rfl, hr, kk2⟩
        have KQ2 := Lib.hid (KQ1.out.trans kk2)
        go_wp2_with fail
        refine (asameWords (f := s'.ws) SI.out.d.n2 (fun i hi => by rw [Nat.zero_add]; exact kk2.some (hw i hi)) hr).mono ?_
        rintro e v3 ⟨rfl, kk3⟩
        have KQ3 := Lib.hid (KQ2.out.trans kk3)
        clear hw hr hf hb1 hb2 kk1 kk2 kk3
        go_wp2_with fail
        refine (p_last M B n s' _ (pmem_kept SI.out.d.p KQ3.out)).mono ?_
        rintro e v4 ⟨rfl, kk4⟩
        have KQ4 := Lib.hid (KQ3.out.trans kk4)
        clear kk4
        go_wp2_with fail
        refine (r_last M2 B2 n s' _ (ref_kept SI.out.d.r SI.out.d.n1 KQ4.out)).mono ?_
        rintro e v5 ⟨rfl, kk5⟩
        have KQ5 := Lib.hid (KQ4.out.trans kk5)
        clear kk5
        go_wp2_with fail
        refine (acount_w (pmem_kept SI.out.d.p KQ5.out)).mono ?_
        rintro e v6 ⟨rfl, kk6⟩
        have KQ6 := Lib.hid (KQ5.out.trans kk6)
        clear kk6
        go_wp2_with fail
        refine (r_count M2 B2 n s' _ (ref_kept SI.out.d.r SI.out.d.n1 KQ6.out)).mono ?_
        rintro e v7 ⟨rfl, kk7⟩
        have KQ7 := Lib.hid (KQ6.out.trans kk7)
        clear kk7
        go_wp2
        go_roundw
        case rel => exact ⟨k + 1, own, aput st c p', s', by omega, by go_num, SI.out.keep KQ7.out⟩
        case measure => simp [intOf]; omega
      · have hb0 : (wh == 0) = false := by simp [hw0]
        by_cases hw1 : wh = 1
        · subst hw1
          clear hw0 hb0
          have z0 := HI.out.t0
          have z1 := HI.out.t1
          have z2 := HI.out.t2
          have z3 := HI.out.t3
          have z4 := HI.out.t4
          have z5 := HI.out.t5
          have hgC : g ≠ C := by
            intro e
            have h1 := lt_of_cell e0
            subst e
            have h2 := HI.out.neC
            omega
          go_wp2_with fail
          go_region_held3 (fun w' => w'.cell? ⟨w.heap.size, 0, none⟩ = some (.int .i64 A.F.T) ∧ w'.cell? ⟨w.heap.size, 1, none⟩ = some (.int .i64 A.F.K) ∧ w'.cell? ⟨w.heap.size, 2, none⟩ = some (.int .i64 A.F.N) ∧ w'.cell? ⟨w.heap.size, 3, none⟩ = some (.int .i64 A.G) ∧ w'.cell? ⟨w.heap.size, 4, none⟩ = some (.int .i64 A.V) ∧ w'.cell? ⟨w.heap.size, 5, none⟩ = some (.int .i64 A.L) ∧ w'.cell? ⟨g, o + k * 3, none⟩ = some (.int .i64 co) ∧ w'.cell? ⟨g, o + k * 3 + 1, none⟩ = some (.int .i64 1) ∧ w'.cell? ⟨g, o + k * 3 + 2, none⟩ = some (.int .i64 d)) (first | (with_reducible exact ⟨x0, x1, x2, x3, x4, x5, x6, x7, x8⟩) | (with_reducible exact ⟨y0, y1, y2, y3, y4, y5, y6, y7, y8⟩) | go_keep) (first
            | (go_at_call 17; refine (abegin_any own c A co 1 d N2 _).mono ?_; rintro e u ⟨p, own', rfl, ho', hp', ku⟩; have KU : Kept wr u := Kept.trans (b := _) (by first | exact Kept.refl _ | exact (Kept.refl _).drew | exact (Kept.refl _).drewN _) ku; have hst := ast_pair (p := p) ((HI.out.co.kept KU).there c hc4); have SB := HI.out.begun KU hc4 hp' (fun j hj => ho' j hj); have bC : But (fun j => j = C) u (u.setCells C (c * 4) p.cells) := abut_setCells (S := fun j => j = C) rfl _ _ _ (But.refl _ _); obtain ⟨wA, hwA⟩ : ∃ wA, wA = u.setCells C (c * 4) p.cells := ⟨_, rfl⟩; rw [← hwA] at hst SB bC; have x0 := KU.some z0; have x1 := KU.some z1; have x2 := KU.some z2; have x3 := KU.some z3; have x4 := KU.some z4; have x5 := KU.some z5; have x6 := KU.some e0; have x7 := KU.some e1; have x8 := KU.some e2; have y0 := SB.t0; have y1 := SB.t1; have y2 := SB.t2; have y3 := SB.t3; have y4 := SB.t4; have y5 := SB.t5; have y6 := bC.some x6 hgC; have y7 := bC.some x7 hgC; have y8 := bC.some x8 hgC; have SI := Lib.hid SB; clear hwA SB))
          clear x0 x1 x2 x3 x4 x5 x6 x7 x8 y0 y1 y2 y3 y4 y5 y6 y7 y8 z0 z1 z2 z3 z4 z5 hst bC KU ku hp' ho'
          go_wp2_with fail
          refine (p_words M B n s _ SI.out.d.p).mono ?_
          rintro e v1 ⟨bw, cw, rfl, hb1, hb2, hw, hf, kk1⟩
          have KQ1 := Lib.hid kk1
          go_wp2_with fail
          refine (r_words M2 B2 n s _ (ref_kept SI.out.d.r SI.out.d.n1 KQ1.out) SI.out.d.n1 SI.out.d.n2).mono ?_
          rintro e v2 ⟨gr, og, cr, rfl, hr, kk2⟩
          have KQ2 := Lib.hid (KQ1.out.trans kk2)
          go_wp2_with fail
          refine (asameWords (f := s.ws) SI.out.d.n2 (fun i hi => by rw [Nat.zero_add]; exact kk2.some (hw i hi)) hr).mono ?_
          rintro e v3 ⟨rfl, kk3⟩
          have KQ3 := Lib.hid (KQ2.out.trans kk3)
          clear hw hr hf hb1 hb2 kk1 kk2 kk3
          go_wp2_with fail
          refine (p_last M B n s _ (pmem_kept SI.out.d.p KQ3.out)).mono ?_
          rintro e v4 ⟨rfl, kk4⟩
          have KQ4 := Lib.hid (KQ3.out.trans kk4)
          clear kk4
          go_wp2_with fail
          refine (r_last M2 B2 n s _ (ref_kept SI.out.d.r SI.out.d.n1 KQ4.out)).mono ?_
          rintro e v5 ⟨rfl, kk5⟩
          have KQ5 := Lib.hid (KQ4.out.trans kk5)
          clear kk5
          go_wp2_with fail
          refine (acount_w (pmem_kept SI.out.d.p KQ5.out)).mono ?_
          rintro e v6 ⟨rfl, kk6⟩
          have KQ6 := Lib.hid (KQ5.out.trans kk6)
          clear kk6
          go_wp2_with fail
          refine (r_count M2 B2 n s _ (ref_kept SI.out.d.r SI.out.d.n1 KQ6.out)).mono ?_
          rintro e v7 ⟨rfl, kk7⟩
          have KQ7 := Lib.hid (KQ6.out.trans kk7)
          clear kk7
          go_wp2
          go_roundw
          case rel => exact ⟨k + 1, own', aput st c p, s, by omega, by go_num, (SI.out.keep KQ7.out).wide⟩
          case measure => simp [intOf]; omega
        · have hb1 : (wh == 1) = false := by simp [hw1]
          by_cases hw2 : wh = 2
          · subst hw2
            clear hw0 hw1 hb0 hb1
            have z0 := HI.out.t0
            have z1 := HI.out.t1
            have z2 := HI.out.t2
            have z3 := HI.out.t3
            have z4 := HI.out.t4
            have z5 := HI.out.t5
            have hgC : g ≠ C := by
              intro e
              have h1 := lt_of_cell e0
              subst e
              have h2 := HI.out.neC
              omega
            go_wp2_with fail
            go_region_held3 (fun w' => w'.cell? ⟨w.heap.size, 0, none⟩ = some (.int .i64 A.F.T) ∧ w'.cell? ⟨w.heap.size, 1, none⟩ = some (.int .i64 A.F.K) ∧ w'.cell? ⟨w.heap.size, 2, none⟩ = some (.int .i64 A.F.N) ∧ w'.cell? ⟨w.heap.size, 3, none⟩ = some (.int .i64 A.G) ∧ w'.cell? ⟨w.heap.size, 4, none⟩ = some (.int .i64 A.V) ∧ w'.cell? ⟨w.heap.size, 5, none⟩ = some (.int .i64 A.L) ∧ w'.cell? ⟨g, o + k * 3, none⟩ = some (.int .i64 co) ∧ w'.cell? ⟨g, o + k * 3 + 1, none⟩ = some (.int .i64 2) ∧ w'.cell? ⟨g, o + k * 3 + 2, none⟩ = some (.int .i64 d)) (first | (with_reducible exact ⟨x0, x1, x2, x3, x4, x5, x6, x7, x8⟩) | (with_reducible exact ⟨y0, y1, y2, y3, y4, y5, y6, y7, y8⟩) | go_keep) (first
              | (go_at_call 17; refine (abegin_any own c A co 2 d N2 _).mono ?_; rintro e u ⟨p, own', rfl, ho', hp', ku⟩; have KU : Kept wr u := Kept.trans (b := _) (by first | exact Kept.refl _ | exact (Kept.refl _).drew | exact (Kept.refl _).drewN _) ku; have hst := ast_pair (p := p) ((HI.out.co.kept KU).there c hc4); have SB := HI.out.begun KU hc4 hp' (fun j hj => ho' j hj); have bC : But (fun j => j = C) u (u.setCells C (c * 4) p.cells) := abut_setCells (S := fun j => j = C) rfl _ _ _ (But.refl _ _); obtain ⟨wA, hwA⟩ : ∃ wA, wA = u.setCells C (c * 4) p.cells := ⟨_, rfl⟩; rw [← hwA] at hst SB bC; have x0 := KU.some z0; have x1 := KU.some z1; have x2 := KU.some z2; have x3 := KU.some z3; have x4 := KU.some z4; have x5 := KU.some z5; have x6 := KU.some e0; have x7 := KU.some e1; have x8 := KU.some e2; have y0 := SB.t0; have y1 := SB.t1; have y2 := SB.t2; have y3 := SB.t3; have y4 := SB.t4; have y5 := SB.t5; have y6 := bC.some x6 hgC; have y7 := bC.some x7 hgC; have y8 := bC.some x8 hgC; have SI := Lib.hid SB; clear hwA SB))
            clear x0 x1 x2 x3 x4 x5 x6 x7 x8 y0 y1 y2 y3 y4 y5 y6 y7 y8 z0 z1 z2 z3 z4 z5 hst bC KU ku hp' ho'
            go_wp2_with fail
            refine (p_words M B n s _ SI.out.d.p).mono ?_
            rintro e v1 ⟨bw, cw, rfl, hb1, hb2, hw, hf, kk1⟩
            have KQ1 := Lib.hid kk1
            go_wp2_with fail
            refine (r_words M2 B2 n s _ (ref_kept SI.out.d.r SI.out.d.n1 KQ1.out) SI.out.d.n1 SI.out.d.n2).mono ?_
            rintro e v2 ⟨gr, og, cr, rfl, hr, kk2⟩
            have KQ2 := Lib.hid (KQ1.out.trans kk2)
            go_wp2_with fail
            refine (asameWords (f := s.ws) SI.out.d.n2 (fun i hi => by rw [Nat.zero_add]; exact kk2.some (hw i hi)) hr).mono ?_
            rintro e v3 ⟨rfl, kk3⟩
            have KQ3 := Lib.hid (KQ2.out.trans kk3)
            clear hw hr hf hb1 hb2 kk1 kk2 kk3
            go_wp2_with fail
            refine (p_last M B n s _ (pmem_kept SI.out.d.p KQ3.out)).mono ?_
            rintro e v4 ⟨rfl, kk4⟩
            have KQ4 := Lib.hid (KQ3.out.trans kk4)
            clear kk4
            go_wp2_with fail
            refine (r_last M2 B2 n s _ (ref_kept SI.out.d.r SI.out.d.n1 KQ4.out)).mono ?_
            rintro e v5 ⟨rfl, kk5⟩
            have KQ5 := Lib.hid (KQ4.out.trans kk5)
            clear kk5
            go_wp2_with fail
            refine (acount_w (pmem_kept SI.out.d.p KQ5.out)).mono ?_
            rintro e v6 ⟨rfl, kk6⟩
            have KQ6 := Lib.hid (KQ5.out.trans kk6)
            clear kk6
            go_wp2_with fail
            refine (r_count M2 B2 n s _ (ref_kept SI.out.d.r SI.out.d.n1 KQ6.out)).mono ?_
            rintro e v7 ⟨rfl, kk7⟩
            have KQ7 := Lib.hid (KQ6.out.trans kk7)
            clear kk7
            go_wp2
            go_roundw
            case rel => exact ⟨k + 1, own', aput st c p, s, by omega, by go_num, (SI.out.keep KQ7.out).wide⟩
            case measure => simp [intOf]; omega
          · have hb2 : (wh == 2) = false := by simp [hw2]
            have SI := HI
            clear hw0 hw1 hw2
            go_wp2_with fail
            refine (p_words M B n s _ SI.out.d.p).mono ?_
            rintro e v1 ⟨bw, cw, rfl, hb1, hb2, hw, hf, kk1⟩
            have KQ1 := Lib.hid kk1
            go_wp2_with fail
            refine (r_words M2 B2 n s _ (ref_kept SI.out.d.r SI.out.d.n1 KQ1.out) SI.out.d.n1 SI.out.d.n2).mono ?_
            rintro e v2 ⟨gr, og, cr, rfl, hr, kk2⟩
            have KQ2 := Lib.hid (KQ1.out.trans kk2)
            go_wp2_with fail
            refine (asameWords (f := s.ws) SI.out.d.n2 (fun i hi => by rw [Nat.zero_add]; exact kk2.some (hw i hi)) hr).mono ?_
            rintro e v3 ⟨rfl, kk3⟩
            have KQ3 := Lib.hid (KQ2.out.trans kk3)
            clear hw hr hf kk1 kk2 kk3
            go_wp2_with fail
            refine (p_last M B n s _ (pmem_kept SI.out.d.p KQ3.out)).mono ?_
            rintro e v4 ⟨rfl, kk4⟩
            have KQ4 := Lib.hid (KQ3.out.trans kk4)
            clear kk4
            go_wp2_with fail
            refine (r_last M2 B2 n s _ (ref_kept SI.out.d.r SI.out.d.n1 KQ4.out)).mono ?_
            rintro e v5 ⟨rfl, kk5⟩
            have KQ5 := Lib.hid (KQ4.out.trans kk5)
            clear kk5
            go_wp2_with fail
            refine (acount_w (pmem_kept SI.out.d.p KQ5.out)).mono ?_
            rintro e v6 ⟨rfl, kk6⟩
            have KQ6 := Lib.hid (KQ5.out.trans kk6)
            clear kk6
            go_wp2_with fail
            refine (r_count M2 B2 n s _ (ref_kept SI.out.d.r SI.out.d.n1 KQ6.out)).mono ?_
            rintro e v7 ⟨rfl, kk7⟩
            have KQ7 := Lib.hid (KQ6.out.trans kk7)
            clear kk7
            go_wp2
            go_roundw
            case rel => exact ⟨k + 1, own, st, s, by omega, by go_num, (SI.out.keep KQ7.out).wide⟩
            case measure => simp [intOf]; omega
    · have hge : m3 ≤ k := by omega
      go_wp2_with fail
      refine (aawake_any _).mono ?_
      rintro e w40 ⟨rfl, k40⟩
      go_wp2
      go_ret
      exact ⟨rfl, HI.out.kept.trans k40⟩
end Go.Proofs.YtbonnfofoepjcaaGreat.Sk
