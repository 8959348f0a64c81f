/- The walk of StackSteps. Written by gen10s.py. -/
import Derived.Test.YtfcompikbeebaaaGreatG20
import Derived.Deep.QuietTactic
import Derived.BigQuiet
set_option linter.unusedVariables false
set_option linter.unusedSimpArgs false

namespace Go.Proofs.YtfcompikbeebaaaGreat.Sk
set_option maxRecDepth 100000
open Go.RowKit
open Wo (St acc wordAt PMem RefIs)
attribute [local go_sem ↓] ldP_named stP_named

theorem make_pairs : ∃ Z : Array Value, (∀ i, i < 24 → Z[i]? = some (.pointer none)) ∧
    ∀ w : World, (Instr.makeSlice 39 (.int .i64 4) (.int .i64 4)).run Tryz.prog w = .ok (.slice (some ⟨w.heap.size, 0, none⟩) 4 4) (w.alloc (.cells Z 50)) := by
  obtain ⟨i0, hi, hz0, hz1, hz2⟩ := info_parts infoPair
  refine ⟨madeCells #[.pointer none, .pointer none, .pointer none, .pointer none, .pointer none, .pointer none] 24, fun i h => ?_, fun w => ?_⟩
  · have hz : ∀ j, j < 6 → (#[Value.pointer none, .pointer none, .pointer none, .pointer none, .pointer none, .pointer none] : Array Value)[j]? = some (.pointer none) := fun j hj => by
      have : j = 0 ∨ j = 1 ∨ j = 2 ∨ j = 3 ∨ j = 4 ∨ j = 5 := by omega
      rcases this with rfl | rfl | rfl | rfl | rfl | rfl <;> rfl
    have hm := hz (i % 6) (by omega)
    have hz2 : ∀ j, j < 6 → ([Value.pointer none, .pointer none, .pointer none, .pointer none, .pointer none, .pointer none] : List Value)[j]? = some (.pointer none) := fun j hj => by
      have : j = 0 ∨ j = 1 ∨ j = 2 ∨ j = 3 ∨ j = 4 ∨ j = 5 := by omega
      rcases this with rfl | rfl | rfl | rfl | rfl | rfl <;> rfl
    have hm2 := hz2 (i % 6) (by omega)
    simp [madeCells, h, Array.getElem!_eq_getD, Array.getD_eq_getD_getElem?, hm2]
  · have h := run_makeSlice (P := Tryz.prog) w 39 50 i0 (.agg #[.pointer none, .pointer none, .pointer none, .pointer none, .pointer none, .pointer none]) Tryz.underlying39 hi hz0 .i64 .i64 4 4 (by omega) (Int.le_refl _) (by rw [hz1]; decide) (by rw [hz2]; decide) (by decide)
    rw [h, hz1]
    rfl

theorem chnLen_le (n : Nat) (f : Nat → Int) (S : Stk) : ∀ r j, chnLen n f S r j ≤ j + r
  | 0, j => Nat.le_refl _
  | r + 1, j => by
    unfold chnLen
    split
    · omega
    · have := chnLen_le n f S r (j + 1); omega
theorem chn_length (n : Nat) (f : Nat → Int) (S : Stk) : (chn n f S).length ≤ S.N.toNat := by
  unfold chn
  rw [sqs_length]
  have := chnLen_le n f S S.N.toNat 0
  omega
def cut (own : Nat → Nat) (n k : Nat) : Nat := if k < n then own k else 2
theorem cut_old {own : Nat → Nat} {n : Nat} : ∀ k, k < n → cut own n k = own k := fun k hk => by unfold cut; rw [if_pos hk]
theorem cut_new {own : Nat → Nat} {n k : Nat} (h : n ≤ k) : cut own n k = 2 := by unfold cut; rw [if_neg (by omega)]

structure StI (w0 : World) (S : Stk) (M B M2 B2 C n : Nat) (own : Nat → Nat) (st : Nat → PS) (s : St) (k : Nat) (w : World) : Prop where
  d : Duo own w M B M2 B2 n s
  co : Cores w C st
  is : ∀ c, c < 4 → (st c).Is own c S w
  low : ∀ j, j ≤ w0.heap.size → own j = 2
  oC : own C = 2
  cnt : s.cnt ≤ 10000 + k
  neC : w0.heap.size < C
  kept : Kept w0 w
  t0 : w.cell? ⟨w0.heap.size, 0, none⟩ = some (.int .i64 S.T)
  t1 : w.cell? ⟨w0.heap.size, 1, none⟩ = some (.int .i64 S.K)
  t2 : w.cell? ⟨w0.heap.size, 2, none⟩ = some (.int .i64 S.N)
theorem StI.keep {w0 : World} {S : Stk} {M B M2 B2 C n : Nat} {own : Nat → Nat} {st : Nat → PS} {s : St} {k : Nat} {w w' : World} (h : StI w0 S M B M2 B2 C n own st s k w) (kk : Kept w w') : StI w0 S M B M2 B2 C n own st s k w' :=
  ⟨h.d.kept kk, h.co.kept kk, fun c hc => (h.is c hc).kept kk, h.low, h.oC, h.cnt, h.neC, h.kept.trans kk, kk.some h.t0, kk.some h.t1, kk.some h.t2⟩
theorem StI.cut {w0 : World} {S : Stk} {M B M2 B2 C n : Nat} {own : Nat → Nat} {st : Nat → PS} {s : St} {k : Nat} {w : World} (h : StI w0 S M B M2 B2 C n own st s k w) : StI w0 S M B M2 B2 C n (cut own w.heap.size) st s k w :=
  ⟨h.d.owns cut_old, h.co, fun c hc => (h.is c hc).owns cut_old, fun j hj => by unfold Sk.cut; split <;> first | exact h.low j hj | rfl, by rw [cut_old _ h.co.lt]; exact h.oC, h.cnt, h.neC, h.kept, h.t0, h.t1, h.t2⟩
theorem StI.told {w0 : World} {S : Stk} {M B M2 B2 C n : Nat} {own : Nat → Nat} {st : Nat → PS} {s : St} {k : Nat} {w w' : World} (h : StI w0 S M B M2 B2 C n own st s k w) {c : Nat} (hc : c < 4) {p' : PS} {s' : St} (hp : p'.cells = (st c).cells) (hi : p'.Is own c S w') (hd : Duo own w' M B M2 B2 n s') (hs : s'.cnt ≤ s.cnt + 1) (hb : But (mine own c) w w') :
    StI w0 S M B M2 B2 C n own (put st c p') s' (k + 1) w' := by
  have nm : ∀ j, own j = 2 → ¬ mine own c j := fun j hj h => by unfold mine at h; omega
  refine ⟨hd, ?_, fun q hq => ?_, h.low, h.oC, by have := h.cnt; omega, h.neC, ((h.kept.but (fun j => mine own c j)).trans hb (fun _ _ h => h)).kept fun j hj => nm j (h.low j (by omega)), hb.some h.t0 (nm _ (h.low _ (Nat.le_refl _))), hb.some h.t1 (nm _ (h.low _ (Nat.le_refl _))), hb.some h.t2 (nm _ (h.low _ (Nat.le_refl _)))⟩
  · have h2 := h.co.frame hb (nm _ h.oC)
    refine ⟨fun q hq => ?_, h2.f, h2.lt⟩
    unfold put
    by_cases e : q = c
    · subst e; rw [if_pos rfl, hp]; exact h2.at_ q hq
    · rw [if_neg e]; exact h2.at_ q hq
  · unfold put
    by_cases e : q = c
    · subst e; rw [if_pos rfl]; exact hi
    · rw [if_neg e]
      exact (h.is q hq).frame hb (fun j hj => by unfold mine at hj; omega)
theorem StI.free {w0 : World} {S : Stk} {M B M2 B2 C n : Nat} {own : Nat → Nat} {st : Nat → PS} {s : St} {k b : Nat} {w w' : World} (h : StI w0 S M B M2 B2 C n own st s k w) (hb : But (fun j => b ≤ j) w w') (ho : ∀ j, b ≤ j → own j = 2) (hC : C < b) (hw : w0.heap.size < b) : StI w0 S M B M2 B2 C n own st s k w' := by
  refine ⟨h.d.frame hb (fun j hj => by rw [ho j hj]; omega), h.co.frame hb (by omega), fun q hq => (h.is q hq).frame hb (fun j hj => by rw [ho j hj]; omega), h.low, h.oC, h.cnt, h.neC, ((h.kept.but (fun j => b ≤ j)).trans hb (fun _ _ h => h)).kept fun j hj => by omega, hb.some h.t0 (by omega), hb.some h.t1 (by omega), hb.some h.t2 (by omega)⟩
theorem StI.begun {w0 : World} {S : Stk} {M B M2 B2 C n : Nat} {own own' : Nat → Nat} {st : Nat → PS} {s : St} {k : Nat} {w u : World} (h : StI w0 S M B M2 B2 C n own st s k w) (ku : Kept w u) {c : Nat} (hc : c < 4) {p : PS} (hi : p.Is own' c S u) (ho : ∀ j, j < w.heap.size → own' j = own j) :
    StI w0 S M B M2 B2 C n own' (put st c p) s k (u.setCells C (c * 6) p.cells) := by
  have hb : But (fun j => j = C) u (u.setCells C (c * 6) p.cells) := but_setCells (S := fun j => j = C) rfl _ _ _ (But.refl _ _)
  have oC : own' C = 2 := (ho _ h.co.lt).trans h.oC
  have hw : w0.heap.size < w.heap.size := lt_of_cell h.t0
  have h2 : StI w0 S M B M2 B2 C n own' st s k u := by
    have h1 := h.keep ku
    exact ⟨(h.d.owns ho).kept ku, h1.co, fun q hq => ((h.is q hq).owns ho).kept ku, fun j hj => (ho j (by omega)).trans (h.low j hj), oC, h.cnt, h.neC, h1.kept, h1.t0, h1.t1, h1.t2⟩
  have hn := h.neC
  refine ⟨h2.d.frame hb (fun j hj => by rw [hj, oC]; omega), h2.co.set hc p, fun q hq => ?_, h2.low, h2.oC, h2.cnt, h2.neC, ((h2.kept.but (fun j => j = C)).trans hb (fun _ _ h => h)).kept fun j hj => by omega, hb.some h2.t0 (by omega), hb.some h2.t1 (by omega), hb.some h2.t2 (by omega)⟩
  unfold put
  by_cases e : q = c
  · subst e; rw [if_pos rfl]; exact hi.frame hb (fun j hj => by rw [hj, oC]; omega)
  · rw [if_neg e]; exact (h2.is q hq).frame hb (fun j hj => by rw [hj, oC]; omega)

def StRel (w0 : World) (S : Stk) (M B M2 B2 C n L : Nat) (i : Value) (w : World) : Prop := ∃ (k : Nat) (own : Nat → Nat) (st : Nat → PS) (s : St), k ≤ L ∧ i = .int .i64 k ∧ StI w0 S M B M2 B2 C n own st s k w

theorem act_cells {w : World} {g o : Nat} {l : List (Int × Int × Int)} (h : ∀ j u, (l.flatMap actc)[j]? = some u → w.cell? ⟨g, o + j, none⟩ = some u) (k : Nat) (hk : k < l.length) :
    ∃ co wh i : Int, w.cell? ⟨g, o + k * 3, none⟩ = some (.int .i64 co) ∧ w.cell? ⟨g, o + k * 3 + 1, none⟩ = some (.int .i64 wh) ∧ w.cell? ⟨g, o + k * 3 + 2, none⟩ = some (.int .i64 i) := by
  obtain ⟨a, ha⟩ : ∃ a, l[k]? = some a := ⟨_, List.getElem?_eq_getElem hk⟩
  refine ⟨a.1, a.2.1, a.2.2, ?_, ?_, ?_⟩
  · have := h (k * 3 + 0) (.int .i64 a.1) (by rw [wide_get actc_length l k 0 a ha (by decide)]; rfl)
    simpa [Nat.add_assoc] using this
  · have := h (k * 3 + 1) (.int .i64 a.2.1) (by rw [wide_get actc_length l k 1 a ha (by decide)]; rfl)
    simpa [Nat.add_assoc] using this
  · have := h (k * 3 + 2) (.int .i64 a.2.2) (by rw [wide_get actc_length l k 2 a ha (by decide)]; rfl)
    simpa [Nat.add_assoc] using this

set_option maxHeartbeats 8000000 in
theorem steps_main (S : Stk) (n : Nat) (li : List Int) (la : List (Int × Int × Int)) (a2 a3 : Option Addr) (c2 c3 : Nat) (w : World) (h2 : Lay w (.slice a2 li.length c2) li.length (words li)) (hr : ∀ x ∈ li, 0 ≤ x ∧ x < 18446744073709551616) (h3 : Lay w (.slice a3 la.length c3) la.length (la.flatMap actc))
    (hF : fitsE S n = 0) (hN : S.N ≤ 20) (hn : n ≤ 60) (hl2 : li.length ≤ 60) (hl3 : la.length ≤ 100) :
    Calls Tryz.prog 3 #[.agg #[.int .i64 S.T, .int .i64 S.K, .int .i64 S.N], .int .i64 n, .slice a2 li.length c2, .slice a3 la.length c3] w fun e w' => e = .returned (.bool true) ∧ Kept w w' := by
  obtain ⟨hS, hn1, _⟩ := fitsE_ok hF
  rw [Int.toNat_natCast] at hS
  have HS := Lib.hid hS
  have HF := Lib.hid hF
  have H2 := Lib.hid h2
  have H3 := Lib.hid h3
  have HR := Lib.hid hr
  obtain ⟨m2, hm2⟩ : ∃ m, m = li.length := ⟨_, rfl⟩
  obtain ⟨m3, hm3⟩ : ∃ m, m = la.length := ⟨_, rfl⟩
  have HM2 := Lib.hid hm2
  have HM3 := Lib.hid hm3
  rw [← hm2] at hl2 ⊢
  rw [← hm3] at hl3 ⊢
  have g2 : (m2 : Int) ≤ 60 := by omega
  have g3 : (m3 : Int) ≤ 100 := by omega
  have gn : (n : Int) ≤ 60 := by omega
  clear hS hF h2 h3 hr hm2 hm3
  go_enter Tryz.func3, Tryz.ntmps3
  go_upto_region 1 with fail
  obtain ⟨W1, hW1⟩ : ∃ W1, W1 = w.alloc (.cells #[.int .i64 S.T, .int .i64 S.K, .int .i64 S.N] 23) := ⟨_, rfl⟩
  have t0 : W1.cell? ⟨w.heap.size, 0, none⟩ = some (.int .i64 S.T) := by rw [hW1]; exact cell_new w _ _ _ 0 rfl
  have t1 : W1.cell? ⟨w.heap.size, 1, none⟩ = some (.int .i64 S.K) := by rw [hW1]; exact cell_new w _ _ _ 1 rfl
  have t2 : W1.cell? ⟨w.heap.size, 2, none⟩ = some (.int .i64 S.N) := by rw [hW1]; exact cell_new w _ _ _ 2 rfl
  have k1 : Kept w W1 := by rw [hW1]; exact (Kept.refl w).alloc _ _
  rw [← hW1]
  have K1 := Lib.hid k1
  clear hW1 k1
  have FP : ∀ W, Hid (Calls Tryz.prog 4 #[.agg #[.int .i64 S.T, .int .i64 S.K, .int .i64 S.N], .int .i64 n] W fun e w' => e = .returned (.int .i64 0) ∧ Kept W w') := fun W => Lib.hid (by have h := pfits_any S n W; rw [HF.out] at h; exact h)
  have FR : ∀ W, Hid (Calls Tryz.prog 5 #[.agg #[.int .i64 S.T, .int .i64 S.K, .int .i64 S.N], .int .i64 n] W fun e w' => e = .returned (.int .i64 0) ∧ Kept W w') := fun W => Lib.hid (by have h := rfits_any S n W; rw [HF.out] at h; exact h)
  go_region_held3 (fun w' => w'.cell? ⟨w.heap.size, 0, none⟩ = some (.int .i64 S.T) ∧ w'.cell? ⟨w.heap.size, 1, none⟩ = some (.int .i64 S.K) ∧ w'.cell? ⟨w.heap.size, 2, none⟩ = some (.int .i64 S.N)) (first | go_keep | (exact ⟨k2.some t0, k2.some t1, k2.some t2⟩) | (exact ⟨d0, d1, d2⟩)) (first
    | (go_at_call 4; refine (FP _).out.mono ?_; rintro e w2 ⟨rfl, k2⟩; have KT : Kept W1 w2 := Kept.trans (b := _) (by first | exact Kept.refl _ | exact (Kept.refl _).drew | exact (Kept.refl _).drewN _) k2)
    | (go_at_call 5; refine (FR _).out.mono ?_; rintro e w3 ⟨rfl, k3⟩; have KU : Kept W1 w3 := Kept.trans (b := _) (by first | exact KT | exact KT.drew | exact KT.drewN _) k3; have d0 := KU.some t0; have d1 := KU.some t1; have d2 := KU.some t2))
  have K3 := Lib.hid (K1.out.trans KU)
  clear t0 t1 t2 k2 k3 KT KU K1
  rename_i hcells
  clear hcells
  go_wp2_with fail
  refine (FR _).out.mono ?_
  rintro e w4 ⟨rfl, k4⟩
  have t0 := k4.some d0
  have t1 := k4.some d1
  have t2 := k4.some d2
  have K4 := Lib.hid (K3.out.trans k4)
  clear d0 d1 d2 k4
  go_wp2_with fail
  have hlaid : Calls Tryz.prog 7 #[.agg #[.int .i64 S.T, .int .i64 S.K, .int .i64 S.N], .int .i64 n, .slice a2 m2 c2] w4 (LaidPost n w4) := by
    have h := laid_any S n HS.out li (by have := HM2.out; omega) a2 c2 w4 (H2.out.kept K4.out) HR.out
    rw [← HM2.out] at h
    exact h
  refine hlaid.mono ?_
  rintro e w5 ⟨M, B, M2, B2, s0, rfl, hd5, hs5, k5, lM, lB, lM2, lB2⟩
  have D5 := Lib.hid hd5
  have K5 := Lib.hid (K4.out.trans k5)
  have hc6 := hd5.r.c6
  have u0 := k5.some t0
  have u1 := k5.some t1
  have u2 := k5.some t2
  have z4 : w.heap.size < w4.heap.size := lt_of_cell t0
  clear hlaid hd5 k5 t0 t1 t2
  go_wp2_with fail
  go_region_held3 (fun w' => w'.cell? ⟨M2, 6, none⟩ = some (.int .i64 s0.cnt)) (first | go_keep | assumption) (first
    | (go_at_call 8; refine (p_count M B n s0 _ (D5.out.kept (by first | exact Kept.refl _ | exact (Kept.refl _).drew | exact (Kept.refl _).drewN _)).p).mono ?_; rintro e w6 ⟨rfl, rfl⟩))
  rename_i hcells
  clear hcells hc6
  obtain ⟨Z, hZ, hmk⟩ := make_pairs
  have HZ := Lib.hid hZ
  clear hZ
  obtain ⟨W6, hW6⟩ : ∃ W, W = w5.drew := ⟨_, rfl⟩
  rw [← hW6]
  have hmk6 := hmk W6
  have z6 : W6.heap.size = w5.heap.size := by rw [hW6]; rfl
  have k6 : Kept w5 W6 := by rw [hW6]; exact (Kept.refl _).drew
  have K6 := Lib.hid k6
  obtain ⟨C, hC⟩ : ∃ C, C = W6.heap.size := ⟨_, rfl⟩
  rw [← hC] at hmk6
  obtain ⟨W8, hW8⟩ : ∃ W, W = W6.alloc (.cells Z 50) := ⟨_, rfl⟩
  rw [← hW8] at hmk6
  have K8 : Hid (Kept W6 W8) := Lib.hid (by rw [hW8]; exact (Kept.refl _).alloc _ _)
  have CO : Hid (Cores W8 C (fun _ => .idle)) := Lib.hid (by
    rw [hW8]
    refine ⟨fun c hc j v hv => ?_, fun i => ?_, by simp; omega⟩
    · have hj : j < 6 := (List.getElem?_eq_some_iff.1 hv).1
      have e1 : (PS.idle).cells[j]? = some (.pointer none) := by
        have : j = 0 ∨ j = 1 ∨ j = 2 ∨ j = 3 ∨ j = 4 ∨ j = 5 := by omega
        rcases this with rfl | rfl | rfl | rfl | rfl | rfl <;> rfl
      rw [e1] at hv
      rw [cell_new _ _ _ _ _ hC, HZ.out _ (by omega)]
      exact hv
    · rw [frozen?_alloc_cells]; exact frozen_new _ _ _ (by omega))
  have SI0 : Hid (StI w S M B M2 B2 C n (firstOwn M B M2 B2) (fun _ => .idle) s0 0 W8) := Lib.hid (by
    have kk := K6.out.trans K8.out
    have l1 := pmem_lt D5.out.p
    have l2 := ref_lt D5.out.r D5.out.n1
    refine ⟨D5.out.kept kk, CO.out, fun _ _ => trivial, fun j hj => ?_, ?_, by omega, by have := lt_of_cell u0; omega, K5.out.trans kk, kk.some u0, kk.some u1, kk.some u2⟩
    · unfold firstOwn; rw [if_neg (by omega), if_neg (by omega)]
    · unfold firstOwn; rw [if_neg (by omega), if_neg (by omega)])
  clear hmk hW6 k6 hW8 u0 u1 u2 z6 hC
  go_wp2_with fail
  have hAS := access_same
  go_loopw [12] (fun i wr => StRel w S M B M2 B2 C n m3 i wr) (fun i _ => m3 - (intOf i).toNat)
  case atStart => exact ⟨0, _, _, s0, Nat.zero_le _, rfl, SI0.out⟩
  case round =>
    obtain ⟨k, own, st, s, hk, rfl, hI⟩ := hrel
    have HI := Lib.hid hI
    clear hI hmk6
    by_cases hlt : k < m3
    · obtain ⟨g, o, cc, e', _, _, hcell⟩ := H3.out.at (by have := HM3.out; omega)
      cases e'
      obtain ⟨co, wh, ix, b0, b1, b2⟩ := act_cells hcell k (by have := HM3.out; omega)
      have e0 := HI.out.kept.some b0
      have e1 := HI.out.kept.some b1
      have e2 := HI.out.kept.some b2
      obtain ⟨c, hc4, hpk⟩ := pick4 co
      have hc4i : (c : Int) < 4 := by omega
      have act_lt : g < w.heap.size := lt_of_cell b0
      clear hcell b0 b1 b2
      go_wp2_with fail
      refine (hpk _).out.mono ?_
      rintro e w' ⟨rfl, rfl⟩
      by_cases hw0 : wh = 0
      · subst hw0
        obtain ⟨wA, hwA⟩ : ∃ wA, wA = wr := ⟨_, rfl⟩
        subst hwA
        have SI := Lib.hid HI.out.cut
        have z0 := SI.out.t0
        have z1 := SI.out.t1
        have z2 := SI.out.t2
        go_wp2_with fail
        refine (p_chain S SI.out.d.p SI.out.d.wd HS.out).mono ?_
        rintro e w16 ⟨a16, c16, rfl, k16, own16⟩
        have S16 := Lib.hid (SI.out.keep k16)
        have O16 := Lib.hid own16
        have K16 := Lib.hid k16
        clear k16 own16 z0 z1 z2
        go_upto_region 17 with fail
        have KD : Kept w16 w16.drew := (Kept.refl _).drew
        refine wp_region_held_drew (S := fun w' => (ldP (.pointer (some ⟨C, c * 6, none⟩))).run Tryz.prog w' = .ok (.agg (st c).cells.toArray) w') (by kernel_rfl) ?_ (fun hHeld => ?_)
        · exact ld_pair ((S16.out.keep KD).co.at_ c hc4)
        refine take_on (i := 0) (oi := ?_) (v := ?_) ?_ (by kernel_rfl) ?_ ?_ ?_ hHeld ?_; rotate_left 2; (focus (simp only [List.getElem?_toArray, List.getElem?_cons_zero]; exact rfl)); (focus (rfl)); (focus (intro w hSw; (try dsimp only at hSw); go_simp <;> with_reducible rfl)); (focus (exact fun _ _ _ h => h)); simp only [Act.put, List.setIfInBounds_toArray, List.set_cons_zero, List.set_cons_succ]
        refine take_on (i := 1) (oi := ?_) (v := ?_) ?_ (by kernel_rfl) ?_ ?_ ?_ hHeld ?_; rotate_left 2; (focus (simp only [List.getElem?_toArray, List.getElem?_cons_succ, List.getElem?_cons_zero]; exact rfl)); (focus (rfl)); (focus (intro w hSw; (try dsimp only at hSw); go_simp <;> with_reducible rfl)); (focus (exact fun _ _ _ h => h)); simp only [Act.put, List.setIfInBounds_toArray, List.set_cons_zero, List.set_cons_succ]
        refine take_on (i := 2) (oi := ?_) (v := ?_) ?_ (by kernel_rfl) ?_ ?_ ?_ hHeld ?_; rotate_left 2; (focus (simp only [List.getElem?_toArray, List.getElem?_cons_succ, List.getElem?_cons_zero]; exact rfl)); (focus (rfl)); (focus (intro w hSw; (try dsimp only at hSw); go_simp <;> with_reducible rfl)); (focus (exact fun _ _ _ h => h)); simp only [Act.put, List.setIfInBounds_toArray, List.set_cons_zero, List.set_cons_succ]
        refine take_on (i := 3) (oi := ?_) (v := ?_) ?_ (by kernel_rfl) ?_ ?_ ?_ hHeld ?_; rotate_left 2; (focus (simp only [List.getElem?_toArray, List.getElem?_cons_succ, List.getElem?_cons_zero]; exact rfl)); (focus (rfl)); (focus (intro w hSw; (try dsimp only at hSw); go_simp <;> with_reducible rfl)); (focus (exact fun _ _ _ h => h)); simp only [Act.put, List.setIfInBounds_toArray, List.set_cons_zero, List.set_cons_succ]
        refine take_on (i := 4) (oi := ?_) (v := ?_) ?_ (by kernel_rfl) ?_ ?_ ?_ hHeld ?_; rotate_left 2; (focus (simp only [List.getElem?_toArray, List.getElem?_cons_succ, List.getElem?_cons_zero]; exact rfl)); (focus (rfl)); (focus (intro w hSw; (try dsimp only at hSw); go_simp <;> with_reducible rfl)); (focus (exact fun _ _ _ h => h)); simp only [Act.put, List.setIfInBounds_toArray, List.set_cons_zero, List.set_cons_succ]
        refine take_on (i := 5) (oi := ?_) (v := ?_) ?_ (by kernel_rfl) ?_ ?_ ?_ hHeld ?_; rotate_left 2; (focus (simp only [List.getElem?_toArray, List.getElem?_cons_succ, List.getElem?_cons_zero]; exact rfl)); (focus (rfl)); (focus (intro w hSw; (try dsimp only at hSw); go_simp <;> with_reducible rfl)); (focus (exact fun _ _ _ h => h)); simp only [Act.put, List.setIfInBounds_toArray, List.set_cons_zero, List.set_cons_succ]
        refine take_on (i := 6) (oi := ?_) (v := ?_) ?_ (by kernel_rfl) ?_ ?_ ?_ hHeld ?_; rotate_left 2; (focus (simp only [List.getElem?_toArray, List.getElem?_cons_succ, List.getElem?_cons_zero]; exact rfl)); (focus (rfl)); (focus (intro w hSw; (try dsimp only at hSw); go_simp <;> with_reducible rfl)); (focus (exact fun _ _ _ h => h)); simp only [Act.put, List.setIfInBounds_toArray, List.set_cons_zero, List.set_cons_succ]
        refine wpAnyH_ready (rs := [7]) (by kernel_rfl) (by simp) ?_
        refine AllReadyH.cons (o := ?_) ?_ ?_ AllReadyH.nil
        rotate_left 1
        · simp only [List.getElem?_toArray, List.getElem?_cons_succ, List.getElem?_cons_zero]; exact rfl
        intro K hK
        go_simp
        go_at_call 12; refine (told_any (cut own wA.heap.size) c S M B M2 B2 n s (st c) true _ ((S16.out.keep KD).is c hc4) (S16.out.keep KD).d HS.out (by have := S16.out.cnt; omega)).mono ?_; rintro e w17 ⟨rfl, p', s', hpc, hss, hpi, hd17, hs17, hb17⟩; have S17 := Lib.hid ((S16.out.keep KD).told hc4 hpc hpi hd17 hs17 hb17); have HPC := Lib.hid hpc; have HSS := Lib.hid hss; have O17 := Lib.hid (own_same O16.out fun g hg => (hb17.block g (Nat.lt_of_lt_of_le (O16.out.lt g hg).2 KD.size) (fun hm => by have := cut_new (own := own) (O16.out.lt g hg).1; unfold mine at hm; omega)).trans (KD.below.block g (O16.out.lt g hg).2)); clear hpc hss hpi hd17 hs17 hb17 KD
        go_wp2_with fail
        clear hHeld
        refine hK.out _ _ ?_ (fun hHeld => ?_)
        · exact (by rw [← HPC.out]; have h := ld_pair (S17.out.co.at_ c hc4); unfold put at h; rw [if_pos rfl] at h; exact h)
        clear hK K
        try simp only [Act.put, List.setIfInBounds_toArray, List.set_cons_zero, List.set_cons_succ]
        refine held_mono (S' := fun w' => (ldP (.pointer (some ⟨C, c * 6, none⟩))).run Tryz.prog w' = .ok (.agg (st c).cells.toArray) w' ∧ w'.cell? ⟨M2, 0, none⟩ = some (.slice (some ⟨B2, 0, none⟩) n n) ∧ w'.cell? ⟨M2, 1, none⟩ = some (.int .i64 s'.kind) ∧ w'.cell? ⟨M2, 2, none⟩ = some (.int .i64 s'.at_) ∧ w'.cell? ⟨M2, 3, none⟩ = some (.int .u64 s'.old) ∧ w'.cell? ⟨M2, 4, none⟩ = some (.int .u64 s'.new) ∧ w'.cell? ⟨M2, 5, none⟩ = some (.bool s'.held) ∧ w'.cell? ⟨M2, 6, none⟩ = some (.int .i64 s'.cnt)) (fun _ h => h.1) _ _ _ _ ?_
        have hHeld := And.intro hHeld (And.intro S17.out.d.r.c0 (And.intro S17.out.d.r.c1 (And.intro S17.out.d.r.c2 (And.intro S17.out.d.r.c3 (And.intro S17.out.d.r.c4 (And.intro S17.out.d.r.c5 S17.out.d.r.c6))))))
        refine take_on (i := 8) (oi := ?_) (v := ?_) ?_ (by kernel_rfl) ?_ ?_ ?_ hHeld ?_; rotate_left 2; (focus (simp only [List.getElem?_toArray, List.getElem?_cons_succ, List.getElem?_cons_zero]; exact rfl)); (focus (rfl)); (focus (intro w hSw; (try dsimp only at hSw); go_simp <;> with_reducible rfl)); (focus (exact fun _ _ _ h => h)); simp only [Act.put, List.setIfInBounds_toArray, List.set_cons_zero, List.set_cons_succ]
        refine take_on (i := 9) (oi := ?_) (v := ?_) ?_ (by kernel_rfl) ?_ ?_ ?_ hHeld ?_; rotate_left 2; (focus (simp only [List.getElem?_toArray, List.getElem?_cons_succ, List.getElem?_cons_zero]; exact rfl)); (focus (rfl)); (focus (intro w hSw; (try dsimp only at hSw); go_simp <;> with_reducible rfl)); (focus (exact fun _ _ _ h => h)); simp only [Act.put, List.setIfInBounds_toArray, List.set_cons_zero, List.set_cons_succ]
        refine take_on (i := 10) (oi := ?_) (v := ?_) ?_ (by kernel_rfl) ?_ ?_ ?_ hHeld ?_; rotate_left 2; (focus (simp only [List.getElem?_toArray, List.getElem?_cons_succ, List.getElem?_cons_zero]; exact rfl)); (focus (rfl)); (focus (intro w hSw; (try dsimp only at hSw); go_simp <;> with_reducible rfl)); (focus (exact fun _ _ _ h => h)); simp only [Act.put, List.setIfInBounds_toArray, List.set_cons_zero, List.set_cons_succ]
        refine take_on (i := 12) (oi := ?_) (v := ?_) ?_ (by kernel_rfl) ?_ ?_ ?_ hHeld ?_; rotate_left 2; (focus (simp only [List.getElem?_toArray, List.getElem?_cons_succ, List.getElem?_cons_zero]; exact rfl)); (focus (rfl)); (focus (intro w hSw; (try dsimp only at hSw); go_simp <;> with_reducible rfl)); (focus (exact fun _ _ _ h => h)); simp only [Act.put, List.setIfInBounds_toArray, List.set_cons_zero, List.set_cons_succ]
        refine take_on (i := 13) (oi := ?_) (v := ?_) ?_ (by kernel_rfl) ?_ ?_ ?_ hHeld ?_; rotate_left 2; (focus (simp only [List.getElem?_toArray, List.getElem?_cons_succ, List.getElem?_cons_zero]; exact rfl)); (focus (rfl)); (focus (intro w hSw; (try dsimp only at hSw); go_simp <;> with_reducible rfl)); (focus (exact fun _ _ _ h => h)); simp only [Act.put, List.setIfInBounds_toArray, List.set_cons_zero, List.set_cons_succ]
        refine take_on (i := 14) (oi := ?_) (v := ?_) ?_ (by kernel_rfl) ?_ ?_ ?_ hHeld ?_; rotate_left 2; (focus (simp only [List.getElem?_toArray, List.getElem?_cons_succ, List.getElem?_cons_zero]; exact rfl)); (focus (rfl)); (focus (intro w hSw; (try dsimp only at hSw); go_simp <;> with_reducible rfl)); (focus (exact fun _ _ _ h => h)); simp only [Act.put, List.setIfInBounds_toArray, List.set_cons_zero, List.set_cons_succ]
        refine take_on (i := 15) (oi := ?_) (v := ?_) ?_ (by kernel_rfl) ?_ ?_ ?_ hHeld ?_; rotate_left 2; (focus (simp only [List.getElem?_toArray, List.getElem?_cons_succ, List.getElem?_cons_zero]; exact rfl)); (focus (rfl)); (focus (intro w hSw; (try dsimp only at hSw); go_simp <;> with_reducible rfl)); (focus (exact fun _ _ _ h => h)); simp only [Act.put, List.setIfInBounds_toArray, List.set_cons_zero, List.set_cons_succ]
        refine wpAnyH_ready (rs := [11]) (by kernel_rfl) (by simp) ?_
        refine AllReadyH.cons (o := ?_) ?_ ?_ AllReadyH.nil
        rotate_left 1
        · simp only [List.getElem?_toArray, List.getElem?_cons_succ, List.getElem?_cons_zero]; exact rfl
        intro K hK
        go_simp
        go_at_call 13; refine (p_last M B n s' _ S17.out.d.p).mono ?_; rintro e w18 ⟨rfl, k18⟩; have S18 := Lib.hid (S17.out.keep k18); have K18 := Lib.hid k18; clear k18
        go_wp2_with fail
        clear hHeld
        refine hK.out _ _ ?_ (fun hHeld => ?_)
        · exact ⟨(by rw [← HPC.out]; have h := ld_pair (S18.out.co.at_ c hc4); unfold put at h; rw [if_pos rfl] at h; exact h), S18.out.d.r.c0, S18.out.d.r.c1, S18.out.d.r.c2, S18.out.d.r.c3, S18.out.d.r.c4, S18.out.d.r.c5, S18.out.d.r.c6⟩
        clear hK K
        try simp only [Act.put, List.setIfInBounds_toArray, List.set_cons_zero, List.set_cons_succ]
        refine take_on (i := 16) (oi := ?_) (v := ?_) ?_ (by kernel_rfl) ?_ ?_ ?_ hHeld ?_; rotate_left 2; (focus (simp only [List.getElem?_toArray, List.getElem?_cons_succ, List.getElem?_cons_zero]; exact rfl)); (focus (rfl)); (focus (intro w hSw; (try dsimp only at hSw); go_simp <;> with_reducible rfl)); (focus (exact fun _ _ _ h => h)); simp only [Act.put, List.setIfInBounds_toArray, List.set_cons_zero, List.set_cons_succ]
        refine take_on (i := 17) (oi := ?_) (v := ?_) ?_ (by kernel_rfl) ?_ ?_ ?_ hHeld ?_; rotate_left 2; (focus (simp only [List.getElem?_toArray, List.getElem?_cons_succ, List.getElem?_cons_zero]; exact rfl)); (focus (rfl)); (focus (intro w hSw; (try dsimp only at hSw); go_simp <;> with_reducible rfl)); (focus (exact fun _ _ _ h => h)); simp only [Act.put, List.setIfInBounds_toArray, List.set_cons_zero, List.set_cons_succ]
        refine take_on (i := 18) (oi := ?_) (v := ?_) ?_ (by kernel_rfl) ?_ ?_ ?_ hHeld ?_; rotate_left 2; (focus (simp only [List.getElem?_toArray, List.getElem?_cons_succ, List.getElem?_cons_zero]; exact rfl)); (focus (rfl)); (focus (intro w hSw; (try dsimp only at hSw); go_simp <;> with_reducible rfl)); (focus (exact fun _ _ _ h => h)); simp only [Act.put, List.setIfInBounds_toArray, List.set_cons_zero, List.set_cons_succ]
        refine take_on (i := 19) (oi := ?_) (v := ?_) ?_ (by kernel_rfl) ?_ ?_ ?_ hHeld ?_; rotate_left 2; (focus (simp only [List.getElem?_toArray, List.getElem?_cons_succ, List.getElem?_cons_zero]; exact rfl)); (focus (rfl)); (focus (intro w hSw; (try dsimp only at hSw); go_simp <;> with_reducible rfl)); (focus (exact fun _ _ _ h => h)); simp only [Act.put, List.setIfInBounds_toArray, List.set_cons_zero, List.set_cons_succ]
        refine take_on (i := 21) (oi := ?_) (v := ?_) ?_ (by kernel_rfl) ?_ ?_ ?_ hHeld ?_; rotate_left 2; (focus (simp only [List.getElem?_toArray, List.getElem?_cons_succ, List.getElem?_cons_zero]; exact rfl)); (focus (rfl)); (focus (intro w hSw; (try dsimp only at hSw); go_simp <;> with_reducible rfl)); (focus (exact fun _ _ _ h => h)); simp only [Act.put, List.setIfInBounds_toArray, List.set_cons_zero, List.set_cons_succ]
        refine take_on (i := 22) (oi := ?_) (v := ?_) ?_ (by kernel_rfl) ?_ ?_ ?_ hHeld ?_; rotate_left 2; (focus (simp only [List.getElem?_toArray, List.getElem?_cons_succ, List.getElem?_cons_zero]; exact rfl)); (focus (rfl)); (focus (intro w hSw; (try dsimp only at hSw); go_simp <;> with_reducible rfl)); (focus (exact fun _ _ _ h => h)); simp only [Act.put, List.setIfInBounds_toArray, List.set_cons_zero, List.set_cons_succ]
        refine take_on (i := 23) (oi := ?_) (v := ?_) ?_ (by kernel_rfl) ?_ ?_ ?_ hHeld ?_; rotate_left 2; (focus (simp only [List.getElem?_toArray, List.getElem?_cons_succ, List.getElem?_cons_zero]; exact rfl)); (focus (rfl)); (focus (intro w hSw; (try dsimp only at hSw); go_simp <;> with_reducible rfl)); (focus (exact fun _ _ _ h => h)); simp only [Act.put, List.setIfInBounds_toArray, List.set_cons_zero, List.set_cons_succ]
        refine take_on (i := 24) (oi := ?_) (v := ?_) ?_ (by kernel_rfl) ?_ ?_ ?_ hHeld ?_; rotate_left 2; (focus (simp only [List.getElem?_toArray, List.getElem?_cons_succ, List.getElem?_cons_zero]; exact rfl)); (focus (rfl)); (focus (intro w hSw; (try dsimp only at hSw); go_simp <;> with_reducible rfl)); (focus (exact fun _ _ _ h => h)); simp only [Act.put, List.setIfInBounds_toArray, List.set_cons_zero, List.set_cons_succ]
        refine wpAnyH_ready (rs := [20]) (by kernel_rfl) (by simp) ?_
        refine AllReadyH.cons (o := ?_) ?_ ?_ AllReadyH.nil
        rotate_left 1
        · simp only [List.getElem?_toArray, List.getElem?_cons_succ, List.getElem?_cons_zero]; exact rfl
        intro K hK
        go_simp
        go_at_call 8; refine (p_count M B n s' _ S18.out.d.p).mono ?_; rintro e w19 ⟨rfl, rfl⟩
        go_wp2_with fail
        clear hHeld
        refine hK.out _ _ ?_ (fun hHeld => ?_)
        · exact ⟨(by rw [← HPC.out]; have h := ld_pair (S18.out.co.at_ c hc4); unfold put at h; rw [if_pos rfl] at h; exact h), S18.out.d.r.c0, S18.out.d.r.c1, S18.out.d.r.c2, S18.out.d.r.c3, S18.out.d.r.c4, S18.out.d.r.c5, S18.out.d.r.c6⟩
        clear hK K
        try simp only [Act.put, List.setIfInBounds_toArray, List.set_cons_zero, List.set_cons_succ]
        refine take_on (i := 25) (oi := ?_) (v := ?_) ?_ (by kernel_rfl) ?_ ?_ ?_ hHeld ?_; rotate_left 2; (focus (simp only [List.getElem?_toArray, List.getElem?_cons_succ, List.getElem?_cons_zero]; exact rfl)); (focus (rfl)); (focus (intro w hSw; (try dsimp only at hSw); go_simp <;> with_reducible rfl)); (focus (exact fun _ _ _ h => h)); simp only [Act.put, List.setIfInBounds_toArray, List.set_cons_zero, List.set_cons_succ]
        refine take_on (i := 26) (oi := ?_) (v := ?_) ?_ (by kernel_rfl) ?_ ?_ ?_ hHeld ?_; rotate_left 2; (focus (simp only [List.getElem?_toArray, List.getElem?_cons_succ, List.getElem?_cons_zero]; exact rfl)); (focus (rfl)); (focus (intro w hSw; (try dsimp only at hSw); go_simp <;> with_reducible rfl)); (focus (exact fun _ _ _ h => h)); simp only [Act.put, List.setIfInBounds_toArray, List.set_cons_zero, List.set_cons_succ]
        refine take_on (i := 27) (oi := ?_) (v := ?_) ?_ (by kernel_rfl) ?_ ?_ ?_ hHeld ?_; rotate_left 2; (focus (simp only [List.getElem?_toArray, List.getElem?_cons_succ, List.getElem?_cons_zero]; exact rfl)); (focus (rfl)); (focus (intro w hSw; (try dsimp only at hSw); go_simp <;> with_reducible rfl)); (focus (exact fun _ _ _ h => h)); simp only [Act.put, List.setIfInBounds_toArray, List.set_cons_zero, List.set_cons_succ]
        refine take_on (i := 28) (oi := ?_) (v := ?_) ?_ (by kernel_rfl) ?_ ?_ ?_ hHeld ?_; rotate_left 2; (focus (simp only [List.getElem?_toArray, List.getElem?_cons_succ, List.getElem?_cons_zero]; exact rfl)); (focus (rfl)); (focus (intro w hSw; (try dsimp only at hSw); go_simp <;> with_reducible rfl)); (focus (exact fun _ _ _ h => h)); simp only [Act.put, List.setIfInBounds_toArray, List.set_cons_zero, List.set_cons_succ]
        refine take_on (i := 30) (oi := ?_) (v := ?_) ?_ (by kernel_rfl) ?_ ?_ ?_ hHeld ?_; rotate_left 2; (focus (simp only [List.getElem?_toArray, List.getElem?_cons_succ, List.getElem?_cons_zero]; exact rfl)); (focus (rfl)); (focus (intro w hSw; (try dsimp only at hSw); go_simp <;> with_reducible rfl)); (focus (exact fun _ _ _ h => h)); simp only [Act.put, List.setIfInBounds_toArray, List.set_cons_zero, List.set_cons_succ]
        refine take_on (i := 31) (oi := ?_) (v := ?_) ?_ (by kernel_rfl) ?_ ?_ ?_ hHeld ?_; rotate_left 2; (focus (simp only [List.getElem?_toArray, List.getElem?_cons_succ, List.getElem?_cons_zero]; exact rfl)); (focus (rfl)); (focus (intro w hSw; (try dsimp only at hSw); go_simp <;> with_reducible rfl)); (focus (exact fun _ _ _ h => h)); simp only [Act.put, List.setIfInBounds_toArray, List.set_cons_zero, List.set_cons_succ]
        refine take_on (i := 32) (oi := ?_) (v := ?_) ?_ (by kernel_rfl) ?_ ?_ ?_ hHeld ?_; rotate_left 2; (focus (simp only [List.getElem?_toArray, List.getElem?_cons_succ, List.getElem?_cons_zero]; exact rfl)); (focus (rfl)); (focus (intro w hSw; (try dsimp only at hSw); go_simp <;> with_reducible rfl)); (focus (exact fun _ _ _ h => h)); simp only [Act.put, List.setIfInBounds_toArray, List.set_cons_zero, List.set_cons_succ]
        refine take_on (i := 33) (oi := ?_) (v := ?_) ?_ (by kernel_rfl) ?_ ?_ ?_ hHeld ?_; rotate_left 2; (focus (simp only [List.getElem?_toArray, List.getElem?_cons_succ, List.getElem?_cons_zero]; exact rfl)); (focus (rfl)); (focus (intro w hSw; (try dsimp only at hSw); go_simp <;> with_reducible rfl)); (focus (exact fun _ _ _ h => h)); simp only [Act.put, List.setIfInBounds_toArray, List.set_cons_zero, List.set_cons_succ]
        refine wpAnyH_ready (rs := [29]) (by kernel_rfl) (by simp) ?_
        refine AllReadyH.cons (o := ?_) ?_ ?_ AllReadyH.nil
        rotate_left 1
        · simp only [List.getElem?_toArray, List.getElem?_cons_succ, List.getElem?_cons_zero]; exact rfl
        intro K hK
        go_simp
        go_at_call 15; refine (p_words M B n s' _ S18.out.d.p).mono ?_; rintro e w20 ⟨bw, cw, rfl, hb1, hb2, hw, hf, k20⟩; have S20 := Lib.hid (S18.out.keep k20); have K20 := Lib.hid k20; have HW := Lib.hid hw; clear k20 hw hf hb1 hb2
        go_wp2_with fail
        clear hHeld
        refine hK.out _ _ ?_ (fun hHeld => ?_)
        · exact ⟨(by rw [← HPC.out]; have h := ld_pair (S20.out.co.at_ c hc4); unfold put at h; rw [if_pos rfl] at h; exact h), S20.out.d.r.c0, S20.out.d.r.c1, S20.out.d.r.c2, S20.out.d.r.c3, S20.out.d.r.c4, S20.out.d.r.c5, S20.out.d.r.c6⟩
        clear hK K
        try simp only [Act.put, List.setIfInBounds_toArray, List.set_cons_zero, List.set_cons_succ]
        refine wpAnyH_ready (rs := [34]) (by kernel_rfl) (by simp) ?_
        refine AllReadyH.cons (o := ?_) ?_ ?_ AllReadyH.nil
        rotate_left 1
        · simp only [List.getElem?_toArray, List.getElem?_cons_succ, List.getElem?_cons_zero]; exact rfl
        intro K hK
        go_simp
        go_at_call 14; refine (sameWords (f := s'.ws) S20.out.d.n2 (fun i hi => by rw [Nat.zero_add]; exact HW.out i hi) (fun i hi => by rw [Nat.zero_add]; exact S20.out.d.r.words i hi)).mono ?_; rintro e w21 ⟨rfl, k21⟩; have S21 := Lib.hid (S20.out.keep k21); have O21 := Lib.hid (own_same O17.out fun g hg => (K18.out.trans (K20.out.trans k21)).below.block g (O17.out.lt g hg).2); clear k21 HW O17 O16
        go_wp2_with fail
        clear hHeld
        refine hK.out _ _ ?_ (fun hHeld => ?_)
        · exact ⟨(by rw [← HPC.out]; have h := ld_pair (S21.out.co.at_ c hc4); unfold put at h; rw [if_pos rfl] at h; exact h), S21.out.d.r.c0, S21.out.d.r.c1, S21.out.d.r.c2, S21.out.d.r.c3, S21.out.d.r.c4, S21.out.d.r.c5, S21.out.d.r.c6⟩
        clear hK K
        try simp only [Act.put, List.setIfInBounds_toArray, List.set_cons_zero, List.set_cons_succ]
        refine take_on (i := 35) (oi := ?_) (v := ?_) ?_ (by kernel_rfl) ?_ ?_ ?_ hHeld ?_; rotate_left 2; (focus (simp only [List.getElem?_toArray, List.getElem?_cons_succ, List.getElem?_cons_zero]; exact rfl)); (focus (rfl)); (focus (intro w hSw; (try dsimp only at hSw); go_simp <;> with_reducible rfl)); (focus (exact fun _ _ _ h => h)); simp only [Act.put, List.setIfInBounds_toArray, List.set_cons_zero, List.set_cons_succ]
        refine take_on (i := 36) (oi := ?_) (v := ?_) ?_ (by kernel_rfl) ?_ ?_ ?_ hHeld ?_; rotate_left 2; (focus (simp only [List.getElem?_toArray, List.getElem?_cons_succ, List.getElem?_cons_zero]; exact rfl)); (focus (rfl)); (focus (intro w hSw; (try dsimp only at hSw); go_simp <;> with_reducible rfl)); (focus (exact fun _ _ _ h => h)); simp only [Act.put, List.setIfInBounds_toArray, List.set_cons_zero, List.set_cons_succ]
        refine wpAnyH_done (by kernel_rfl) ?_ _
        clear hHeld
        have z0 := S21.out.t0
        have z1 := S21.out.t1
        have z2 := S21.out.t2
        clear z0 z1 z2
        go_wp2_with fail
        refine (overInts_own O21.out (by have := chn_length n s.ws S; omega)).mono ?_
        rintro e w27 ⟨rfl, b27⟩
        have S27 := Lib.hid (S21.out.free b27 (fun j hj => cut_new hj) SI.out.co.lt (lt_of_cell SI.out.t0))
        clear b27
        have z0 := S27.out.t0
        have z1 := S27.out.t1
        have z2 := S27.out.t2
        go_wp2_with fail
        go_region_held3 (fun w' => w'.cell? ⟨w.heap.size, 0, none⟩ = some (.int .i64 S.T) ∧ w'.cell? ⟨w.heap.size, 1, none⟩ = some (.int .i64 S.K) ∧ w'.cell? ⟨w.heap.size, 2, none⟩ = some (.int .i64 S.N)) (first | go_keep | (exact ⟨x0, x1, x2⟩) | (exact ⟨y0, y1, y2⟩) | (exact ⟨v0, v1, v2⟩)) (first
          | (go_at_call 11; refine (p_chain S (S27.out.keep (by first | exact Kept.refl _ | exact (Kept.refl _).drew | exact (Kept.refl _).drewN _)).d.p S27.out.d.wd HS.out).mono ?_; rintro e w28 ⟨a28, c28, rfl, k28, own28⟩; have K28 : Kept w27 w28 := Kept.trans (b := _) (by first | exact Kept.refl _ | exact (Kept.refl _).drew | exact (Kept.refl _).drewN _) k28; have x0 := K28.some z0; have x1 := K28.some z1; have x2 := K28.some z2)
          | (go_at_call 17; refine (r_chain S (S27.out.keep (by first | exact K28 | exact K28.drew | exact K28.drewN _)).d.r S27.out.d.wd HS.out).mono ?_; rintro e w29 ⟨a29, c29, rfl, k29, own29⟩; have K289 : Kept w28 w29 := Kept.trans (b := _) (by first | exact Kept.refl _ | exact (Kept.refl _).drew | exact (Kept.refl _).drewN _) k29; have K29 := K28.trans K289; have y0 := K29.some z0; have y1 := K29.some z1; have y2 := K29.some z2)
          | (go_at_call 16; refine (sameInts_yes a28 a29 _ c28 c29 (fun i => (chn n s'.ws S).getD i 0) _ (by have := chn_length n s'.ws S; omega) ((reads_own own28).kept (K289.trans (by first | exact Kept.refl _ | exact (Kept.refl _).drew | exact (Kept.refl _).drewN _))) ((reads_own own29).kept (by first | exact Kept.refl _ | exact (Kept.refl _).drew | exact (Kept.refl _).drewN _))).mono ?_; rintro e w30 ⟨rfl, k30⟩; have K30 : Kept w27 w30 := K29.trans (Kept.trans (b := _) (by first | exact Kept.refl _ | exact (Kept.refl _).drew | exact (Kept.refl _).drewN _) k30); have v0 := K30.some z0; have v1 := K30.some z1; have v2 := K30.some z2))
        have S30 := Lib.hid (S27.out.keep K30)
        clear x0 x1 x2 y0 y1 y2 v0 v1 v2 z0 z1 z2 K28 K289 K29 K30 k28 k29 k30 own28 own29
        rename_i hcells
        clear hcells
        go_wp2
        go_roundw
        case rel => exact ⟨k + 1, cut own wA.heap.size, put st c p', s', by omega, by go_num, S30.out⟩
        case measure => simp [intOf]; omega
      · have hb0 : (wh == 0) = false := by simp [hw0]
        by_cases hw1 : 1 ≤ wh
        · by_cases hw3 : wh ≤ 3
          · clear hw0
            have z0 := HI.out.t0
            have z1 := HI.out.t1
            have z2 := HI.out.t2
            have hgC : g ≠ C := by
              intro e
              have h1 := lt_of_cell e0
              subst e
              have h2 := HI.out.neC
              omega
            go_upto_region 15 with fail
            go_region_held3 (fun w' => w'.cell? ⟨w.heap.size, 0, none⟩ = some (.int .i64 S.T) ∧ w'.cell? ⟨w.heap.size, 1, none⟩ = some (.int .i64 S.K) ∧ w'.cell? ⟨w.heap.size, 2, none⟩ = some (.int .i64 S.N) ∧ w'.cell? ⟨g, o + k * 3, none⟩ = some (.int .i64 co) ∧ w'.cell? ⟨g, o + k * 3 + 1, none⟩ = some (.int .i64 wh) ∧ w'.cell? ⟨g, o + k * 3 + 2, none⟩ = some (.int .i64 ix)) (first | go_keep | (exact ⟨x0, x1, x2, x3, x4, x5⟩) | (exact ⟨y0, y1, y2, y3, y4, y5⟩)) (first
              | (go_at_call 10; refine (begin_any own c S co wh ix hw1 hw3 (by omega) _).mono ?_; rintro e u ⟨p, own', rfl, ho', hp', ku⟩; have KU : Kept wr u := Kept.trans (b := _) (by first | exact Kept.refl _ | exact (Kept.refl _).drew | exact (Kept.refl _).drewN _) ku; have hst := st_pair (p := p) ((HI.out.co.kept KU).there c hc4); have SB := HI.out.begun KU hc4 hp' (fun j hj => ho' j hj); have bC : But (fun j => j = C) u (u.setCells C (c * 6) p.cells) := but_setCells (S := fun j => j = C) rfl _ _ _ (But.refl _ _); obtain ⟨wA, hwA⟩ : ∃ wA, wA = u.setCells C (c * 6) p.cells := ⟨_, rfl⟩; rw [← hwA] at hst SB bC; have x0 := KU.some z0; have x1 := KU.some z1; have x2 := KU.some z2; have x3 := KU.some e0; have x4 := KU.some e1; have x5 := KU.some e2; have y0 := SB.t0; have y1 := SB.t1; have y2 := SB.t2; have y3 := bC.some x3 hgC; have y4 := bC.some x4 hgC; have y5 := bC.some x5 hgC; have SI := Lib.hid SB.cut; clear hwA SB))
            clear x0 x1 x2 x3 x4 x5 y0 y1 y2 y3 y4 y5 z0 z1 z2 hst bC KU ku hp' ho'
            rename_i hcells
            clear hcells
            have z0 := SI.out.t0
            have z1 := SI.out.t1
            have z2 := SI.out.t2
            go_wp2_with fail
            refine (p_chain S SI.out.d.p SI.out.d.wd HS.out).mono ?_
            rintro e w16 ⟨a16, c16, rfl, k16, own16⟩
            have S16 := Lib.hid (SI.out.keep k16)
            have O16 := Lib.hid own16
            have K16 := Lib.hid k16
            clear k16 own16 z0 z1 z2
            go_upto_region 17 with fail
            have KD : Kept w16 w16.drew := (Kept.refl _).drew
            refine wp_region_held_drew (S := fun w' => (ldP (.pointer (some ⟨C, c * 6, none⟩))).run Tryz.prog w' = .ok (.agg ((put st c p) c).cells.toArray) w') (by kernel_rfl) ?_ (fun hHeld => ?_)
            · exact ld_pair ((S16.out.keep KD).co.at_ c hc4)
            refine take_on (i := 0) (oi := ?_) (v := ?_) ?_ (by kernel_rfl) ?_ ?_ ?_ hHeld ?_; rotate_left 2; (focus (simp only [List.getElem?_toArray, List.getElem?_cons_zero]; exact rfl)); (focus (rfl)); (focus (intro w hSw; (try dsimp only at hSw); go_simp <;> with_reducible rfl)); (focus (exact fun _ _ _ h => h)); simp only [Act.put, List.setIfInBounds_toArray, List.set_cons_zero, List.set_cons_succ]
            refine take_on (i := 1) (oi := ?_) (v := ?_) ?_ (by kernel_rfl) ?_ ?_ ?_ hHeld ?_; rotate_left 2; (focus (simp only [List.getElem?_toArray, List.getElem?_cons_succ, List.getElem?_cons_zero]; exact rfl)); (focus (rfl)); (focus (intro w hSw; (try dsimp only at hSw); go_simp <;> with_reducible rfl)); (focus (exact fun _ _ _ h => h)); simp only [Act.put, List.setIfInBounds_toArray, List.set_cons_zero, List.set_cons_succ]
            refine take_on (i := 2) (oi := ?_) (v := ?_) ?_ (by kernel_rfl) ?_ ?_ ?_ hHeld ?_; rotate_left 2; (focus (simp only [List.getElem?_toArray, List.getElem?_cons_succ, List.getElem?_cons_zero]; exact rfl)); (focus (rfl)); (focus (intro w hSw; (try dsimp only at hSw); go_simp <;> with_reducible rfl)); (focus (exact fun _ _ _ h => h)); simp only [Act.put, List.setIfInBounds_toArray, List.set_cons_zero, List.set_cons_succ]
            refine take_on (i := 3) (oi := ?_) (v := ?_) ?_ (by kernel_rfl) ?_ ?_ ?_ hHeld ?_; rotate_left 2; (focus (simp only [List.getElem?_toArray, List.getElem?_cons_succ, List.getElem?_cons_zero]; exact rfl)); (focus (rfl)); (focus (intro w hSw; (try dsimp only at hSw); go_simp <;> with_reducible rfl)); (focus (exact fun _ _ _ h => h)); simp only [Act.put, List.setIfInBounds_toArray, List.set_cons_zero, List.set_cons_succ]
            refine take_on (i := 4) (oi := ?_) (v := ?_) ?_ (by kernel_rfl) ?_ ?_ ?_ hHeld ?_; rotate_left 2; (focus (simp only [List.getElem?_toArray, List.getElem?_cons_succ, List.getElem?_cons_zero]; exact rfl)); (focus (rfl)); (focus (intro w hSw; (try dsimp only at hSw); go_simp <;> with_reducible rfl)); (focus (exact fun _ _ _ h => h)); simp only [Act.put, List.setIfInBounds_toArray, List.set_cons_zero, List.set_cons_succ]
            refine take_on (i := 5) (oi := ?_) (v := ?_) ?_ (by kernel_rfl) ?_ ?_ ?_ hHeld ?_; rotate_left 2; (focus (simp only [List.getElem?_toArray, List.getElem?_cons_succ, List.getElem?_cons_zero]; exact rfl)); (focus (rfl)); (focus (intro w hSw; (try dsimp only at hSw); go_simp <;> with_reducible rfl)); (focus (exact fun _ _ _ h => h)); simp only [Act.put, List.setIfInBounds_toArray, List.set_cons_zero, List.set_cons_succ]
            refine take_on (i := 6) (oi := ?_) (v := ?_) ?_ (by kernel_rfl) ?_ ?_ ?_ hHeld ?_; rotate_left 2; (focus (simp only [List.getElem?_toArray, List.getElem?_cons_succ, List.getElem?_cons_zero]; exact rfl)); (focus (rfl)); (focus (intro w hSw; (try dsimp only at hSw); go_simp <;> with_reducible rfl)); (focus (exact fun _ _ _ h => h)); simp only [Act.put, List.setIfInBounds_toArray, List.set_cons_zero, List.set_cons_succ]
            refine wpAnyH_ready (rs := [7]) (by kernel_rfl) (by simp) ?_
            refine AllReadyH.cons (o := ?_) ?_ ?_ AllReadyH.nil
            rotate_left 1
            · simp only [List.getElem?_toArray, List.getElem?_cons_succ, List.getElem?_cons_zero]; exact rfl
            intro K hK
            go_simp
            go_at_call 12; refine (told_any (cut own' wA.heap.size) c S M B M2 B2 n s ((put st c p) c) false _ ((S16.out.keep KD).is c hc4) (S16.out.keep KD).d HS.out (by have := S16.out.cnt; omega)).mono ?_; rintro e w17 ⟨rfl, p', s', hpc, hss, hpi, hd17, hs17, hb17⟩; have S17 := Lib.hid ((S16.out.keep KD).told hc4 hpc hpi hd17 hs17 hb17); have HPC := Lib.hid hpc; have HSS := Lib.hid hss; have O17 := Lib.hid (own_same O16.out fun g hg => (hb17.block g (Nat.lt_of_lt_of_le (O16.out.lt g hg).2 KD.size) (fun hm => by have := cut_new (own := own') (O16.out.lt g hg).1; unfold mine at hm; omega)).trans (KD.below.block g (O16.out.lt g hg).2)); clear hpc hss hpi hd17 hs17 hb17 KD
            go_wp2_with fail
            clear hHeld
            refine hK.out _ _ ?_ (fun hHeld => ?_)
            · exact (by rw [← HPC.out]; have h := ld_pair (S17.out.co.at_ c hc4); unfold put at h; rw [if_pos rfl] at h; exact h)
            clear hK K
            try simp only [Act.put, List.setIfInBounds_toArray, List.set_cons_zero, List.set_cons_succ]
            refine held_mono (S' := fun w' => (ldP (.pointer (some ⟨C, c * 6, none⟩))).run Tryz.prog w' = .ok (.agg ((put st c p) c).cells.toArray) w' ∧ w'.cell? ⟨M2, 0, none⟩ = some (.slice (some ⟨B2, 0, none⟩) n n) ∧ w'.cell? ⟨M2, 1, none⟩ = some (.int .i64 s'.kind) ∧ w'.cell? ⟨M2, 2, none⟩ = some (.int .i64 s'.at_) ∧ w'.cell? ⟨M2, 3, none⟩ = some (.int .u64 s'.old) ∧ w'.cell? ⟨M2, 4, none⟩ = some (.int .u64 s'.new) ∧ w'.cell? ⟨M2, 5, none⟩ = some (.bool s'.held) ∧ w'.cell? ⟨M2, 6, none⟩ = some (.int .i64 s'.cnt)) (fun _ h => h.1) _ _ _ _ ?_
            have hHeld := And.intro hHeld (And.intro S17.out.d.r.c0 (And.intro S17.out.d.r.c1 (And.intro S17.out.d.r.c2 (And.intro S17.out.d.r.c3 (And.intro S17.out.d.r.c4 (And.intro S17.out.d.r.c5 S17.out.d.r.c6))))))
            refine take_on (i := 8) (oi := ?_) (v := ?_) ?_ (by kernel_rfl) ?_ ?_ ?_ hHeld ?_; rotate_left 2; (focus (simp only [List.getElem?_toArray, List.getElem?_cons_succ, List.getElem?_cons_zero]; exact rfl)); (focus (rfl)); (focus (intro w hSw; (try dsimp only at hSw); go_simp <;> with_reducible rfl)); (focus (exact fun _ _ _ h => h)); simp only [Act.put, List.setIfInBounds_toArray, List.set_cons_zero, List.set_cons_succ]
            refine take_on (i := 9) (oi := ?_) (v := ?_) ?_ (by kernel_rfl) ?_ ?_ ?_ hHeld ?_; rotate_left 2; (focus (simp only [List.getElem?_toArray, List.getElem?_cons_succ, List.getElem?_cons_zero]; exact rfl)); (focus (rfl)); (focus (intro w hSw; (try dsimp only at hSw); go_simp <;> with_reducible rfl)); (focus (exact fun _ _ _ h => h)); simp only [Act.put, List.setIfInBounds_toArray, List.set_cons_zero, List.set_cons_succ]
            refine take_on (i := 10) (oi := ?_) (v := ?_) ?_ (by kernel_rfl) ?_ ?_ ?_ hHeld ?_; rotate_left 2; (focus (simp only [List.getElem?_toArray, List.getElem?_cons_succ, List.getElem?_cons_zero]; exact rfl)); (focus (rfl)); (focus (intro w hSw; (try dsimp only at hSw); go_simp <;> with_reducible rfl)); (focus (exact fun _ _ _ h => h)); simp only [Act.put, List.setIfInBounds_toArray, List.set_cons_zero, List.set_cons_succ]
            refine take_on (i := 12) (oi := ?_) (v := ?_) ?_ (by kernel_rfl) ?_ ?_ ?_ hHeld ?_; rotate_left 2; (focus (simp only [List.getElem?_toArray, List.getElem?_cons_succ, List.getElem?_cons_zero]; exact rfl)); (focus (rfl)); (focus (intro w hSw; (try dsimp only at hSw); go_simp <;> with_reducible rfl)); (focus (exact fun _ _ _ h => h)); simp only [Act.put, List.setIfInBounds_toArray, List.set_cons_zero, List.set_cons_succ]
            refine take_on (i := 13) (oi := ?_) (v := ?_) ?_ (by kernel_rfl) ?_ ?_ ?_ hHeld ?_; rotate_left 2; (focus (simp only [List.getElem?_toArray, List.getElem?_cons_succ, List.getElem?_cons_zero]; exact rfl)); (focus (rfl)); (focus (intro w hSw; (try dsimp only at hSw); go_simp <;> with_reducible rfl)); (focus (exact fun _ _ _ h => h)); simp only [Act.put, List.setIfInBounds_toArray, List.set_cons_zero, List.set_cons_succ]
            refine take_on (i := 14) (oi := ?_) (v := ?_) ?_ (by kernel_rfl) ?_ ?_ ?_ hHeld ?_; rotate_left 2; (focus (simp only [List.getElem?_toArray, List.getElem?_cons_succ, List.getElem?_cons_zero]; exact rfl)); (focus (rfl)); (focus (intro w hSw; (try dsimp only at hSw); go_simp <;> with_reducible rfl)); (focus (exact fun _ _ _ h => h)); simp only [Act.put, List.setIfInBounds_toArray, List.set_cons_zero, List.set_cons_succ]
            refine take_on (i := 15) (oi := ?_) (v := ?_) ?_ (by kernel_rfl) ?_ ?_ ?_ hHeld ?_; rotate_left 2; (focus (simp only [List.getElem?_toArray, List.getElem?_cons_succ, List.getElem?_cons_zero]; exact rfl)); (focus (rfl)); (focus (intro w hSw; (try dsimp only at hSw); go_simp <;> with_reducible rfl)); (focus (exact fun _ _ _ h => h)); simp only [Act.put, List.setIfInBounds_toArray, List.set_cons_zero, List.set_cons_succ]
            refine wpAnyH_ready (rs := [11]) (by kernel_rfl) (by simp) ?_
            refine AllReadyH.cons (o := ?_) ?_ ?_ AllReadyH.nil
            rotate_left 1
            · simp only [List.getElem?_toArray, List.getElem?_cons_succ, List.getElem?_cons_zero]; exact rfl
            intro K hK
            go_simp
            go_at_call 13; refine (p_last M B n s' _ S17.out.d.p).mono ?_; rintro e w18 ⟨rfl, k18⟩; have S18 := Lib.hid (S17.out.keep k18); have K18 := Lib.hid k18; clear k18
            go_wp2_with fail
            clear hHeld
            refine hK.out _ _ ?_ (fun hHeld => ?_)
            · exact ⟨(by rw [← HPC.out]; have h := ld_pair (S18.out.co.at_ c hc4); unfold put at h; rw [if_pos rfl] at h; exact h), S18.out.d.r.c0, S18.out.d.r.c1, S18.out.d.r.c2, S18.out.d.r.c3, S18.out.d.r.c4, S18.out.d.r.c5, S18.out.d.r.c6⟩
            clear hK K
            try simp only [Act.put, List.setIfInBounds_toArray, List.set_cons_zero, List.set_cons_succ]
            refine take_on (i := 16) (oi := ?_) (v := ?_) ?_ (by kernel_rfl) ?_ ?_ ?_ hHeld ?_; rotate_left 2; (focus (simp only [List.getElem?_toArray, List.getElem?_cons_succ, List.getElem?_cons_zero]; exact rfl)); (focus (rfl)); (focus (intro w hSw; (try dsimp only at hSw); go_simp <;> with_reducible rfl)); (focus (exact fun _ _ _ h => h)); simp only [Act.put, List.setIfInBounds_toArray, List.set_cons_zero, List.set_cons_succ]
            refine take_on (i := 17) (oi := ?_) (v := ?_) ?_ (by kernel_rfl) ?_ ?_ ?_ hHeld ?_; rotate_left 2; (focus (simp only [List.getElem?_toArray, List.getElem?_cons_succ, List.getElem?_cons_zero]; exact rfl)); (focus (rfl)); (focus (intro w hSw; (try dsimp only at hSw); go_simp <;> with_reducible rfl)); (focus (exact fun _ _ _ h => h)); simp only [Act.put, List.setIfInBounds_toArray, List.set_cons_zero, List.set_cons_succ]
            refine take_on (i := 18) (oi := ?_) (v := ?_) ?_ (by kernel_rfl) ?_ ?_ ?_ hHeld ?_; rotate_left 2; (focus (simp only [List.getElem?_toArray, List.getElem?_cons_succ, List.getElem?_cons_zero]; exact rfl)); (focus (rfl)); (focus (intro w hSw; (try dsimp only at hSw); go_simp <;> with_reducible rfl)); (focus (exact fun _ _ _ h => h)); simp only [Act.put, List.setIfInBounds_toArray, List.set_cons_zero, List.set_cons_succ]
            refine take_on (i := 19) (oi := ?_) (v := ?_) ?_ (by kernel_rfl) ?_ ?_ ?_ hHeld ?_; rotate_left 2; (focus (simp only [List.getElem?_toArray, List.getElem?_cons_succ, List.getElem?_cons_zero]; exact rfl)); (focus (rfl)); (focus (intro w hSw; (try dsimp only at hSw); go_simp <;> with_reducible rfl)); (focus (exact fun _ _ _ h => h)); simp only [Act.put, List.setIfInBounds_toArray, List.set_cons_zero, List.set_cons_succ]
            refine take_on (i := 21) (oi := ?_) (v := ?_) ?_ (by kernel_rfl) ?_ ?_ ?_ hHeld ?_; rotate_left 2; (focus (simp only [List.getElem?_toArray, List.getElem?_cons_succ, List.getElem?_cons_zero]; exact rfl)); (focus (rfl)); (focus (intro w hSw; (try dsimp only at hSw); go_simp <;> with_reducible rfl)); (focus (exact fun _ _ _ h => h)); simp only [Act.put, List.setIfInBounds_toArray, List.set_cons_zero, List.set_cons_succ]
            refine take_on (i := 22) (oi := ?_) (v := ?_) ?_ (by kernel_rfl) ?_ ?_ ?_ hHeld ?_; rotate_left 2; (focus (simp only [List.getElem?_toArray, List.getElem?_cons_succ, List.getElem?_cons_zero]; exact rfl)); (focus (rfl)); (focus (intro w hSw; (try dsimp only at hSw); go_simp <;> with_reducible rfl)); (focus (exact fun _ _ _ h => h)); simp only [Act.put, List.setIfInBounds_toArray, List.set_cons_zero, List.set_cons_succ]
            refine take_on (i := 23) (oi := ?_) (v := ?_) ?_ (by kernel_rfl) ?_ ?_ ?_ hHeld ?_; rotate_left 2; (focus (simp only [List.getElem?_toArray, List.getElem?_cons_succ, List.getElem?_cons_zero]; exact rfl)); (focus (rfl)); (focus (intro w hSw; (try dsimp only at hSw); go_simp <;> with_reducible rfl)); (focus (exact fun _ _ _ h => h)); simp only [Act.put, List.setIfInBounds_toArray, List.set_cons_zero, List.set_cons_succ]
            refine take_on (i := 24) (oi := ?_) (v := ?_) ?_ (by kernel_rfl) ?_ ?_ ?_ hHeld ?_; rotate_left 2; (focus (simp only [List.getElem?_toArray, List.getElem?_cons_succ, List.getElem?_cons_zero]; exact rfl)); (focus (rfl)); (focus (intro w hSw; (try dsimp only at hSw); go_simp <;> with_reducible rfl)); (focus (exact fun _ _ _ h => h)); simp only [Act.put, List.setIfInBounds_toArray, List.set_cons_zero, List.set_cons_succ]
            refine wpAnyH_ready (rs := [20]) (by kernel_rfl) (by simp) ?_
            refine AllReadyH.cons (o := ?_) ?_ ?_ AllReadyH.nil
            rotate_left 1
            · simp only [List.getElem?_toArray, List.getElem?_cons_succ, List.getElem?_cons_zero]; exact rfl
            intro K hK
            go_simp
            go_at_call 8; refine (p_count M B n s' _ S18.out.d.p).mono ?_; rintro e w19 ⟨rfl, rfl⟩
            go_wp2_with fail
            clear hHeld
            refine hK.out _ _ ?_ (fun hHeld => ?_)
            · exact ⟨(by rw [← HPC.out]; have h := ld_pair (S18.out.co.at_ c hc4); unfold put at h; rw [if_pos rfl] at h; exact h), S18.out.d.r.c0, S18.out.d.r.c1, S18.out.d.r.c2, S18.out.d.r.c3, S18.out.d.r.c4, S18.out.d.r.c5, S18.out.d.r.c6⟩
            clear hK K
            try simp only [Act.put, List.setIfInBounds_toArray, List.set_cons_zero, List.set_cons_succ]
            refine take_on (i := 25) (oi := ?_) (v := ?_) ?_ (by kernel_rfl) ?_ ?_ ?_ hHeld ?_; rotate_left 2; (focus (simp only [List.getElem?_toArray, List.getElem?_cons_succ, List.getElem?_cons_zero]; exact rfl)); (focus (rfl)); (focus (intro w hSw; (try dsimp only at hSw); go_simp <;> with_reducible rfl)); (focus (exact fun _ _ _ h => h)); simp only [Act.put, List.setIfInBounds_toArray, List.set_cons_zero, List.set_cons_succ]
            refine take_on (i := 26) (oi := ?_) (v := ?_) ?_ (by kernel_rfl) ?_ ?_ ?_ hHeld ?_; rotate_left 2; (focus (simp only [List.getElem?_toArray, List.getElem?_cons_succ, List.getElem?_cons_zero]; exact rfl)); (focus (rfl)); (focus (intro w hSw; (try dsimp only at hSw); go_simp <;> with_reducible rfl)); (focus (exact fun _ _ _ h => h)); simp only [Act.put, List.setIfInBounds_toArray, List.set_cons_zero, List.set_cons_succ]
            refine take_on (i := 27) (oi := ?_) (v := ?_) ?_ (by kernel_rfl) ?_ ?_ ?_ hHeld ?_; rotate_left 2; (focus (simp only [List.getElem?_toArray, List.getElem?_cons_succ, List.getElem?_cons_zero]; exact rfl)); (focus (rfl)); (focus (intro w hSw; (try dsimp only at hSw); go_simp <;> with_reducible rfl)); (focus (exact fun _ _ _ h => h)); simp only [Act.put, List.setIfInBounds_toArray, List.set_cons_zero, List.set_cons_succ]
            refine take_on (i := 28) (oi := ?_) (v := ?_) ?_ (by kernel_rfl) ?_ ?_ ?_ hHeld ?_; rotate_left 2; (focus (simp only [List.getElem?_toArray, List.getElem?_cons_succ, List.getElem?_cons_zero]; exact rfl)); (focus (rfl)); (focus (intro w hSw; (try dsimp only at hSw); go_simp <;> with_reducible rfl)); (focus (exact fun _ _ _ h => h)); simp only [Act.put, List.setIfInBounds_toArray, List.set_cons_zero, List.set_cons_succ]
            refine take_on (i := 30) (oi := ?_) (v := ?_) ?_ (by kernel_rfl) ?_ ?_ ?_ hHeld ?_; rotate_left 2; (focus (simp only [List.getElem?_toArray, List.getElem?_cons_succ, List.getElem?_cons_zero]; exact rfl)); (focus (rfl)); (focus (intro w hSw; (try dsimp only at hSw); go_simp <;> with_reducible rfl)); (focus (exact fun _ _ _ h => h)); simp only [Act.put, List.setIfInBounds_toArray, List.set_cons_zero, List.set_cons_succ]
            refine take_on (i := 31) (oi := ?_) (v := ?_) ?_ (by kernel_rfl) ?_ ?_ ?_ hHeld ?_; rotate_left 2; (focus (simp only [List.getElem?_toArray, List.getElem?_cons_succ, List.getElem?_cons_zero]; exact rfl)); (focus (rfl)); (focus (intro w hSw; (try dsimp only at hSw); go_simp <;> with_reducible rfl)); (focus (exact fun _ _ _ h => h)); simp only [Act.put, List.setIfInBounds_toArray, List.set_cons_zero, List.set_cons_succ]
            refine take_on (i := 32) (oi := ?_) (v := ?_) ?_ (by kernel_rfl) ?_ ?_ ?_ hHeld ?_; rotate_left 2; (focus (simp only [List.getElem?_toArray, List.getElem?_cons_succ, List.getElem?_cons_zero]; exact rfl)); (focus (rfl)); (focus (intro w hSw; (try dsimp only at hSw); go_simp <;> with_reducible rfl)); (focus (exact fun _ _ _ h => h)); simp only [Act.put, List.setIfInBounds_toArray, List.set_cons_zero, List.set_cons_succ]
            refine take_on (i := 33) (oi := ?_) (v := ?_) ?_ (by kernel_rfl) ?_ ?_ ?_ hHeld ?_; rotate_left 2; (focus (simp only [List.getElem?_toArray, List.getElem?_cons_succ, List.getElem?_cons_zero]; exact rfl)); (focus (rfl)); (focus (intro w hSw; (try dsimp only at hSw); go_simp <;> with_reducible rfl)); (focus (exact fun _ _ _ h => h)); simp only [Act.put, List.setIfInBounds_toArray, List.set_cons_zero, List.set_cons_succ]
            refine wpAnyH_ready (rs := [29]) (by kernel_rfl) (by simp) ?_
            refine AllReadyH.cons (o := ?_) ?_ ?_ AllReadyH.nil
            rotate_left 1
            · simp only [List.getElem?_toArray, List.getElem?_cons_succ, List.getElem?_cons_zero]; exact rfl
            intro K hK
            go_simp
            go_at_call 15; refine (p_words M B n s' _ S18.out.d.p).mono ?_; rintro e w20 ⟨bw, cw, rfl, hb1, hb2, hw, hf, k20⟩; have S20 := Lib.hid (S18.out.keep k20); have K20 := Lib.hid k20; have HW := Lib.hid hw; clear k20 hw hf hb1 hb2
            go_wp2_with fail
            clear hHeld
            refine hK.out _ _ ?_ (fun hHeld => ?_)
            · exact ⟨(by rw [← HPC.out]; have h := ld_pair (S20.out.co.at_ c hc4); unfold put at h; rw [if_pos rfl] at h; exact h), S20.out.d.r.c0, S20.out.d.r.c1, S20.out.d.r.c2, S20.out.d.r.c3, S20.out.d.r.c4, S20.out.d.r.c5, S20.out.d.r.c6⟩
            clear hK K
            try simp only [Act.put, List.setIfInBounds_toArray, List.set_cons_zero, List.set_cons_succ]
            refine wpAnyH_ready (rs := [34]) (by kernel_rfl) (by simp) ?_
            refine AllReadyH.cons (o := ?_) ?_ ?_ AllReadyH.nil
            rotate_left 1
            · simp only [List.getElem?_toArray, List.getElem?_cons_succ, List.getElem?_cons_zero]; exact rfl
            intro K hK
            go_simp
            go_at_call 14; refine (sameWords (f := s'.ws) S20.out.d.n2 (fun i hi => by rw [Nat.zero_add]; exact HW.out i hi) (fun i hi => by rw [Nat.zero_add]; exact S20.out.d.r.words i hi)).mono ?_; rintro e w21 ⟨rfl, k21⟩; have S21 := Lib.hid (S20.out.keep k21); have O21 := Lib.hid (own_same O17.out fun g hg => (K18.out.trans (K20.out.trans k21)).below.block g (O17.out.lt g hg).2); clear k21 HW O17 O16
            go_wp2_with fail
            clear hHeld
            refine hK.out _ _ ?_ (fun hHeld => ?_)
            · exact ⟨(by rw [← HPC.out]; have h := ld_pair (S21.out.co.at_ c hc4); unfold put at h; rw [if_pos rfl] at h; exact h), S21.out.d.r.c0, S21.out.d.r.c1, S21.out.d.r.c2, S21.out.d.r.c3, S21.out.d.r.c4, S21.out.d.r.c5, S21.out.d.r.c6⟩
            clear hK K
            try simp only [Act.put, List.setIfInBounds_toArray, List.set_cons_zero, List.set_cons_succ]
            refine take_on (i := 35) (oi := ?_) (v := ?_) ?_ (by kernel_rfl) ?_ ?_ ?_ hHeld ?_; rotate_left 2; (focus (simp only [List.getElem?_toArray, List.getElem?_cons_succ, List.getElem?_cons_zero]; exact rfl)); (focus (rfl)); (focus (intro w hSw; (try dsimp only at hSw); go_simp <;> with_reducible rfl)); (focus (exact fun _ _ _ h => h)); simp only [Act.put, List.setIfInBounds_toArray, List.set_cons_zero, List.set_cons_succ]
            refine take_on (i := 36) (oi := ?_) (v := ?_) ?_ (by kernel_rfl) ?_ ?_ ?_ hHeld ?_; rotate_left 2; (focus (simp only [List.getElem?_toArray, List.getElem?_cons_succ, List.getElem?_cons_zero]; exact rfl)); (focus (rfl)); (focus (intro w hSw; (try dsimp only at hSw); go_simp <;> with_reducible rfl)); (focus (exact fun _ _ _ h => h)); simp only [Act.put, List.setIfInBounds_toArray, List.set_cons_zero, List.set_cons_succ]
            refine wpAnyH_done (by kernel_rfl) ?_ _
            clear hHeld
            have z0 := S21.out.t0
            have z1 := S21.out.t1
            have z2 := S21.out.t2
            go_wp2_with fail
            refine (r_chain S S21.out.d.r S21.out.d.wd HS.out).mono ?_
            rintro e w24 ⟨a24, c24, rfl, k24, own24⟩
            have S24 := Lib.hid (S21.out.keep k24)
            have O24 := Lib.hid own24
            have O25 := Lib.hid (own_same O21.out fun g hg => k24.below.block g (O21.out.lt g hg).2)
            have e24 : chn n s'.ws S = chn n s.ws S := by rw [HSS.out (by simp)]
            rw [e24] at O24 ⊢
            clear k24 own24 e24 z0 z1 z2
            go_wp2_with fail
            refine (sameInts_yes a16 a24 _ c16 c24 (fun i => (chn n s.ws S).getD i 0) _ (by have := chn_length n s.ws S; omega) (reads_own O25.out) (reads_own O24.out)).mono ?_
            rintro e w26 ⟨rfl, k26⟩
            have S26 := Lib.hid (S24.out.keep k26)
            have O26 := Lib.hid (own_same O25.out fun g hg => k26.below.block g (O25.out.lt g hg).2)
            clear k26
            have z0 := S26.out.t0
            have z1 := S26.out.t1
            have z2 := S26.out.t2
            clear z0 z1 z2
            go_wp2_with fail
            refine (overInts_own O26.out (by have := chn_length n s.ws S; omega)).mono ?_
            rintro e w27 ⟨rfl, b27⟩
            have S27 := Lib.hid (S26.out.free b27 (fun j hj => cut_new hj) SI.out.co.lt (lt_of_cell SI.out.t0))
            clear b27
            have z0 := S27.out.t0
            have z1 := S27.out.t1
            have z2 := S27.out.t2
            go_wp2_with fail
            go_region_held3 (fun w' => w'.cell? ⟨w.heap.size, 0, none⟩ = some (.int .i64 S.T) ∧ w'.cell? ⟨w.heap.size, 1, none⟩ = some (.int .i64 S.K) ∧ w'.cell? ⟨w.heap.size, 2, none⟩ = some (.int .i64 S.N)) (first | go_keep | (exact ⟨x0, x1, x2⟩) | (exact ⟨y0, y1, y2⟩) | (exact ⟨v0, v1, v2⟩)) (first
              | (go_at_call 11; refine (p_chain S (S27.out.keep (by first | exact Kept.refl _ | exact (Kept.refl _).drew | exact (Kept.refl _).drewN _)).d.p S27.out.d.wd HS.out).mono ?_; rintro e w28 ⟨a28, c28, rfl, k28, own28⟩; have K28 : Kept w27 w28 := Kept.trans (b := _) (by first | exact Kept.refl _ | exact (Kept.refl _).drew | exact (Kept.refl _).drewN _) k28; have x0 := K28.some z0; have x1 := K28.some z1; have x2 := K28.some z2)
              | (go_at_call 17; refine (r_chain S (S27.out.keep (by first | exact K28 | exact K28.drew | exact K28.drewN _)).d.r S27.out.d.wd HS.out).mono ?_; rintro e w29 ⟨a29, c29, rfl, k29, own29⟩; have K289 : Kept w28 w29 := Kept.trans (b := _) (by first | exact Kept.refl _ | exact (Kept.refl _).drew | exact (Kept.refl _).drewN _) k29; have K29 := K28.trans K289; have y0 := K29.some z0; have y1 := K29.some z1; have y2 := K29.some z2)
              | (go_at_call 16; refine (sameInts_yes a28 a29 _ c28 c29 (fun i => (chn n s'.ws S).getD i 0) _ (by have := chn_length n s'.ws S; omega) ((reads_own own28).kept (K289.trans (by first | exact Kept.refl _ | exact (Kept.refl _).drew | exact (Kept.refl _).drewN _))) ((reads_own own29).kept (by first | exact Kept.refl _ | exact (Kept.refl _).drew | exact (Kept.refl _).drewN _))).mono ?_; rintro e w30 ⟨rfl, k30⟩; have K30 : Kept w27 w30 := K29.trans (Kept.trans (b := _) (by first | exact Kept.refl _ | exact (Kept.refl _).drew | exact (Kept.refl _).drewN _) k30); have v0 := K30.some z0; have v1 := K30.some z1; have v2 := K30.some z2))
            have S30 := Lib.hid (S27.out.keep K30)
            clear x0 x1 x2 y0 y1 y2 v0 v1 v2 z0 z1 z2 K28 K289 K29 K30 k28 k29 k30 own28 own29
            rename_i hcells
            clear hcells
            go_wp2
            go_roundw
            case rel => exact ⟨k + 1, cut own' wA.heap.size, put (put st c p) c p', s', by omega, by go_num, S30.out⟩
            case measure => simp [intOf]; omega
          · have hw3' : 3 < wh := by omega
            clear hw0 hw3
            obtain ⟨wA, hwA⟩ : ∃ wA, wA = wr := ⟨_, rfl⟩
            subst hwA
            have SI := Lib.hid HI.out.cut
            have z0 := SI.out.t0
            have z1 := SI.out.t1
            have z2 := SI.out.t2
            go_wp2_with fail
            refine (p_chain S SI.out.d.p SI.out.d.wd HS.out).mono ?_
            rintro e w16 ⟨a16, c16, rfl, k16, own16⟩
            have S16 := Lib.hid (SI.out.keep k16)
            have O16 := Lib.hid own16
            have K16 := Lib.hid k16
            clear k16 own16 z0 z1 z2
            go_upto_region 17 with fail
            have KD : Kept w16 w16.drew := (Kept.refl _).drew
            refine wp_region_held_drew (S := fun w' => (ldP (.pointer (some ⟨C, c * 6, none⟩))).run Tryz.prog w' = .ok (.agg (st c).cells.toArray) w') (by kernel_rfl) ?_ (fun hHeld => ?_)
            · exact ld_pair ((S16.out.keep KD).co.at_ c hc4)
            refine take_on (i := 0) (oi := ?_) (v := ?_) ?_ (by kernel_rfl) ?_ ?_ ?_ hHeld ?_; rotate_left 2; (focus (simp only [List.getElem?_toArray, List.getElem?_cons_zero]; exact rfl)); (focus (rfl)); (focus (intro w hSw; (try dsimp only at hSw); go_simp <;> with_reducible rfl)); (focus (exact fun _ _ _ h => h)); simp only [Act.put, List.setIfInBounds_toArray, List.set_cons_zero, List.set_cons_succ]
            refine take_on (i := 1) (oi := ?_) (v := ?_) ?_ (by kernel_rfl) ?_ ?_ ?_ hHeld ?_; rotate_left 2; (focus (simp only [List.getElem?_toArray, List.getElem?_cons_succ, List.getElem?_cons_zero]; exact rfl)); (focus (rfl)); (focus (intro w hSw; (try dsimp only at hSw); go_simp <;> with_reducible rfl)); (focus (exact fun _ _ _ h => h)); simp only [Act.put, List.setIfInBounds_toArray, List.set_cons_zero, List.set_cons_succ]
            refine take_on (i := 2) (oi := ?_) (v := ?_) ?_ (by kernel_rfl) ?_ ?_ ?_ hHeld ?_; rotate_left 2; (focus (simp only [List.getElem?_toArray, List.getElem?_cons_succ, List.getElem?_cons_zero]; exact rfl)); (focus (rfl)); (focus (intro w hSw; (try dsimp only at hSw); go_simp <;> with_reducible rfl)); (focus (exact fun _ _ _ h => h)); simp only [Act.put, List.setIfInBounds_toArray, List.set_cons_zero, List.set_cons_succ]
            refine take_on (i := 3) (oi := ?_) (v := ?_) ?_ (by kernel_rfl) ?_ ?_ ?_ hHeld ?_; rotate_left 2; (focus (simp only [List.getElem?_toArray, List.getElem?_cons_succ, List.getElem?_cons_zero]; exact rfl)); (focus (rfl)); (focus (intro w hSw; (try dsimp only at hSw); go_simp <;> with_reducible rfl)); (focus (exact fun _ _ _ h => h)); simp only [Act.put, List.setIfInBounds_toArray, List.set_cons_zero, List.set_cons_succ]
            refine take_on (i := 4) (oi := ?_) (v := ?_) ?_ (by kernel_rfl) ?_ ?_ ?_ hHeld ?_; rotate_left 2; (focus (simp only [List.getElem?_toArray, List.getElem?_cons_succ, List.getElem?_cons_zero]; exact rfl)); (focus (rfl)); (focus (intro w hSw; (try dsimp only at hSw); go_simp <;> with_reducible rfl)); (focus (exact fun _ _ _ h => h)); simp only [Act.put, List.setIfInBounds_toArray, List.set_cons_zero, List.set_cons_succ]
            refine take_on (i := 5) (oi := ?_) (v := ?_) ?_ (by kernel_rfl) ?_ ?_ ?_ hHeld ?_; rotate_left 2; (focus (simp only [List.getElem?_toArray, List.getElem?_cons_succ, List.getElem?_cons_zero]; exact rfl)); (focus (rfl)); (focus (intro w hSw; (try dsimp only at hSw); go_simp <;> with_reducible rfl)); (focus (exact fun _ _ _ h => h)); simp only [Act.put, List.setIfInBounds_toArray, List.set_cons_zero, List.set_cons_succ]
            refine take_on (i := 6) (oi := ?_) (v := ?_) ?_ (by kernel_rfl) ?_ ?_ ?_ hHeld ?_; rotate_left 2; (focus (simp only [List.getElem?_toArray, List.getElem?_cons_succ, List.getElem?_cons_zero]; exact rfl)); (focus (rfl)); (focus (intro w hSw; (try dsimp only at hSw); go_simp <;> with_reducible rfl)); (focus (exact fun _ _ _ h => h)); simp only [Act.put, List.setIfInBounds_toArray, List.set_cons_zero, List.set_cons_succ]
            refine wpAnyH_ready (rs := [7]) (by kernel_rfl) (by simp) ?_
            refine AllReadyH.cons (o := ?_) ?_ ?_ AllReadyH.nil
            rotate_left 1
            · simp only [List.getElem?_toArray, List.getElem?_cons_succ, List.getElem?_cons_zero]; exact rfl
            intro K hK
            go_simp
            go_at_call 12; refine (told_any (cut own wA.heap.size) c S M B M2 B2 n s (st c) false _ ((S16.out.keep KD).is c hc4) (S16.out.keep KD).d HS.out (by have := S16.out.cnt; omega)).mono ?_; rintro e w17 ⟨rfl, p', s', hpc, hss, hpi, hd17, hs17, hb17⟩; have S17 := Lib.hid ((S16.out.keep KD).told hc4 hpc hpi hd17 hs17 hb17); have HPC := Lib.hid hpc; have HSS := Lib.hid hss; have O17 := Lib.hid (own_same O16.out fun g hg => (hb17.block g (Nat.lt_of_lt_of_le (O16.out.lt g hg).2 KD.size) (fun hm => by have := cut_new (own := own) (O16.out.lt g hg).1; unfold mine at hm; omega)).trans (KD.below.block g (O16.out.lt g hg).2)); clear hpc hss hpi hd17 hs17 hb17 KD
            go_wp2_with fail
            clear hHeld
            refine hK.out _ _ ?_ (fun hHeld => ?_)
            · exact (by rw [← HPC.out]; have h := ld_pair (S17.out.co.at_ c hc4); unfold put at h; rw [if_pos rfl] at h; exact h)
            clear hK K
            try simp only [Act.put, List.setIfInBounds_toArray, List.set_cons_zero, List.set_cons_succ]
            refine held_mono (S' := fun w' => (ldP (.pointer (some ⟨C, c * 6, none⟩))).run Tryz.prog w' = .ok (.agg (st c).cells.toArray) w' ∧ w'.cell? ⟨M2, 0, none⟩ = some (.slice (some ⟨B2, 0, none⟩) n n) ∧ w'.cell? ⟨M2, 1, none⟩ = some (.int .i64 s'.kind) ∧ w'.cell? ⟨M2, 2, none⟩ = some (.int .i64 s'.at_) ∧ w'.cell? ⟨M2, 3, none⟩ = some (.int .u64 s'.old) ∧ w'.cell? ⟨M2, 4, none⟩ = some (.int .u64 s'.new) ∧ w'.cell? ⟨M2, 5, none⟩ = some (.bool s'.held) ∧ w'.cell? ⟨M2, 6, none⟩ = some (.int .i64 s'.cnt)) (fun _ h => h.1) _ _ _ _ ?_
            have hHeld := And.intro hHeld (And.intro S17.out.d.r.c0 (And.intro S17.out.d.r.c1 (And.intro S17.out.d.r.c2 (And.intro S17.out.d.r.c3 (And.intro S17.out.d.r.c4 (And.intro S17.out.d.r.c5 S17.out.d.r.c6))))))
            refine take_on (i := 8) (oi := ?_) (v := ?_) ?_ (by kernel_rfl) ?_ ?_ ?_ hHeld ?_; rotate_left 2; (focus (simp only [List.getElem?_toArray, List.getElem?_cons_succ, List.getElem?_cons_zero]; exact rfl)); (focus (rfl)); (focus (intro w hSw; (try dsimp only at hSw); go_simp <;> with_reducible rfl)); (focus (exact fun _ _ _ h => h)); simp only [Act.put, List.setIfInBounds_toArray, List.set_cons_zero, List.set_cons_succ]
            refine take_on (i := 9) (oi := ?_) (v := ?_) ?_ (by kernel_rfl) ?_ ?_ ?_ hHeld ?_; rotate_left 2; (focus (simp only [List.getElem?_toArray, List.getElem?_cons_succ, List.getElem?_cons_zero]; exact rfl)); (focus (rfl)); (focus (intro w hSw; (try dsimp only at hSw); go_simp <;> with_reducible rfl)); (focus (exact fun _ _ _ h => h)); simp only [Act.put, List.setIfInBounds_toArray, List.set_cons_zero, List.set_cons_succ]
            refine take_on (i := 10) (oi := ?_) (v := ?_) ?_ (by kernel_rfl) ?_ ?_ ?_ hHeld ?_; rotate_left 2; (focus (simp only [List.getElem?_toArray, List.getElem?_cons_succ, List.getElem?_cons_zero]; exact rfl)); (focus (rfl)); (focus (intro w hSw; (try dsimp only at hSw); go_simp <;> with_reducible rfl)); (focus (exact fun _ _ _ h => h)); simp only [Act.put, List.setIfInBounds_toArray, List.set_cons_zero, List.set_cons_succ]
            refine take_on (i := 12) (oi := ?_) (v := ?_) ?_ (by kernel_rfl) ?_ ?_ ?_ hHeld ?_; rotate_left 2; (focus (simp only [List.getElem?_toArray, List.getElem?_cons_succ, List.getElem?_cons_zero]; exact rfl)); (focus (rfl)); (focus (intro w hSw; (try dsimp only at hSw); go_simp <;> with_reducible rfl)); (focus (exact fun _ _ _ h => h)); simp only [Act.put, List.setIfInBounds_toArray, List.set_cons_zero, List.set_cons_succ]
            refine take_on (i := 13) (oi := ?_) (v := ?_) ?_ (by kernel_rfl) ?_ ?_ ?_ hHeld ?_; rotate_left 2; (focus (simp only [List.getElem?_toArray, List.getElem?_cons_succ, List.getElem?_cons_zero]; exact rfl)); (focus (rfl)); (focus (intro w hSw; (try dsimp only at hSw); go_simp <;> with_reducible rfl)); (focus (exact fun _ _ _ h => h)); simp only [Act.put, List.setIfInBounds_toArray, List.set_cons_zero, List.set_cons_succ]
            refine take_on (i := 14) (oi := ?_) (v := ?_) ?_ (by kernel_rfl) ?_ ?_ ?_ hHeld ?_; rotate_left 2; (focus (simp only [List.getElem?_toArray, List.getElem?_cons_succ, List.getElem?_cons_zero]; exact rfl)); (focus (rfl)); (focus (intro w hSw; (try dsimp only at hSw); go_simp <;> with_reducible rfl)); (focus (exact fun _ _ _ h => h)); simp only [Act.put, List.setIfInBounds_toArray, List.set_cons_zero, List.set_cons_succ]
            refine take_on (i := 15) (oi := ?_) (v := ?_) ?_ (by kernel_rfl) ?_ ?_ ?_ hHeld ?_; rotate_left 2; (focus (simp only [List.getElem?_toArray, List.getElem?_cons_succ, List.getElem?_cons_zero]; exact rfl)); (focus (rfl)); (focus (intro w hSw; (try dsimp only at hSw); go_simp <;> with_reducible rfl)); (focus (exact fun _ _ _ h => h)); simp only [Act.put, List.setIfInBounds_toArray, List.set_cons_zero, List.set_cons_succ]
            refine wpAnyH_ready (rs := [11]) (by kernel_rfl) (by simp) ?_
            refine AllReadyH.cons (o := ?_) ?_ ?_ AllReadyH.nil
            rotate_left 1
            · simp only [List.getElem?_toArray, List.getElem?_cons_succ, List.getElem?_cons_zero]; exact rfl
            intro K hK
            go_simp
            go_at_call 13; refine (p_last M B n s' _ S17.out.d.p).mono ?_; rintro e w18 ⟨rfl, k18⟩; have S18 := Lib.hid (S17.out.keep k18); have K18 := Lib.hid k18; clear k18
            go_wp2_with fail
            clear hHeld
            refine hK.out _ _ ?_ (fun hHeld => ?_)
            · exact ⟨(by rw [← HPC.out]; have h := ld_pair (S18.out.co.at_ c hc4); unfold put at h; rw [if_pos rfl] at h; exact h), S18.out.d.r.c0, S18.out.d.r.c1, S18.out.d.r.c2, S18.out.d.r.c3, S18.out.d.r.c4, S18.out.d.r.c5, S18.out.d.r.c6⟩
            clear hK K
            try simp only [Act.put, List.setIfInBounds_toArray, List.set_cons_zero, List.set_cons_succ]
            refine take_on (i := 16) (oi := ?_) (v := ?_) ?_ (by kernel_rfl) ?_ ?_ ?_ hHeld ?_; rotate_left 2; (focus (simp only [List.getElem?_toArray, List.getElem?_cons_succ, List.getElem?_cons_zero]; exact rfl)); (focus (rfl)); (focus (intro w hSw; (try dsimp only at hSw); go_simp <;> with_reducible rfl)); (focus (exact fun _ _ _ h => h)); simp only [Act.put, List.setIfInBounds_toArray, List.set_cons_zero, List.set_cons_succ]
            refine take_on (i := 17) (oi := ?_) (v := ?_) ?_ (by kernel_rfl) ?_ ?_ ?_ hHeld ?_; rotate_left 2; (focus (simp only [List.getElem?_toArray, List.getElem?_cons_succ, List.getElem?_cons_zero]; exact rfl)); (focus (rfl)); (focus (intro w hSw; (try dsimp only at hSw); go_simp <;> with_reducible rfl)); (focus (exact fun _ _ _ h => h)); simp only [Act.put, List.setIfInBounds_toArray, List.set_cons_zero, List.set_cons_succ]
            refine take_on (i := 18) (oi := ?_) (v := ?_) ?_ (by kernel_rfl) ?_ ?_ ?_ hHeld ?_; rotate_left 2; (focus (simp only [List.getElem?_toArray, List.getElem?_cons_succ, List.getElem?_cons_zero]; exact rfl)); (focus (rfl)); (focus (intro w hSw; (try dsimp only at hSw); go_simp <;> with_reducible rfl)); (focus (exact fun _ _ _ h => h)); simp only [Act.put, List.setIfInBounds_toArray, List.set_cons_zero, List.set_cons_succ]
            refine take_on (i := 19) (oi := ?_) (v := ?_) ?_ (by kernel_rfl) ?_ ?_ ?_ hHeld ?_; rotate_left 2; (focus (simp only [List.getElem?_toArray, List.getElem?_cons_succ, List.getElem?_cons_zero]; exact rfl)); (focus (rfl)); (focus (intro w hSw; (try dsimp only at hSw); go_simp <;> with_reducible rfl)); (focus (exact fun _ _ _ h => h)); simp only [Act.put, List.setIfInBounds_toArray, List.set_cons_zero, List.set_cons_succ]
            refine take_on (i := 21) (oi := ?_) (v := ?_) ?_ (by kernel_rfl) ?_ ?_ ?_ hHeld ?_; rotate_left 2; (focus (simp only [List.getElem?_toArray, List.getElem?_cons_succ, List.getElem?_cons_zero]; exact rfl)); (focus (rfl)); (focus (intro w hSw; (try dsimp only at hSw); go_simp <;> with_reducible rfl)); (focus (exact fun _ _ _ h => h)); simp only [Act.put, List.setIfInBounds_toArray, List.set_cons_zero, List.set_cons_succ]
            refine take_on (i := 22) (oi := ?_) (v := ?_) ?_ (by kernel_rfl) ?_ ?_ ?_ hHeld ?_; rotate_left 2; (focus (simp only [List.getElem?_toArray, List.getElem?_cons_succ, List.getElem?_cons_zero]; exact rfl)); (focus (rfl)); (focus (intro w hSw; (try dsimp only at hSw); go_simp <;> with_reducible rfl)); (focus (exact fun _ _ _ h => h)); simp only [Act.put, List.setIfInBounds_toArray, List.set_cons_zero, List.set_cons_succ]
            refine take_on (i := 23) (oi := ?_) (v := ?_) ?_ (by kernel_rfl) ?_ ?_ ?_ hHeld ?_; rotate_left 2; (focus (simp only [List.getElem?_toArray, List.getElem?_cons_succ, List.getElem?_cons_zero]; exact rfl)); (focus (rfl)); (focus (intro w hSw; (try dsimp only at hSw); go_simp <;> with_reducible rfl)); (focus (exact fun _ _ _ h => h)); simp only [Act.put, List.setIfInBounds_toArray, List.set_cons_zero, List.set_cons_succ]
            refine take_on (i := 24) (oi := ?_) (v := ?_) ?_ (by kernel_rfl) ?_ ?_ ?_ hHeld ?_; rotate_left 2; (focus (simp only [List.getElem?_toArray, List.getElem?_cons_succ, List.getElem?_cons_zero]; exact rfl)); (focus (rfl)); (focus (intro w hSw; (try dsimp only at hSw); go_simp <;> with_reducible rfl)); (focus (exact fun _ _ _ h => h)); simp only [Act.put, List.setIfInBounds_toArray, List.set_cons_zero, List.set_cons_succ]
            refine wpAnyH_ready (rs := [20]) (by kernel_rfl) (by simp) ?_
            refine AllReadyH.cons (o := ?_) ?_ ?_ AllReadyH.nil
            rotate_left 1
            · simp only [List.getElem?_toArray, List.getElem?_cons_succ, List.getElem?_cons_zero]; exact rfl
            intro K hK
            go_simp
            go_at_call 8; refine (p_count M B n s' _ S18.out.d.p).mono ?_; rintro e w19 ⟨rfl, rfl⟩
            go_wp2_with fail
            clear hHeld
            refine hK.out _ _ ?_ (fun hHeld => ?_)
            · exact ⟨(by rw [← HPC.out]; have h := ld_pair (S18.out.co.at_ c hc4); unfold put at h; rw [if_pos rfl] at h; exact h), S18.out.d.r.c0, S18.out.d.r.c1, S18.out.d.r.c2, S18.out.d.r.c3, S18.out.d.r.c4, S18.out.d.r.c5, S18.out.d.r.c6⟩
            clear hK K
            try simp only [Act.put, List.setIfInBounds_toArray, List.set_cons_zero, List.set_cons_succ]
            refine take_on (i := 25) (oi := ?_) (v := ?_) ?_ (by kernel_rfl) ?_ ?_ ?_ hHeld ?_; rotate_left 2; (focus (simp only [List.getElem?_toArray, List.getElem?_cons_succ, List.getElem?_cons_zero]; exact rfl)); (focus (rfl)); (focus (intro w hSw; (try dsimp only at hSw); go_simp <;> with_reducible rfl)); (focus (exact fun _ _ _ h => h)); simp only [Act.put, List.setIfInBounds_toArray, List.set_cons_zero, List.set_cons_succ]
            refine take_on (i := 26) (oi := ?_) (v := ?_) ?_ (by kernel_rfl) ?_ ?_ ?_ hHeld ?_; rotate_left 2; (focus (simp only [List.getElem?_toArray, List.getElem?_cons_succ, List.getElem?_cons_zero]; exact rfl)); (focus (rfl)); (focus (intro w hSw; (try dsimp only at hSw); go_simp <;> with_reducible rfl)); (focus (exact fun _ _ _ h => h)); simp only [Act.put, List.setIfInBounds_toArray, List.set_cons_zero, List.set_cons_succ]
            refine take_on (i := 27) (oi := ?_) (v := ?_) ?_ (by kernel_rfl) ?_ ?_ ?_ hHeld ?_; rotate_left 2; (focus (simp only [List.getElem?_toArray, List.getElem?_cons_succ, List.getElem?_cons_zero]; exact rfl)); (focus (rfl)); (focus (intro w hSw; (try dsimp only at hSw); go_simp <;> with_reducible rfl)); (focus (exact fun _ _ _ h => h)); simp only [Act.put, List.setIfInBounds_toArray, List.set_cons_zero, List.set_cons_succ]
            refine take_on (i := 28) (oi := ?_) (v := ?_) ?_ (by kernel_rfl) ?_ ?_ ?_ hHeld ?_; rotate_left 2; (focus (simp only [List.getElem?_toArray, List.getElem?_cons_succ, List.getElem?_cons_zero]; exact rfl)); (focus (rfl)); (focus (intro w hSw; (try dsimp only at hSw); go_simp <;> with_reducible rfl)); (focus (exact fun _ _ _ h => h)); simp only [Act.put, List.setIfInBounds_toArray, List.set_cons_zero, List.set_cons_succ]
            refine take_on (i := 30) (oi := ?_) (v := ?_) ?_ (by kernel_rfl) ?_ ?_ ?_ hHeld ?_; rotate_left 2; (focus (simp only [List.getElem?_toArray, List.getElem?_cons_succ, List.getElem?_cons_zero]; exact rfl)); (focus (rfl)); (focus (intro w hSw; (try dsimp only at hSw); go_simp <;> with_reducible rfl)); (focus (exact fun _ _ _ h => h)); simp only [Act.put, List.setIfInBounds_toArray, List.set_cons_zero, List.set_cons_succ]
            refine take_on (i := 31) (oi := ?_) (v := ?_) ?_ (by kernel_rfl) ?_ ?_ ?_ hHeld ?_; rotate_left 2; (focus (simp only [List.getElem?_toArray, List.getElem?_cons_succ, List.getElem?_cons_zero]; exact rfl)); (focus (rfl)); (focus (intro w hSw; (try dsimp only at hSw); go_simp <;> with_reducible rfl)); (focus (exact fun _ _ _ h => h)); simp only [Act.put, List.setIfInBounds_toArray, List.set_cons_zero, List.set_cons_succ]
            refine take_on (i := 32) (oi := ?_) (v := ?_) ?_ (by kernel_rfl) ?_ ?_ ?_ hHeld ?_; rotate_left 2; (focus (simp only [List.getElem?_toArray, List.getElem?_cons_succ, List.getElem?_cons_zero]; exact rfl)); (focus (rfl)); (focus (intro w hSw; (try dsimp only at hSw); go_simp <;> with_reducible rfl)); (focus (exact fun _ _ _ h => h)); simp only [Act.put, List.setIfInBounds_toArray, List.set_cons_zero, List.set_cons_succ]
            refine take_on (i := 33) (oi := ?_) (v := ?_) ?_ (by kernel_rfl) ?_ ?_ ?_ hHeld ?_; rotate_left 2; (focus (simp only [List.getElem?_toArray, List.getElem?_cons_succ, List.getElem?_cons_zero]; exact rfl)); (focus (rfl)); (focus (intro w hSw; (try dsimp only at hSw); go_simp <;> with_reducible rfl)); (focus (exact fun _ _ _ h => h)); simp only [Act.put, List.setIfInBounds_toArray, List.set_cons_zero, List.set_cons_succ]
            refine wpAnyH_ready (rs := [29]) (by kernel_rfl) (by simp) ?_
            refine AllReadyH.cons (o := ?_) ?_ ?_ AllReadyH.nil
            rotate_left 1
            · simp only [List.getElem?_toArray, List.getElem?_cons_succ, List.getElem?_cons_zero]; exact rfl
            intro K hK
            go_simp
            go_at_call 15; refine (p_words M B n s' _ S18.out.d.p).mono ?_; rintro e w20 ⟨bw, cw, rfl, hb1, hb2, hw, hf, k20⟩; have S20 := Lib.hid (S18.out.keep k20); have K20 := Lib.hid k20; have HW := Lib.hid hw; clear k20 hw hf hb1 hb2
            go_wp2_with fail
            clear hHeld
            refine hK.out _ _ ?_ (fun hHeld => ?_)
            · exact ⟨(by rw [← HPC.out]; have h := ld_pair (S20.out.co.at_ c hc4); unfold put at h; rw [if_pos rfl] at h; exact h), S20.out.d.r.c0, S20.out.d.r.c1, S20.out.d.r.c2, S20.out.d.r.c3, S20.out.d.r.c4, S20.out.d.r.c5, S20.out.d.r.c6⟩
            clear hK K
            try simp only [Act.put, List.setIfInBounds_toArray, List.set_cons_zero, List.set_cons_succ]
            refine wpAnyH_ready (rs := [34]) (by kernel_rfl) (by simp) ?_
            refine AllReadyH.cons (o := ?_) ?_ ?_ AllReadyH.nil
            rotate_left 1
            · simp only [List.getElem?_toArray, List.getElem?_cons_succ, List.getElem?_cons_zero]; exact rfl
            intro K hK
            go_simp
            go_at_call 14; refine (sameWords (f := s'.ws) S20.out.d.n2 (fun i hi => by rw [Nat.zero_add]; exact HW.out i hi) (fun i hi => by rw [Nat.zero_add]; exact S20.out.d.r.words i hi)).mono ?_; rintro e w21 ⟨rfl, k21⟩; have S21 := Lib.hid (S20.out.keep k21); have O21 := Lib.hid (own_same O17.out fun g hg => (K18.out.trans (K20.out.trans k21)).below.block g (O17.out.lt g hg).2); clear k21 HW O17 O16
            go_wp2_with fail
            clear hHeld
            refine hK.out _ _ ?_ (fun hHeld => ?_)
            · exact ⟨(by rw [← HPC.out]; have h := ld_pair (S21.out.co.at_ c hc4); unfold put at h; rw [if_pos rfl] at h; exact h), S21.out.d.r.c0, S21.out.d.r.c1, S21.out.d.r.c2, S21.out.d.r.c3, S21.out.d.r.c4, S21.out.d.r.c5, S21.out.d.r.c6⟩
            clear hK K
            try simp only [Act.put, List.setIfInBounds_toArray, List.set_cons_zero, List.set_cons_succ]
            refine take_on (i := 35) (oi := ?_) (v := ?_) ?_ (by kernel_rfl) ?_ ?_ ?_ hHeld ?_; rotate_left 2; (focus (simp only [List.getElem?_toArray, List.getElem?_cons_succ, List.getElem?_cons_zero]; exact rfl)); (focus (rfl)); (focus (intro w hSw; (try dsimp only at hSw); go_simp <;> with_reducible rfl)); (focus (exact fun _ _ _ h => h)); simp only [Act.put, List.setIfInBounds_toArray, List.set_cons_zero, List.set_cons_succ]
            refine take_on (i := 36) (oi := ?_) (v := ?_) ?_ (by kernel_rfl) ?_ ?_ ?_ hHeld ?_; rotate_left 2; (focus (simp only [List.getElem?_toArray, List.getElem?_cons_succ, List.getElem?_cons_zero]; exact rfl)); (focus (rfl)); (focus (intro w hSw; (try dsimp only at hSw); go_simp <;> with_reducible rfl)); (focus (exact fun _ _ _ h => h)); simp only [Act.put, List.setIfInBounds_toArray, List.set_cons_zero, List.set_cons_succ]
            refine wpAnyH_done (by kernel_rfl) ?_ _
            clear hHeld
            have z0 := S21.out.t0
            have z1 := S21.out.t1
            have z2 := S21.out.t2
            go_wp2_with fail
            refine (r_chain S S21.out.d.r S21.out.d.wd HS.out).mono ?_
            rintro e w24 ⟨a24, c24, rfl, k24, own24⟩
            have S24 := Lib.hid (S21.out.keep k24)
            have O24 := Lib.hid own24
            have O25 := Lib.hid (own_same O21.out fun g hg => k24.below.block g (O21.out.lt g hg).2)
            have e24 : chn n s'.ws S = chn n s.ws S := by rw [HSS.out (by simp)]
            rw [e24] at O24 ⊢
            clear k24 own24 e24 z0 z1 z2
            go_wp2_with fail
            refine (sameInts_yes a16 a24 _ c16 c24 (fun i => (chn n s.ws S).getD i 0) _ (by have := chn_length n s.ws S; omega) (reads_own O25.out) (reads_own O24.out)).mono ?_
            rintro e w26 ⟨rfl, k26⟩
            have S26 := Lib.hid (S24.out.keep k26)
            have O26 := Lib.hid (own_same O25.out fun g hg => k26.below.block g (O25.out.lt g hg).2)
            clear k26
            have z0 := S26.out.t0
            have z1 := S26.out.t1
            have z2 := S26.out.t2
            clear z0 z1 z2
            go_wp2_with fail
            refine (overInts_own O26.out (by have := chn_length n s.ws S; omega)).mono ?_
            rintro e w27 ⟨rfl, b27⟩
            have S27 := Lib.hid (S26.out.free b27 (fun j hj => cut_new hj) SI.out.co.lt (lt_of_cell SI.out.t0))
            clear b27
            have z0 := S27.out.t0
            have z1 := S27.out.t1
            have z2 := S27.out.t2
            go_wp2_with fail
            go_region_held3 (fun w' => w'.cell? ⟨w.heap.size, 0, none⟩ = some (.int .i64 S.T) ∧ w'.cell? ⟨w.heap.size, 1, none⟩ = some (.int .i64 S.K) ∧ w'.cell? ⟨w.heap.size, 2, none⟩ = some (.int .i64 S.N)) (first | go_keep | (exact ⟨x0, x1, x2⟩) | (exact ⟨y0, y1, y2⟩) | (exact ⟨v0, v1, v2⟩)) (first
              | (go_at_call 11; refine (p_chain S (S27.out.keep (by first | exact Kept.refl _ | exact (Kept.refl _).drew | exact (Kept.refl _).drewN _)).d.p S27.out.d.wd HS.out).mono ?_; rintro e w28 ⟨a28, c28, rfl, k28, own28⟩; have K28 : Kept w27 w28 := Kept.trans (b := _) (by first | exact Kept.refl _ | exact (Kept.refl _).drew | exact (Kept.refl _).drewN _) k28; have x0 := K28.some z0; have x1 := K28.some z1; have x2 := K28.some z2)
              | (go_at_call 17; refine (r_chain S (S27.out.keep (by first | exact K28 | exact K28.drew | exact K28.drewN _)).d.r S27.out.d.wd HS.out).mono ?_; rintro e w29 ⟨a29, c29, rfl, k29, own29⟩; have K289 : Kept w28 w29 := Kept.trans (b := _) (by first | exact Kept.refl _ | exact (Kept.refl _).drew | exact (Kept.refl _).drewN _) k29; have K29 := K28.trans K289; have y0 := K29.some z0; have y1 := K29.some z1; have y2 := K29.some z2)
              | (go_at_call 16; refine (sameInts_yes a28 a29 _ c28 c29 (fun i => (chn n s'.ws S).getD i 0) _ (by have := chn_length n s'.ws S; omega) ((reads_own own28).kept (K289.trans (by first | exact Kept.refl _ | exact (Kept.refl _).drew | exact (Kept.refl _).drewN _))) ((reads_own own29).kept (by first | exact Kept.refl _ | exact (Kept.refl _).drew | exact (Kept.refl _).drewN _))).mono ?_; rintro e w30 ⟨rfl, k30⟩; have K30 : Kept w27 w30 := K29.trans (Kept.trans (b := _) (by first | exact Kept.refl _ | exact (Kept.refl _).drew | exact (Kept.refl _).drewN _) k30); have v0 := K30.some z0; have v1 := K30.some z1; have v2 := K30.some z2))
            have S30 := Lib.hid (S27.out.keep K30)
            clear x0 x1 x2 y0 y1 y2 v0 v1 v2 z0 z1 z2 K28 K289 K29 K30 k28 k29 k30 own28 own29
            rename_i hcells
            clear hcells
            go_wp2
            go_roundw
            case rel => exact ⟨k + 1, cut own wA.heap.size, put st c p', s', by omega, by go_num, S30.out⟩
            case measure => simp [intOf]; omega
        · have hw1' : wh < 1 := by omega
          clear hw0 hw1
          obtain ⟨wA, hwA⟩ : ∃ wA, wA = wr := ⟨_, rfl⟩
          subst hwA
          have SI := Lib.hid HI.out.cut
          have z0 := SI.out.t0
          have z1 := SI.out.t1
          have z2 := SI.out.t2
          go_wp2_with fail
          refine (p_chain S SI.out.d.p SI.out.d.wd HS.out).mono ?_
          rintro e w16 ⟨a16, c16, rfl, k16, own16⟩
          have S16 := Lib.hid (SI.out.keep k16)
          have O16 := Lib.hid own16
          have K16 := Lib.hid k16
          clear k16 own16 z0 z1 z2
          go_upto_region 17 with fail
          have KD : Kept w16 w16.drew := (Kept.refl _).drew
          refine wp_region_held_drew (S := fun w' => (ldP (.pointer (some ⟨C, c * 6, none⟩))).run Tryz.prog w' = .ok (.agg (st c).cells.toArray) w') (by kernel_rfl) ?_ (fun hHeld => ?_)
          · exact ld_pair ((S16.out.keep KD).co.at_ c hc4)
          refine take_on (i := 0) (oi := ?_) (v := ?_) ?_ (by kernel_rfl) ?_ ?_ ?_ hHeld ?_; rotate_left 2; (focus (simp only [List.getElem?_toArray, List.getElem?_cons_zero]; exact rfl)); (focus (rfl)); (focus (intro w hSw; (try dsimp only at hSw); go_simp <;> with_reducible rfl)); (focus (exact fun _ _ _ h => h)); simp only [Act.put, List.setIfInBounds_toArray, List.set_cons_zero, List.set_cons_succ]
          refine take_on (i := 1) (oi := ?_) (v := ?_) ?_ (by kernel_rfl) ?_ ?_ ?_ hHeld ?_; rotate_left 2; (focus (simp only [List.getElem?_toArray, List.getElem?_cons_succ, List.getElem?_cons_zero]; exact rfl)); (focus (rfl)); (focus (intro w hSw; (try dsimp only at hSw); go_simp <;> with_reducible rfl)); (focus (exact fun _ _ _ h => h)); simp only [Act.put, List.setIfInBounds_toArray, List.set_cons_zero, List.set_cons_succ]
          refine take_on (i := 2) (oi := ?_) (v := ?_) ?_ (by kernel_rfl) ?_ ?_ ?_ hHeld ?_; rotate_left 2; (focus (simp only [List.getElem?_toArray, List.getElem?_cons_succ, List.getElem?_cons_zero]; exact rfl)); (focus (rfl)); (focus (intro w hSw; (try dsimp only at hSw); go_simp <;> with_reducible rfl)); (focus (exact fun _ _ _ h => h)); simp only [Act.put, List.setIfInBounds_toArray, List.set_cons_zero, List.set_cons_succ]
          refine take_on (i := 3) (oi := ?_) (v := ?_) ?_ (by kernel_rfl) ?_ ?_ ?_ hHeld ?_; rotate_left 2; (focus (simp only [List.getElem?_toArray, List.getElem?_cons_succ, List.getElem?_cons_zero]; exact rfl)); (focus (rfl)); (focus (intro w hSw; (try dsimp only at hSw); go_simp <;> with_reducible rfl)); (focus (exact fun _ _ _ h => h)); simp only [Act.put, List.setIfInBounds_toArray, List.set_cons_zero, List.set_cons_succ]
          refine take_on (i := 4) (oi := ?_) (v := ?_) ?_ (by kernel_rfl) ?_ ?_ ?_ hHeld ?_; rotate_left 2; (focus (simp only [List.getElem?_toArray, List.getElem?_cons_succ, List.getElem?_cons_zero]; exact rfl)); (focus (rfl)); (focus (intro w hSw; (try dsimp only at hSw); go_simp <;> with_reducible rfl)); (focus (exact fun _ _ _ h => h)); simp only [Act.put, List.setIfInBounds_toArray, List.set_cons_zero, List.set_cons_succ]
          refine take_on (i := 5) (oi := ?_) (v := ?_) ?_ (by kernel_rfl) ?_ ?_ ?_ hHeld ?_; rotate_left 2; (focus (simp only [List.getElem?_toArray, List.getElem?_cons_succ, List.getElem?_cons_zero]; exact rfl)); (focus (rfl)); (focus (intro w hSw; (try dsimp only at hSw); go_simp <;> with_reducible rfl)); (focus (exact fun _ _ _ h => h)); simp only [Act.put, List.setIfInBounds_toArray, List.set_cons_zero, List.set_cons_succ]
          refine take_on (i := 6) (oi := ?_) (v := ?_) ?_ (by kernel_rfl) ?_ ?_ ?_ hHeld ?_; rotate_left 2; (focus (simp only [List.getElem?_toArray, List.getElem?_cons_succ, List.getElem?_cons_zero]; exact rfl)); (focus (rfl)); (focus (intro w hSw; (try dsimp only at hSw); go_simp <;> with_reducible rfl)); (focus (exact fun _ _ _ h => h)); simp only [Act.put, List.setIfInBounds_toArray, List.set_cons_zero, List.set_cons_succ]
          refine wpAnyH_ready (rs := [7]) (by kernel_rfl) (by simp) ?_
          refine AllReadyH.cons (o := ?_) ?_ ?_ AllReadyH.nil
          rotate_left 1
          · simp only [List.getElem?_toArray, List.getElem?_cons_succ, List.getElem?_cons_zero]; exact rfl
          intro K hK
          go_simp
          go_at_call 12; refine (told_any (cut own wA.heap.size) c S M B M2 B2 n s (st c) false _ ((S16.out.keep KD).is c hc4) (S16.out.keep KD).d HS.out (by have := S16.out.cnt; omega)).mono ?_; rintro e w17 ⟨rfl, p', s', hpc, hss, hpi, hd17, hs17, hb17⟩; have S17 := Lib.hid ((S16.out.keep KD).told hc4 hpc hpi hd17 hs17 hb17); have HPC := Lib.hid hpc; have HSS := Lib.hid hss; have O17 := Lib.hid (own_same O16.out fun g hg => (hb17.block g (Nat.lt_of_lt_of_le (O16.out.lt g hg).2 KD.size) (fun hm => by have := cut_new (own := own) (O16.out.lt g hg).1; unfold mine at hm; omega)).trans (KD.below.block g (O16.out.lt g hg).2)); clear hpc hss hpi hd17 hs17 hb17 KD
          go_wp2_with fail
          clear hHeld
          refine hK.out _ _ ?_ (fun hHeld => ?_)
          · exact (by rw [← HPC.out]; have h := ld_pair (S17.out.co.at_ c hc4); unfold put at h; rw [if_pos rfl] at h; exact h)
          clear hK K
          try simp only [Act.put, List.setIfInBounds_toArray, List.set_cons_zero, List.set_cons_succ]
          refine held_mono (S' := fun w' => (ldP (.pointer (some ⟨C, c * 6, none⟩))).run Tryz.prog w' = .ok (.agg (st c).cells.toArray) w' ∧ w'.cell? ⟨M2, 0, none⟩ = some (.slice (some ⟨B2, 0, none⟩) n n) ∧ w'.cell? ⟨M2, 1, none⟩ = some (.int .i64 s'.kind) ∧ w'.cell? ⟨M2, 2, none⟩ = some (.int .i64 s'.at_) ∧ w'.cell? ⟨M2, 3, none⟩ = some (.int .u64 s'.old) ∧ w'.cell? ⟨M2, 4, none⟩ = some (.int .u64 s'.new) ∧ w'.cell? ⟨M2, 5, none⟩ = some (.bool s'.held) ∧ w'.cell? ⟨M2, 6, none⟩ = some (.int .i64 s'.cnt)) (fun _ h => h.1) _ _ _ _ ?_
          have hHeld := And.intro hHeld (And.intro S17.out.d.r.c0 (And.intro S17.out.d.r.c1 (And.intro S17.out.d.r.c2 (And.intro S17.out.d.r.c3 (And.intro S17.out.d.r.c4 (And.intro S17.out.d.r.c5 S17.out.d.r.c6))))))
          refine take_on (i := 8) (oi := ?_) (v := ?_) ?_ (by kernel_rfl) ?_ ?_ ?_ hHeld ?_; rotate_left 2; (focus (simp only [List.getElem?_toArray, List.getElem?_cons_succ, List.getElem?_cons_zero]; exact rfl)); (focus (rfl)); (focus (intro w hSw; (try dsimp only at hSw); go_simp <;> with_reducible rfl)); (focus (exact fun _ _ _ h => h)); simp only [Act.put, List.setIfInBounds_toArray, List.set_cons_zero, List.set_cons_succ]
          refine take_on (i := 9) (oi := ?_) (v := ?_) ?_ (by kernel_rfl) ?_ ?_ ?_ hHeld ?_; rotate_left 2; (focus (simp only [List.getElem?_toArray, List.getElem?_cons_succ, List.getElem?_cons_zero]; exact rfl)); (focus (rfl)); (focus (intro w hSw; (try dsimp only at hSw); go_simp <;> with_reducible rfl)); (focus (exact fun _ _ _ h => h)); simp only [Act.put, List.setIfInBounds_toArray, List.set_cons_zero, List.set_cons_succ]
          refine take_on (i := 10) (oi := ?_) (v := ?_) ?_ (by kernel_rfl) ?_ ?_ ?_ hHeld ?_; rotate_left 2; (focus (simp only [List.getElem?_toArray, List.getElem?_cons_succ, List.getElem?_cons_zero]; exact rfl)); (focus (rfl)); (focus (intro w hSw; (try dsimp only at hSw); go_simp <;> with_reducible rfl)); (focus (exact fun _ _ _ h => h)); simp only [Act.put, List.setIfInBounds_toArray, List.set_cons_zero, List.set_cons_succ]
          refine take_on (i := 12) (oi := ?_) (v := ?_) ?_ (by kernel_rfl) ?_ ?_ ?_ hHeld ?_; rotate_left 2; (focus (simp only [List.getElem?_toArray, List.getElem?_cons_succ, List.getElem?_cons_zero]; exact rfl)); (focus (rfl)); (focus (intro w hSw; (try dsimp only at hSw); go_simp <;> with_reducible rfl)); (focus (exact fun _ _ _ h => h)); simp only [Act.put, List.setIfInBounds_toArray, List.set_cons_zero, List.set_cons_succ]
          refine take_on (i := 13) (oi := ?_) (v := ?_) ?_ (by kernel_rfl) ?_ ?_ ?_ hHeld ?_; rotate_left 2; (focus (simp only [List.getElem?_toArray, List.getElem?_cons_succ, List.getElem?_cons_zero]; exact rfl)); (focus (rfl)); (focus (intro w hSw; (try dsimp only at hSw); go_simp <;> with_reducible rfl)); (focus (exact fun _ _ _ h => h)); simp only [Act.put, List.setIfInBounds_toArray, List.set_cons_zero, List.set_cons_succ]
          refine take_on (i := 14) (oi := ?_) (v := ?_) ?_ (by kernel_rfl) ?_ ?_ ?_ hHeld ?_; rotate_left 2; (focus (simp only [List.getElem?_toArray, List.getElem?_cons_succ, List.getElem?_cons_zero]; exact rfl)); (focus (rfl)); (focus (intro w hSw; (try dsimp only at hSw); go_simp <;> with_reducible rfl)); (focus (exact fun _ _ _ h => h)); simp only [Act.put, List.setIfInBounds_toArray, List.set_cons_zero, List.set_cons_succ]
          refine take_on (i := 15) (oi := ?_) (v := ?_) ?_ (by kernel_rfl) ?_ ?_ ?_ hHeld ?_; rotate_left 2; (focus (simp only [List.getElem?_toArray, List.getElem?_cons_succ, List.getElem?_cons_zero]; exact rfl)); (focus (rfl)); (focus (intro w hSw; (try dsimp only at hSw); go_simp <;> with_reducible rfl)); (focus (exact fun _ _ _ h => h)); simp only [Act.put, List.setIfInBounds_toArray, List.set_cons_zero, List.set_cons_succ]
          refine wpAnyH_ready (rs := [11]) (by kernel_rfl) (by simp) ?_
          refine AllReadyH.cons (o := ?_) ?_ ?_ AllReadyH.nil
          rotate_left 1
          · simp only [List.getElem?_toArray, List.getElem?_cons_succ, List.getElem?_cons_zero]; exact rfl
          intro K hK
          go_simp
          go_at_call 13; refine (p_last M B n s' _ S17.out.d.p).mono ?_; rintro e w18 ⟨rfl, k18⟩; have S18 := Lib.hid (S17.out.keep k18); have K18 := Lib.hid k18; clear k18
          go_wp2_with fail
          clear hHeld
          refine hK.out _ _ ?_ (fun hHeld => ?_)
          · exact ⟨(by rw [← HPC.out]; have h := ld_pair (S18.out.co.at_ c hc4); unfold put at h; rw [if_pos rfl] at h; exact h), S18.out.d.r.c0, S18.out.d.r.c1, S18.out.d.r.c2, S18.out.d.r.c3, S18.out.d.r.c4, S18.out.d.r.c5, S18.out.d.r.c6⟩
          clear hK K
          try simp only [Act.put, List.setIfInBounds_toArray, List.set_cons_zero, List.set_cons_succ]
          refine take_on (i := 16) (oi := ?_) (v := ?_) ?_ (by kernel_rfl) ?_ ?_ ?_ hHeld ?_; rotate_left 2; (focus (simp only [List.getElem?_toArray, List.getElem?_cons_succ, List.getElem?_cons_zero]; exact rfl)); (focus (rfl)); (focus (intro w hSw; (try dsimp only at hSw); go_simp <;> with_reducible rfl)); (focus (exact fun _ _ _ h => h)); simp only [Act.put, List.setIfInBounds_toArray, List.set_cons_zero, List.set_cons_succ]
          refine take_on (i := 17) (oi := ?_) (v := ?_) ?_ (by kernel_rfl) ?_ ?_ ?_ hHeld ?_; rotate_left 2; (focus (simp only [List.getElem?_toArray, List.getElem?_cons_succ, List.getElem?_cons_zero]; exact rfl)); (focus (rfl)); (focus (intro w hSw; (try dsimp only at hSw); go_simp <;> with_reducible rfl)); (focus (exact fun _ _ _ h => h)); simp only [Act.put, List.setIfInBounds_toArray, List.set_cons_zero, List.set_cons_succ]
          refine take_on (i := 18) (oi := ?_) (v := ?_) ?_ (by kernel_rfl) ?_ ?_ ?_ hHeld ?_; rotate_left 2; (focus (simp only [List.getElem?_toArray, List.getElem?_cons_succ, List.getElem?_cons_zero]; exact rfl)); (focus (rfl)); (focus (intro w hSw; (try dsimp only at hSw); go_simp <;> with_reducible rfl)); (focus (exact fun _ _ _ h => h)); simp only [Act.put, List.setIfInBounds_toArray, List.set_cons_zero, List.set_cons_succ]
          refine take_on (i := 19) (oi := ?_) (v := ?_) ?_ (by kernel_rfl) ?_ ?_ ?_ hHeld ?_; rotate_left 2; (focus (simp only [List.getElem?_toArray, List.getElem?_cons_succ, List.getElem?_cons_zero]; exact rfl)); (focus (rfl)); (focus (intro w hSw; (try dsimp only at hSw); go_simp <;> with_reducible rfl)); (focus (exact fun _ _ _ h => h)); simp only [Act.put, List.setIfInBounds_toArray, List.set_cons_zero, List.set_cons_succ]
          refine take_on (i := 21) (oi := ?_) (v := ?_) ?_ (by kernel_rfl) ?_ ?_ ?_ hHeld ?_; rotate_left 2; (focus (simp only [List.getElem?_toArray, List.getElem?_cons_succ, List.getElem?_cons_zero]; exact rfl)); (focus (rfl)); (focus (intro w hSw; (try dsimp only at hSw); go_simp <;> with_reducible rfl)); (focus (exact fun _ _ _ h => h)); simp only [Act.put, List.setIfInBounds_toArray, List.set_cons_zero, List.set_cons_succ]
          refine take_on (i := 22) (oi := ?_) (v := ?_) ?_ (by kernel_rfl) ?_ ?_ ?_ hHeld ?_; rotate_left 2; (focus (simp only [List.getElem?_toArray, List.getElem?_cons_succ, List.getElem?_cons_zero]; exact rfl)); (focus (rfl)); (focus (intro w hSw; (try dsimp only at hSw); go_simp <;> with_reducible rfl)); (focus (exact fun _ _ _ h => h)); simp only [Act.put, List.setIfInBounds_toArray, List.set_cons_zero, List.set_cons_succ]
          refine take_on (i := 23) (oi := ?_) (v := ?_) ?_ (by kernel_rfl) ?_ ?_ ?_ hHeld ?_; rotate_left 2; (focus (simp only [List.getElem?_toArray, List.getElem?_cons_succ, List.getElem?_cons_zero]; exact rfl)); (focus (rfl)); (focus (intro w hSw; (try dsimp only at hSw); go_simp <;> with_reducible rfl)); (focus (exact fun _ _ _ h => h)); simp only [Act.put, List.setIfInBounds_toArray, List.set_cons_zero, List.set_cons_succ]
          refine take_on (i := 24) (oi := ?_) (v := ?_) ?_ (by kernel_rfl) ?_ ?_ ?_ hHeld ?_; rotate_left 2; (focus (simp only [List.getElem?_toArray, List.getElem?_cons_succ, List.getElem?_cons_zero]; exact rfl)); (focus (rfl)); (focus (intro w hSw; (try dsimp only at hSw); go_simp <;> with_reducible rfl)); (focus (exact fun _ _ _ h => h)); simp only [Act.put, List.setIfInBounds_toArray, List.set_cons_zero, List.set_cons_succ]
          refine wpAnyH_ready (rs := [20]) (by kernel_rfl) (by simp) ?_
          refine AllReadyH.cons (o := ?_) ?_ ?_ AllReadyH.nil
          rotate_left 1
          · simp only [List.getElem?_toArray, List.getElem?_cons_succ, List.getElem?_cons_zero]; exact rfl
          intro K hK
          go_simp
          go_at_call 8; refine (p_count M B n s' _ S18.out.d.p).mono ?_; rintro e w19 ⟨rfl, rfl⟩
          go_wp2_with fail
          clear hHeld
          refine hK.out _ _ ?_ (fun hHeld => ?_)
          · exact ⟨(by rw [← HPC.out]; have h := ld_pair (S18.out.co.at_ c hc4); unfold put at h; rw [if_pos rfl] at h; exact h), S18.out.d.r.c0, S18.out.d.r.c1, S18.out.d.r.c2, S18.out.d.r.c3, S18.out.d.r.c4, S18.out.d.r.c5, S18.out.d.r.c6⟩
          clear hK K
          try simp only [Act.put, List.setIfInBounds_toArray, List.set_cons_zero, List.set_cons_succ]
          refine take_on (i := 25) (oi := ?_) (v := ?_) ?_ (by kernel_rfl) ?_ ?_ ?_ hHeld ?_; rotate_left 2; (focus (simp only [List.getElem?_toArray, List.getElem?_cons_succ, List.getElem?_cons_zero]; exact rfl)); (focus (rfl)); (focus (intro w hSw; (try dsimp only at hSw); go_simp <;> with_reducible rfl)); (focus (exact fun _ _ _ h => h)); simp only [Act.put, List.setIfInBounds_toArray, List.set_cons_zero, List.set_cons_succ]
          refine take_on (i := 26) (oi := ?_) (v := ?_) ?_ (by kernel_rfl) ?_ ?_ ?_ hHeld ?_; rotate_left 2; (focus (simp only [List.getElem?_toArray, List.getElem?_cons_succ, List.getElem?_cons_zero]; exact rfl)); (focus (rfl)); (focus (intro w hSw; (try dsimp only at hSw); go_simp <;> with_reducible rfl)); (focus (exact fun _ _ _ h => h)); simp only [Act.put, List.setIfInBounds_toArray, List.set_cons_zero, List.set_cons_succ]
          refine take_on (i := 27) (oi := ?_) (v := ?_) ?_ (by kernel_rfl) ?_ ?_ ?_ hHeld ?_; rotate_left 2; (focus (simp only [List.getElem?_toArray, List.getElem?_cons_succ, List.getElem?_cons_zero]; exact rfl)); (focus (rfl)); (focus (intro w hSw; (try dsimp only at hSw); go_simp <;> with_reducible rfl)); (focus (exact fun _ _ _ h => h)); simp only [Act.put, List.setIfInBounds_toArray, List.set_cons_zero, List.set_cons_succ]
          refine take_on (i := 28) (oi := ?_) (v := ?_) ?_ (by kernel_rfl) ?_ ?_ ?_ hHeld ?_; rotate_left 2; (focus (simp only [List.getElem?_toArray, List.getElem?_cons_succ, List.getElem?_cons_zero]; exact rfl)); (focus (rfl)); (focus (intro w hSw; (try dsimp only at hSw); go_simp <;> with_reducible rfl)); (focus (exact fun _ _ _ h => h)); simp only [Act.put, List.setIfInBounds_toArray, List.set_cons_zero, List.set_cons_succ]
          refine take_on (i := 30) (oi := ?_) (v := ?_) ?_ (by kernel_rfl) ?_ ?_ ?_ hHeld ?_; rotate_left 2; (focus (simp only [List.getElem?_toArray, List.getElem?_cons_succ, List.getElem?_cons_zero]; exact rfl)); (focus (rfl)); (focus (intro w hSw; (try dsimp only at hSw); go_simp <;> with_reducible rfl)); (focus (exact fun _ _ _ h => h)); simp only [Act.put, List.setIfInBounds_toArray, List.set_cons_zero, List.set_cons_succ]
          refine take_on (i := 31) (oi := ?_) (v := ?_) ?_ (by kernel_rfl) ?_ ?_ ?_ hHeld ?_; rotate_left 2; (focus (simp only [List.getElem?_toArray, List.getElem?_cons_succ, List.getElem?_cons_zero]; exact rfl)); (focus (rfl)); (focus (intro w hSw; (try dsimp only at hSw); go_simp <;> with_reducible rfl)); (focus (exact fun _ _ _ h => h)); simp only [Act.put, List.setIfInBounds_toArray, List.set_cons_zero, List.set_cons_succ]
          refine take_on (i := 32) (oi := ?_) (v := ?_) ?_ (by kernel_rfl) ?_ ?_ ?_ hHeld ?_; rotate_left 2; (focus (simp only [List.getElem?_toArray, List.getElem?_cons_succ, List.getElem?_cons_zero]; exact rfl)); (focus (rfl)); (focus (intro w hSw; (try dsimp only at hSw); go_simp <;> with_reducible rfl)); (focus (exact fun _ _ _ h => h)); simp only [Act.put, List.setIfInBounds_toArray, List.set_cons_zero, List.set_cons_succ]
          refine take_on (i := 33) (oi := ?_) (v := ?_) ?_ (by kernel_rfl) ?_ ?_ ?_ hHeld ?_; rotate_left 2; (focus (simp only [List.getElem?_toArray, List.getElem?_cons_succ, List.getElem?_cons_zero]; exact rfl)); (focus (rfl)); (focus (intro w hSw; (try dsimp only at hSw); go_simp <;> with_reducible rfl)); (focus (exact fun _ _ _ h => h)); simp only [Act.put, List.setIfInBounds_toArray, List.set_cons_zero, List.set_cons_succ]
          refine wpAnyH_ready (rs := [29]) (by kernel_rfl) (by simp) ?_
          refine AllReadyH.cons (o := ?_) ?_ ?_ AllReadyH.nil
          rotate_left 1
          · simp only [List.getElem?_toArray, List.getElem?_cons_succ, List.getElem?_cons_zero]; exact rfl
          intro K hK
          go_simp
          go_at_call 15; refine (p_words M B n s' _ S18.out.d.p).mono ?_; rintro e w20 ⟨bw, cw, rfl, hb1, hb2, hw, hf, k20⟩; have S20 := Lib.hid (S18.out.keep k20); have K20 := Lib.hid k20; have HW := Lib.hid hw; clear k20 hw hf hb1 hb2
          go_wp2_with fail
          clear hHeld
          refine hK.out _ _ ?_ (fun hHeld => ?_)
          · exact ⟨(by rw [← HPC.out]; have h := ld_pair (S20.out.co.at_ c hc4); unfold put at h; rw [if_pos rfl] at h; exact h), S20.out.d.r.c0, S20.out.d.r.c1, S20.out.d.r.c2, S20.out.d.r.c3, S20.out.d.r.c4, S20.out.d.r.c5, S20.out.d.r.c6⟩
          clear hK K
          try simp only [Act.put, List.setIfInBounds_toArray, List.set_cons_zero, List.set_cons_succ]
          refine wpAnyH_ready (rs := [34]) (by kernel_rfl) (by simp) ?_
          refine AllReadyH.cons (o := ?_) ?_ ?_ AllReadyH.nil
          rotate_left 1
          · simp only [List.getElem?_toArray, List.getElem?_cons_succ, List.getElem?_cons_zero]; exact rfl
          intro K hK
          go_simp
          go_at_call 14; refine (sameWords (f := s'.ws) S20.out.d.n2 (fun i hi => by rw [Nat.zero_add]; exact HW.out i hi) (fun i hi => by rw [Nat.zero_add]; exact S20.out.d.r.words i hi)).mono ?_; rintro e w21 ⟨rfl, k21⟩; have S21 := Lib.hid (S20.out.keep k21); have O21 := Lib.hid (own_same O17.out fun g hg => (K18.out.trans (K20.out.trans k21)).below.block g (O17.out.lt g hg).2); clear k21 HW O17 O16
          go_wp2_with fail
          clear hHeld
          refine hK.out _ _ ?_ (fun hHeld => ?_)
          · exact ⟨(by rw [← HPC.out]; have h := ld_pair (S21.out.co.at_ c hc4); unfold put at h; rw [if_pos rfl] at h; exact h), S21.out.d.r.c0, S21.out.d.r.c1, S21.out.d.r.c2, S21.out.d.r.c3, S21.out.d.r.c4, S21.out.d.r.c5, S21.out.d.r.c6⟩
          clear hK K
          try simp only [Act.put, List.setIfInBounds_toArray, List.set_cons_zero, List.set_cons_succ]
          refine take_on (i := 35) (oi := ?_) (v := ?_) ?_ (by kernel_rfl) ?_ ?_ ?_ hHeld ?_; rotate_left 2; (focus (simp only [List.getElem?_toArray, List.getElem?_cons_succ, List.getElem?_cons_zero]; exact rfl)); (focus (rfl)); (focus (intro w hSw; (try dsimp only at hSw); go_simp <;> with_reducible rfl)); (focus (exact fun _ _ _ h => h)); simp only [Act.put, List.setIfInBounds_toArray, List.set_cons_zero, List.set_cons_succ]
          refine take_on (i := 36) (oi := ?_) (v := ?_) ?_ (by kernel_rfl) ?_ ?_ ?_ hHeld ?_; rotate_left 2; (focus (simp only [List.getElem?_toArray, List.getElem?_cons_succ, List.getElem?_cons_zero]; exact rfl)); (focus (rfl)); (focus (intro w hSw; (try dsimp only at hSw); go_simp <;> with_reducible rfl)); (focus (exact fun _ _ _ h => h)); simp only [Act.put, List.setIfInBounds_toArray, List.set_cons_zero, List.set_cons_succ]
          refine wpAnyH_done (by kernel_rfl) ?_ _
          clear hHeld
          have z0 := S21.out.t0
          have z1 := S21.out.t1
          have z2 := S21.out.t2
          go_wp2_with fail
          refine (r_chain S S21.out.d.r S21.out.d.wd HS.out).mono ?_
          rintro e w24 ⟨a24, c24, rfl, k24, own24⟩
          have S24 := Lib.hid (S21.out.keep k24)
          have O24 := Lib.hid own24
          have O25 := Lib.hid (own_same O21.out fun g hg => k24.below.block g (O21.out.lt g hg).2)
          have e24 : chn n s'.ws S = chn n s.ws S := by rw [HSS.out (by simp)]
          rw [e24] at O24 ⊢
          clear k24 own24 e24 z0 z1 z2
          go_wp2_with fail
          refine (sameInts_yes a16 a24 _ c16 c24 (fun i => (chn n s.ws S).getD i 0) _ (by have := chn_length n s.ws S; omega) (reads_own O25.out) (reads_own O24.out)).mono ?_
          rintro e w26 ⟨rfl, k26⟩
          have S26 := Lib.hid (S24.out.keep k26)
          have O26 := Lib.hid (own_same O25.out fun g hg => k26.below.block g (O25.out.lt g hg).2)
          clear k26
          have z0 := S26.out.t0
          have z1 := S26.out.t1
          have z2 := S26.out.t2
          clear z0 z1 z2
          go_wp2_with fail
          refine (overInts_own O26.out (by have := chn_length n s.ws S; omega)).mono ?_
          rintro e w27 ⟨rfl, b27⟩
          have S27 := Lib.hid (S26.out.free b27 (fun j hj => cut_new hj) SI.out.co.lt (lt_of_cell SI.out.t0))
          clear b27
          have z0 := S27.out.t0
          have z1 := S27.out.t1
          have z2 := S27.out.t2
          go_wp2_with fail
          go_region_held3 (fun w' => w'.cell? ⟨w.heap.size, 0, none⟩ = some (.int .i64 S.T) ∧ w'.cell? ⟨w.heap.size, 1, none⟩ = some (.int .i64 S.K) ∧ w'.cell? ⟨w.heap.size, 2, none⟩ = some (.int .i64 S.N)) (first | go_keep | (exact ⟨x0, x1, x2⟩) | (exact ⟨y0, y1, y2⟩) | (exact ⟨v0, v1, v2⟩)) (first
            | (go_at_call 11; refine (p_chain S (S27.out.keep (by first | exact Kept.refl _ | exact (Kept.refl _).drew | exact (Kept.refl _).drewN _)).d.p S27.out.d.wd HS.out).mono ?_; rintro e w28 ⟨a28, c28, rfl, k28, own28⟩; have K28 : Kept w27 w28 := Kept.trans (b := _) (by first | exact Kept.refl _ | exact (Kept.refl _).drew | exact (Kept.refl _).drewN _) k28; have x0 := K28.some z0; have x1 := K28.some z1; have x2 := K28.some z2)
            | (go_at_call 17; refine (r_chain S (S27.out.keep (by first | exact K28 | exact K28.drew | exact K28.drewN _)).d.r S27.out.d.wd HS.out).mono ?_; rintro e w29 ⟨a29, c29, rfl, k29, own29⟩; have K289 : Kept w28 w29 := Kept.trans (b := _) (by first | exact Kept.refl _ | exact (Kept.refl _).drew | exact (Kept.refl _).drewN _) k29; have K29 := K28.trans K289; have y0 := K29.some z0; have y1 := K29.some z1; have y2 := K29.some z2)
            | (go_at_call 16; refine (sameInts_yes a28 a29 _ c28 c29 (fun i => (chn n s'.ws S).getD i 0) _ (by have := chn_length n s'.ws S; omega) ((reads_own own28).kept (K289.trans (by first | exact Kept.refl _ | exact (Kept.refl _).drew | exact (Kept.refl _).drewN _))) ((reads_own own29).kept (by first | exact Kept.refl _ | exact (Kept.refl _).drew | exact (Kept.refl _).drewN _))).mono ?_; rintro e w30 ⟨rfl, k30⟩; have K30 : Kept w27 w30 := K29.trans (Kept.trans (b := _) (by first | exact Kept.refl _ | exact (Kept.refl _).drew | exact (Kept.refl _).drewN _) k30); have v0 := K30.some z0; have v1 := K30.some z1; have v2 := K30.some z2))
          have S30 := Lib.hid (S27.out.keep K30)
          clear x0 x1 x2 y0 y1 y2 v0 v1 v2 z0 z1 z2 K28 K289 K29 K30 k28 k29 k30 own28 own29
          rename_i hcells
          clear hcells
          go_wp2
          go_roundw
          case rel => exact ⟨k + 1, cut own wA.heap.size, put st c p', s', by omega, by go_num, S30.out⟩
          case measure => simp [intOf]; omega
    · have hge : m3 ≤ k := by omega
      go_wp2_with fail
      refine (awake_any _).mono ?_
      rintro e w40 ⟨rfl, k40⟩
      go_wp2
      go_ret
      exact ⟨rfl, HI.out.kept.trans k40⟩
end Go.Proofs.YtfcompikbeebaaaGreat.Sk
