/- The walk of EpochSteps. Written by gen12x.py. -/
import Derived.Test.YtmfbjlaajcdbnaaG24
import Derived.Deep.QuietTactic
import Derived.BigQuiet
set_option linter.unusedVariables false
set_option linter.unusedSimpArgs false

namespace Go.Proofs.Ytmfbjlaajcdbnaa.Ep
set_option maxRecDepth 100000
open Go.RowKit
open Wo (St acc wordAt PMem RefIs)
open Sk (Stk Wd pmem_kept pmem_lt pmem_frame ref_frame ref_kept ref_lt p_last p_words p_count take_on take_off held_mono)
attribute [local go_sem ↓] ldP_named stP_named

theorem make_boths : ∃ Z : Array Value, (∀ i, i < 24 → Z[i]? = some (.pointer none)) ∧
    ∀ w : World, (Instr.makeSlice 33 (.int .i64 4) (.int .i64 4)).run Try.prog w = .ok (.slice (some ⟨w.heap.size, 0, none⟩) 4 4) (w.alloc (.cells Z 44)) := by
  obtain ⟨i0, hi, hz0, hz1, hz2⟩ := info_parts infoPair
  refine ⟨madeCells #[.pointer none, .pointer none, .pointer none, .pointer none, .pointer none, .pointer none] 24, fun i h => ?_, fun w => ?_⟩
  · have hz : ∀ j, j < 6 → (#[Value.pointer none, .pointer none, .pointer none, .pointer none, .pointer none, .pointer none] : Array Value)[j]? = some (.pointer none) := fun j hj => by
      have : j = 0 ∨ j = 1 ∨ j = 2 ∨ j = 3 ∨ j = 4 ∨ j = 5 := by omega
      rcases this with rfl | rfl | rfl | rfl | rfl | rfl <;> rfl
    have hm := hz (i % 6) (by omega)
    have hz2 : ∀ j, j < 6 → ([Value.pointer none, .pointer none, .pointer none, .pointer none, .pointer none, .pointer none] : List Value)[j]? = some (.pointer none) := fun j hj => by
      have : j = 0 ∨ j = 1 ∨ j = 2 ∨ j = 3 ∨ j = 4 ∨ j = 5 := by omega
      rcases this with rfl | rfl | rfl | rfl | rfl | rfl <;> rfl
    have hm2 := hz2 (i % 6) (by omega)
    simp [madeCells, h, Array.getElem!_eq_getD, Array.getD_eq_getD_getElem?, hm2]
  · have h := run_makeSlice (P := Try.prog) w 33 44 i0 (.agg #[.pointer none, .pointer none, .pointer none, .pointer none, .pointer none, .pointer none]) Try.underlying33 hi hz0 .i64 .i64 4 4 (by omega) (Int.le_refl _) (by rw [hz1]; decide) (by rw [hz2]; decide) (by decide)
    rw [h, hz1]
    rfl

def cut (own : Nat → Nat) (n k : Nat) : Nat := if k < n then own k else 2
theorem cut_old {own : Nat → Nat} {n : Nat} : ∀ k, k < n → cut own n k = own k := fun k hk => by unfold cut; rw [if_pos hk]
theorem cut_new {own : Nat → Nat} {n k : Nat} (h : n ≤ k) : cut own n k = 2 := by unfold cut; rw [if_neg (by omega)]

structure StI (w0 : World) (S : Stk) (M B M2 B2 C n : Nat) (own : Nat → Nat) (st : Nat → PS) (s : St) (k : Nat) (w : World) : Prop where
  d : Duo own w M B M2 B2 n s
  co : Cores w C st
  is : ∀ c, c < 4 → (st c).Is own c S w
  low : ∀ j, j ≤ w0.heap.size → own j = 2
  oC : own C = 2
  cnt : s.cnt ≤ 10000 + k
  neC : w0.heap.size < C
  kept : Kept w0 w
  t0 : w.cell? ⟨w0.heap.size, 0, none⟩ = some (.int .i64 S.T)
  t1 : w.cell? ⟨w0.heap.size, 1, none⟩ = some (.int .i64 S.K)
  t2 : w.cell? ⟨w0.heap.size, 2, none⟩ = some (.int .i64 S.N)
theorem StI.keep {w0 : World} {S : Stk} {M B M2 B2 C n : Nat} {own : Nat → Nat} {st : Nat → PS} {s : St} {k : Nat} {w w' : World} (h : StI w0 S M B M2 B2 C n own st s k w) (kk : Kept w w') : StI w0 S M B M2 B2 C n own st s k w' :=
  ⟨h.d.kept kk, h.co.kept kk, fun c hc => (h.is c hc).kept kk, h.low, h.oC, h.cnt, h.neC, h.kept.trans kk, kk.some h.t0, kk.some h.t1, kk.some h.t2⟩
theorem StI.cut {w0 : World} {S : Stk} {M B M2 B2 C n : Nat} {own : Nat → Nat} {st : Nat → PS} {s : St} {k : Nat} {w : World} (h : StI w0 S M B M2 B2 C n own st s k w) : StI w0 S M B M2 B2 C n (cut own w.heap.size) st s k w :=
  ⟨h.d.owns cut_old, h.co, fun c hc => (h.is c hc).owns cut_old, fun j hj => by unfold Ep.cut; split <;> first | exact h.low j hj | rfl, by rw [cut_old _ h.co.lt]; exact h.oC, h.cnt, h.neC, h.kept, h.t0, h.t1, h.t2⟩
theorem StI.told {w0 : World} {S : Stk} {M B M2 B2 C n : Nat} {own : Nat → Nat} {st : Nat → PS} {s : St} {k : Nat} {w w' : World} (h : StI w0 S M B M2 B2 C n own st s k w) {c : Nat} (hc : c < 4) {p' : PS} {s' : St} (hp : p'.cells = (st c).cells) (hi : p'.Is own c S w') (hd : Duo own w' M B M2 B2 n s') (hs : s'.cnt ≤ s.cnt + 1) (hb : But (mine own c) w w') :
    StI w0 S M B M2 B2 C n own (put st c p') s' (k + 1) w' := by
  have nm : ∀ j, own j = 2 → ¬ mine own c j := fun j hj h => by unfold mine at h; omega
  refine ⟨hd, ?_, fun q hq => ?_, h.low, h.oC, by have := h.cnt; omega, h.neC, ((h.kept.but (fun j => mine own c j)).trans hb (fun _ _ h => h)).kept fun j hj => nm j (h.low j (by omega)), hb.some h.t0 (nm _ (h.low _ (Nat.le_refl _))), hb.some h.t1 (nm _ (h.low _ (Nat.le_refl _))), hb.some h.t2 (nm _ (h.low _ (Nat.le_refl _)))⟩
  · have h2 := h.co.frame hb (nm _ h.oC)
    refine ⟨fun q hq => ?_, h2.f, h2.lt⟩
    unfold put
    by_cases e : q = c
    · subst e; rw [if_pos rfl, hp]; exact h2.at_ q hq
    · rw [if_neg e]; exact h2.at_ q hq
  · unfold put
    by_cases e : q = c
    · subst e; rw [if_pos rfl]; exact hi
    · rw [if_neg e]
      exact (h.is q hq).frame hb (fun j hj => by unfold mine at hj; omega)
theorem StI.free {w0 : World} {S : Stk} {M B M2 B2 C n : Nat} {own : Nat → Nat} {st : Nat → PS} {s : St} {k b : Nat} {w w' : World} (h : StI w0 S M B M2 B2 C n own st s k w) (hb : But (fun j => b ≤ j) w w') (ho : ∀ j, b ≤ j → own j = 2) (hC : C < b) (hw : w0.heap.size < b) : StI w0 S M B M2 B2 C n own st s k w' := by
  refine ⟨h.d.frame hb (fun j hj => by rw [ho j hj]; omega), h.co.frame hb (by omega), fun q hq => (h.is q hq).frame hb (fun j hj => by rw [ho j hj]; omega), h.low, h.oC, h.cnt, h.neC, ((h.kept.but (fun j => b ≤ j)).trans hb (fun _ _ h => h)).kept fun j hj => by omega, hb.some h.t0 (by omega), hb.some h.t1 (by omega), hb.some h.t2 (by omega)⟩
theorem StI.begun {w0 : World} {S : Stk} {M B M2 B2 C n : Nat} {own own' : Nat → Nat} {st : Nat → PS} {s : St} {k : Nat} {w u : World} (h : StI w0 S M B M2 B2 C n own st s k w) (ku : Kept w u) {c : Nat} (hc : c < 4) {p : PS} (hi : p.Is own' c S u) (ho : ∀ j, j < w.heap.size → own' j = own j) :
    StI w0 S M B M2 B2 C n own' (put st c p) s k (u.setCells C (c * 6) p.cells) := by
  have hb : But (fun j => j = C) u (u.setCells C (c * 6) p.cells) := but_setCells (S := fun j => j = C) rfl _ _ _ (But.refl _ _)
  have oC : own' C = 2 := (ho _ h.co.lt).trans h.oC
  have hw : w0.heap.size < w.heap.size := lt_of_cell h.t0
  have h2 : StI w0 S M B M2 B2 C n own' st s k u := by
    have h1 := h.keep ku
    exact ⟨(h.d.owns ho).kept ku, h1.co, fun q hq => ((h.is q hq).owns ho).kept ku, fun j hj => (ho j (by omega)).trans (h.low j hj), oC, h.cnt, h.neC, h1.kept, h1.t0, h1.t1, h1.t2⟩
  have hn := h.neC
  refine ⟨h2.d.frame hb (fun j hj => by rw [hj, oC]; omega), h2.co.set hc p, fun q hq => ?_, h2.low, h2.oC, h2.cnt, h2.neC, ((h2.kept.but (fun j => j = C)).trans hb (fun _ _ h => h)).kept fun j hj => by omega, hb.some h2.t0 (by omega), hb.some h2.t1 (by omega), hb.some h2.t2 (by omega)⟩
  unfold put
  by_cases e : q = c
  · subst e; rw [if_pos rfl]; exact hi.frame hb (fun j hj => by rw [hj, oC]; omega)
  · rw [if_neg e]; exact (h2.is q hq).frame hb (fun j hj => by rw [hj, oC]; omega)

theorem wf_ws {n : Nat} {s : St} (h : Wd n s) : Wf n s.ws := fun i _ => ⟨h.lo i, h.hi i⟩
theorem now_w {w : World} {M B n : Nat} {s : St} (S : Stk) (hm : PMem w M B n s) (hs : Wd n s) (hn : n ≤ 100000) {W : World} (k : Kept w W) : Calls Try.prog 16 #[.agg #[.int .i64 S.T, .int .i64 S.K, .int .i64 S.N], .pointer (some ⟨M, 0, none⟩)] W fun e w' => e = .returned (.int .i64 (ep (wordAt n s S.T))) ∧ Kept W w' :=
  now_any S _ n s.ws (wf_ws hs) hn W (gives_words (pmem_kept hm k))
theorem count_w {w : World} {M B n : Nat} {s : St} (hm : PMem w M B n s) : Calls Try.prog 25 #[.pointer (some ⟨M, 0, none⟩)] w fun e w' => e = .returned (.int .i64 s.cnt) ∧ Kept w w' :=
  (p_count M B n s w hm).mono fun _ _ ⟨a, k⟩ => ⟨a, k ▸ Kept.refl _⟩

def StRel (w0 : World) (S : Stk) (M B M2 B2 C n L : Nat) (i : Value) (w : World) : Prop := ∃ (k : Nat) (own : Nat → Nat) (st : Nat → PS) (s : St), k ≤ L ∧ i = .int .i64 k ∧ StI w0 S M B M2 B2 C n own st s k w

theorem act_cells {w : World} {g o : Nat} {l : List (Int × Int × Int × Int)} (h : ∀ j u, (l.flatMap actc)[j]? = some u → w.cell? ⟨g, o + j, none⟩ = some u) (k : Nat) (hk : k < l.length) :
    ∃ co wh d p : Int, w.cell? ⟨g, o + k * 4, none⟩ = some (.int .i64 co) ∧ w.cell? ⟨g, o + k * 4 + 1, none⟩ = some (.int .i64 wh) ∧ w.cell? ⟨g, o + k * 4 + 2, none⟩ = some (.int .i64 d) ∧ w.cell? ⟨g, o + k * 4 + 3, none⟩ = some (.int .i64 p) := by
  obtain ⟨a, ha⟩ : ∃ a, l[k]? = some a := ⟨_, List.getElem?_eq_getElem hk⟩
  refine ⟨a.1, a.2.1, a.2.2.1, a.2.2.2, ?_, ?_, ?_, ?_⟩
  · have := h (k * 4 + 0) (.int .i64 a.1) (by rw [wide_get actc_length l k 0 a ha (by decide)]; rfl)
    simpa [Nat.add_assoc] using this
  · have := h (k * 4 + 1) (.int .i64 a.2.1) (by rw [wide_get actc_length l k 1 a ha (by decide)]; rfl)
    simpa [Nat.add_assoc] using this
  · have := h (k * 4 + 2) (.int .i64 a.2.2.1) (by rw [wide_get actc_length l k 2 a ha (by decide)]; rfl)
    simpa [Nat.add_assoc] using this
  · have := h (k * 4 + 3) (.int .i64 a.2.2.2) (by rw [wide_get actc_length l k 3 a ha (by decide)]; rfl)
    simpa [Nat.add_assoc] using this

set_option maxHeartbeats 8000000 in
theorem steps_main (S : Stk) (n : Nat) (li : List Int) (la : List (Int × Int × Int × Int)) (a2 a3 : Option Addr) (c2 c3 : Nat) (w : World) (h2 : Lay w (.slice a2 li.length c2) li.length (words li)) (hr : ∀ x ∈ li, 0 ≤ x ∧ x < 18446744073709551616) (h3 : Lay w (.slice a3 la.length c3) la.length (la.flatMap actc))
    (hF : fitsE S n = 0) (hn : n ≤ 90) (hl2 : li.length ≤ 90) (hl3 : la.length ≤ 120) :
    Calls Try.prog 3 #[.agg #[.int .i64 S.T, .int .i64 S.K, .int .i64 S.N], .int .i64 n, .slice a2 li.length c2, .slice a3 la.length c3] w fun e w' => e = .returned (.bool true) ∧ Kept w w' := by
  obtain ⟨hS, hN64, hn1, _⟩ := fitsE_ok hF
  rw [Int.toNat_natCast] at hS
  have hS : EOk S n := ⟨hS, hN64⟩
  have HS := Lib.hid hS
  have HF := Lib.hid hF
  have H2 := Lib.hid h2
  have H3 := Lib.hid h3
  have HR := Lib.hid hr
  obtain ⟨m2, hm2⟩ : ∃ m, m = li.length := ⟨_, rfl⟩
  obtain ⟨m3, hm3⟩ : ∃ m, m = la.length := ⟨_, rfl⟩
  have HM2 := Lib.hid hm2
  have HM3 := Lib.hid hm3
  rw [← hm2] at hl2 ⊢
  rw [← hm3] at hl3 ⊢
  have g2 : (m2 : Int) ≤ 90 := by omega
  have g3 : (m3 : Int) ≤ 120 := by omega
  have gn : (n : Int) ≤ 90 := by omega
  clear hS hF h2 h3 hr hm2 hm3
  go_enter Try.func3, Try.ntmps3
  go_upto_region 1 with fail
  obtain ⟨W1, hW1⟩ : ∃ W1, W1 = w.alloc (.cells #[.int .i64 S.T, .int .i64 S.K, .int .i64 S.N] 23) := ⟨_, rfl⟩
  have t0 : W1.cell? ⟨w.heap.size, 0, none⟩ = some (.int .i64 S.T) := by rw [hW1]; exact cell_new w _ _ _ 0 rfl
  have t1 : W1.cell? ⟨w.heap.size, 1, none⟩ = some (.int .i64 S.K) := by rw [hW1]; exact cell_new w _ _ _ 1 rfl
  have t2 : W1.cell? ⟨w.heap.size, 2, none⟩ = some (.int .i64 S.N) := by rw [hW1]; exact cell_new w _ _ _ 2 rfl
  have k1 : Kept w W1 := by rw [hW1]; exact (Kept.refl w).alloc _ _
  rw [← hW1]
  have K1 := Lib.hid k1
  clear hW1 k1
  have FP : ∀ W, Hid (Calls Try.prog 8 #[.agg #[.int .i64 S.T, .int .i64 S.K, .int .i64 S.N], .int .i64 n] W fun e w' => e = .returned (.int .i64 0) ∧ Kept W w') := fun W => Lib.hid (by have h := pfits_any S n W; rw [HF.out] at h; exact h)
  have FR : ∀ W, Hid (Calls Try.prog 9 #[.agg #[.int .i64 S.T, .int .i64 S.K, .int .i64 S.N], .int .i64 n] W fun e w' => e = .returned (.int .i64 0) ∧ Kept W w') := fun W => Lib.hid (by have h := rfits_any S n W; rw [HF.out] at h; exact h)
  go_region_held3 (fun w' => w'.cell? ⟨w.heap.size, 0, none⟩ = some (.int .i64 S.T) ∧ w'.cell? ⟨w.heap.size, 1, none⟩ = some (.int .i64 S.K) ∧ w'.cell? ⟨w.heap.size, 2, none⟩ = some (.int .i64 S.N)) (first | go_keep | (exact ⟨k2.some t0, k2.some t1, k2.some t2⟩) | (exact ⟨d0, d1, d2⟩)) (first
    | (go_at_call 8; refine (FP _).out.mono ?_; rintro e w2 ⟨rfl, k2⟩; have KT : Kept W1 w2 := Kept.trans (b := _) (by first | exact Kept.refl _ | exact (Kept.refl _).drew | exact (Kept.refl _).drewN _) k2)
    | (go_at_call 9; refine (FR _).out.mono ?_; rintro e w3 ⟨rfl, k3⟩; have KU : Kept W1 w3 := Kept.trans (b := _) (by first | exact KT | exact KT.drew | exact KT.drewN _) k3; have d0 := KU.some t0; have d1 := KU.some t1; have d2 := KU.some t2))
  have K3 := Lib.hid (K1.out.trans KU)
  clear t0 t1 t2 k2 k3 KT KU K1
  rename_i hcells
  clear hcells
  go_wp2_with fail
  refine (FR _).out.mono ?_
  rintro e w4 ⟨rfl, k4⟩
  have t0 := k4.some d0
  have t1 := k4.some d1
  have t2 := k4.some d2
  have K4 := Lib.hid (K3.out.trans k4)
  clear d0 d1 d2 k4
  go_wp2_with fail
  have hlaid : Calls Try.prog 11 #[.agg #[.int .i64 S.T, .int .i64 S.K, .int .i64 S.N], .int .i64 n, .slice a2 m2 c2] w4 (LaidPost n w4) := by
    have h := laid_any S n HS.out li (by have := HM2.out; omega) a2 c2 w4 (H2.out.kept K4.out) HR.out
    rw [← HM2.out] at h
    exact h
  refine hlaid.mono ?_
  rintro e w5 ⟨M, B, M2, B2, s0, rfl, hd5, hs5, k5, lM, lB, lM2, lB2⟩
  have D5 := Lib.hid hd5
  have K5 := Lib.hid (K4.out.trans k5)
  have hc6 := hd5.r.c6
  have u0 := k5.some t0
  have u1 := k5.some t1
  have u2 := k5.some t2
  have z4 : w.heap.size < w4.heap.size := lt_of_cell t0
  clear hlaid hd5 k5 t0 t1 t2
  have eqn : ∀ W, (binOp .eql 29 (.pointer (some ⟨M, 0, none⟩)) (.pointer none)).run Try.prog W = .ok (.bool false) W := fun W => by kernel_rfl
  obtain ⟨Z, hZ, hmk⟩ := make_boths
  have HZ := Lib.hid hZ
  clear hZ
  obtain ⟨C, hC⟩ : ∃ C, C = w5.heap.size := ⟨_, rfl⟩
  have hmk6 := hmk w5
  rw [← hC] at hmk6
  obtain ⟨W8, hW8⟩ : ∃ W, W = w5.alloc (.cells Z 44) := ⟨_, rfl⟩
  rw [← hW8] at hmk6
  have K8 : Hid (Kept w5 W8) := Lib.hid (by rw [hW8]; exact (Kept.refl _).alloc _ _)
  have CO : Hid (Cores W8 C (fun _ => .idle)) := Lib.hid (by
    rw [hW8]
    refine ⟨fun c hc j v hv => ?_, fun i => ?_, by simp; omega⟩
    · have hj : j < 6 := (List.getElem?_eq_some_iff.1 hv).1
      have e1 : (PS.idle).cells[j]? = some (.pointer none) := by
        have : j = 0 ∨ j = 1 ∨ j = 2 ∨ j = 3 ∨ j = 4 ∨ j = 5 := by omega
        rcases this with rfl | rfl | rfl | rfl | rfl | rfl <;> rfl
      rw [e1] at hv
      rw [cell_new _ _ _ _ _ hC, HZ.out _ (by omega)]
      exact hv
    · rw [frozen?_alloc_cells]; exact frozen_out _ _ _ (by omega))
  have SI0 : Hid (StI w S M B M2 B2 C n (firstOwn M B M2 B2) (fun _ => .idle) s0 0 W8) := Lib.hid (by
    have kk := K8.out
    have l1 := pmem_lt D5.out.p
    have l2 := ref_lt D5.out.r D5.out.n1
    refine ⟨D5.out.kept kk, CO.out, fun _ _ => trivial, fun j hj => ?_, ?_, by omega, by have := lt_of_cell u0; omega, K5.out.trans kk, kk.some u0, kk.some u1, kk.some u2⟩
    · unfold firstOwn; rw [if_neg (by omega), if_neg (by omega)]
    · unfold firstOwn; rw [if_neg (by omega), if_neg (by omega)])
  clear hmk hW8 u0 u1 u2 hC hc6
  go_wp2_with fail
  have hAS := access_same
  have N1 := HS.out.ok.N1
  have N2 := HS.out.N
  have K0 := HS.out.ok.K1
  have KL : S.K ≤ 10000 := by have := HS.out.ok.K2; omega
  go_loopw [12] (fun i wr => StRel w S M B M2 B2 C n m3 i wr) (fun i _ => m3 - (intOf i).toNat)
  case atStart => exact ⟨0, _, _, s0, Nat.zero_le _, rfl, SI0.out⟩
  case round =>
    obtain ⟨k, own, st, s, hk, rfl, hI⟩ := hrel
    have HI := Lib.hid hI
    clear hI hmk6
    by_cases hlt : k < m3
    · obtain ⟨g, o, cc, e', _, _, hcell⟩ := H3.out.at (by have := HM3.out; omega)
      cases e'
      obtain ⟨co, wh, d, ap, b0, b1, b2, b3⟩ := act_cells hcell k (by have := HM3.out; omega)
      have e0 := HI.out.kept.some b0
      have e1 := HI.out.kept.some b1
      have e2 := HI.out.kept.some b2
      have e3 := HI.out.kept.some b3
      obtain ⟨c, hc4, hpk⟩ := pick4 co
      have hc4i : (c : Int) < 4 := by omega
      have act_lt : g < w.heap.size := lt_of_cell b0
      clear hcell b0 b1 b2 b3
      go_wp2_with fail
      refine (hpk _).out.mono ?_
      rintro e w' ⟨rfl, rfl⟩
      by_cases hw0 : wh = 0
      · subst hw0
        obtain ⟨wA, hwA⟩ : ∃ wA, wA = wr := ⟨_, rfl⟩
        subst hwA
        have SI := Lib.hid HI.out.cut
        have hld := ld_pair (SI.out.co.at_ c hc4)
        go_wp2_with fail
        refine (told_any (cut own wA.heap.size) c S M B M2 B2 n s (st c) true _ (SI.out.is c hc4) SI.out.d HS.out (by have := SI.out.cnt; omega)).mono ?_
        rintro e w17 ⟨rfl, p', s', hpc, hss, hpi, hd17, hs17, hb17⟩
        have S17 := Lib.hid (SI.out.told hc4 hpc hpi hd17 hs17 hb17)
        have z17 := Lib.hid hb17.size
        clear hpc hss hpi hd17 hs17 hb17 hld
        have z0 := S17.out.t0
        have z1 := S17.out.t1
        have z2 := S17.out.t2
        go_wp2_with fail
        refine (pinned_any S _ n s'.ws (wf_ws S17.out.d.wd) (by omega) _ (gives_words S17.out.d.p) N1 N2 K0 KL).mono ?_
        rintro e w18 ⟨G, rfl, lG, hG, cG, fG, k18⟩
        have S18 := Lib.hid (S17.out.keep k18)
        have CG := Lib.hid cG
        have FG := Lib.hid fG
        clear k18 cG fG z0 z1 z2
        have z0 := S18.out.t0
        have z1 := S18.out.t1
        have z2 := S18.out.t2
        go_upto_region 19 with fail
        have KD : Kept w18 w18.drew := (Kept.refl _).drew
        refine wp_region_held_drew (S := fun w' => w'.cell? ⟨w.heap.size, 0, none⟩ = some (.int .i64 S.T) ∧ w'.cell? ⟨w.heap.size, 1, none⟩ = some (.int .i64 S.K) ∧ w'.cell? ⟨w.heap.size, 2, none⟩ = some (.int .i64 S.N)) (by kernel_rfl) ?_ (fun hHeld => ?_)
        · exact ⟨KD.some z0, KD.some z1, KD.some z2⟩
        refine take_on (i := 0) (oi := ?_) (v := ?_) ?_ (by kernel_rfl) ?_ ?_ ?_ hHeld ?_; rotate_left 2; (focus (simp only [List.getElem?_toArray, List.getElem?_cons_zero]; exact rfl)); (focus (rfl)); (focus (intro w hSw; (try dsimp only at hSw); go_simp <;> with_reducible rfl)); (focus (exact fun _ _ _ h => h)); simp only [Act.put, List.setIfInBounds_toArray, List.set_cons_zero, List.set_cons_succ]
        refine take_on (i := 1) (oi := ?_) (v := ?_) ?_ (by kernel_rfl) ?_ ?_ ?_ hHeld ?_; rotate_left 2; (focus (simp only [List.getElem?_toArray, List.getElem?_cons_succ, List.getElem?_cons_zero]; exact rfl)); (focus (rfl)); (focus (intro w hSw; (try dsimp only at hSw); go_simp <;> with_reducible rfl)); (focus (exact fun _ _ _ h => h)); simp only [Act.put, List.setIfInBounds_toArray, List.set_cons_zero, List.set_cons_succ]
        refine take_on (i := 3) (oi := ?_) (v := ?_) ?_ (by kernel_rfl) ?_ ?_ ?_ hHeld ?_; rotate_left 2; (focus (simp only [List.getElem?_toArray, List.getElem?_cons_succ, List.getElem?_cons_zero]; exact rfl)); (focus (rfl)); (focus (intro w hSw; (try dsimp only at hSw); go_simp <;> with_reducible rfl)); (focus (exact fun _ _ _ h => h)); simp only [Act.put, List.setIfInBounds_toArray, List.set_cons_zero, List.set_cons_succ]
        refine take_on (i := 4) (oi := ?_) (v := ?_) ?_ (by kernel_rfl) ?_ ?_ ?_ hHeld ?_; rotate_left 2; (focus (simp only [List.getElem?_toArray, List.getElem?_cons_succ, List.getElem?_cons_zero]; exact rfl)); (focus (rfl)); (focus (intro w hSw; (try dsimp only at hSw); go_simp <;> with_reducible rfl)); (focus (exact fun _ _ _ h => h)); simp only [Act.put, List.setIfInBounds_toArray, List.set_cons_zero, List.set_cons_succ]
        refine wpAnyH_ready (rs := [2]) (by kernel_rfl) (by simp) ?_
        refine AllReadyH.cons (o := ?_) ?_ ?_ AllReadyH.nil
        rotate_left 1
        · simp only [List.getElem?_toArray, List.getElem?_cons_succ, List.getElem?_cons_zero]; exact rfl
        intro K hK
        go_simp
        go_at_call 16; refine (now_w S S18.out.d.p S18.out.d.wd (by omega) KD).mono ?_; rintro e v2 ⟨rfl, kk2⟩; have KQ2 : Kept w18 v2 := KD.trans kk2
        go_wp2_with fail
        clear hHeld
        refine hK.out _ _ ?_ (fun hHeld => ?_)
        · exact ⟨KQ2.some z0, KQ2.some z1, KQ2.some z2⟩
        clear hK K
        try simp only [Act.put, List.setIfInBounds_toArray, List.set_cons_zero, List.set_cons_succ]
        refine wpAnyH_ready (rs := [5]) (by kernel_rfl) (by simp) ?_
        refine AllReadyH.cons (o := ?_) ?_ ?_ AllReadyH.nil
        rotate_left 1
        · simp only [List.getElem?_toArray, List.getElem?_cons_succ, List.getElem?_cons_zero]; exact rfl
        intro K hK
        go_simp
        go_at_call 17; refine (rnow_any M2 B2 n S s' _ (ref_kept S18.out.d.r S18.out.d.n1 KQ2) S18.out.d.wd S18.out.d.n1).mono ?_; rintro e v5 ⟨rfl, kk5⟩; have KQ5 : Kept w18 v5 := KQ2.trans kk5
        go_wp2_with fail
        clear hHeld
        refine hK.out _ _ ?_ (fun hHeld => ?_)
        · exact ⟨KQ5.some z0, KQ5.some z1, KQ5.some z2⟩
        clear hK K
        try simp only [Act.put, List.setIfInBounds_toArray, List.set_cons_zero, List.set_cons_succ]
        refine take_on (i := 6) (oi := ?_) (v := ?_) ?_ (by kernel_rfl) ?_ ?_ ?_ hHeld ?_; rotate_left 2; (focus (simp only [List.getElem?_toArray, List.getElem?_cons_succ, List.getElem?_cons_zero]; exact rfl)); (focus (rfl)); (focus (intro w hSw; (try dsimp only at hSw); go_simp <;> with_reducible rfl)); (focus (exact fun _ _ _ h => h)); simp only [Act.put, List.setIfInBounds_toArray, List.set_cons_zero, List.set_cons_succ]
        refine take_on (i := 7) (oi := ?_) (v := ?_) ?_ (by kernel_rfl) ?_ ?_ ?_ hHeld ?_; rotate_left 2; (focus (simp only [List.getElem?_toArray, List.getElem?_cons_succ, List.getElem?_cons_zero]; exact rfl)); (focus (rfl)); (focus (intro w hSw; (try dsimp only at hSw); go_simp <;> with_reducible rfl)); (focus (exact fun _ _ _ h => h)); simp only [Act.put, List.setIfInBounds_toArray, List.set_cons_zero, List.set_cons_succ]
        refine take_on (i := 8) (oi := ?_) (v := ?_) ?_ (by kernel_rfl) ?_ ?_ ?_ hHeld ?_; rotate_left 2; (focus (simp only [List.getElem?_toArray, List.getElem?_cons_succ, List.getElem?_cons_zero]; exact rfl)); (focus (rfl)); (focus (intro w hSw; (try dsimp only at hSw); go_simp <;> with_reducible rfl)); (focus (exact fun _ _ _ h => h)); simp only [Act.put, List.setIfInBounds_toArray, List.set_cons_zero, List.set_cons_succ]
        refine take_on (i := 9) (oi := ?_) (v := ?_) ?_ (by kernel_rfl) ?_ ?_ ?_ hHeld ?_; rotate_left 2; (focus (simp only [List.getElem?_toArray, List.getElem?_cons_succ, List.getElem?_cons_zero]; exact rfl)); (focus (rfl)); (focus (intro w hSw; (try dsimp only at hSw); go_simp <;> with_reducible rfl)); (focus (exact fun _ _ _ h => h)); simp only [Act.put, List.setIfInBounds_toArray, List.set_cons_zero, List.set_cons_succ]
        refine take_on (i := 10) (oi := ?_) (v := ?_) ?_ (by kernel_rfl) ?_ ?_ ?_ hHeld ?_; rotate_left 2; (focus (simp only [List.getElem?_toArray, List.getElem?_cons_succ, List.getElem?_cons_zero]; exact rfl)); (focus (rfl)); (focus (intro w hSw; (try dsimp only at hSw); go_simp <;> with_reducible rfl)); (focus (exact fun _ _ _ h => h)); simp only [Act.put, List.setIfInBounds_toArray, List.set_cons_zero, List.set_cons_succ]
        refine wpAnyH_ready (rs := [11]) (by kernel_rfl) (by simp) ?_
        refine AllReadyH.cons (o := ?_) ?_ ?_ AllReadyH.nil
        rotate_left 1
        · simp only [List.getElem?_toArray, List.getElem?_cons_succ, List.getElem?_cons_zero]; exact rfl
        intro K hK
        go_simp
        go_at_call 19; refine (pins_reads S (ref_kept S18.out.d.r S18.out.d.n1 KQ5) S18.out.d.wd S18.out.d.n1 N1 N2 K0 KL).mono ?_; rintro e v11 ⟨a11, c11, rfl, kk11, r11⟩; have KQ11 : Kept w18 v11 := KQ5.trans kk11
        go_wp2_with fail
        clear hHeld
        refine hK.out _ _ ?_ (fun hHeld => ?_)
        · exact ⟨KQ11.some z0, KQ11.some z1, KQ11.some z2⟩
        clear hK K
        try simp only [Act.put, List.setIfInBounds_toArray, List.set_cons_zero, List.set_cons_succ]
        refine wpAnyH_ready (rs := [12]) (by kernel_rfl) (by simp) ?_
        refine AllReadyH.cons (o := ?_) ?_ ?_ AllReadyH.nil
        rotate_left 1
        · simp only [List.getElem?_toArray, List.getElem?_cons_succ, List.getElem?_cons_zero]; exact rfl
        intro K hK
        go_simp
        go_at_call 18; refine (sameInts_yes (some ⟨G, 0, none⟩) a11 _ _ c11 (pinL n s'.ws S) _ (by omega) (.inr ⟨G, 0, rfl, fun i hi => by rw [Nat.zero_add]; exact KQ11.some (CG.out i hi)⟩) r11).mono ?_; rintro e v12 ⟨rfl, kk12⟩; have KQ12 : Kept w18 v12 := KQ11.trans kk12
        go_wp2_with fail
        clear hHeld
        refine hK.out _ _ ?_ (fun hHeld => ?_)
        · exact ⟨KQ12.some z0, KQ12.some z1, KQ12.some z2⟩
        clear hK K
        try simp only [Act.put, List.setIfInBounds_toArray, List.set_cons_zero, List.set_cons_succ]
        refine take_on (i := 13) (oi := ?_) (v := ?_) ?_ (by kernel_rfl) ?_ ?_ ?_ hHeld ?_; rotate_left 2; (focus (simp only [List.getElem?_toArray, List.getElem?_cons_succ, List.getElem?_cons_zero]; exact rfl)); (focus (rfl)); (focus (intro w hSw; (try dsimp only at hSw); go_simp <;> with_reducible rfl)); (focus (exact fun _ _ _ h => h)); simp only [Act.put, List.setIfInBounds_toArray, List.set_cons_zero, List.set_cons_succ]
        refine take_on (i := 14) (oi := ?_) (v := ?_) ?_ (by kernel_rfl) ?_ ?_ ?_ hHeld ?_; rotate_left 2; (focus (simp only [List.getElem?_toArray, List.getElem?_cons_succ, List.getElem?_cons_zero]; exact rfl)); (focus (rfl)); (focus (intro w hSw; (try dsimp only at hSw); go_simp <;> with_reducible rfl)); (focus (exact fun _ _ _ h => h)); simp only [Act.put, List.setIfInBounds_toArray, List.set_cons_zero, List.set_cons_succ]
        refine take_on (i := 15) (oi := ?_) (v := ?_) ?_ (by kernel_rfl) ?_ ?_ ?_ hHeld ?_; rotate_left 2; (focus (simp only [List.getElem?_toArray, List.getElem?_cons_succ, List.getElem?_cons_zero]; exact rfl)); (focus (rfl)); (focus (intro w hSw; (try dsimp only at hSw); go_simp <;> with_reducible rfl)); (focus (exact fun _ _ _ h => h)); simp only [Act.put, List.setIfInBounds_toArray, List.set_cons_zero, List.set_cons_succ]
        refine take_on (i := 16) (oi := ?_) (v := ?_) ?_ (by kernel_rfl) ?_ ?_ ?_ hHeld ?_; rotate_left 2; (focus (simp only [List.getElem?_toArray, List.getElem?_cons_succ, List.getElem?_cons_zero]; exact rfl)); (focus (rfl)); (focus (intro w hSw; (try dsimp only at hSw); go_simp <;> with_reducible rfl)); (focus (exact fun _ _ _ h => h)); simp only [Act.put, List.setIfInBounds_toArray, List.set_cons_zero, List.set_cons_succ]
        refine take_on (i := 18) (oi := ?_) (v := ?_) ?_ (by kernel_rfl) ?_ ?_ ?_ hHeld ?_; rotate_left 2; (focus (simp only [List.getElem?_toArray, List.getElem?_cons_succ, List.getElem?_cons_zero]; exact rfl)); (focus (rfl)); (focus (intro w hSw; (try dsimp only at hSw); go_simp <;> with_reducible rfl)); (focus (exact fun _ _ _ h => h)); simp only [Act.put, List.setIfInBounds_toArray, List.set_cons_zero, List.set_cons_succ]
        refine wpAnyH_ready (rs := [17]) (by kernel_rfl) (by simp) ?_
        refine AllReadyH.cons (o := ?_) ?_ ?_ AllReadyH.nil
        rotate_left 1
        · simp only [List.getElem?_toArray, List.getElem?_cons_succ, List.getElem?_cons_zero]; exact rfl
        intro K hK
        go_simp
        go_at_call 21; refine (p_words M B n s' _ (pmem_kept S18.out.d.p KQ12)).mono ?_; rintro e v17 ⟨bw, cw, rfl, hb1, hb2, hw, hf, kk17⟩; have KQ17 : Kept w18 v17 := KQ12.trans kk17
        go_wp2_with fail
        clear hHeld
        refine hK.out _ _ ?_ (fun hHeld => ?_)
        · exact ⟨KQ17.some z0, KQ17.some z1, KQ17.some z2⟩
        clear hK K
        try simp only [Act.put, List.setIfInBounds_toArray, List.set_cons_zero, List.set_cons_succ]
        refine wpAnyH_ready (rs := [19]) (by kernel_rfl) (by simp) ?_
        refine AllReadyH.cons (o := ?_) ?_ ?_ AllReadyH.nil
        rotate_left 1
        · simp only [List.getElem?_toArray, List.getElem?_cons_succ, List.getElem?_cons_zero]; exact rfl
        intro K hK
        go_simp
        go_at_call 22; refine (r_words M2 B2 n s' _ (ref_kept S18.out.d.r S18.out.d.n1 KQ17) S18.out.d.n1 S18.out.d.n2).mono ?_; rintro e v19 ⟨gr, og, cr, rfl, hr, kk19⟩; have KQ19 : Kept w18 v19 := KQ17.trans kk19
        go_wp2_with fail
        clear hHeld
        refine hK.out _ _ ?_ (fun hHeld => ?_)
        · exact ⟨KQ19.some z0, KQ19.some z1, KQ19.some z2⟩
        clear hK K
        try simp only [Act.put, List.setIfInBounds_toArray, List.set_cons_zero, List.set_cons_succ]
        refine wpAnyH_ready (rs := [20]) (by kernel_rfl) (by simp) ?_
        refine AllReadyH.cons (o := ?_) ?_ ?_ AllReadyH.nil
        rotate_left 1
        · simp only [List.getElem?_toArray, List.getElem?_cons_succ, List.getElem?_cons_zero]; exact rfl
        intro K hK
        go_simp
        go_at_call 20; refine (sameWords (f := s'.ws) S18.out.d.n2 (fun i hi => by rw [Nat.zero_add]; exact kk19.some (hw i hi)) hr).mono ?_; rintro e v20 ⟨rfl, kk20⟩; have KQ20 : Kept w18 v20 := KQ19.trans kk20
        go_wp2_with fail
        clear hHeld
        refine hK.out _ _ ?_ (fun hHeld => ?_)
        · exact ⟨KQ20.some z0, KQ20.some z1, KQ20.some z2⟩
        clear hK K
        try simp only [Act.put, List.setIfInBounds_toArray, List.set_cons_zero, List.set_cons_succ]
        refine take_on (i := 21) (oi := ?_) (v := ?_) ?_ (by kernel_rfl) ?_ ?_ ?_ hHeld ?_; rotate_left 2; (focus (simp only [List.getElem?_toArray, List.getElem?_cons_succ, List.getElem?_cons_zero]; exact rfl)); (focus (rfl)); (focus (intro w hSw; (try dsimp only at hSw); go_simp <;> with_reducible rfl)); (focus (exact fun _ _ _ h => h)); simp only [Act.put, List.setIfInBounds_toArray, List.set_cons_zero, List.set_cons_succ]
        refine take_on (i := 22) (oi := ?_) (v := ?_) ?_ (by kernel_rfl) ?_ ?_ ?_ hHeld ?_; rotate_left 2; (focus (simp only [List.getElem?_toArray, List.getElem?_cons_succ, List.getElem?_cons_zero]; exact rfl)); (focus (rfl)); (focus (intro w hSw; (try dsimp only at hSw); go_simp <;> with_reducible rfl)); (focus (exact fun _ _ _ h => h)); simp only [Act.put, List.setIfInBounds_toArray, List.set_cons_zero, List.set_cons_succ]
        refine take_on (i := 23) (oi := ?_) (v := ?_) ?_ (by kernel_rfl) ?_ ?_ ?_ hHeld ?_; rotate_left 2; (focus (simp only [List.getElem?_toArray, List.getElem?_cons_succ, List.getElem?_cons_zero]; exact rfl)); (focus (rfl)); (focus (intro w hSw; (try dsimp only at hSw); go_simp <;> with_reducible rfl)); (focus (exact fun _ _ _ h => h)); simp only [Act.put, List.setIfInBounds_toArray, List.set_cons_zero, List.set_cons_succ]
        refine take_on (i := 24) (oi := ?_) (v := ?_) ?_ (by kernel_rfl) ?_ ?_ ?_ hHeld ?_; rotate_left 2; (focus (simp only [List.getElem?_toArray, List.getElem?_cons_succ, List.getElem?_cons_zero]; exact rfl)); (focus (rfl)); (focus (intro w hSw; (try dsimp only at hSw); go_simp <;> with_reducible rfl)); (focus (exact fun _ _ _ h => h)); simp only [Act.put, List.setIfInBounds_toArray, List.set_cons_zero, List.set_cons_succ]
        refine take_on (i := 26) (oi := ?_) (v := ?_) ?_ (by kernel_rfl) ?_ ?_ ?_ hHeld ?_; rotate_left 2; (focus (simp only [List.getElem?_toArray, List.getElem?_cons_succ, List.getElem?_cons_zero]; exact rfl)); (focus (rfl)); (focus (intro w hSw; (try dsimp only at hSw); go_simp <;> with_reducible rfl)); (focus (exact fun _ _ _ h => h)); simp only [Act.put, List.setIfInBounds_toArray, List.set_cons_zero, List.set_cons_succ]
        refine wpAnyH_ready (rs := [25]) (by kernel_rfl) (by simp) ?_
        refine AllReadyH.cons (o := ?_) ?_ ?_ AllReadyH.nil
        rotate_left 1
        · simp only [List.getElem?_toArray, List.getElem?_cons_succ, List.getElem?_cons_zero]; exact rfl
        intro K hK
        go_simp
        go_at_call 23; refine (p_last M B n s' _ (pmem_kept S18.out.d.p KQ20)).mono ?_; rintro e v25 ⟨rfl, kk25⟩; have KQ25 : Kept w18 v25 := KQ20.trans kk25
        go_wp2_with fail
        clear hHeld
        refine hK.out _ _ ?_ (fun hHeld => ?_)
        · exact ⟨KQ25.some z0, KQ25.some z1, KQ25.some z2⟩
        clear hK K
        try simp only [Act.put, List.setIfInBounds_toArray, List.set_cons_zero, List.set_cons_succ]
        refine wpAnyH_ready (rs := [27]) (by kernel_rfl) (by simp) ?_
        refine AllReadyH.cons (o := ?_) ?_ ?_ AllReadyH.nil
        rotate_left 1
        · simp only [List.getElem?_toArray, List.getElem?_cons_succ, List.getElem?_cons_zero]; exact rfl
        intro K hK
        go_simp
        go_at_call 24; refine (r_last M2 B2 n s' _ (ref_kept S18.out.d.r S18.out.d.n1 KQ25)).mono ?_; rintro e v27 ⟨rfl, kk27⟩; have KQ27 : Kept w18 v27 := KQ25.trans kk27
        go_wp2_with fail
        clear hHeld
        refine hK.out _ _ ?_ (fun hHeld => ?_)
        · exact ⟨KQ27.some z0, KQ27.some z1, KQ27.some z2⟩
        clear hK K
        try simp only [Act.put, List.setIfInBounds_toArray, List.set_cons_zero, List.set_cons_succ]
        refine take_on (i := 28) (oi := ?_) (v := ?_) ?_ (by kernel_rfl) ?_ ?_ ?_ hHeld ?_; rotate_left 2; (focus (simp only [List.getElem?_toArray, List.getElem?_cons_succ, List.getElem?_cons_zero]; exact rfl)); (focus (rfl)); (focus (intro w hSw; (try dsimp only at hSw); go_simp <;> with_reducible rfl)); (focus (exact fun _ _ _ h => h)); simp only [Act.put, List.setIfInBounds_toArray, List.set_cons_zero, List.set_cons_succ]
        refine take_on (i := 29) (oi := ?_) (v := ?_) ?_ (by kernel_rfl) ?_ ?_ ?_ hHeld ?_; rotate_left 2; (focus (simp only [List.getElem?_toArray, List.getElem?_cons_succ, List.getElem?_cons_zero]; exact rfl)); (focus (rfl)); (focus (intro w hSw; (try dsimp only at hSw); go_simp <;> with_reducible rfl)); (focus (exact fun _ _ _ h => h)); simp only [Act.put, List.setIfInBounds_toArray, List.set_cons_zero, List.set_cons_succ]
        refine take_on (i := 30) (oi := ?_) (v := ?_) ?_ (by kernel_rfl) ?_ ?_ ?_ hHeld ?_; rotate_left 2; (focus (simp only [List.getElem?_toArray, List.getElem?_cons_succ, List.getElem?_cons_zero]; exact rfl)); (focus (rfl)); (focus (intro w hSw; (try dsimp only at hSw); go_simp <;> with_reducible rfl)); (focus (exact fun _ _ _ h => h)); simp only [Act.put, List.setIfInBounds_toArray, List.set_cons_zero, List.set_cons_succ]
        refine take_on (i := 31) (oi := ?_) (v := ?_) ?_ (by kernel_rfl) ?_ ?_ ?_ hHeld ?_; rotate_left 2; (focus (simp only [List.getElem?_toArray, List.getElem?_cons_succ, List.getElem?_cons_zero]; exact rfl)); (focus (rfl)); (focus (intro w hSw; (try dsimp only at hSw); go_simp <;> with_reducible rfl)); (focus (exact fun _ _ _ h => h)); simp only [Act.put, List.setIfInBounds_toArray, List.set_cons_zero, List.set_cons_succ]
        refine take_on (i := 33) (oi := ?_) (v := ?_) ?_ (by kernel_rfl) ?_ ?_ ?_ hHeld ?_; rotate_left 2; (focus (simp only [List.getElem?_toArray, List.getElem?_cons_succ, List.getElem?_cons_zero]; exact rfl)); (focus (rfl)); (focus (intro w hSw; (try dsimp only at hSw); go_simp <;> with_reducible rfl)); (focus (exact fun _ _ _ h => h)); simp only [Act.put, List.setIfInBounds_toArray, List.set_cons_zero, List.set_cons_succ]
        refine wpAnyH_ready (rs := [32]) (by kernel_rfl) (by simp) ?_
        refine AllReadyH.cons (o := ?_) ?_ ?_ AllReadyH.nil
        rotate_left 1
        · simp only [List.getElem?_toArray, List.getElem?_cons_succ, List.getElem?_cons_zero]; exact rfl
        intro K hK
        go_simp
        go_at_call 25; refine (count_w (pmem_kept S18.out.d.p KQ27)).mono ?_; rintro e v32 ⟨rfl, kk32⟩; have KQ32 : Kept w18 v32 := KQ27.trans kk32
        go_wp2_with fail
        clear hHeld
        refine hK.out _ _ ?_ (fun hHeld => ?_)
        · exact ⟨KQ32.some z0, KQ32.some z1, KQ32.some z2⟩
        clear hK K
        try simp only [Act.put, List.setIfInBounds_toArray, List.set_cons_zero, List.set_cons_succ]
        refine wpAnyH_ready (rs := [34]) (by kernel_rfl) (by simp) ?_
        refine AllReadyH.cons (o := ?_) ?_ ?_ AllReadyH.nil
        rotate_left 1
        · simp only [List.getElem?_toArray, List.getElem?_cons_succ, List.getElem?_cons_zero]; exact rfl
        intro K hK
        go_simp
        go_at_call 26; refine (r_count M2 B2 n s' _ (ref_kept S18.out.d.r S18.out.d.n1 KQ32)).mono ?_; rintro e v34 ⟨rfl, kk34⟩; have KQ34 : Kept w18 v34 := KQ32.trans kk34
        go_wp2_with fail
        clear hHeld
        refine hK.out _ _ ?_ (fun hHeld => ?_)
        · exact ⟨KQ34.some z0, KQ34.some z1, KQ34.some z2⟩
        clear hK K
        try simp only [Act.put, List.setIfInBounds_toArray, List.set_cons_zero, List.set_cons_succ]
        refine take_on (i := 35) (oi := ?_) (v := ?_) ?_ (by kernel_rfl) ?_ ?_ ?_ hHeld ?_; rotate_left 2; (focus (simp only [List.getElem?_toArray, List.getElem?_cons_succ, List.getElem?_cons_zero]; exact rfl)); (focus (rfl)); (focus (intro w hSw; (try dsimp only at hSw); go_simp <;> with_reducible rfl)); (focus (exact fun _ _ _ h => h)); simp only [Act.put, List.setIfInBounds_toArray, List.set_cons_zero, List.set_cons_succ]
        refine take_on (i := 36) (oi := ?_) (v := ?_) ?_ (by kernel_rfl) ?_ ?_ ?_ hHeld ?_; rotate_left 2; (focus (simp only [List.getElem?_toArray, List.getElem?_cons_succ, List.getElem?_cons_zero]; exact rfl)); (focus (rfl)); (focus (intro w hSw; (try dsimp only at hSw); go_simp <;> with_reducible rfl)); (focus (exact fun _ _ _ h => h)); simp only [Act.put, List.setIfInBounds_toArray, List.set_cons_zero, List.set_cons_succ]
        refine wpAnyH_done (by kernel_rfl) ?_ _
        have S19 := Lib.hid (S18.out.keep KQ34)
        have CG2 := Lib.hid (fun i hi => KQ34.some (CG.out i hi))
        have FG2 := Lib.hid (fun i => KQ34.soft hG (FG.out i))
        have hG2 : G < v34.heap.size := Nat.lt_of_lt_of_le hG KQ34.size
        clear hHeld KD KQ2 KQ5 KQ11 KQ12 KQ17 KQ19 KQ20 KQ25 KQ27 KQ32 KQ34 kk2 kk5 kk11 kk12 kk17 kk19 kk20 kk25 kk27 kk32 kk34 hw hb1 hb2 hf hr r11 z0 z1 z2
        go_wp2_with fail
        refine (overInts_any G _ _ (pinL n s'.ws S) _ (by omega) CG2.out hG2 FG2.out).mono ?_
        rintro e w27 ⟨rfl, b27⟩
        have lG2 : wA.heap.size ≤ G := by have := z17.out; omega
        have S27 := Lib.hid (S19.out.free (b27.mono (fun j _ (e : j = G) => show wA.heap.size ≤ j by omega)) (fun j hj => cut_new hj) SI.out.co.lt (lt_of_cell SI.out.t0))
        clear b27
        go_wp2
        go_roundw
        case rel => exact ⟨k + 1, cut own wA.heap.size, put st c p', s', by omega, by go_num, S27.out⟩
        case measure => simp [intOf]; omega
      · have hb0 : (wh == 0) = false := by simp [hw0]
        by_cases hw1 : 1 ≤ wh
        · by_cases hw3 : wh ≤ 3
          · clear hw0
            have z0 := HI.out.t0
            have z1 := HI.out.t1
            have z2 := HI.out.t2
            have hgC : g ≠ C := by
              intro e
              have h1 := lt_of_cell e0
              subst e
              have h2 := HI.out.neC
              omega
            go_upto_region 15 with fail
            go_region_held3 (fun w' => w'.cell? ⟨w.heap.size, 0, none⟩ = some (.int .i64 S.T) ∧ w'.cell? ⟨w.heap.size, 1, none⟩ = some (.int .i64 S.K) ∧ w'.cell? ⟨w.heap.size, 2, none⟩ = some (.int .i64 S.N) ∧ w'.cell? ⟨g, o + k * 4, none⟩ = some (.int .i64 co) ∧ w'.cell? ⟨g, o + k * 4 + 1, none⟩ = some (.int .i64 wh) ∧ w'.cell? ⟨g, o + k * 4 + 2, none⟩ = some (.int .i64 d) ∧ w'.cell? ⟨g, o + k * 4 + 3, none⟩ = some (.int .i64 ap)) (first | go_keep | (exact ⟨x0, x1, x2, x3, x4, x5, x6⟩) | (exact ⟨y0, y1, y2, y3, y4, y5, y6⟩)) (first
              | (go_at_call 13; refine (begin_any own c S co wh d ap hw1 hw3 _).mono ?_; rintro e u ⟨p, own', rfl, ho', hp', ku⟩; have KU : Kept wr u := Kept.trans (b := _) (by first | exact Kept.refl _ | exact (Kept.refl _).drew | exact (Kept.refl _).drewN _) ku; have hst := st_pair (p := p) ((HI.out.co.kept KU).there c hc4); have SB := HI.out.begun KU hc4 hp' (fun j hj => ho' j hj); have bC : But (fun j => j = C) u (u.setCells C (c * 6) p.cells) := but_setCells (S := fun j => j = C) rfl _ _ _ (But.refl _ _); obtain ⟨wA, hwA⟩ : ∃ wA, wA = u.setCells C (c * 6) p.cells := ⟨_, rfl⟩; rw [← hwA] at hst SB bC; have x0 := KU.some z0; have x1 := KU.some z1; have x2 := KU.some z2; have x3 := KU.some e0; have x4 := KU.some e1; have x5 := KU.some e2; have x6 := KU.some e3; have y0 := SB.t0; have y1 := SB.t1; have y2 := SB.t2; have y3 := bC.some x3 hgC; have y4 := bC.some x4 hgC; have y5 := bC.some x5 hgC; have y6 := bC.some x6 hgC; have SI := Lib.hid SB.cut; clear hwA SB))
            clear x0 x1 x2 x3 x4 x5 x6 y0 y1 y2 y3 y4 y5 y6 z0 z1 z2 hst bC KU ku hp' ho'
            rename_i hcells
            clear hcells
            have hld := ld_pair (SI.out.co.at_ c hc4)
            go_wp2_with fail
            refine (told_any (cut own' wA.heap.size) c S M B M2 B2 n s ((put st c p) c) false _ (SI.out.is c hc4) SI.out.d HS.out (by have := SI.out.cnt; omega)).mono ?_
            rintro e w17 ⟨rfl, p', s', hpc, hss, hpi, hd17, hs17, hb17⟩
            have S17 := Lib.hid (SI.out.told hc4 hpc hpi hd17 hs17 hb17)
            have z17 := Lib.hid hb17.size
            clear hpc hss hpi hd17 hs17 hb17 hld
            have z0 := S17.out.t0
            have z1 := S17.out.t1
            have z2 := S17.out.t2
            go_wp2_with fail
            refine (pinned_any S _ n s'.ws (wf_ws S17.out.d.wd) (by omega) _ (gives_words S17.out.d.p) N1 N2 K0 KL).mono ?_
            rintro e w18 ⟨G, rfl, lG, hG, cG, fG, k18⟩
            have S18 := Lib.hid (S17.out.keep k18)
            have CG := Lib.hid cG
            have FG := Lib.hid fG
            clear k18 cG fG z0 z1 z2
            have z0 := S18.out.t0
            have z1 := S18.out.t1
            have z2 := S18.out.t2
            go_upto_region 19 with fail
            have KD : Kept w18 w18.drew := (Kept.refl _).drew
            refine wp_region_held_drew (S := fun w' => w'.cell? ⟨w.heap.size, 0, none⟩ = some (.int .i64 S.T) ∧ w'.cell? ⟨w.heap.size, 1, none⟩ = some (.int .i64 S.K) ∧ w'.cell? ⟨w.heap.size, 2, none⟩ = some (.int .i64 S.N)) (by kernel_rfl) ?_ (fun hHeld => ?_)
            · exact ⟨KD.some z0, KD.some z1, KD.some z2⟩
            refine take_on (i := 0) (oi := ?_) (v := ?_) ?_ (by kernel_rfl) ?_ ?_ ?_ hHeld ?_; rotate_left 2; (focus (simp only [List.getElem?_toArray, List.getElem?_cons_zero]; exact rfl)); (focus (rfl)); (focus (intro w hSw; (try dsimp only at hSw); go_simp <;> with_reducible rfl)); (focus (exact fun _ _ _ h => h)); simp only [Act.put, List.setIfInBounds_toArray, List.set_cons_zero, List.set_cons_succ]
            refine take_on (i := 1) (oi := ?_) (v := ?_) ?_ (by kernel_rfl) ?_ ?_ ?_ hHeld ?_; rotate_left 2; (focus (simp only [List.getElem?_toArray, List.getElem?_cons_succ, List.getElem?_cons_zero]; exact rfl)); (focus (rfl)); (focus (intro w hSw; (try dsimp only at hSw); go_simp <;> with_reducible rfl)); (focus (exact fun _ _ _ h => h)); simp only [Act.put, List.setIfInBounds_toArray, List.set_cons_zero, List.set_cons_succ]
            refine take_on (i := 3) (oi := ?_) (v := ?_) ?_ (by kernel_rfl) ?_ ?_ ?_ hHeld ?_; rotate_left 2; (focus (simp only [List.getElem?_toArray, List.getElem?_cons_succ, List.getElem?_cons_zero]; exact rfl)); (focus (rfl)); (focus (intro w hSw; (try dsimp only at hSw); go_simp <;> with_reducible rfl)); (focus (exact fun _ _ _ h => h)); simp only [Act.put, List.setIfInBounds_toArray, List.set_cons_zero, List.set_cons_succ]
            refine take_on (i := 4) (oi := ?_) (v := ?_) ?_ (by kernel_rfl) ?_ ?_ ?_ hHeld ?_; rotate_left 2; (focus (simp only [List.getElem?_toArray, List.getElem?_cons_succ, List.getElem?_cons_zero]; exact rfl)); (focus (rfl)); (focus (intro w hSw; (try dsimp only at hSw); go_simp <;> with_reducible rfl)); (focus (exact fun _ _ _ h => h)); simp only [Act.put, List.setIfInBounds_toArray, List.set_cons_zero, List.set_cons_succ]
            refine wpAnyH_ready (rs := [2]) (by kernel_rfl) (by simp) ?_
            refine AllReadyH.cons (o := ?_) ?_ ?_ AllReadyH.nil
            rotate_left 1
            · simp only [List.getElem?_toArray, List.getElem?_cons_succ, List.getElem?_cons_zero]; exact rfl
            intro K hK
            go_simp
            go_at_call 16; refine (now_w S S18.out.d.p S18.out.d.wd (by omega) KD).mono ?_; rintro e v2 ⟨rfl, kk2⟩; have KQ2 : Kept w18 v2 := KD.trans kk2
            go_wp2_with fail
            clear hHeld
            refine hK.out _ _ ?_ (fun hHeld => ?_)
            · exact ⟨KQ2.some z0, KQ2.some z1, KQ2.some z2⟩
            clear hK K
            try simp only [Act.put, List.setIfInBounds_toArray, List.set_cons_zero, List.set_cons_succ]
            refine wpAnyH_ready (rs := [5]) (by kernel_rfl) (by simp) ?_
            refine AllReadyH.cons (o := ?_) ?_ ?_ AllReadyH.nil
            rotate_left 1
            · simp only [List.getElem?_toArray, List.getElem?_cons_succ, List.getElem?_cons_zero]; exact rfl
            intro K hK
            go_simp
            go_at_call 17; refine (rnow_any M2 B2 n S s' _ (ref_kept S18.out.d.r S18.out.d.n1 KQ2) S18.out.d.wd S18.out.d.n1).mono ?_; rintro e v5 ⟨rfl, kk5⟩; have KQ5 : Kept w18 v5 := KQ2.trans kk5
            go_wp2_with fail
            clear hHeld
            refine hK.out _ _ ?_ (fun hHeld => ?_)
            · exact ⟨KQ5.some z0, KQ5.some z1, KQ5.some z2⟩
            clear hK K
            try simp only [Act.put, List.setIfInBounds_toArray, List.set_cons_zero, List.set_cons_succ]
            refine take_on (i := 6) (oi := ?_) (v := ?_) ?_ (by kernel_rfl) ?_ ?_ ?_ hHeld ?_; rotate_left 2; (focus (simp only [List.getElem?_toArray, List.getElem?_cons_succ, List.getElem?_cons_zero]; exact rfl)); (focus (rfl)); (focus (intro w hSw; (try dsimp only at hSw); go_simp <;> with_reducible rfl)); (focus (exact fun _ _ _ h => h)); simp only [Act.put, List.setIfInBounds_toArray, List.set_cons_zero, List.set_cons_succ]
            refine take_on (i := 7) (oi := ?_) (v := ?_) ?_ (by kernel_rfl) ?_ ?_ ?_ hHeld ?_; rotate_left 2; (focus (simp only [List.getElem?_toArray, List.getElem?_cons_succ, List.getElem?_cons_zero]; exact rfl)); (focus (rfl)); (focus (intro w hSw; (try dsimp only at hSw); go_simp <;> with_reducible rfl)); (focus (exact fun _ _ _ h => h)); simp only [Act.put, List.setIfInBounds_toArray, List.set_cons_zero, List.set_cons_succ]
            refine take_on (i := 8) (oi := ?_) (v := ?_) ?_ (by kernel_rfl) ?_ ?_ ?_ hHeld ?_; rotate_left 2; (focus (simp only [List.getElem?_toArray, List.getElem?_cons_succ, List.getElem?_cons_zero]; exact rfl)); (focus (rfl)); (focus (intro w hSw; (try dsimp only at hSw); go_simp <;> with_reducible rfl)); (focus (exact fun _ _ _ h => h)); simp only [Act.put, List.setIfInBounds_toArray, List.set_cons_zero, List.set_cons_succ]
            refine take_on (i := 9) (oi := ?_) (v := ?_) ?_ (by kernel_rfl) ?_ ?_ ?_ hHeld ?_; rotate_left 2; (focus (simp only [List.getElem?_toArray, List.getElem?_cons_succ, List.getElem?_cons_zero]; exact rfl)); (focus (rfl)); (focus (intro w hSw; (try dsimp only at hSw); go_simp <;> with_reducible rfl)); (focus (exact fun _ _ _ h => h)); simp only [Act.put, List.setIfInBounds_toArray, List.set_cons_zero, List.set_cons_succ]
            refine take_on (i := 10) (oi := ?_) (v := ?_) ?_ (by kernel_rfl) ?_ ?_ ?_ hHeld ?_; rotate_left 2; (focus (simp only [List.getElem?_toArray, List.getElem?_cons_succ, List.getElem?_cons_zero]; exact rfl)); (focus (rfl)); (focus (intro w hSw; (try dsimp only at hSw); go_simp <;> with_reducible rfl)); (focus (exact fun _ _ _ h => h)); simp only [Act.put, List.setIfInBounds_toArray, List.set_cons_zero, List.set_cons_succ]
            refine wpAnyH_ready (rs := [11]) (by kernel_rfl) (by simp) ?_
            refine AllReadyH.cons (o := ?_) ?_ ?_ AllReadyH.nil
            rotate_left 1
            · simp only [List.getElem?_toArray, List.getElem?_cons_succ, List.getElem?_cons_zero]; exact rfl
            intro K hK
            go_simp
            go_at_call 19; refine (pins_reads S (ref_kept S18.out.d.r S18.out.d.n1 KQ5) S18.out.d.wd S18.out.d.n1 N1 N2 K0 KL).mono ?_; rintro e v11 ⟨a11, c11, rfl, kk11, r11⟩; have KQ11 : Kept w18 v11 := KQ5.trans kk11
            go_wp2_with fail
            clear hHeld
            refine hK.out _ _ ?_ (fun hHeld => ?_)
            · exact ⟨KQ11.some z0, KQ11.some z1, KQ11.some z2⟩
            clear hK K
            try simp only [Act.put, List.setIfInBounds_toArray, List.set_cons_zero, List.set_cons_succ]
            refine wpAnyH_ready (rs := [12]) (by kernel_rfl) (by simp) ?_
            refine AllReadyH.cons (o := ?_) ?_ ?_ AllReadyH.nil
            rotate_left 1
            · simp only [List.getElem?_toArray, List.getElem?_cons_succ, List.getElem?_cons_zero]; exact rfl
            intro K hK
            go_simp
            go_at_call 18; refine (sameInts_yes (some ⟨G, 0, none⟩) a11 _ _ c11 (pinL n s'.ws S) _ (by omega) (.inr ⟨G, 0, rfl, fun i hi => by rw [Nat.zero_add]; exact KQ11.some (CG.out i hi)⟩) r11).mono ?_; rintro e v12 ⟨rfl, kk12⟩; have KQ12 : Kept w18 v12 := KQ11.trans kk12
            go_wp2_with fail
            clear hHeld
            refine hK.out _ _ ?_ (fun hHeld => ?_)
            · exact ⟨KQ12.some z0, KQ12.some z1, KQ12.some z2⟩
            clear hK K
            try simp only [Act.put, List.setIfInBounds_toArray, List.set_cons_zero, List.set_cons_succ]
            refine take_on (i := 13) (oi := ?_) (v := ?_) ?_ (by kernel_rfl) ?_ ?_ ?_ hHeld ?_; rotate_left 2; (focus (simp only [List.getElem?_toArray, List.getElem?_cons_succ, List.getElem?_cons_zero]; exact rfl)); (focus (rfl)); (focus (intro w hSw; (try dsimp only at hSw); go_simp <;> with_reducible rfl)); (focus (exact fun _ _ _ h => h)); simp only [Act.put, List.setIfInBounds_toArray, List.set_cons_zero, List.set_cons_succ]
            refine take_on (i := 14) (oi := ?_) (v := ?_) ?_ (by kernel_rfl) ?_ ?_ ?_ hHeld ?_; rotate_left 2; (focus (simp only [List.getElem?_toArray, List.getElem?_cons_succ, List.getElem?_cons_zero]; exact rfl)); (focus (rfl)); (focus (intro w hSw; (try dsimp only at hSw); go_simp <;> with_reducible rfl)); (focus (exact fun _ _ _ h => h)); simp only [Act.put, List.setIfInBounds_toArray, List.set_cons_zero, List.set_cons_succ]
            refine take_on (i := 15) (oi := ?_) (v := ?_) ?_ (by kernel_rfl) ?_ ?_ ?_ hHeld ?_; rotate_left 2; (focus (simp only [List.getElem?_toArray, List.getElem?_cons_succ, List.getElem?_cons_zero]; exact rfl)); (focus (rfl)); (focus (intro w hSw; (try dsimp only at hSw); go_simp <;> with_reducible rfl)); (focus (exact fun _ _ _ h => h)); simp only [Act.put, List.setIfInBounds_toArray, List.set_cons_zero, List.set_cons_succ]
            refine take_on (i := 16) (oi := ?_) (v := ?_) ?_ (by kernel_rfl) ?_ ?_ ?_ hHeld ?_; rotate_left 2; (focus (simp only [List.getElem?_toArray, List.getElem?_cons_succ, List.getElem?_cons_zero]; exact rfl)); (focus (rfl)); (focus (intro w hSw; (try dsimp only at hSw); go_simp <;> with_reducible rfl)); (focus (exact fun _ _ _ h => h)); simp only [Act.put, List.setIfInBounds_toArray, List.set_cons_zero, List.set_cons_succ]
            refine take_on (i := 18) (oi := ?_) (v := ?_) ?_ (by kernel_rfl) ?_ ?_ ?_ hHeld ?_; rotate_left 2; (focus (simp only [List.getElem?_toArray, List.getElem?_cons_succ, List.getElem?_cons_zero]; exact rfl)); (focus (rfl)); (focus (intro w hSw; (try dsimp only at hSw); go_simp <;> with_reducible rfl)); (focus (exact fun _ _ _ h => h)); simp only [Act.put, List.setIfInBounds_toArray, List.set_cons_zero, List.set_cons_succ]
            refine wpAnyH_ready (rs := [17]) (by kernel_rfl) (by simp) ?_
            refine AllReadyH.cons (o := ?_) ?_ ?_ AllReadyH.nil
            rotate_left 1
            · simp only [List.getElem?_toArray, List.getElem?_cons_succ, List.getElem?_cons_zero]; exact rfl
            intro K hK
            go_simp
            go_at_call 21; refine (p_words M B n s' _ (pmem_kept S18.out.d.p KQ12)).mono ?_; rintro e v17 ⟨bw, cw, rfl, hb1, hb2, hw, hf, kk17⟩; have KQ17 : Kept w18 v17 := KQ12.trans kk17
            go_wp2_with fail
            clear hHeld
            refine hK.out _ _ ?_ (fun hHeld => ?_)
            · exact ⟨KQ17.some z0, KQ17.some z1, KQ17.some z2⟩
            clear hK K
            try simp only [Act.put, List.setIfInBounds_toArray, List.set_cons_zero, List.set_cons_succ]
            refine wpAnyH_ready (rs := [19]) (by kernel_rfl) (by simp) ?_
            refine AllReadyH.cons (o := ?_) ?_ ?_ AllReadyH.nil
            rotate_left 1
            · simp only [List.getElem?_toArray, List.getElem?_cons_succ, List.getElem?_cons_zero]; exact rfl
            intro K hK
            go_simp
            go_at_call 22; refine (r_words M2 B2 n s' _ (ref_kept S18.out.d.r S18.out.d.n1 KQ17) S18.out.d.n1 S18.out.d.n2).mono ?_; rintro e v19 ⟨gr, og, cr, rfl, hr, kk19⟩; have KQ19 : Kept w18 v19 := KQ17.trans kk19
            go_wp2_with fail
            clear hHeld
            refine hK.out _ _ ?_ (fun hHeld => ?_)
            · exact ⟨KQ19.some z0, KQ19.some z1, KQ19.some z2⟩
            clear hK K
            try simp only [Act.put, List.setIfInBounds_toArray, List.set_cons_zero, List.set_cons_succ]
            refine wpAnyH_ready (rs := [20]) (by kernel_rfl) (by simp) ?_
            refine AllReadyH.cons (o := ?_) ?_ ?_ AllReadyH.nil
            rotate_left 1
            · simp only [List.getElem?_toArray, List.getElem?_cons_succ, List.getElem?_cons_zero]; exact rfl
            intro K hK
            go_simp
            go_at_call 20; refine (sameWords (f := s'.ws) S18.out.d.n2 (fun i hi => by rw [Nat.zero_add]; exact kk19.some (hw i hi)) hr).mono ?_; rintro e v20 ⟨rfl, kk20⟩; have KQ20 : Kept w18 v20 := KQ19.trans kk20
            go_wp2_with fail
            clear hHeld
            refine hK.out _ _ ?_ (fun hHeld => ?_)
            · exact ⟨KQ20.some z0, KQ20.some z1, KQ20.some z2⟩
            clear hK K
            try simp only [Act.put, List.setIfInBounds_toArray, List.set_cons_zero, List.set_cons_succ]
            refine take_on (i := 21) (oi := ?_) (v := ?_) ?_ (by kernel_rfl) ?_ ?_ ?_ hHeld ?_; rotate_left 2; (focus (simp only [List.getElem?_toArray, List.getElem?_cons_succ, List.getElem?_cons_zero]; exact rfl)); (focus (rfl)); (focus (intro w hSw; (try dsimp only at hSw); go_simp <;> with_reducible rfl)); (focus (exact fun _ _ _ h => h)); simp only [Act.put, List.setIfInBounds_toArray, List.set_cons_zero, List.set_cons_succ]
            refine take_on (i := 22) (oi := ?_) (v := ?_) ?_ (by kernel_rfl) ?_ ?_ ?_ hHeld ?_; rotate_left 2; (focus (simp only [List.getElem?_toArray, List.getElem?_cons_succ, List.getElem?_cons_zero]; exact rfl)); (focus (rfl)); (focus (intro w hSw; (try dsimp only at hSw); go_simp <;> with_reducible rfl)); (focus (exact fun _ _ _ h => h)); simp only [Act.put, List.setIfInBounds_toArray, List.set_cons_zero, List.set_cons_succ]
            refine take_on (i := 23) (oi := ?_) (v := ?_) ?_ (by kernel_rfl) ?_ ?_ ?_ hHeld ?_; rotate_left 2; (focus (simp only [List.getElem?_toArray, List.getElem?_cons_succ, List.getElem?_cons_zero]; exact rfl)); (focus (rfl)); (focus (intro w hSw; (try dsimp only at hSw); go_simp <;> with_reducible rfl)); (focus (exact fun _ _ _ h => h)); simp only [Act.put, List.setIfInBounds_toArray, List.set_cons_zero, List.set_cons_succ]
            refine take_on (i := 24) (oi := ?_) (v := ?_) ?_ (by kernel_rfl) ?_ ?_ ?_ hHeld ?_; rotate_left 2; (focus (simp only [List.getElem?_toArray, List.getElem?_cons_succ, List.getElem?_cons_zero]; exact rfl)); (focus (rfl)); (focus (intro w hSw; (try dsimp only at hSw); go_simp <;> with_reducible rfl)); (focus (exact fun _ _ _ h => h)); simp only [Act.put, List.setIfInBounds_toArray, List.set_cons_zero, List.set_cons_succ]
            refine take_on (i := 26) (oi := ?_) (v := ?_) ?_ (by kernel_rfl) ?_ ?_ ?_ hHeld ?_; rotate_left 2; (focus (simp only [List.getElem?_toArray, List.getElem?_cons_succ, List.getElem?_cons_zero]; exact rfl)); (focus (rfl)); (focus (intro w hSw; (try dsimp only at hSw); go_simp <;> with_reducible rfl)); (focus (exact fun _ _ _ h => h)); simp only [Act.put, List.setIfInBounds_toArray, List.set_cons_zero, List.set_cons_succ]
            refine wpAnyH_ready (rs := [25]) (by kernel_rfl) (by simp) ?_
            refine AllReadyH.cons (o := ?_) ?_ ?_ AllReadyH.nil
            rotate_left 1
            · simp only [List.getElem?_toArray, List.getElem?_cons_succ, List.getElem?_cons_zero]; exact rfl
            intro K hK
            go_simp
            go_at_call 23; refine (p_last M B n s' _ (pmem_kept S18.out.d.p KQ20)).mono ?_; rintro e v25 ⟨rfl, kk25⟩; have KQ25 : Kept w18 v25 := KQ20.trans kk25
            go_wp2_with fail
            clear hHeld
            refine hK.out _ _ ?_ (fun hHeld => ?_)
            · exact ⟨KQ25.some z0, KQ25.some z1, KQ25.some z2⟩
            clear hK K
            try simp only [Act.put, List.setIfInBounds_toArray, List.set_cons_zero, List.set_cons_succ]
            refine wpAnyH_ready (rs := [27]) (by kernel_rfl) (by simp) ?_
            refine AllReadyH.cons (o := ?_) ?_ ?_ AllReadyH.nil
            rotate_left 1
            · simp only [List.getElem?_toArray, List.getElem?_cons_succ, List.getElem?_cons_zero]; exact rfl
            intro K hK
            go_simp
            go_at_call 24; refine (r_last M2 B2 n s' _ (ref_kept S18.out.d.r S18.out.d.n1 KQ25)).mono ?_; rintro e v27 ⟨rfl, kk27⟩; have KQ27 : Kept w18 v27 := KQ25.trans kk27
            go_wp2_with fail
            clear hHeld
            refine hK.out _ _ ?_ (fun hHeld => ?_)
            · exact ⟨KQ27.some z0, KQ27.some z1, KQ27.some z2⟩
            clear hK K
            try simp only [Act.put, List.setIfInBounds_toArray, List.set_cons_zero, List.set_cons_succ]
            refine take_on (i := 28) (oi := ?_) (v := ?_) ?_ (by kernel_rfl) ?_ ?_ ?_ hHeld ?_; rotate_left 2; (focus (simp only [List.getElem?_toArray, List.getElem?_cons_succ, List.getElem?_cons_zero]; exact rfl)); (focus (rfl)); (focus (intro w hSw; (try dsimp only at hSw); go_simp <;> with_reducible rfl)); (focus (exact fun _ _ _ h => h)); simp only [Act.put, List.setIfInBounds_toArray, List.set_cons_zero, List.set_cons_succ]
            refine take_on (i := 29) (oi := ?_) (v := ?_) ?_ (by kernel_rfl) ?_ ?_ ?_ hHeld ?_; rotate_left 2; (focus (simp only [List.getElem?_toArray, List.getElem?_cons_succ, List.getElem?_cons_zero]; exact rfl)); (focus (rfl)); (focus (intro w hSw; (try dsimp only at hSw); go_simp <;> with_reducible rfl)); (focus (exact fun _ _ _ h => h)); simp only [Act.put, List.setIfInBounds_toArray, List.set_cons_zero, List.set_cons_succ]
            refine take_on (i := 30) (oi := ?_) (v := ?_) ?_ (by kernel_rfl) ?_ ?_ ?_ hHeld ?_; rotate_left 2; (focus (simp only [List.getElem?_toArray, List.getElem?_cons_succ, List.getElem?_cons_zero]; exact rfl)); (focus (rfl)); (focus (intro w hSw; (try dsimp only at hSw); go_simp <;> with_reducible rfl)); (focus (exact fun _ _ _ h => h)); simp only [Act.put, List.setIfInBounds_toArray, List.set_cons_zero, List.set_cons_succ]
            refine take_on (i := 31) (oi := ?_) (v := ?_) ?_ (by kernel_rfl) ?_ ?_ ?_ hHeld ?_; rotate_left 2; (focus (simp only [List.getElem?_toArray, List.getElem?_cons_succ, List.getElem?_cons_zero]; exact rfl)); (focus (rfl)); (focus (intro w hSw; (try dsimp only at hSw); go_simp <;> with_reducible rfl)); (focus (exact fun _ _ _ h => h)); simp only [Act.put, List.setIfInBounds_toArray, List.set_cons_zero, List.set_cons_succ]
            refine take_on (i := 33) (oi := ?_) (v := ?_) ?_ (by kernel_rfl) ?_ ?_ ?_ hHeld ?_; rotate_left 2; (focus (simp only [List.getElem?_toArray, List.getElem?_cons_succ, List.getElem?_cons_zero]; exact rfl)); (focus (rfl)); (focus (intro w hSw; (try dsimp only at hSw); go_simp <;> with_reducible rfl)); (focus (exact fun _ _ _ h => h)); simp only [Act.put, List.setIfInBounds_toArray, List.set_cons_zero, List.set_cons_succ]
            refine wpAnyH_ready (rs := [32]) (by kernel_rfl) (by simp) ?_
            refine AllReadyH.cons (o := ?_) ?_ ?_ AllReadyH.nil
            rotate_left 1
            · simp only [List.getElem?_toArray, List.getElem?_cons_succ, List.getElem?_cons_zero]; exact rfl
            intro K hK
            go_simp
            go_at_call 25; refine (count_w (pmem_kept S18.out.d.p KQ27)).mono ?_; rintro e v32 ⟨rfl, kk32⟩; have KQ32 : Kept w18 v32 := KQ27.trans kk32
            go_wp2_with fail
            clear hHeld
            refine hK.out _ _ ?_ (fun hHeld => ?_)
            · exact ⟨KQ32.some z0, KQ32.some z1, KQ32.some z2⟩
            clear hK K
            try simp only [Act.put, List.setIfInBounds_toArray, List.set_cons_zero, List.set_cons_succ]
            refine wpAnyH_ready (rs := [34]) (by kernel_rfl) (by simp) ?_
            refine AllReadyH.cons (o := ?_) ?_ ?_ AllReadyH.nil
            rotate_left 1
            · simp only [List.getElem?_toArray, List.getElem?_cons_succ, List.getElem?_cons_zero]; exact rfl
            intro K hK
            go_simp
            go_at_call 26; refine (r_count M2 B2 n s' _ (ref_kept S18.out.d.r S18.out.d.n1 KQ32)).mono ?_; rintro e v34 ⟨rfl, kk34⟩; have KQ34 : Kept w18 v34 := KQ32.trans kk34
            go_wp2_with fail
            clear hHeld
            refine hK.out _ _ ?_ (fun hHeld => ?_)
            · exact ⟨KQ34.some z0, KQ34.some z1, KQ34.some z2⟩
            clear hK K
            try simp only [Act.put, List.setIfInBounds_toArray, List.set_cons_zero, List.set_cons_succ]
            refine take_on (i := 35) (oi := ?_) (v := ?_) ?_ (by kernel_rfl) ?_ ?_ ?_ hHeld ?_; rotate_left 2; (focus (simp only [List.getElem?_toArray, List.getElem?_cons_succ, List.getElem?_cons_zero]; exact rfl)); (focus (rfl)); (focus (intro w hSw; (try dsimp only at hSw); go_simp <;> with_reducible rfl)); (focus (exact fun _ _ _ h => h)); simp only [Act.put, List.setIfInBounds_toArray, List.set_cons_zero, List.set_cons_succ]
            refine take_on (i := 36) (oi := ?_) (v := ?_) ?_ (by kernel_rfl) ?_ ?_ ?_ hHeld ?_; rotate_left 2; (focus (simp only [List.getElem?_toArray, List.getElem?_cons_succ, List.getElem?_cons_zero]; exact rfl)); (focus (rfl)); (focus (intro w hSw; (try dsimp only at hSw); go_simp <;> with_reducible rfl)); (focus (exact fun _ _ _ h => h)); simp only [Act.put, List.setIfInBounds_toArray, List.set_cons_zero, List.set_cons_succ]
            refine wpAnyH_done (by kernel_rfl) ?_ _
            have S19 := Lib.hid (S18.out.keep KQ34)
            have CG2 := Lib.hid (fun i hi => KQ34.some (CG.out i hi))
            have FG2 := Lib.hid (fun i => KQ34.soft hG (FG.out i))
            have hG2 : G < v34.heap.size := Nat.lt_of_lt_of_le hG KQ34.size
            clear hHeld KD KQ2 KQ5 KQ11 KQ12 KQ17 KQ19 KQ20 KQ25 KQ27 KQ32 KQ34 kk2 kk5 kk11 kk12 kk17 kk19 kk20 kk25 kk27 kk32 kk34 hw hb1 hb2 hf hr r11 z0 z1 z2
            go_wp2_with fail
            refine (overInts_any G _ _ (pinL n s'.ws S) _ (by omega) CG2.out hG2 FG2.out).mono ?_
            rintro e w27 ⟨rfl, b27⟩
            have lG2 : wA.heap.size ≤ G := by have := z17.out; omega
            have S27 := Lib.hid (S19.out.free (b27.mono (fun j _ (e : j = G) => show wA.heap.size ≤ j by omega)) (fun j hj => cut_new hj) SI.out.co.lt (lt_of_cell SI.out.t0))
            clear b27
            go_wp2
            go_roundw
            case rel => exact ⟨k + 1, cut own' wA.heap.size, put (put st c p) c p', s', by omega, by go_num, S27.out⟩
            case measure => simp [intOf]; omega
          · have hw3' : 3 < wh := by omega
            clear hw0 hw3
            obtain ⟨wA, hwA⟩ : ∃ wA, wA = wr := ⟨_, rfl⟩
            subst hwA
            have SI := Lib.hid HI.out.cut
            have hld := ld_pair (SI.out.co.at_ c hc4)
            go_wp2_with fail
            refine (told_any (cut own wA.heap.size) c S M B M2 B2 n s (st c) false _ (SI.out.is c hc4) SI.out.d HS.out (by have := SI.out.cnt; omega)).mono ?_
            rintro e w17 ⟨rfl, p', s', hpc, hss, hpi, hd17, hs17, hb17⟩
            have S17 := Lib.hid (SI.out.told hc4 hpc hpi hd17 hs17 hb17)
            have z17 := Lib.hid hb17.size
            clear hpc hss hpi hd17 hs17 hb17 hld
            have z0 := S17.out.t0
            have z1 := S17.out.t1
            have z2 := S17.out.t2
            go_wp2_with fail
            refine (pinned_any S _ n s'.ws (wf_ws S17.out.d.wd) (by omega) _ (gives_words S17.out.d.p) N1 N2 K0 KL).mono ?_
            rintro e w18 ⟨G, rfl, lG, hG, cG, fG, k18⟩
            have S18 := Lib.hid (S17.out.keep k18)
            have CG := Lib.hid cG
            have FG := Lib.hid fG
            clear k18 cG fG z0 z1 z2
            have z0 := S18.out.t0
            have z1 := S18.out.t1
            have z2 := S18.out.t2
            go_upto_region 19 with fail
            have KD : Kept w18 w18.drew := (Kept.refl _).drew
            refine wp_region_held_drew (S := fun w' => w'.cell? ⟨w.heap.size, 0, none⟩ = some (.int .i64 S.T) ∧ w'.cell? ⟨w.heap.size, 1, none⟩ = some (.int .i64 S.K) ∧ w'.cell? ⟨w.heap.size, 2, none⟩ = some (.int .i64 S.N)) (by kernel_rfl) ?_ (fun hHeld => ?_)
            · exact ⟨KD.some z0, KD.some z1, KD.some z2⟩
            refine take_on (i := 0) (oi := ?_) (v := ?_) ?_ (by kernel_rfl) ?_ ?_ ?_ hHeld ?_; rotate_left 2; (focus (simp only [List.getElem?_toArray, List.getElem?_cons_zero]; exact rfl)); (focus (rfl)); (focus (intro w hSw; (try dsimp only at hSw); go_simp <;> with_reducible rfl)); (focus (exact fun _ _ _ h => h)); simp only [Act.put, List.setIfInBounds_toArray, List.set_cons_zero, List.set_cons_succ]
            refine take_on (i := 1) (oi := ?_) (v := ?_) ?_ (by kernel_rfl) ?_ ?_ ?_ hHeld ?_; rotate_left 2; (focus (simp only [List.getElem?_toArray, List.getElem?_cons_succ, List.getElem?_cons_zero]; exact rfl)); (focus (rfl)); (focus (intro w hSw; (try dsimp only at hSw); go_simp <;> with_reducible rfl)); (focus (exact fun _ _ _ h => h)); simp only [Act.put, List.setIfInBounds_toArray, List.set_cons_zero, List.set_cons_succ]
            refine take_on (i := 3) (oi := ?_) (v := ?_) ?_ (by kernel_rfl) ?_ ?_ ?_ hHeld ?_; rotate_left 2; (focus (simp only [List.getElem?_toArray, List.getElem?_cons_succ, List.getElem?_cons_zero]; exact rfl)); (focus (rfl)); (focus (intro w hSw; (try dsimp only at hSw); go_simp <;> with_reducible rfl)); (focus (exact fun _ _ _ h => h)); simp only [Act.put, List.setIfInBounds_toArray, List.set_cons_zero, List.set_cons_succ]
            refine take_on (i := 4) (oi := ?_) (v := ?_) ?_ (by kernel_rfl) ?_ ?_ ?_ hHeld ?_; rotate_left 2; (focus (simp only [List.getElem?_toArray, List.getElem?_cons_succ, List.getElem?_cons_zero]; exact rfl)); (focus (rfl)); (focus (intro w hSw; (try dsimp only at hSw); go_simp <;> with_reducible rfl)); (focus (exact fun _ _ _ h => h)); simp only [Act.put, List.setIfInBounds_toArray, List.set_cons_zero, List.set_cons_succ]
            refine wpAnyH_ready (rs := [2]) (by kernel_rfl) (by simp) ?_
            refine AllReadyH.cons (o := ?_) ?_ ?_ AllReadyH.nil
            rotate_left 1
            · simp only [List.getElem?_toArray, List.getElem?_cons_succ, List.getElem?_cons_zero]; exact rfl
            intro K hK
            go_simp
            go_at_call 16; refine (now_w S S18.out.d.p S18.out.d.wd (by omega) KD).mono ?_; rintro e v2 ⟨rfl, kk2⟩; have KQ2 : Kept w18 v2 := KD.trans kk2
            go_wp2_with fail
            clear hHeld
            refine hK.out _ _ ?_ (fun hHeld => ?_)
            · exact ⟨KQ2.some z0, KQ2.some z1, KQ2.some z2⟩
            clear hK K
            try simp only [Act.put, List.setIfInBounds_toArray, List.set_cons_zero, List.set_cons_succ]
            refine wpAnyH_ready (rs := [5]) (by kernel_rfl) (by simp) ?_
            refine AllReadyH.cons (o := ?_) ?_ ?_ AllReadyH.nil
            rotate_left 1
            · simp only [List.getElem?_toArray, List.getElem?_cons_succ, List.getElem?_cons_zero]; exact rfl
            intro K hK
            go_simp
            go_at_call 17; refine (rnow_any M2 B2 n S s' _ (ref_kept S18.out.d.r S18.out.d.n1 KQ2) S18.out.d.wd S18.out.d.n1).mono ?_; rintro e v5 ⟨rfl, kk5⟩; have KQ5 : Kept w18 v5 := KQ2.trans kk5
            go_wp2_with fail
            clear hHeld
            refine hK.out _ _ ?_ (fun hHeld => ?_)
            · exact ⟨KQ5.some z0, KQ5.some z1, KQ5.some z2⟩
            clear hK K
            try simp only [Act.put, List.setIfInBounds_toArray, List.set_cons_zero, List.set_cons_succ]
            refine take_on (i := 6) (oi := ?_) (v := ?_) ?_ (by kernel_rfl) ?_ ?_ ?_ hHeld ?_; rotate_left 2; (focus (simp only [List.getElem?_toArray, List.getElem?_cons_succ, List.getElem?_cons_zero]; exact rfl)); (focus (rfl)); (focus (intro w hSw; (try dsimp only at hSw); go_simp <;> with_reducible rfl)); (focus (exact fun _ _ _ h => h)); simp only [Act.put, List.setIfInBounds_toArray, List.set_cons_zero, List.set_cons_succ]
            refine take_on (i := 7) (oi := ?_) (v := ?_) ?_ (by kernel_rfl) ?_ ?_ ?_ hHeld ?_; rotate_left 2; (focus (simp only [List.getElem?_toArray, List.getElem?_cons_succ, List.getElem?_cons_zero]; exact rfl)); (focus (rfl)); (focus (intro w hSw; (try dsimp only at hSw); go_simp <;> with_reducible rfl)); (focus (exact fun _ _ _ h => h)); simp only [Act.put, List.setIfInBounds_toArray, List.set_cons_zero, List.set_cons_succ]
            refine take_on (i := 8) (oi := ?_) (v := ?_) ?_ (by kernel_rfl) ?_ ?_ ?_ hHeld ?_; rotate_left 2; (focus (simp only [List.getElem?_toArray, List.getElem?_cons_succ, List.getElem?_cons_zero]; exact rfl)); (focus (rfl)); (focus (intro w hSw; (try dsimp only at hSw); go_simp <;> with_reducible rfl)); (focus (exact fun _ _ _ h => h)); simp only [Act.put, List.setIfInBounds_toArray, List.set_cons_zero, List.set_cons_succ]
            refine take_on (i := 9) (oi := ?_) (v := ?_) ?_ (by kernel_rfl) ?_ ?_ ?_ hHeld ?_; rotate_left 2; (focus (simp only [List.getElem?_toArray, List.getElem?_cons_succ, List.getElem?_cons_zero]; exact rfl)); (focus (rfl)); (focus (intro w hSw; (try dsimp only at hSw); go_simp <;> with_reducible rfl)); (focus (exact fun _ _ _ h => h)); simp only [Act.put, List.setIfInBounds_toArray, List.set_cons_zero, List.set_cons_succ]
            refine take_on (i := 10) (oi := ?_) (v := ?_) ?_ (by kernel_rfl) ?_ ?_ ?_ hHeld ?_; rotate_left 2; (focus (simp only [List.getElem?_toArray, List.getElem?_cons_succ, List.getElem?_cons_zero]; exact rfl)); (focus (rfl)); (focus (intro w hSw; (try dsimp only at hSw); go_simp <;> with_reducible rfl)); (focus (exact fun _ _ _ h => h)); simp only [Act.put, List.setIfInBounds_toArray, List.set_cons_zero, List.set_cons_succ]
            refine wpAnyH_ready (rs := [11]) (by kernel_rfl) (by simp) ?_
            refine AllReadyH.cons (o := ?_) ?_ ?_ AllReadyH.nil
            rotate_left 1
            · simp only [List.getElem?_toArray, List.getElem?_cons_succ, List.getElem?_cons_zero]; exact rfl
            intro K hK
            go_simp
            go_at_call 19; refine (pins_reads S (ref_kept S18.out.d.r S18.out.d.n1 KQ5) S18.out.d.wd S18.out.d.n1 N1 N2 K0 KL).mono ?_; rintro e v11 ⟨a11, c11, rfl, kk11, r11⟩; have KQ11 : Kept w18 v11 := KQ5.trans kk11
            go_wp2_with fail
            clear hHeld
            refine hK.out _ _ ?_ (fun hHeld => ?_)
            · exact ⟨KQ11.some z0, KQ11.some z1, KQ11.some z2⟩
            clear hK K
            try simp only [Act.put, List.setIfInBounds_toArray, List.set_cons_zero, List.set_cons_succ]
            refine wpAnyH_ready (rs := [12]) (by kernel_rfl) (by simp) ?_
            refine AllReadyH.cons (o := ?_) ?_ ?_ AllReadyH.nil
            rotate_left 1
            · simp only [List.getElem?_toArray, List.getElem?_cons_succ, List.getElem?_cons_zero]; exact rfl
            intro K hK
            go_simp
            go_at_call 18; refine (sameInts_yes (some ⟨G, 0, none⟩) a11 _ _ c11 (pinL n s'.ws S) _ (by omega) (.inr ⟨G, 0, rfl, fun i hi => by rw [Nat.zero_add]; exact KQ11.some (CG.out i hi)⟩) r11).mono ?_; rintro e v12 ⟨rfl, kk12⟩; have KQ12 : Kept w18 v12 := KQ11.trans kk12
            go_wp2_with fail
            clear hHeld
            refine hK.out _ _ ?_ (fun hHeld => ?_)
            · exact ⟨KQ12.some z0, KQ12.some z1, KQ12.some z2⟩
            clear hK K
            try simp only [Act.put, List.setIfInBounds_toArray, List.set_cons_zero, List.set_cons_succ]
            refine take_on (i := 13) (oi := ?_) (v := ?_) ?_ (by kernel_rfl) ?_ ?_ ?_ hHeld ?_; rotate_left 2; (focus (simp only [List.getElem?_toArray, List.getElem?_cons_succ, List.getElem?_cons_zero]; exact rfl)); (focus (rfl)); (focus (intro w hSw; (try dsimp only at hSw); go_simp <;> with_reducible rfl)); (focus (exact fun _ _ _ h => h)); simp only [Act.put, List.setIfInBounds_toArray, List.set_cons_zero, List.set_cons_succ]
            refine take_on (i := 14) (oi := ?_) (v := ?_) ?_ (by kernel_rfl) ?_ ?_ ?_ hHeld ?_; rotate_left 2; (focus (simp only [List.getElem?_toArray, List.getElem?_cons_succ, List.getElem?_cons_zero]; exact rfl)); (focus (rfl)); (focus (intro w hSw; (try dsimp only at hSw); go_simp <;> with_reducible rfl)); (focus (exact fun _ _ _ h => h)); simp only [Act.put, List.setIfInBounds_toArray, List.set_cons_zero, List.set_cons_succ]
            refine take_on (i := 15) (oi := ?_) (v := ?_) ?_ (by kernel_rfl) ?_ ?_ ?_ hHeld ?_; rotate_left 2; (focus (simp only [List.getElem?_toArray, List.getElem?_cons_succ, List.getElem?_cons_zero]; exact rfl)); (focus (rfl)); (focus (intro w hSw; (try dsimp only at hSw); go_simp <;> with_reducible rfl)); (focus (exact fun _ _ _ h => h)); simp only [Act.put, List.setIfInBounds_toArray, List.set_cons_zero, List.set_cons_succ]
            refine take_on (i := 16) (oi := ?_) (v := ?_) ?_ (by kernel_rfl) ?_ ?_ ?_ hHeld ?_; rotate_left 2; (focus (simp only [List.getElem?_toArray, List.getElem?_cons_succ, List.getElem?_cons_zero]; exact rfl)); (focus (rfl)); (focus (intro w hSw; (try dsimp only at hSw); go_simp <;> with_reducible rfl)); (focus (exact fun _ _ _ h => h)); simp only [Act.put, List.setIfInBounds_toArray, List.set_cons_zero, List.set_cons_succ]
            refine take_on (i := 18) (oi := ?_) (v := ?_) ?_ (by kernel_rfl) ?_ ?_ ?_ hHeld ?_; rotate_left 2; (focus (simp only [List.getElem?_toArray, List.getElem?_cons_succ, List.getElem?_cons_zero]; exact rfl)); (focus (rfl)); (focus (intro w hSw; (try dsimp only at hSw); go_simp <;> with_reducible rfl)); (focus (exact fun _ _ _ h => h)); simp only [Act.put, List.setIfInBounds_toArray, List.set_cons_zero, List.set_cons_succ]
            refine wpAnyH_ready (rs := [17]) (by kernel_rfl) (by simp) ?_
            refine AllReadyH.cons (o := ?_) ?_ ?_ AllReadyH.nil
            rotate_left 1
            · simp only [List.getElem?_toArray, List.getElem?_cons_succ, List.getElem?_cons_zero]; exact rfl
            intro K hK
            go_simp
            go_at_call 21; refine (p_words M B n s' _ (pmem_kept S18.out.d.p KQ12)).mono ?_; rintro e v17 ⟨bw, cw, rfl, hb1, hb2, hw, hf, kk17⟩; have KQ17 : Kept w18 v17 := KQ12.trans kk17
            go_wp2_with fail
            clear hHeld
            refine hK.out _ _ ?_ (fun hHeld => ?_)
            · exact ⟨KQ17.some z0, KQ17.some z1, KQ17.some z2⟩
            clear hK K
            try simp only [Act.put, List.setIfInBounds_toArray, List.set_cons_zero, List.set_cons_succ]
            refine wpAnyH_ready (rs := [19]) (by kernel_rfl) (by simp) ?_
            refine AllReadyH.cons (o := ?_) ?_ ?_ AllReadyH.nil
            rotate_left 1
            · simp only [List.getElem?_toArray, List.getElem?_cons_succ, List.getElem?_cons_zero]; exact rfl
            intro K hK
            go_simp
            go_at_call 22; refine (r_words M2 B2 n s' _ (ref_kept S18.out.d.r S18.out.d.n1 KQ17) S18.out.d.n1 S18.out.d.n2).mono ?_; rintro e v19 ⟨gr, og, cr, rfl, hr, kk19⟩; have KQ19 : Kept w18 v19 := KQ17.trans kk19
            go_wp2_with fail
            clear hHeld
            refine hK.out _ _ ?_ (fun hHeld => ?_)
            · exact ⟨KQ19.some z0, KQ19.some z1, KQ19.some z2⟩
            clear hK K
            try simp only [Act.put, List.setIfInBounds_toArray, List.set_cons_zero, List.set_cons_succ]
            refine wpAnyH_ready (rs := [20]) (by kernel_rfl) (by simp) ?_
            refine AllReadyH.cons (o := ?_) ?_ ?_ AllReadyH.nil
            rotate_left 1
            · simp only [List.getElem?_toArray, List.getElem?_cons_succ, List.getElem?_cons_zero]; exact rfl
            intro K hK
            go_simp
            go_at_call 20; refine (sameWords (f := s'.ws) S18.out.d.n2 (fun i hi => by rw [Nat.zero_add]; exact kk19.some (hw i hi)) hr).mono ?_; rintro e v20 ⟨rfl, kk20⟩; have KQ20 : Kept w18 v20 := KQ19.trans kk20
            go_wp2_with fail
            clear hHeld
            refine hK.out _ _ ?_ (fun hHeld => ?_)
            · exact ⟨KQ20.some z0, KQ20.some z1, KQ20.some z2⟩
            clear hK K
            try simp only [Act.put, List.setIfInBounds_toArray, List.set_cons_zero, List.set_cons_succ]
            refine take_on (i := 21) (oi := ?_) (v := ?_) ?_ (by kernel_rfl) ?_ ?_ ?_ hHeld ?_; rotate_left 2; (focus (simp only [List.getElem?_toArray, List.getElem?_cons_succ, List.getElem?_cons_zero]; exact rfl)); (focus (rfl)); (focus (intro w hSw; (try dsimp only at hSw); go_simp <;> with_reducible rfl)); (focus (exact fun _ _ _ h => h)); simp only [Act.put, List.setIfInBounds_toArray, List.set_cons_zero, List.set_cons_succ]
            refine take_on (i := 22) (oi := ?_) (v := ?_) ?_ (by kernel_rfl) ?_ ?_ ?_ hHeld ?_; rotate_left 2; (focus (simp only [List.getElem?_toArray, List.getElem?_cons_succ, List.getElem?_cons_zero]; exact rfl)); (focus (rfl)); (focus (intro w hSw; (try dsimp only at hSw); go_simp <;> with_reducible rfl)); (focus (exact fun _ _ _ h => h)); simp only [Act.put, List.setIfInBounds_toArray, List.set_cons_zero, List.set_cons_succ]
            refine take_on (i := 23) (oi := ?_) (v := ?_) ?_ (by kernel_rfl) ?_ ?_ ?_ hHeld ?_; rotate_left 2; (focus (simp only [List.getElem?_toArray, List.getElem?_cons_succ, List.getElem?_cons_zero]; exact rfl)); (focus (rfl)); (focus (intro w hSw; (try dsimp only at hSw); go_simp <;> with_reducible rfl)); (focus (exact fun _ _ _ h => h)); simp only [Act.put, List.setIfInBounds_toArray, List.set_cons_zero, List.set_cons_succ]
            refine take_on (i := 24) (oi := ?_) (v := ?_) ?_ (by kernel_rfl) ?_ ?_ ?_ hHeld ?_; rotate_left 2; (focus (simp only [List.getElem?_toArray, List.getElem?_cons_succ, List.getElem?_cons_zero]; exact rfl)); (focus (rfl)); (focus (intro w hSw; (try dsimp only at hSw); go_simp <;> with_reducible rfl)); (focus (exact fun _ _ _ h => h)); simp only [Act.put, List.setIfInBounds_toArray, List.set_cons_zero, List.set_cons_succ]
            refine take_on (i := 26) (oi := ?_) (v := ?_) ?_ (by kernel_rfl) ?_ ?_ ?_ hHeld ?_; rotate_left 2; (focus (simp only [List.getElem?_toArray, List.getElem?_cons_succ, List.getElem?_cons_zero]; exact rfl)); (focus (rfl)); (focus (intro w hSw; (try dsimp only at hSw); go_simp <;> with_reducible rfl)); (focus (exact fun _ _ _ h => h)); simp only [Act.put, List.setIfInBounds_toArray, List.set_cons_zero, List.set_cons_succ]
            refine wpAnyH_ready (rs := [25]) (by kernel_rfl) (by simp) ?_
            refine AllReadyH.cons (o := ?_) ?_ ?_ AllReadyH.nil
            rotate_left 1
            · simp only [List.getElem?_toArray, List.getElem?_cons_succ, List.getElem?_cons_zero]; exact rfl
            intro K hK
            go_simp
            go_at_call 23; refine (p_last M B n s' _ (pmem_kept S18.out.d.p KQ20)).mono ?_; rintro e v25 ⟨rfl, kk25⟩; have KQ25 : Kept w18 v25 := KQ20.trans kk25
            go_wp2_with fail
            clear hHeld
            refine hK.out _ _ ?_ (fun hHeld => ?_)
            · exact ⟨KQ25.some z0, KQ25.some z1, KQ25.some z2⟩
            clear hK K
            try simp only [Act.put, List.setIfInBounds_toArray, List.set_cons_zero, List.set_cons_succ]
            refine wpAnyH_ready (rs := [27]) (by kernel_rfl) (by simp) ?_
            refine AllReadyH.cons (o := ?_) ?_ ?_ AllReadyH.nil
            rotate_left 1
            · simp only [List.getElem?_toArray, List.getElem?_cons_succ, List.getElem?_cons_zero]; exact rfl
            intro K hK
            go_simp
            go_at_call 24; refine (r_last M2 B2 n s' _ (ref_kept S18.out.d.r S18.out.d.n1 KQ25)).mono ?_; rintro e v27 ⟨rfl, kk27⟩; have KQ27 : Kept w18 v27 := KQ25.trans kk27
            go_wp2_with fail
            clear hHeld
            refine hK.out _ _ ?_ (fun hHeld => ?_)
            · exact ⟨KQ27.some z0, KQ27.some z1, KQ27.some z2⟩
            clear hK K
            try simp only [Act.put, List.setIfInBounds_toArray, List.set_cons_zero, List.set_cons_succ]
            refine take_on (i := 28) (oi := ?_) (v := ?_) ?_ (by kernel_rfl) ?_ ?_ ?_ hHeld ?_; rotate_left 2; (focus (simp only [List.getElem?_toArray, List.getElem?_cons_succ, List.getElem?_cons_zero]; exact rfl)); (focus (rfl)); (focus (intro w hSw; (try dsimp only at hSw); go_simp <;> with_reducible rfl)); (focus (exact fun _ _ _ h => h)); simp only [Act.put, List.setIfInBounds_toArray, List.set_cons_zero, List.set_cons_succ]
            refine take_on (i := 29) (oi := ?_) (v := ?_) ?_ (by kernel_rfl) ?_ ?_ ?_ hHeld ?_; rotate_left 2; (focus (simp only [List.getElem?_toArray, List.getElem?_cons_succ, List.getElem?_cons_zero]; exact rfl)); (focus (rfl)); (focus (intro w hSw; (try dsimp only at hSw); go_simp <;> with_reducible rfl)); (focus (exact fun _ _ _ h => h)); simp only [Act.put, List.setIfInBounds_toArray, List.set_cons_zero, List.set_cons_succ]
            refine take_on (i := 30) (oi := ?_) (v := ?_) ?_ (by kernel_rfl) ?_ ?_ ?_ hHeld ?_; rotate_left 2; (focus (simp only [List.getElem?_toArray, List.getElem?_cons_succ, List.getElem?_cons_zero]; exact rfl)); (focus (rfl)); (focus (intro w hSw; (try dsimp only at hSw); go_simp <;> with_reducible rfl)); (focus (exact fun _ _ _ h => h)); simp only [Act.put, List.setIfInBounds_toArray, List.set_cons_zero, List.set_cons_succ]
            refine take_on (i := 31) (oi := ?_) (v := ?_) ?_ (by kernel_rfl) ?_ ?_ ?_ hHeld ?_; rotate_left 2; (focus (simp only [List.getElem?_toArray, List.getElem?_cons_succ, List.getElem?_cons_zero]; exact rfl)); (focus (rfl)); (focus (intro w hSw; (try dsimp only at hSw); go_simp <;> with_reducible rfl)); (focus (exact fun _ _ _ h => h)); simp only [Act.put, List.setIfInBounds_toArray, List.set_cons_zero, List.set_cons_succ]
            refine take_on (i := 33) (oi := ?_) (v := ?_) ?_ (by kernel_rfl) ?_ ?_ ?_ hHeld ?_; rotate_left 2; (focus (simp only [List.getElem?_toArray, List.getElem?_cons_succ, List.getElem?_cons_zero]; exact rfl)); (focus (rfl)); (focus (intro w hSw; (try dsimp only at hSw); go_simp <;> with_reducible rfl)); (focus (exact fun _ _ _ h => h)); simp only [Act.put, List.setIfInBounds_toArray, List.set_cons_zero, List.set_cons_succ]
            refine wpAnyH_ready (rs := [32]) (by kernel_rfl) (by simp) ?_
            refine AllReadyH.cons (o := ?_) ?_ ?_ AllReadyH.nil
            rotate_left 1
            · simp only [List.getElem?_toArray, List.getElem?_cons_succ, List.getElem?_cons_zero]; exact rfl
            intro K hK
            go_simp
            go_at_call 25; refine (count_w (pmem_kept S18.out.d.p KQ27)).mono ?_; rintro e v32 ⟨rfl, kk32⟩; have KQ32 : Kept w18 v32 := KQ27.trans kk32
            go_wp2_with fail
            clear hHeld
            refine hK.out _ _ ?_ (fun hHeld => ?_)
            · exact ⟨KQ32.some z0, KQ32.some z1, KQ32.some z2⟩
            clear hK K
            try simp only [Act.put, List.setIfInBounds_toArray, List.set_cons_zero, List.set_cons_succ]
            refine wpAnyH_ready (rs := [34]) (by kernel_rfl) (by simp) ?_
            refine AllReadyH.cons (o := ?_) ?_ ?_ AllReadyH.nil
            rotate_left 1
            · simp only [List.getElem?_toArray, List.getElem?_cons_succ, List.getElem?_cons_zero]; exact rfl
            intro K hK
            go_simp
            go_at_call 26; refine (r_count M2 B2 n s' _ (ref_kept S18.out.d.r S18.out.d.n1 KQ32)).mono ?_; rintro e v34 ⟨rfl, kk34⟩; have KQ34 : Kept w18 v34 := KQ32.trans kk34
            go_wp2_with fail
            clear hHeld
            refine hK.out _ _ ?_ (fun hHeld => ?_)
            · exact ⟨KQ34.some z0, KQ34.some z1, KQ34.some z2⟩
            clear hK K
            try simp only [Act.put, List.setIfInBounds_toArray, List.set_cons_zero, List.set_cons_succ]
            refine take_on (i := 35) (oi := ?_) (v := ?_) ?_ (by kernel_rfl) ?_ ?_ ?_ hHeld ?_; rotate_left 2; (focus (simp only [List.getElem?_toArray, List.getElem?_cons_succ, List.getElem?_cons_zero]; exact rfl)); (focus (rfl)); (focus (intro w hSw; (try dsimp only at hSw); go_simp <;> with_reducible rfl)); (focus (exact fun _ _ _ h => h)); simp only [Act.put, List.setIfInBounds_toArray, List.set_cons_zero, List.set_cons_succ]
            refine take_on (i := 36) (oi := ?_) (v := ?_) ?_ (by kernel_rfl) ?_ ?_ ?_ hHeld ?_; rotate_left 2; (focus (simp only [List.getElem?_toArray, List.getElem?_cons_succ, List.getElem?_cons_zero]; exact rfl)); (focus (rfl)); (focus (intro w hSw; (try dsimp only at hSw); go_simp <;> with_reducible rfl)); (focus (exact fun _ _ _ h => h)); simp only [Act.put, List.setIfInBounds_toArray, List.set_cons_zero, List.set_cons_succ]
            refine wpAnyH_done (by kernel_rfl) ?_ _
            have S19 := Lib.hid (S18.out.keep KQ34)
            have CG2 := Lib.hid (fun i hi => KQ34.some (CG.out i hi))
            have FG2 := Lib.hid (fun i => KQ34.soft hG (FG.out i))
            have hG2 : G < v34.heap.size := Nat.lt_of_lt_of_le hG KQ34.size
            clear hHeld KD KQ2 KQ5 KQ11 KQ12 KQ17 KQ19 KQ20 KQ25 KQ27 KQ32 KQ34 kk2 kk5 kk11 kk12 kk17 kk19 kk20 kk25 kk27 kk32 kk34 hw hb1 hb2 hf hr r11 z0 z1 z2
            go_wp2_with fail
            refine (overInts_any G _ _ (pinL n s'.ws S) _ (by omega) CG2.out hG2 FG2.out).mono ?_
            rintro e w27 ⟨rfl, b27⟩
            have lG2 : wA.heap.size ≤ G := by have := z17.out; omega
            have S27 := Lib.hid (S19.out.free (b27.mono (fun j _ (e : j = G) => show wA.heap.size ≤ j by omega)) (fun j hj => cut_new hj) SI.out.co.lt (lt_of_cell SI.out.t0))
            clear b27
            go_wp2
            go_roundw
            case rel => exact ⟨k + 1, cut own wA.heap.size, put st c p', s', by omega, by go_num, S27.out⟩
            case measure => simp [intOf]; omega
        · have hw1' : wh < 1 := by omega
          clear hw0 hw1
          obtain ⟨wA, hwA⟩ : ∃ wA, wA = wr := ⟨_, rfl⟩
          subst hwA
          have SI := Lib.hid HI.out.cut
          have hld := ld_pair (SI.out.co.at_ c hc4)
          go_wp2_with fail
          refine (told_any (cut own wA.heap.size) c S M B M2 B2 n s (st c) false _ (SI.out.is c hc4) SI.out.d HS.out (by have := SI.out.cnt; omega)).mono ?_
          rintro e w17 ⟨rfl, p', s', hpc, hss, hpi, hd17, hs17, hb17⟩
          have S17 := Lib.hid (SI.out.told hc4 hpc hpi hd17 hs17 hb17)
          have z17 := Lib.hid hb17.size
          clear hpc hss hpi hd17 hs17 hb17 hld
          have z0 := S17.out.t0
          have z1 := S17.out.t1
          have z2 := S17.out.t2
          go_wp2_with fail
          refine (pinned_any S _ n s'.ws (wf_ws S17.out.d.wd) (by omega) _ (gives_words S17.out.d.p) N1 N2 K0 KL).mono ?_
          rintro e w18 ⟨G, rfl, lG, hG, cG, fG, k18⟩
          have S18 := Lib.hid (S17.out.keep k18)
          have CG := Lib.hid cG
          have FG := Lib.hid fG
          clear k18 cG fG z0 z1 z2
          have z0 := S18.out.t0
          have z1 := S18.out.t1
          have z2 := S18.out.t2
          go_upto_region 19 with fail
          have KD : Kept w18 w18.drew := (Kept.refl _).drew
          refine wp_region_held_drew (S := fun w' => w'.cell? ⟨w.heap.size, 0, none⟩ = some (.int .i64 S.T) ∧ w'.cell? ⟨w.heap.size, 1, none⟩ = some (.int .i64 S.K) ∧ w'.cell? ⟨w.heap.size, 2, none⟩ = some (.int .i64 S.N)) (by kernel_rfl) ?_ (fun hHeld => ?_)
          · exact ⟨KD.some z0, KD.some z1, KD.some z2⟩
          refine take_on (i := 0) (oi := ?_) (v := ?_) ?_ (by kernel_rfl) ?_ ?_ ?_ hHeld ?_; rotate_left 2; (focus (simp only [List.getElem?_toArray, List.getElem?_cons_zero]; exact rfl)); (focus (rfl)); (focus (intro w hSw; (try dsimp only at hSw); go_simp <;> with_reducible rfl)); (focus (exact fun _ _ _ h => h)); simp only [Act.put, List.setIfInBounds_toArray, List.set_cons_zero, List.set_cons_succ]
          refine take_on (i := 1) (oi := ?_) (v := ?_) ?_ (by kernel_rfl) ?_ ?_ ?_ hHeld ?_; rotate_left 2; (focus (simp only [List.getElem?_toArray, List.getElem?_cons_succ, List.getElem?_cons_zero]; exact rfl)); (focus (rfl)); (focus (intro w hSw; (try dsimp only at hSw); go_simp <;> with_reducible rfl)); (focus (exact fun _ _ _ h => h)); simp only [Act.put, List.setIfInBounds_toArray, List.set_cons_zero, List.set_cons_succ]
          refine take_on (i := 3) (oi := ?_) (v := ?_) ?_ (by kernel_rfl) ?_ ?_ ?_ hHeld ?_; rotate_left 2; (focus (simp only [List.getElem?_toArray, List.getElem?_cons_succ, List.getElem?_cons_zero]; exact rfl)); (focus (rfl)); (focus (intro w hSw; (try dsimp only at hSw); go_simp <;> with_reducible rfl)); (focus (exact fun _ _ _ h => h)); simp only [Act.put, List.setIfInBounds_toArray, List.set_cons_zero, List.set_cons_succ]
          refine take_on (i := 4) (oi := ?_) (v := ?_) ?_ (by kernel_rfl) ?_ ?_ ?_ hHeld ?_; rotate_left 2; (focus (simp only [List.getElem?_toArray, List.getElem?_cons_succ, List.getElem?_cons_zero]; exact rfl)); (focus (rfl)); (focus (intro w hSw; (try dsimp only at hSw); go_simp <;> with_reducible rfl)); (focus (exact fun _ _ _ h => h)); simp only [Act.put, List.setIfInBounds_toArray, List.set_cons_zero, List.set_cons_succ]
          refine wpAnyH_ready (rs := [2]) (by kernel_rfl) (by simp) ?_
          refine AllReadyH.cons (o := ?_) ?_ ?_ AllReadyH.nil
          rotate_left 1
          · simp only [List.getElem?_toArray, List.getElem?_cons_succ, List.getElem?_cons_zero]; exact rfl
          intro K hK
          go_simp
          go_at_call 16; refine (now_w S S18.out.d.p S18.out.d.wd (by omega) KD).mono ?_; rintro e v2 ⟨rfl, kk2⟩; have KQ2 : Kept w18 v2 := KD.trans kk2
          go_wp2_with fail
          clear hHeld
          refine hK.out _ _ ?_ (fun hHeld => ?_)
          · exact ⟨KQ2.some z0, KQ2.some z1, KQ2.some z2⟩
          clear hK K
          try simp only [Act.put, List.setIfInBounds_toArray, List.set_cons_zero, List.set_cons_succ]
          refine wpAnyH_ready (rs := [5]) (by kernel_rfl) (by simp) ?_
          refine AllReadyH.cons (o := ?_) ?_ ?_ AllReadyH.nil
          rotate_left 1
          · simp only [List.getElem?_toArray, List.getElem?_cons_succ, List.getElem?_cons_zero]; exact rfl
          intro K hK
          go_simp
          go_at_call 17; refine (rnow_any M2 B2 n S s' _ (ref_kept S18.out.d.r S18.out.d.n1 KQ2) S18.out.d.wd S18.out.d.n1).mono ?_; rintro e v5 ⟨rfl, kk5⟩; have KQ5 : Kept w18 v5 := KQ2.trans kk5
          go_wp2_with fail
          clear hHeld
          refine hK.out _ _ ?_ (fun hHeld => ?_)
          · exact ⟨KQ5.some z0, KQ5.some z1, KQ5.some z2⟩
          clear hK K
          try simp only [Act.put, List.setIfInBounds_toArray, List.set_cons_zero, List.set_cons_succ]
          refine take_on (i := 6) (oi := ?_) (v := ?_) ?_ (by kernel_rfl) ?_ ?_ ?_ hHeld ?_; rotate_left 2; (focus (simp only [List.getElem?_toArray, List.getElem?_cons_succ, List.getElem?_cons_zero]; exact rfl)); (focus (rfl)); (focus (intro w hSw; (try dsimp only at hSw); go_simp <;> with_reducible rfl)); (focus (exact fun _ _ _ h => h)); simp only [Act.put, List.setIfInBounds_toArray, List.set_cons_zero, List.set_cons_succ]
          refine take_on (i := 7) (oi := ?_) (v := ?_) ?_ (by kernel_rfl) ?_ ?_ ?_ hHeld ?_; rotate_left 2; (focus (simp only [List.getElem?_toArray, List.getElem?_cons_succ, List.getElem?_cons_zero]; exact rfl)); (focus (rfl)); (focus (intro w hSw; (try dsimp only at hSw); go_simp <;> with_reducible rfl)); (focus (exact fun _ _ _ h => h)); simp only [Act.put, List.setIfInBounds_toArray, List.set_cons_zero, List.set_cons_succ]
          refine take_on (i := 8) (oi := ?_) (v := ?_) ?_ (by kernel_rfl) ?_ ?_ ?_ hHeld ?_; rotate_left 2; (focus (simp only [List.getElem?_toArray, List.getElem?_cons_succ, List.getElem?_cons_zero]; exact rfl)); (focus (rfl)); (focus (intro w hSw; (try dsimp only at hSw); go_simp <;> with_reducible rfl)); (focus (exact fun _ _ _ h => h)); simp only [Act.put, List.setIfInBounds_toArray, List.set_cons_zero, List.set_cons_succ]
          refine take_on (i := 9) (oi := ?_) (v := ?_) ?_ (by kernel_rfl) ?_ ?_ ?_ hHeld ?_; rotate_left 2; (focus (simp only [List.getElem?_toArray, List.getElem?_cons_succ, List.getElem?_cons_zero]; exact rfl)); (focus (rfl)); (focus (intro w hSw; (try dsimp only at hSw); go_simp <;> with_reducible rfl)); (focus (exact fun _ _ _ h => h)); simp only [Act.put, List.setIfInBounds_toArray, List.set_cons_zero, List.set_cons_succ]
          refine take_on (i := 10) (oi := ?_) (v := ?_) ?_ (by kernel_rfl) ?_ ?_ ?_ hHeld ?_; rotate_left 2; (focus (simp only [List.getElem?_toArray, List.getElem?_cons_succ, List.getElem?_cons_zero]; exact rfl)); (focus (rfl)); (focus (intro w hSw; (try dsimp only at hSw); go_simp <;> with_reducible rfl)); (focus (exact fun _ _ _ h => h)); simp only [Act.put, List.setIfInBounds_toArray, List.set_cons_zero, List.set_cons_succ]
          refine wpAnyH_ready (rs := [11]) (by kernel_rfl) (by simp) ?_
          refine AllReadyH.cons (o := ?_) ?_ ?_ AllReadyH.nil
          rotate_left 1
          · simp only [List.getElem?_toArray, List.getElem?_cons_succ, List.getElem?_cons_zero]; exact rfl
          intro K hK
          go_simp
          go_at_call 19; refine (pins_reads S (ref_kept S18.out.d.r S18.out.d.n1 KQ5) S18.out.d.wd S18.out.d.n1 N1 N2 K0 KL).mono ?_; rintro e v11 ⟨a11, c11, rfl, kk11, r11⟩; have KQ11 : Kept w18 v11 := KQ5.trans kk11
          go_wp2_with fail
          clear hHeld
          refine hK.out _ _ ?_ (fun hHeld => ?_)
          · exact ⟨KQ11.some z0, KQ11.some z1, KQ11.some z2⟩
          clear hK K
          try simp only [Act.put, List.setIfInBounds_toArray, List.set_cons_zero, List.set_cons_succ]
          refine wpAnyH_ready (rs := [12]) (by kernel_rfl) (by simp) ?_
          refine AllReadyH.cons (o := ?_) ?_ ?_ AllReadyH.nil
          rotate_left 1
          · simp only [List.getElem?_toArray, List.getElem?_cons_succ, List.getElem?_cons_zero]; exact rfl
          intro K hK
          go_simp
          go_at_call 18; refine (sameInts_yes (some ⟨G, 0, none⟩) a11 _ _ c11 (pinL n s'.ws S) _ (by omega) (.inr ⟨G, 0, rfl, fun i hi => by rw [Nat.zero_add]; exact KQ11.some (CG.out i hi)⟩) r11).mono ?_; rintro e v12 ⟨rfl, kk12⟩; have KQ12 : Kept w18 v12 := KQ11.trans kk12
          go_wp2_with fail
          clear hHeld
          refine hK.out _ _ ?_ (fun hHeld => ?_)
          · exact ⟨KQ12.some z0, KQ12.some z1, KQ12.some z2⟩
          clear hK K
          try simp only [Act.put, List.setIfInBounds_toArray, List.set_cons_zero, List.set_cons_succ]
          refine take_on (i := 13) (oi := ?_) (v := ?_) ?_ (by kernel_rfl) ?_ ?_ ?_ hHeld ?_; rotate_left 2; (focus (simp only [List.getElem?_toArray, List.getElem?_cons_succ, List.getElem?_cons_zero]; exact rfl)); (focus (rfl)); (focus (intro w hSw; (try dsimp only at hSw); go_simp <;> with_reducible rfl)); (focus (exact fun _ _ _ h => h)); simp only [Act.put, List.setIfInBounds_toArray, List.set_cons_zero, List.set_cons_succ]
          refine take_on (i := 14) (oi := ?_) (v := ?_) ?_ (by kernel_rfl) ?_ ?_ ?_ hHeld ?_; rotate_left 2; (focus (simp only [List.getElem?_toArray, List.getElem?_cons_succ, List.getElem?_cons_zero]; exact rfl)); (focus (rfl)); (focus (intro w hSw; (try dsimp only at hSw); go_simp <;> with_reducible rfl)); (focus (exact fun _ _ _ h => h)); simp only [Act.put, List.setIfInBounds_toArray, List.set_cons_zero, List.set_cons_succ]
          refine take_on (i := 15) (oi := ?_) (v := ?_) ?_ (by kernel_rfl) ?_ ?_ ?_ hHeld ?_; rotate_left 2; (focus (simp only [List.getElem?_toArray, List.getElem?_cons_succ, List.getElem?_cons_zero]; exact rfl)); (focus (rfl)); (focus (intro w hSw; (try dsimp only at hSw); go_simp <;> with_reducible rfl)); (focus (exact fun _ _ _ h => h)); simp only [Act.put, List.setIfInBounds_toArray, List.set_cons_zero, List.set_cons_succ]
          refine take_on (i := 16) (oi := ?_) (v := ?_) ?_ (by kernel_rfl) ?_ ?_ ?_ hHeld ?_; rotate_left 2; (focus (simp only [List.getElem?_toArray, List.getElem?_cons_succ, List.getElem?_cons_zero]; exact rfl)); (focus (rfl)); (focus (intro w hSw; (try dsimp only at hSw); go_simp <;> with_reducible rfl)); (focus (exact fun _ _ _ h => h)); simp only [Act.put, List.setIfInBounds_toArray, List.set_cons_zero, List.set_cons_succ]
          refine take_on (i := 18) (oi := ?_) (v := ?_) ?_ (by kernel_rfl) ?_ ?_ ?_ hHeld ?_; rotate_left 2; (focus (simp only [List.getElem?_toArray, List.getElem?_cons_succ, List.getElem?_cons_zero]; exact rfl)); (focus (rfl)); (focus (intro w hSw; (try dsimp only at hSw); go_simp <;> with_reducible rfl)); (focus (exact fun _ _ _ h => h)); simp only [Act.put, List.setIfInBounds_toArray, List.set_cons_zero, List.set_cons_succ]
          refine wpAnyH_ready (rs := [17]) (by kernel_rfl) (by simp) ?_
          refine AllReadyH.cons (o := ?_) ?_ ?_ AllReadyH.nil
          rotate_left 1
          · simp only [List.getElem?_toArray, List.getElem?_cons_succ, List.getElem?_cons_zero]; exact rfl
          intro K hK
          go_simp
          go_at_call 21; refine (p_words M B n s' _ (pmem_kept S18.out.d.p KQ12)).mono ?_; rintro e v17 ⟨bw, cw, rfl, hb1, hb2, hw, hf, kk17⟩; have KQ17 : Kept w18 v17 := KQ12.trans kk17
          go_wp2_with fail
          clear hHeld
          refine hK.out _ _ ?_ (fun hHeld => ?_)
          · exact ⟨KQ17.some z0, KQ17.some z1, KQ17.some z2⟩
          clear hK K
          try simp only [Act.put, List.setIfInBounds_toArray, List.set_cons_zero, List.set_cons_succ]
          refine wpAnyH_ready (rs := [19]) (by kernel_rfl) (by simp) ?_
          refine AllReadyH.cons (o := ?_) ?_ ?_ AllReadyH.nil
          rotate_left 1
          · simp only [List.getElem?_toArray, List.getElem?_cons_succ, List.getElem?_cons_zero]; exact rfl
          intro K hK
          go_simp
          go_at_call 22; refine (r_words M2 B2 n s' _ (ref_kept S18.out.d.r S18.out.d.n1 KQ17) S18.out.d.n1 S18.out.d.n2).mono ?_; rintro e v19 ⟨gr, og, cr, rfl, hr, kk19⟩; have KQ19 : Kept w18 v19 := KQ17.trans kk19
          go_wp2_with fail
          clear hHeld
          refine hK.out _ _ ?_ (fun hHeld => ?_)
          · exact ⟨KQ19.some z0, KQ19.some z1, KQ19.some z2⟩
          clear hK K
          try simp only [Act.put, List.setIfInBounds_toArray, List.set_cons_zero, List.set_cons_succ]
          refine wpAnyH_ready (rs := [20]) (by kernel_rfl) (by simp) ?_
          refine AllReadyH.cons (o := ?_) ?_ ?_ AllReadyH.nil
          rotate_left 1
          · simp only [List.getElem?_toArray, List.getElem?_cons_succ, List.getElem?_cons_zero]; exact rfl
          intro K hK
          go_simp
          go_at_call 20; refine (sameWords (f := s'.ws) S18.out.d.n2 (fun i hi => by rw [Nat.zero_add]; exact kk19.some (hw i hi)) hr).mono ?_; rintro e v20 ⟨rfl, kk20⟩; have KQ20 : Kept w18 v20 := KQ19.trans kk20
          go_wp2_with fail
          clear hHeld
          refine hK.out _ _ ?_ (fun hHeld => ?_)
          · exact ⟨KQ20.some z0, KQ20.some z1, KQ20.some z2⟩
          clear hK K
          try simp only [Act.put, List.setIfInBounds_toArray, List.set_cons_zero, List.set_cons_succ]
          refine take_on (i := 21) (oi := ?_) (v := ?_) ?_ (by kernel_rfl) ?_ ?_ ?_ hHeld ?_; rotate_left 2; (focus (simp only [List.getElem?_toArray, List.getElem?_cons_succ, List.getElem?_cons_zero]; exact rfl)); (focus (rfl)); (focus (intro w hSw; (try dsimp only at hSw); go_simp <;> with_reducible rfl)); (focus (exact fun _ _ _ h => h)); simp only [Act.put, List.setIfInBounds_toArray, List.set_cons_zero, List.set_cons_succ]
          refine take_on (i := 22) (oi := ?_) (v := ?_) ?_ (by kernel_rfl) ?_ ?_ ?_ hHeld ?_; rotate_left 2; (focus (simp only [List.getElem?_toArray, List.getElem?_cons_succ, List.getElem?_cons_zero]; exact rfl)); (focus (rfl)); (focus (intro w hSw; (try dsimp only at hSw); go_simp <;> with_reducible rfl)); (focus (exact fun _ _ _ h => h)); simp only [Act.put, List.setIfInBounds_toArray, List.set_cons_zero, List.set_cons_succ]
          refine take_on (i := 23) (oi := ?_) (v := ?_) ?_ (by kernel_rfl) ?_ ?_ ?_ hHeld ?_; rotate_left 2; (focus (simp only [List.getElem?_toArray, List.getElem?_cons_succ, List.getElem?_cons_zero]; exact rfl)); (focus (rfl)); (focus (intro w hSw; (try dsimp only at hSw); go_simp <;> with_reducible rfl)); (focus (exact fun _ _ _ h => h)); simp only [Act.put, List.setIfInBounds_toArray, List.set_cons_zero, List.set_cons_succ]
          refine take_on (i := 24) (oi := ?_) (v := ?_) ?_ (by kernel_rfl) ?_ ?_ ?_ hHeld ?_; rotate_left 2; (focus (simp only [List.getElem?_toArray, List.getElem?_cons_succ, List.getElem?_cons_zero]; exact rfl)); (focus (rfl)); (focus (intro w hSw; (try dsimp only at hSw); go_simp <;> with_reducible rfl)); (focus (exact fun _ _ _ h => h)); simp only [Act.put, List.setIfInBounds_toArray, List.set_cons_zero, List.set_cons_succ]
          refine take_on (i := 26) (oi := ?_) (v := ?_) ?_ (by kernel_rfl) ?_ ?_ ?_ hHeld ?_; rotate_left 2; (focus (simp only [List.getElem?_toArray, List.getElem?_cons_succ, List.getElem?_cons_zero]; exact rfl)); (focus (rfl)); (focus (intro w hSw; (try dsimp only at hSw); go_simp <;> with_reducible rfl)); (focus (exact fun _ _ _ h => h)); simp only [Act.put, List.setIfInBounds_toArray, List.set_cons_zero, List.set_cons_succ]
          refine wpAnyH_ready (rs := [25]) (by kernel_rfl) (by simp) ?_
          refine AllReadyH.cons (o := ?_) ?_ ?_ AllReadyH.nil
          rotate_left 1
          · simp only [List.getElem?_toArray, List.getElem?_cons_succ, List.getElem?_cons_zero]; exact rfl
          intro K hK
          go_simp
          go_at_call 23; refine (p_last M B n s' _ (pmem_kept S18.out.d.p KQ20)).mono ?_; rintro e v25 ⟨rfl, kk25⟩; have KQ25 : Kept w18 v25 := KQ20.trans kk25
          go_wp2_with fail
          clear hHeld
          refine hK.out _ _ ?_ (fun hHeld => ?_)
          · exact ⟨KQ25.some z0, KQ25.some z1, KQ25.some z2⟩
          clear hK K
          try simp only [Act.put, List.setIfInBounds_toArray, List.set_cons_zero, List.set_cons_succ]
          refine wpAnyH_ready (rs := [27]) (by kernel_rfl) (by simp) ?_
          refine AllReadyH.cons (o := ?_) ?_ ?_ AllReadyH.nil
          rotate_left 1
          · simp only [List.getElem?_toArray, List.getElem?_cons_succ, List.getElem?_cons_zero]; exact rfl
          intro K hK
          go_simp
          go_at_call 24; refine (r_last M2 B2 n s' _ (ref_kept S18.out.d.r S18.out.d.n1 KQ25)).mono ?_; rintro e v27 ⟨rfl, kk27⟩; have KQ27 : Kept w18 v27 := KQ25.trans kk27
          go_wp2_with fail
          clear hHeld
          refine hK.out _ _ ?_ (fun hHeld => ?_)
          · exact ⟨KQ27.some z0, KQ27.some z1, KQ27.some z2⟩
          clear hK K
          try simp only [Act.put, List.setIfInBounds_toArray, List.set_cons_zero, List.set_cons_succ]
          refine take_on (i := 28) (oi := ?_) (v := ?_) ?_ (by kernel_rfl) ?_ ?_ ?_ hHeld ?_; rotate_left 2; (focus (simp only [List.getElem?_toArray, List.getElem?_cons_succ, List.getElem?_cons_zero]; exact rfl)); (focus (rfl)); (focus (intro w hSw; (try dsimp only at hSw); go_simp <;> with_reducible rfl)); (focus (exact fun _ _ _ h => h)); simp only [Act.put, List.setIfInBounds_toArray, List.set_cons_zero, List.set_cons_succ]
          refine take_on (i := 29) (oi := ?_) (v := ?_) ?_ (by kernel_rfl) ?_ ?_ ?_ hHeld ?_; rotate_left 2; (focus (simp only [List.getElem?_toArray, List.getElem?_cons_succ, List.getElem?_cons_zero]; exact rfl)); (focus (rfl)); (focus (intro w hSw; (try dsimp only at hSw); go_simp <;> with_reducible rfl)); (focus (exact fun _ _ _ h => h)); simp only [Act.put, List.setIfInBounds_toArray, List.set_cons_zero, List.set_cons_succ]
          refine take_on (i := 30) (oi := ?_) (v := ?_) ?_ (by kernel_rfl) ?_ ?_ ?_ hHeld ?_; rotate_left 2; (focus (simp only [List.getElem?_toArray, List.getElem?_cons_succ, List.getElem?_cons_zero]; exact rfl)); (focus (rfl)); (focus (intro w hSw; (try dsimp only at hSw); go_simp <;> with_reducible rfl)); (focus (exact fun _ _ _ h => h)); simp only [Act.put, List.setIfInBounds_toArray, List.set_cons_zero, List.set_cons_succ]
          refine take_on (i := 31) (oi := ?_) (v := ?_) ?_ (by kernel_rfl) ?_ ?_ ?_ hHeld ?_; rotate_left 2; (focus (simp only [List.getElem?_toArray, List.getElem?_cons_succ, List.getElem?_cons_zero]; exact rfl)); (focus (rfl)); (focus (intro w hSw; (try dsimp only at hSw); go_simp <;> with_reducible rfl)); (focus (exact fun _ _ _ h => h)); simp only [Act.put, List.setIfInBounds_toArray, List.set_cons_zero, List.set_cons_succ]
          refine take_on (i := 33) (oi := ?_) (v := ?_) ?_ (by kernel_rfl) ?_ ?_ ?_ hHeld ?_; rotate_left 2; (focus (simp only [List.getElem?_toArray, List.getElem?_cons_succ, List.getElem?_cons_zero]; exact rfl)); (focus (rfl)); (focus (intro w hSw; (try dsimp only at hSw); go_simp <;> with_reducible rfl)); (focus (exact fun _ _ _ h => h)); simp only [Act.put, List.setIfInBounds_toArray, List.set_cons_zero, List.set_cons_succ]
          refine wpAnyH_ready (rs := [32]) (by kernel_rfl) (by simp) ?_
          refine AllReadyH.cons (o := ?_) ?_ ?_ AllReadyH.nil
          rotate_left 1
          · simp only [List.getElem?_toArray, List.getElem?_cons_succ, List.getElem?_cons_zero]; exact rfl
          intro K hK
          go_simp
          go_at_call 25; refine (count_w (pmem_kept S18.out.d.p KQ27)).mono ?_; rintro e v32 ⟨rfl, kk32⟩; have KQ32 : Kept w18 v32 := KQ27.trans kk32
          go_wp2_with fail
          clear hHeld
          refine hK.out _ _ ?_ (fun hHeld => ?_)
          · exact ⟨KQ32.some z0, KQ32.some z1, KQ32.some z2⟩
          clear hK K
          try simp only [Act.put, List.setIfInBounds_toArray, List.set_cons_zero, List.set_cons_succ]
          refine wpAnyH_ready (rs := [34]) (by kernel_rfl) (by simp) ?_
          refine AllReadyH.cons (o := ?_) ?_ ?_ AllReadyH.nil
          rotate_left 1
          · simp only [List.getElem?_toArray, List.getElem?_cons_succ, List.getElem?_cons_zero]; exact rfl
          intro K hK
          go_simp
          go_at_call 26; refine (r_count M2 B2 n s' _ (ref_kept S18.out.d.r S18.out.d.n1 KQ32)).mono ?_; rintro e v34 ⟨rfl, kk34⟩; have KQ34 : Kept w18 v34 := KQ32.trans kk34
          go_wp2_with fail
          clear hHeld
          refine hK.out _ _ ?_ (fun hHeld => ?_)
          · exact ⟨KQ34.some z0, KQ34.some z1, KQ34.some z2⟩
          clear hK K
          try simp only [Act.put, List.setIfInBounds_toArray, List.set_cons_zero, List.set_cons_succ]
          refine take_on (i := 35) (oi := ?_) (v := ?_) ?_ (by kernel_rfl) ?_ ?_ ?_ hHeld ?_; rotate_left 2; (focus (simp only [List.getElem?_toArray, List.getElem?_cons_succ, List.getElem?_cons_zero]; exact rfl)); (focus (rfl)); (focus (intro w hSw; (try dsimp only at hSw); go_simp <;> with_reducible rfl)); (focus (exact fun _ _ _ h => h)); simp only [Act.put, List.setIfInBounds_toArray, List.set_cons_zero, List.set_cons_succ]
          refine take_on (i := 36) (oi := ?_) (v := ?_) ?_ (by kernel_rfl) ?_ ?_ ?_ hHeld ?_; rotate_left 2; (focus (simp only [List.getElem?_toArray, List.getElem?_cons_succ, List.getElem?_cons_zero]; exact rfl)); (focus (rfl)); (focus (intro w hSw; (try dsimp only at hSw); go_simp <;> with_reducible rfl)); (focus (exact fun _ _ _ h => h)); simp only [Act.put, List.setIfInBounds_toArray, List.set_cons_zero, List.set_cons_succ]
          refine wpAnyH_done (by kernel_rfl) ?_ _
          have S19 := Lib.hid (S18.out.keep KQ34)
          have CG2 := Lib.hid (fun i hi => KQ34.some (CG.out i hi))
          have FG2 := Lib.hid (fun i => KQ34.soft hG (FG.out i))
          have hG2 : G < v34.heap.size := Nat.lt_of_lt_of_le hG KQ34.size
          clear hHeld KD KQ2 KQ5 KQ11 KQ12 KQ17 KQ19 KQ20 KQ25 KQ27 KQ32 KQ34 kk2 kk5 kk11 kk12 kk17 kk19 kk20 kk25 kk27 kk32 kk34 hw hb1 hb2 hf hr r11 z0 z1 z2
          go_wp2_with fail
          refine (overInts_any G _ _ (pinL n s'.ws S) _ (by omega) CG2.out hG2 FG2.out).mono ?_
          rintro e w27 ⟨rfl, b27⟩
          have lG2 : wA.heap.size ≤ G := by have := z17.out; omega
          have S27 := Lib.hid (S19.out.free (b27.mono (fun j _ (e : j = G) => show wA.heap.size ≤ j by omega)) (fun j hj => cut_new hj) SI.out.co.lt (lt_of_cell SI.out.t0))
          clear b27
          go_wp2
          go_roundw
          case rel => exact ⟨k + 1, cut own wA.heap.size, put st c p', s', by omega, by go_num, S27.out⟩
          case measure => simp [intOf]; omega
    · have hge : m3 ≤ k := by omega
      go_wp2_with fail
      refine (awake_any _).mono ?_
      rintro e w40 ⟨rfl, k40⟩
      go_wp2
      go_ret
      exact ⟨rfl, HI.out.kept.trans k40⟩
end Go.Proofs.Ytmfbjlaajcdbnaa.Ep
