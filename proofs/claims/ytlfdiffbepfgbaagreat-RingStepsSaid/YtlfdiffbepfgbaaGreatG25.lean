/- The walk of RingSteps. Written by gen14x.py. -/
import Derived.Test.YtlfdiffbepfgbaaGreatG23
import Derived.Test.YtlfdiffbepfgbaaGreatG24
import Derived.Deep.QuietTactic
import Derived.BigQuiet
set_option linter.unusedVariables false
set_option linter.unusedSimpArgs false

namespace Go.Proofs.YtlfdiffbepfgbaaGreat.Ri
set_option maxRecDepth 100000
open Go.RowKit
open Wo (St acc wordAt PMem RefIs)
open Sk (Wd pmem_kept pmem_lt pmem_frame ref_frame ref_kept ref_lt p_last p_words p_count take_on take_off held_mono)
attribute [local go_sem ↓] ldP_named stP_named

theorem make_boths : ∃ Z : Array Value, (∀ i, i < 24 → Z[i]? = some (.pointer none)) ∧
    ∀ w : World, (Instr.makeSlice 118 (.int .i64 4) (.int .i64 4)).run Tryz.prog w = .ok (.slice (some ⟨w.heap.size, 0, none⟩) 4 4) (w.alloc (.cells Z 128)) := by
  obtain ⟨i0, hi, hz0, hz1, hz2⟩ := info_parts infoPair
  refine ⟨madeCells #[.pointer none, .pointer none, .pointer none, .pointer none, .pointer none, .pointer none] 24, fun i h => ?_, fun w => ?_⟩
  · have hz : ∀ j, j < 6 → (#[Value.pointer none, .pointer none, .pointer none, .pointer none, .pointer none, .pointer none] : Array Value)[j]? = some (.pointer none) := fun j hj => by
      have : j = 0 ∨ j = 1 ∨ j = 2 ∨ j = 3 ∨ j = 4 ∨ j = 5 := by omega
      rcases this with rfl | rfl | rfl | rfl | rfl | rfl <;> rfl
    have hm := hz (i % 6) (by omega)
    have hz2 : ∀ j, j < 6 → ([Value.pointer none, .pointer none, .pointer none, .pointer none, .pointer none, .pointer none] : List Value)[j]? = some (.pointer none) := fun j hj => by
      have : j = 0 ∨ j = 1 ∨ j = 2 ∨ j = 3 ∨ j = 4 ∨ j = 5 := by omega
      rcases this with rfl | rfl | rfl | rfl | rfl | rfl <;> rfl
    have hm2 := hz2 (i % 6) (by omega)
    simp [madeCells, h, Array.getElem!_eq_getD, Array.getD_eq_getD_getElem?, hm2]
  · have h := run_makeSlice (P := Tryz.prog) w 118 128 i0 (.agg #[.pointer none, .pointer none, .pointer none, .pointer none, .pointer none, .pointer none]) Tryz.underlying118 hi hz0 .i64 .i64 4 4 (by omega) (Int.le_refl _) (by rw [hz1]; decide) (by rw [hz2]; decide) (by decide)
    rw [h, hz1]
    rfl

def cut (own : Nat → Nat) (n k : Nat) : Nat := if k < n then own k else 2
theorem cut_old {own : Nat → Nat} {n : Nat} : ∀ k, k < n → cut own n k = own k := fun k hk => by unfold cut; rw [if_pos hk]
theorem cut_new {own : Nat → Nat} {n k : Nat} (h : n ≤ k) : cut own n k = 2 := by unfold cut; rw [if_neg (by omega)]

structure StI (w0 : World) (R : Rng) (M B M2 B2 C n : Nat) (own : Nat → Nat) (st : Nat → PS) (s : St) (k : Nat) (w : World) : Prop where
  d : Duo own w M B M2 B2 n s
  co : Cores w C st
  is : ∀ c, c < 4 → (st c).Is own c R w
  low : ∀ j, j ≤ w0.heap.size → own j = 2
  oC : own C = 2
  cnt : s.cnt ≤ 10000 + k
  neC : w0.heap.size < C
  kept : Kept w0 w
  t0 : w.cell? ⟨w0.heap.size, 0, none⟩ = some (.int .i64 R.H)
  t1 : w.cell? ⟨w0.heap.size, 1, none⟩ = some (.int .i64 R.T)
  t2 : w.cell? ⟨w0.heap.size, 2, none⟩ = some (.int .i64 R.K)
  t3 : w.cell? ⟨w0.heap.size, 3, none⟩ = some (.int .i64 R.N)
theorem StI.keep {w0 : World} {R : Rng} {M B M2 B2 C n : Nat} {own : Nat → Nat} {st : Nat → PS} {s : St} {k : Nat} {w w' : World} (h : StI w0 R M B M2 B2 C n own st s k w) (kk : Kept w w') : StI w0 R M B M2 B2 C n own st s k w' :=
  ⟨h.d.kept kk, h.co.kept kk, fun c hc => (h.is c hc).kept kk, h.low, h.oC, h.cnt, h.neC, h.kept.trans kk, kk.some h.t0, kk.some h.t1, kk.some h.t2, kk.some h.t3⟩
theorem StI.cut {w0 : World} {R : Rng} {M B M2 B2 C n : Nat} {own : Nat → Nat} {st : Nat → PS} {s : St} {k : Nat} {w : World} (h : StI w0 R M B M2 B2 C n own st s k w) : StI w0 R M B M2 B2 C n (cut own w.heap.size) st s k w :=
  ⟨h.d.owns cut_old, h.co, fun c hc => (h.is c hc).owns cut_old, fun j hj => by unfold Ri.cut; split <;> first | exact h.low j hj | rfl, by rw [cut_old _ h.co.lt]; exact h.oC, h.cnt, h.neC, h.kept, h.t0, h.t1, h.t2, h.t3⟩
theorem StI.told {w0 : World} {R : Rng} {M B M2 B2 C n : Nat} {own : Nat → Nat} {st : Nat → PS} {s : St} {k : Nat} {w w' : World} (h : StI w0 R M B M2 B2 C n own st s k w) {c : Nat} (hc : c < 4) {p' : PS} {s' : St} (hp : p'.cells = (st c).cells) (hi : p'.Is own c R w') (hd : Duo own w' M B M2 B2 n s') (hs : s'.cnt ≤ s.cnt + 1) (hb : But (mine own c) w w') :
    StI w0 R M B M2 B2 C n own (put st c p') s' (k + 1) w' := by
  have nm : ∀ j, own j = 2 → ¬ mine own c j := fun j hj h => by unfold mine at h; omega
  refine ⟨hd, ?_, fun q hq => ?_, h.low, h.oC, by have := h.cnt; omega, h.neC, ((h.kept.but (fun j => mine own c j)).trans hb (fun _ _ h => h)).kept fun j hj => nm j (h.low j (by omega)), hb.some h.t0 (nm _ (h.low _ (Nat.le_refl _))), hb.some h.t1 (nm _ (h.low _ (Nat.le_refl _))), hb.some h.t2 (nm _ (h.low _ (Nat.le_refl _))), hb.some h.t3 (nm _ (h.low _ (Nat.le_refl _)))⟩
  · have h2 := h.co.frame hb (nm _ h.oC)
    refine ⟨fun q hq => ?_, h2.f, h2.lt⟩
    unfold put
    by_cases e : q = c
    · subst e; rw [if_pos rfl, hp]; exact h2.at_ q hq
    · rw [if_neg e]; exact h2.at_ q hq
  · unfold put
    by_cases e : q = c
    · subst e; rw [if_pos rfl]; exact hi
    · rw [if_neg e]
      exact (h.is q hq).frame hb (fun j hj => by unfold mine at hj; omega)
theorem StI.free {w0 : World} {R : Rng} {M B M2 B2 C n : Nat} {own : Nat → Nat} {st : Nat → PS} {s : St} {k b : Nat} {w w' : World} (h : StI w0 R M B M2 B2 C n own st s k w) (hb : But (fun j => b ≤ j) w w') (ho : ∀ j, b ≤ j → own j = 2) (hC : C < b) (hw : w0.heap.size < b) : StI w0 R M B M2 B2 C n own st s k w' := by
  refine ⟨h.d.frame hb (fun j hj => by rw [ho j hj]; omega), h.co.frame hb (by omega), fun q hq => (h.is q hq).frame hb (fun j hj => by rw [ho j hj]; omega), h.low, h.oC, h.cnt, h.neC, ((h.kept.but (fun j => b ≤ j)).trans hb (fun _ _ h => h)).kept fun j hj => by omega, hb.some h.t0 (by omega), hb.some h.t1 (by omega), hb.some h.t2 (by omega), hb.some h.t3 (by omega)⟩
theorem StI.begun {w0 : World} {R : Rng} {M B M2 B2 C n : Nat} {own own' : Nat → Nat} {st : Nat → PS} {s : St} {k : Nat} {w u : World} (h : StI w0 R M B M2 B2 C n own st s k w) (ku : Kept w u) {c : Nat} (hc : c < 4) {p : PS} (hi : p.Is own' c R u) (ho : ∀ j, j < w.heap.size → own' j = own j) :
    StI w0 R M B M2 B2 C n own' (put st c p) s k (u.setCells C (c * 6) p.cells) := by
  have hb : But (fun j => j = C) u (u.setCells C (c * 6) p.cells) := but_setCells (S := fun j => j = C) rfl _ _ _ (But.refl _ _)
  have oC : own' C = 2 := (ho _ h.co.lt).trans h.oC
  have hw : w0.heap.size < w.heap.size := lt_of_cell h.t0
  have h2 : StI w0 R M B M2 B2 C n own' st s k u := by
    have h1 := h.keep ku
    exact ⟨(h.d.owns ho).kept ku, h1.co, fun q hq => ((h.is q hq).owns ho).kept ku, fun j hj => (ho j (by omega)).trans (h.low j hj), oC, h.cnt, h.neC, h1.kept, h1.t0, h1.t1, h1.t2, h1.t3⟩
  have hn := h.neC
  refine ⟨h2.d.frame hb (fun j hj => by rw [hj, oC]; omega), h2.co.set hc p, fun q hq => ?_, h2.low, h2.oC, h2.cnt, h2.neC, ((h2.kept.but (fun j => j = C)).trans hb (fun _ _ h => h)).kept fun j hj => by omega, hb.some h2.t0 (by omega), hb.some h2.t1 (by omega), hb.some h2.t2 (by omega), hb.some h2.t3 (by omega)⟩
  unfold put
  by_cases e : q = c
  · subst e; rw [if_pos rfl]; exact hi.frame hb (fun j hj => by rw [hj, oC]; omega)
  · rw [if_neg e]; exact (h2.is q hq).frame hb (fun j hj => by rw [hj, oC]; omega)

theorem wf_ws {n : Nat} {s : St} (h : Wd n s) : Wf n s.ws := fun i _ => ⟨h.lo i, h.hi i⟩
theorem count_w {w : World} {M B n : Nat} {s : St} (hm : PMem w M B n s) : Calls Tryz.prog 26 #[.pointer (some ⟨M, 0, none⟩)] w fun e w' => e = .returned (.int .i64 s.cnt) ∧ Kept w w' :=
  (p_count M B n s w hm).mono fun _ _ ⟨a, k⟩ => ⟨a, k ▸ Kept.refl _⟩

def StRel (w0 : World) (R : Rng) (M B M2 B2 C n L : Nat) (i : Value) (w : World) : Prop := ∃ (k : Nat) (own : Nat → Nat) (st : Nat → PS) (s : St), k ≤ L ∧ i = .int .i64 k ∧ StI w0 R M B M2 B2 C n own st s k w

theorem act_cells {w : World} {g o : Nat} {l : List (Int × Int × Int × Int)} (h : ∀ j u, (l.flatMap actc)[j]? = some u → w.cell? ⟨g, o + j, none⟩ = some u) (hb : ∀ e ∈ l, 0 ≤ e.2.2.2 ∧ e.2.2.2 < 18446744073709551616) (k : Nat) (hk : k < l.length) :
    ∃ co wh d p : Int, (0 ≤ p ∧ p < 18446744073709551616) ∧ w.cell? ⟨g, o + k * 4, none⟩ = some (.int .i64 co) ∧ w.cell? ⟨g, o + k * 4 + 1, none⟩ = some (.int .i64 wh) ∧ w.cell? ⟨g, o + k * 4 + 2, none⟩ = some (.int .i64 d) ∧ w.cell? ⟨g, o + k * 4 + 3, none⟩ = some (.int .u64 p) := by
  obtain ⟨a, ha⟩ : ∃ a, l[k]? = some a := ⟨_, List.getElem?_eq_getElem hk⟩
  refine ⟨a.1, a.2.1, a.2.2.1, a.2.2.2, hb a (List.mem_of_getElem? ha), ?_, ?_, ?_, ?_⟩
  · have := h (k * 4 + 0) (.int .i64 a.1) (by rw [wide_get actc_length l k 0 a ha (by decide)]; rfl)
    simpa [Nat.add_assoc] using this
  · have := h (k * 4 + 1) (.int .i64 a.2.1) (by rw [wide_get actc_length l k 1 a ha (by decide)]; rfl)
    simpa [Nat.add_assoc] using this
  · have := h (k * 4 + 2) (.int .i64 a.2.2.1) (by rw [wide_get actc_length l k 2 a ha (by decide)]; rfl)
    simpa [Nat.add_assoc] using this
  · have := h (k * 4 + 3) (.int .u64 a.2.2.2) (by rw [wide_get actc_length l k 3 a ha (by decide)]; rfl)
    simpa [Nat.add_assoc] using this
theorem allLen_le {n : Nat} {f : Nat → Int} {R : Rng} {h : Int} : ∀ r k, allLen n f R h r k ≤ k + r
  | 0, k => by unfold allLen; omega
  | r + 1, k => by
    unfold allLen
    split
    · omega
    · have := allLen_le (n := n) (f := f) (R := R) (h := h) r (k + 1); omega
theorem allL_le (n : Nat) (f : Nat → Int) (R : Rng) : (allL n f R).length ≤ R.N.toNat := by
  have := allLen_le (n := n) (f := f) (R := R) (h := hv n f R.H) R.N.toNat 0
  unfold allL vals
  rw [List.length_map, nums_length]
  omega
theorem reads_own {w : World} {base : Nat} {a : Option Addr} {l : List Int} {c : Nat} (h : w.ownsRow base 3 1 (.slice a l.length c) l.length (ints l)) : Reads w a l.length (fun i => l.getD i 0) := by
  rcases own_lies h with ⟨e, h0, _⟩ | ⟨g, o, c', e, _, _, hc⟩
  · exact .inl h0
  · injection e with e1 e2 e3
    subst e1
    exact .inr ⟨g, o, rfl, fun i hi => hc i _ (ints_at l i hi)⟩

set_option maxHeartbeats 8000000 in
theorem steps_main (R : Rng) (n : Nat) (li : List Int) (la : List (Int × Int × Int × Int)) (a2 a3 : Option Addr) (c2 c3 : Nat) (w : World) (h2 : Lay w (.slice a2 li.length c2) li.length (words li)) (hr : ∀ x ∈ li, 0 ≤ x ∧ x < 18446744073709551616) (h3 : Lay w (.slice a3 la.length c3) la.length (la.flatMap actc)) (hab : ∀ e ∈ la, 0 ≤ e.2.2.2 ∧ e.2.2.2 < 18446744073709551616)
    (hF : fitsR R n = 0) (hN20 : R.N ≤ 20) (hn : n ≤ 60) (hl2 : li.length ≤ 60) (hl3 : la.length ≤ 120) :
    Calls Tryz.prog 9 #[.agg #[.int .i64 R.H, .int .i64 R.T, .int .i64 R.K, .int .i64 R.N], .int .i64 n, .slice a2 li.length c2, .slice a3 la.length c3] w fun e w' => e = .returned (.bool true) ∧ Kept w w' := by
  obtain ⟨hap, hn1, _⟩ := fitsR_ok hF
  rw [Int.toNat_natCast] at hap
  have hS := hap.ok
  have HAB := Lib.hid hab
  have HS := Lib.hid hS
  have HF := Lib.hid hF
  have H2 := Lib.hid h2
  have H3 := Lib.hid h3
  have HR := Lib.hid hr
  obtain ⟨m2, hm2⟩ : ∃ m, m = li.length := ⟨_, rfl⟩
  obtain ⟨m3, hm3⟩ : ∃ m, m = la.length := ⟨_, rfl⟩
  have HM2 := Lib.hid hm2
  have HM3 := Lib.hid hm3
  rw [← hm2] at hl2 ⊢
  rw [← hm3] at hl3 ⊢
  have g2 : (m2 : Int) ≤ 60 := by omega
  have g3 : (m3 : Int) ≤ 120 := by omega
  have gn : (n : Int) ≤ 60 := by omega
  clear hS hap hab hF h2 h3 hr hm2 hm3
  go_enter Tryz.func9, Tryz.ntmps9
  go_upto_region 1 with fail
  obtain ⟨W1, hW1⟩ : ∃ W1, W1 = w.alloc (.cells #[.int .i64 R.H, .int .i64 R.T, .int .i64 R.K, .int .i64 R.N] 114) := ⟨_, rfl⟩
  have t0 : W1.cell? ⟨w.heap.size, 0, none⟩ = some (.int .i64 R.H) := by rw [hW1]; exact cell_new w _ _ _ 0 rfl
  have t1 : W1.cell? ⟨w.heap.size, 1, none⟩ = some (.int .i64 R.T) := by rw [hW1]; exact cell_new w _ _ _ 1 rfl
  have t2 : W1.cell? ⟨w.heap.size, 2, none⟩ = some (.int .i64 R.K) := by rw [hW1]; exact cell_new w _ _ _ 2 rfl
  have t3 : W1.cell? ⟨w.heap.size, 3, none⟩ = some (.int .i64 R.N) := by rw [hW1]; exact cell_new w _ _ _ 3 rfl
  have k1 : Kept w W1 := by rw [hW1]; exact (Kept.refl w).alloc _ _
  rw [← hW1]
  have K1 := Lib.hid k1
  clear hW1 k1
  have FP : ∀ W, Hid (Calls Tryz.prog 44 #[.agg #[.int .i64 R.H, .int .i64 R.T, .int .i64 R.K, .int .i64 R.N], .int .i64 n] W fun e w' => e = .returned (.int .i64 0) ∧ Kept W w') := fun W => Lib.hid (by have h := pfits_any R n W; rw [HF.out] at h; exact h)
  have FR : ∀ W, Hid (Calls Tryz.prog 45 #[.agg #[.int .i64 R.H, .int .i64 R.T, .int .i64 R.K, .int .i64 R.N], .int .i64 n] W fun e w' => e = .returned (.int .i64 0) ∧ Kept W w') := fun W => Lib.hid (by have h := rfits_any R n W; rw [HF.out] at h; exact h)
  go_region_held3 (fun w' => w'.cell? ⟨w.heap.size, 0, none⟩ = some (.int .i64 R.H) ∧ w'.cell? ⟨w.heap.size, 1, none⟩ = some (.int .i64 R.T) ∧ w'.cell? ⟨w.heap.size, 2, none⟩ = some (.int .i64 R.K) ∧ w'.cell? ⟨w.heap.size, 3, none⟩ = some (.int .i64 R.N)) (first | go_keep | (exact ⟨k2.some t0, k2.some t1, k2.some t2, k2.some t3⟩) | (exact ⟨d0, d1, d2, d3⟩)) (first
    | (go_at_call 44; refine (FP _).out.mono ?_; rintro e w2 ⟨rfl, k2⟩; have KT : Kept W1 w2 := Kept.trans (b := _) (by first | exact Kept.refl _ | exact (Kept.refl _).drew | exact (Kept.refl _).drewN _) k2)
    | (go_at_call 45; refine (FR _).out.mono ?_; rintro e w3 ⟨rfl, k3⟩; have KU : Kept W1 w3 := Kept.trans (b := _) (by first | exact KT | exact KT.drew | exact KT.drewN _) k3; have d0 := KU.some t0; have d1 := KU.some t1; have d2 := KU.some t2; have d3 := KU.some t3))
  have K3 := Lib.hid (K1.out.trans KU)
  clear t0 t1 t2 t3 k2 k3 KT KU K1
  rename_i hcells
  clear hcells
  go_wp2_with fail
  refine (FR _).out.mono ?_
  rintro e w4 ⟨rfl, k4⟩
  have t0 := k4.some d0
  have t1 := k4.some d1
  have t2 := k4.some d2
  have t3 := k4.some d3
  have K4 := Lib.hid (K3.out.trans k4)
  clear d0 d1 d2 d3 k4
  go_wp2_with fail
  have hlaid : Calls Tryz.prog 47 #[.agg #[.int .i64 R.H, .int .i64 R.T, .int .i64 R.K, .int .i64 R.N], .int .i64 n, .slice a2 m2 c2] w4 (LaidPost n w4) := by
    have h := laid_any R n HS.out li (by have := HM2.out; omega) a2 c2 w4 (H2.out.kept K4.out) HR.out
    rw [← HM2.out] at h
    exact h
  refine hlaid.mono ?_
  rintro e w5 ⟨M, B, M2, B2, s0, rfl, hd5, hs5, k5, lM, lB, lM2, lB2⟩
  have D5 := Lib.hid hd5
  have K5 := Lib.hid (K4.out.trans k5)
  have hc6 := hd5.r.c6
  have u0 := k5.some t0
  have u1 := k5.some t1
  have u2 := k5.some t2
  have u3 := k5.some t3
  have z4 : w.heap.size < w4.heap.size := lt_of_cell t0
  clear hlaid hd5 k5 t0 t1 t2 t3
  have eqn : ∀ W, (binOp .eql 34 (.pointer (some ⟨M, 0, none⟩)) (.pointer none)).run Tryz.prog W = .ok (.bool false) W := fun W => by kernel_rfl
  obtain ⟨Z, hZ, hmk⟩ := make_boths
  have HZ := Lib.hid hZ
  clear hZ
  obtain ⟨C, hC⟩ : ∃ C, C = w5.heap.size := ⟨_, rfl⟩
  have hmk6 := hmk w5
  rw [← hC] at hmk6
  obtain ⟨W8, hW8⟩ : ∃ W, W = w5.alloc (.cells Z 128) := ⟨_, rfl⟩
  rw [← hW8] at hmk6
  have K8 : Hid (Kept w5 W8) := Lib.hid (by rw [hW8]; exact (Kept.refl _).alloc _ _)
  have CO : Hid (Cores W8 C (fun _ => .idle)) := Lib.hid (by
    rw [hW8]
    refine ⟨fun c hc j v hv => ?_, fun i => ?_, by simp; omega⟩
    · have hj : j < 6 := (List.getElem?_eq_some_iff.1 hv).1
      have e1 : (PS.idle).cells[j]? = some (.pointer none) := by
        have : j = 0 ∨ j = 1 ∨ j = 2 ∨ j = 3 ∨ j = 4 ∨ j = 5 := by omega
        rcases this with rfl | rfl | rfl | rfl | rfl | rfl <;> rfl
      rw [e1] at hv
      rw [cell_new _ _ _ _ _ hC, HZ.out _ (by omega)]
      exact hv
    · rw [frozen?_alloc_cells]; exact frozen_out _ _ _ (by omega))
  have SI0 : Hid (StI w R M B M2 B2 C n (firstOwn M B M2 B2) (fun _ => .idle) s0 0 W8) := Lib.hid (by
    have kk := K8.out
    have l1 := pmem_lt D5.out.p
    have l2 := ref_lt D5.out.r D5.out.n1
    refine ⟨D5.out.kept kk, CO.out, fun _ _ => trivial, fun j hj => ?_, ?_, by omega, by have := lt_of_cell u0; omega, K5.out.trans kk, kk.some u0, kk.some u1, kk.some u2, kk.some u3⟩
    · unfold firstOwn; rw [if_neg (by omega), if_neg (by omega)]
    · unfold firstOwn; rw [if_neg (by omega), if_neg (by omega)])
  clear hmk hW8 u0 u1 u2 u3 hC hc6
  go_wp2_with fail
  have hAS := access_same
  have N1 := HS.out.N1
  have N2 := HS.out.N2
  go_loopw [12] (fun i wr => StRel w R M B M2 B2 C n m3 i wr) (fun i _ => m3 - (intOf i).toNat)
  case atStart => exact ⟨0, _, _, s0, Nat.zero_le _, rfl, SI0.out⟩
  case round =>
    obtain ⟨k, own, st, s, hk, rfl, hI⟩ := hrel
    have HI := Lib.hid hI
    clear hI hmk6
    by_cases hlt : k < m3
    · obtain ⟨g, o, cc, e', _, _, hcell⟩ := H3.out.at (by have := HM3.out; omega)
      cases e'
      obtain ⟨co, wh, d, ap, hap, b0, b1, b2, b3⟩ := act_cells hcell HAB.out k (by have := HM3.out; omega)
      have HAP := Lib.hid hap
      have e0 := HI.out.kept.some b0
      have e1 := HI.out.kept.some b1
      have e2 := HI.out.kept.some b2
      have e3 := HI.out.kept.some b3
      obtain ⟨c, hc4, hpk⟩ := pick4 co
      have hc4i : (c : Int) < 4 := by omega
      have act_lt : g < w.heap.size := lt_of_cell b0
      clear hcell hap b0 b1 b2 b3
      go_wp2_with fail
      refine (hpk _).out.mono ?_
      rintro e w' ⟨rfl, rfl⟩
      by_cases hw0 : wh = 0
      · subst hw0
        obtain ⟨wA, hwA⟩ : ∃ wA, wA = wr := ⟨_, rfl⟩
        subst hwA
        have SI := Lib.hid HI.out.cut
        have hld := ld_pair (SI.out.co.at_ c hc4)
        go_wp2_with fail
        refine (told_any (cut own wA.heap.size) c R M B M2 B2 n s (st c) true _ (SI.out.is c hc4) SI.out.d HS.out (by have := SI.out.cnt; omega)).mono ?_
        rintro e w17 ⟨rfl, p', s', hpc, hss, hpi, hd17, hs17, hb17⟩
        have S17 := Lib.hid (SI.out.told hc4 hpc hpi hd17 hs17 hb17)
        have z17 := Lib.hid hb17.size
        clear hpc hss hpi hd17 hs17 hb17 hld
        have z0 := S17.out.t0
        have z1 := S17.out.t1
        have z2 := S17.out.t2
        have z3 := S17.out.t3
        obtain ⟨L, hL⟩ : ∃ L, L = allL n s'.ws R := ⟨_, rfl⟩
        have hLn : L.length ≤ 4096 := by rw [hL]; have := allL_le n s'.ws R; omega
        have PA : Hid (Calls Tryz.prog 50 #[ringV R, .pointer (some ⟨M, 0, none⟩)] w17 (RetI w17 L)) := Lib.hid (by rw [hL]; exact all_any R _ n s'.ws (wf_ws S17.out.d.wd) (by omega) _ (gives_words S17.out.d.p) N1 N2)
        have RA : ∀ W, Kept w17 W → Hid (Calls Tryz.prog 52 #[ringV R, .pointer (some ⟨M2, 0, none⟩)] W (RetI W L)) := fun W k => Lib.hid (by rw [hL]; exact rall_any R (S17.out.keep k).d.r S17.out.d.wd S17.out.d.n1 HS.out)
        clear hL
        go_wp2_with fail
        refine PA.out.mono ?_
        rintro e w18 ⟨a18, c18, rfl, k18, own18⟩
        have S18 := Lib.hid (S17.out.keep k18)
        have O18 := Lib.hid own18
        have K18 := Lib.hid k18
        clear k18 own18 PA z0 z1 z2 z3
        have z0 := S18.out.t0
        have z1 := S18.out.t1
        have z2 := S18.out.t2
        have z3 := S18.out.t3
        go_wp2_with fail
        refine (RA _ K18.out).out.mono ?_
        rintro e w19 ⟨a19, c19, rfl, k19, own19⟩
        have S19 := Lib.hid (S18.out.keep k19)
        have O19 := Lib.hid own19
        have O18 := Lib.hid (own_keep O18.out k19)
        clear k19 own19 RA K18 z0 z1 z2 z3
        go_wp2_with fail
        refine (sameInts_yes a18 a19 _ c18 c19 (fun i => L.getD i 0) _ (by omega) (reads_own O18.out) (reads_own O19.out)).mono ?_
        rintro e w20 ⟨rfl, k20⟩
        have S20 := Lib.hid (S19.out.keep k20)
        have O18 := Lib.hid (own_keep O18.out k20)
        clear k20 O19
        go_wp2_with fail
        refine (p_words M B n s' _ S20.out.d.p).mono ?_
        rintro e w21 ⟨bw, cw, rfl, hb1, hb2, hw, hf, k21⟩
        have S21 := Lib.hid (S20.out.keep k21)
        have O18 := Lib.hid (own_keep O18.out k21)
        have HWD := Lib.hid hw
        clear k21 hw hb1 hb2 hf
        go_wp2_with fail
        refine (r_words M2 B2 n s' _ S21.out.d.r S21.out.d.n1 S21.out.d.n2).mono ?_
        rintro e w22 ⟨gr, og, cr, rfl, hr, k22⟩
        have S22 := Lib.hid (S21.out.keep k22)
        have O18 := Lib.hid (own_keep O18.out k22)
        have HWD := Lib.hid (fun i hi => k22.some (HWD.out i hi))
        have HRD := Lib.hid hr
        clear k22 hr
        go_wp2_with fail
        refine (sameWords (f := s'.ws) S22.out.d.n2 (fun i hi => by rw [Nat.zero_add]; exact HWD.out i hi) HRD.out).mono ?_
        rintro e w23 ⟨rfl, k23⟩
        have S23 := Lib.hid (S22.out.keep k23)
        have O18 := Lib.hid (own_keep O18.out k23)
        clear k23 HWD HRD
        go_wp2_with fail
        refine (p_last M B n s' _ S23.out.d.p).mono ?_
        rintro e w24 ⟨rfl, k24⟩
        have S24 := Lib.hid (S23.out.keep k24)
        have O18 := Lib.hid (own_keep O18.out k24)
        clear k24
        go_wp2_with fail
        refine (r_last M2 B2 n s' _ S24.out.d.r).mono ?_
        rintro e w25 ⟨rfl, k25⟩
        have S25 := Lib.hid (S24.out.keep k25)
        have O18 := Lib.hid (own_keep O18.out k25)
        clear k25
        go_wp2_with fail
        refine (count_w S25.out.d.p).mono ?_
        rintro e w26 ⟨rfl, k26⟩
        have S26 := Lib.hid (S25.out.keep k26)
        have O18 := Lib.hid (own_keep O18.out k26)
        clear k26
        go_wp2_with fail
        refine (r_count M2 B2 n s' _ S26.out.d.r).mono ?_
        rintro e w27 ⟨rfl, k27⟩
        have S27 := Lib.hid (S26.out.keep k27)
        have O18 := Lib.hid (own_keep O18.out k27)
        clear k27
        go_wp2_with fail
        refine (overInts_own O18.out hLn).mono ?_
        rintro e w28 ⟨rfl, b28⟩
        have S28 := Lib.hid (S27.out.free (b28.mono (fun j _ (e : w17.heap.size ≤ j) => show wA.heap.size ≤ j by have := z17.out; omega)) (fun j hj => cut_new hj) SI.out.co.lt (lt_of_cell SI.out.t0))
        clear b28
        go_wp2
        go_roundw
        case rel => exact ⟨k + 1, cut own wA.heap.size, put st c p', s', by omega, by go_num, S28.out⟩
        case measure => simp [intOf]; omega
      · have hb0 : (wh == 0) = false := by simp [hw0]
        by_cases hw1 : 1 ≤ wh
        · by_cases hw3 : wh ≤ 3
          · clear hw0
            have z0 := HI.out.t0
            have z1 := HI.out.t1
            have z2 := HI.out.t2
            have z3 := HI.out.t3
            have hgC : g ≠ C := by
              intro e
              have h1 := lt_of_cell e0
              subst e
              have h2 := HI.out.neC
              omega
            go_upto_region 15 with fail
            go_region_held3 (fun w' => w'.cell? ⟨w.heap.size, 0, none⟩ = some (.int .i64 R.H) ∧ w'.cell? ⟨w.heap.size, 1, none⟩ = some (.int .i64 R.T) ∧ w'.cell? ⟨w.heap.size, 2, none⟩ = some (.int .i64 R.K) ∧ w'.cell? ⟨w.heap.size, 3, none⟩ = some (.int .i64 R.N) ∧ w'.cell? ⟨g, o + k * 4, none⟩ = some (.int .i64 co) ∧ w'.cell? ⟨g, o + k * 4 + 1, none⟩ = some (.int .i64 wh) ∧ w'.cell? ⟨g, o + k * 4 + 2, none⟩ = some (.int .i64 d) ∧ w'.cell? ⟨g, o + k * 4 + 3, none⟩ = some (.int .u64 ap)) (first | go_keep | (exact ⟨x0, x1, x2, x3, x4, x5, x6, x7⟩) | (exact ⟨y0, y1, y2, y3, y4, y5, y6, y7⟩)) (first
              | (go_at_call 48; refine (begin_any own c R N1 N2 co wh d ap HAP.out.1 HAP.out.2 hw1 hw3 _).mono ?_; rintro e u ⟨p, own', rfl, ho', hp', ku⟩; have KU : Kept wr u := Kept.trans (b := _) (by first | exact Kept.refl _ | exact (Kept.refl _).drew | exact (Kept.refl _).drewN _) ku; have hst := st_pair (p := p) ((HI.out.co.kept KU).there c hc4); have SB := HI.out.begun KU hc4 hp' (fun j hj => ho' j hj); have bC : But (fun j => j = C) u (u.setCells C (c * 6) p.cells) := but_setCells (S := fun j => j = C) rfl _ _ _ (But.refl _ _); obtain ⟨wA, hwA⟩ : ∃ wA, wA = u.setCells C (c * 6) p.cells := ⟨_, rfl⟩; rw [← hwA] at hst SB bC; have x0 := KU.some z0; have x1 := KU.some z1; have x2 := KU.some z2; have x3 := KU.some z3; have x4 := KU.some e0; have x5 := KU.some e1; have x6 := KU.some e2; have x7 := KU.some e3; have y0 := SB.t0; have y1 := SB.t1; have y2 := SB.t2; have y3 := SB.t3; have y4 := bC.some x4 hgC; have y5 := bC.some x5 hgC; have y6 := bC.some x6 hgC; have y7 := bC.some x7 hgC; have SI := Lib.hid SB.cut; clear hwA SB))
            clear x0 x1 x2 x3 x4 x5 x6 x7 y0 y1 y2 y3 y4 y5 y6 y7 z0 z1 z2 z3 hst bC KU ku hp' ho'
            rename_i hcells
            clear hcells
            have hld := ld_pair (SI.out.co.at_ c hc4)
            go_wp2_with fail
            refine (told_any (cut own' wA.heap.size) c R M B M2 B2 n s ((put st c p) c) false _ (SI.out.is c hc4) SI.out.d HS.out (by have := SI.out.cnt; omega)).mono ?_
            rintro e w17 ⟨rfl, p', s', hpc, hss, hpi, hd17, hs17, hb17⟩
            have S17 := Lib.hid (SI.out.told hc4 hpc hpi hd17 hs17 hb17)
            have z17 := Lib.hid hb17.size
            clear hpc hss hpi hd17 hs17 hb17 hld
            have z0 := S17.out.t0
            have z1 := S17.out.t1
            have z2 := S17.out.t2
            have z3 := S17.out.t3
            obtain ⟨L, hL⟩ : ∃ L, L = allL n s'.ws R := ⟨_, rfl⟩
            have hLn : L.length ≤ 4096 := by rw [hL]; have := allL_le n s'.ws R; omega
            have PA : Hid (Calls Tryz.prog 50 #[ringV R, .pointer (some ⟨M, 0, none⟩)] w17 (RetI w17 L)) := Lib.hid (by rw [hL]; exact all_any R _ n s'.ws (wf_ws S17.out.d.wd) (by omega) _ (gives_words S17.out.d.p) N1 N2)
            have RA : ∀ W, Kept w17 W → Hid (Calls Tryz.prog 52 #[ringV R, .pointer (some ⟨M2, 0, none⟩)] W (RetI W L)) := fun W k => Lib.hid (by rw [hL]; exact rall_any R (S17.out.keep k).d.r S17.out.d.wd S17.out.d.n1 HS.out)
            clear hL
            go_wp2_with fail
            refine PA.out.mono ?_
            rintro e w18 ⟨a18, c18, rfl, k18, own18⟩
            have S18 := Lib.hid (S17.out.keep k18)
            have O18 := Lib.hid own18
            have K18 := Lib.hid k18
            clear k18 own18 PA z0 z1 z2 z3
            have z0 := S18.out.t0
            have z1 := S18.out.t1
            have z2 := S18.out.t2
            have z3 := S18.out.t3
            go_wp2_with fail
            refine (RA _ K18.out).out.mono ?_
            rintro e w19 ⟨a19, c19, rfl, k19, own19⟩
            have S19 := Lib.hid (S18.out.keep k19)
            have O19 := Lib.hid own19
            have O18 := Lib.hid (own_keep O18.out k19)
            clear k19 own19 RA K18 z0 z1 z2 z3
            go_wp2_with fail
            refine (sameInts_yes a18 a19 _ c18 c19 (fun i => L.getD i 0) _ (by omega) (reads_own O18.out) (reads_own O19.out)).mono ?_
            rintro e w20 ⟨rfl, k20⟩
            have S20 := Lib.hid (S19.out.keep k20)
            have O18 := Lib.hid (own_keep O18.out k20)
            clear k20 O19
            go_wp2_with fail
            refine (p_words M B n s' _ S20.out.d.p).mono ?_
            rintro e w21 ⟨bw, cw, rfl, hb1, hb2, hw, hf, k21⟩
            have S21 := Lib.hid (S20.out.keep k21)
            have O18 := Lib.hid (own_keep O18.out k21)
            have HWD := Lib.hid hw
            clear k21 hw hb1 hb2 hf
            go_wp2_with fail
            refine (r_words M2 B2 n s' _ S21.out.d.r S21.out.d.n1 S21.out.d.n2).mono ?_
            rintro e w22 ⟨gr, og, cr, rfl, hr, k22⟩
            have S22 := Lib.hid (S21.out.keep k22)
            have O18 := Lib.hid (own_keep O18.out k22)
            have HWD := Lib.hid (fun i hi => k22.some (HWD.out i hi))
            have HRD := Lib.hid hr
            clear k22 hr
            go_wp2_with fail
            refine (sameWords (f := s'.ws) S22.out.d.n2 (fun i hi => by rw [Nat.zero_add]; exact HWD.out i hi) HRD.out).mono ?_
            rintro e w23 ⟨rfl, k23⟩
            have S23 := Lib.hid (S22.out.keep k23)
            have O18 := Lib.hid (own_keep O18.out k23)
            clear k23 HWD HRD
            go_wp2_with fail
            refine (p_last M B n s' _ S23.out.d.p).mono ?_
            rintro e w24 ⟨rfl, k24⟩
            have S24 := Lib.hid (S23.out.keep k24)
            have O18 := Lib.hid (own_keep O18.out k24)
            clear k24
            go_wp2_with fail
            refine (r_last M2 B2 n s' _ S24.out.d.r).mono ?_
            rintro e w25 ⟨rfl, k25⟩
            have S25 := Lib.hid (S24.out.keep k25)
            have O18 := Lib.hid (own_keep O18.out k25)
            clear k25
            go_wp2_with fail
            refine (count_w S25.out.d.p).mono ?_
            rintro e w26 ⟨rfl, k26⟩
            have S26 := Lib.hid (S25.out.keep k26)
            have O18 := Lib.hid (own_keep O18.out k26)
            clear k26
            go_wp2_with fail
            refine (r_count M2 B2 n s' _ S26.out.d.r).mono ?_
            rintro e w27 ⟨rfl, k27⟩
            have S27 := Lib.hid (S26.out.keep k27)
            have O18 := Lib.hid (own_keep O18.out k27)
            clear k27
            go_wp2_with fail
            refine (overInts_own O18.out hLn).mono ?_
            rintro e w28 ⟨rfl, b28⟩
            have S28 := Lib.hid (S27.out.free (b28.mono (fun j _ (e : w17.heap.size ≤ j) => show wA.heap.size ≤ j by have := z17.out; omega)) (fun j hj => cut_new hj) SI.out.co.lt (lt_of_cell SI.out.t0))
            clear b28
            go_wp2
            go_roundw
            case rel => exact ⟨k + 1, cut own' wA.heap.size, put (put st c p) c p', s', by omega, by go_num, S28.out⟩
            case measure => simp [intOf]; omega
          · have hw3' : 3 < wh := by omega
            clear hw0 hw3
            obtain ⟨wA, hwA⟩ : ∃ wA, wA = wr := ⟨_, rfl⟩
            subst hwA
            have SI := Lib.hid HI.out.cut
            have hld := ld_pair (SI.out.co.at_ c hc4)
            go_wp2_with fail
            refine (told_any (cut own wA.heap.size) c R M B M2 B2 n s (st c) false _ (SI.out.is c hc4) SI.out.d HS.out (by have := SI.out.cnt; omega)).mono ?_
            rintro e w17 ⟨rfl, p', s', hpc, hss, hpi, hd17, hs17, hb17⟩
            have S17 := Lib.hid (SI.out.told hc4 hpc hpi hd17 hs17 hb17)
            have z17 := Lib.hid hb17.size
            clear hpc hss hpi hd17 hs17 hb17 hld
            have z0 := S17.out.t0
            have z1 := S17.out.t1
            have z2 := S17.out.t2
            have z3 := S17.out.t3
            obtain ⟨L, hL⟩ : ∃ L, L = allL n s'.ws R := ⟨_, rfl⟩
            have hLn : L.length ≤ 4096 := by rw [hL]; have := allL_le n s'.ws R; omega
            have PA : Hid (Calls Tryz.prog 50 #[ringV R, .pointer (some ⟨M, 0, none⟩)] w17 (RetI w17 L)) := Lib.hid (by rw [hL]; exact all_any R _ n s'.ws (wf_ws S17.out.d.wd) (by omega) _ (gives_words S17.out.d.p) N1 N2)
            have RA : ∀ W, Kept w17 W → Hid (Calls Tryz.prog 52 #[ringV R, .pointer (some ⟨M2, 0, none⟩)] W (RetI W L)) := fun W k => Lib.hid (by rw [hL]; exact rall_any R (S17.out.keep k).d.r S17.out.d.wd S17.out.d.n1 HS.out)
            clear hL
            go_wp2_with fail
            refine PA.out.mono ?_
            rintro e w18 ⟨a18, c18, rfl, k18, own18⟩
            have S18 := Lib.hid (S17.out.keep k18)
            have O18 := Lib.hid own18
            have K18 := Lib.hid k18
            clear k18 own18 PA z0 z1 z2 z3
            have z0 := S18.out.t0
            have z1 := S18.out.t1
            have z2 := S18.out.t2
            have z3 := S18.out.t3
            go_wp2_with fail
            refine (RA _ K18.out).out.mono ?_
            rintro e w19 ⟨a19, c19, rfl, k19, own19⟩
            have S19 := Lib.hid (S18.out.keep k19)
            have O19 := Lib.hid own19
            have O18 := Lib.hid (own_keep O18.out k19)
            clear k19 own19 RA K18 z0 z1 z2 z3
            go_wp2_with fail
            refine (sameInts_yes a18 a19 _ c18 c19 (fun i => L.getD i 0) _ (by omega) (reads_own O18.out) (reads_own O19.out)).mono ?_
            rintro e w20 ⟨rfl, k20⟩
            have S20 := Lib.hid (S19.out.keep k20)
            have O18 := Lib.hid (own_keep O18.out k20)
            clear k20 O19
            go_wp2_with fail
            refine (p_words M B n s' _ S20.out.d.p).mono ?_
            rintro e w21 ⟨bw, cw, rfl, hb1, hb2, hw, hf, k21⟩
            have S21 := Lib.hid (S20.out.keep k21)
            have O18 := Lib.hid (own_keep O18.out k21)
            have HWD := Lib.hid hw
            clear k21 hw hb1 hb2 hf
            go_wp2_with fail
            refine (r_words M2 B2 n s' _ S21.out.d.r S21.out.d.n1 S21.out.d.n2).mono ?_
            rintro e w22 ⟨gr, og, cr, rfl, hr, k22⟩
            have S22 := Lib.hid (S21.out.keep k22)
            have O18 := Lib.hid (own_keep O18.out k22)
            have HWD := Lib.hid (fun i hi => k22.some (HWD.out i hi))
            have HRD := Lib.hid hr
            clear k22 hr
            go_wp2_with fail
            refine (sameWords (f := s'.ws) S22.out.d.n2 (fun i hi => by rw [Nat.zero_add]; exact HWD.out i hi) HRD.out).mono ?_
            rintro e w23 ⟨rfl, k23⟩
            have S23 := Lib.hid (S22.out.keep k23)
            have O18 := Lib.hid (own_keep O18.out k23)
            clear k23 HWD HRD
            go_wp2_with fail
            refine (p_last M B n s' _ S23.out.d.p).mono ?_
            rintro e w24 ⟨rfl, k24⟩
            have S24 := Lib.hid (S23.out.keep k24)
            have O18 := Lib.hid (own_keep O18.out k24)
            clear k24
            go_wp2_with fail
            refine (r_last M2 B2 n s' _ S24.out.d.r).mono ?_
            rintro e w25 ⟨rfl, k25⟩
            have S25 := Lib.hid (S24.out.keep k25)
            have O18 := Lib.hid (own_keep O18.out k25)
            clear k25
            go_wp2_with fail
            refine (count_w S25.out.d.p).mono ?_
            rintro e w26 ⟨rfl, k26⟩
            have S26 := Lib.hid (S25.out.keep k26)
            have O18 := Lib.hid (own_keep O18.out k26)
            clear k26
            go_wp2_with fail
            refine (r_count M2 B2 n s' _ S26.out.d.r).mono ?_
            rintro e w27 ⟨rfl, k27⟩
            have S27 := Lib.hid (S26.out.keep k27)
            have O18 := Lib.hid (own_keep O18.out k27)
            clear k27
            go_wp2_with fail
            refine (overInts_own O18.out hLn).mono ?_
            rintro e w28 ⟨rfl, b28⟩
            have S28 := Lib.hid (S27.out.free (b28.mono (fun j _ (e : w17.heap.size ≤ j) => show wA.heap.size ≤ j by have := z17.out; omega)) (fun j hj => cut_new hj) SI.out.co.lt (lt_of_cell SI.out.t0))
            clear b28
            go_wp2
            go_roundw
            case rel => exact ⟨k + 1, cut own wA.heap.size, put st c p', s', by omega, by go_num, S28.out⟩
            case measure => simp [intOf]; omega
        · have hw1' : wh < 1 := by omega
          clear hw0 hw1
          obtain ⟨wA, hwA⟩ : ∃ wA, wA = wr := ⟨_, rfl⟩
          subst hwA
          have SI := Lib.hid HI.out.cut
          have hld := ld_pair (SI.out.co.at_ c hc4)
          go_wp2_with fail
          refine (told_any (cut own wA.heap.size) c R M B M2 B2 n s (st c) false _ (SI.out.is c hc4) SI.out.d HS.out (by have := SI.out.cnt; omega)).mono ?_
          rintro e w17 ⟨rfl, p', s', hpc, hss, hpi, hd17, hs17, hb17⟩
          have S17 := Lib.hid (SI.out.told hc4 hpc hpi hd17 hs17 hb17)
          have z17 := Lib.hid hb17.size
          clear hpc hss hpi hd17 hs17 hb17 hld
          have z0 := S17.out.t0
          have z1 := S17.out.t1
          have z2 := S17.out.t2
          have z3 := S17.out.t3
          obtain ⟨L, hL⟩ : ∃ L, L = allL n s'.ws R := ⟨_, rfl⟩
          have hLn : L.length ≤ 4096 := by rw [hL]; have := allL_le n s'.ws R; omega
          have PA : Hid (Calls Tryz.prog 50 #[ringV R, .pointer (some ⟨M, 0, none⟩)] w17 (RetI w17 L)) := Lib.hid (by rw [hL]; exact all_any R _ n s'.ws (wf_ws S17.out.d.wd) (by omega) _ (gives_words S17.out.d.p) N1 N2)
          have RA : ∀ W, Kept w17 W → Hid (Calls Tryz.prog 52 #[ringV R, .pointer (some ⟨M2, 0, none⟩)] W (RetI W L)) := fun W k => Lib.hid (by rw [hL]; exact rall_any R (S17.out.keep k).d.r S17.out.d.wd S17.out.d.n1 HS.out)
          clear hL
          go_wp2_with fail
          refine PA.out.mono ?_
          rintro e w18 ⟨a18, c18, rfl, k18, own18⟩
          have S18 := Lib.hid (S17.out.keep k18)
          have O18 := Lib.hid own18
          have K18 := Lib.hid k18
          clear k18 own18 PA z0 z1 z2 z3
          have z0 := S18.out.t0
          have z1 := S18.out.t1
          have z2 := S18.out.t2
          have z3 := S18.out.t3
          go_wp2_with fail
          refine (RA _ K18.out).out.mono ?_
          rintro e w19 ⟨a19, c19, rfl, k19, own19⟩
          have S19 := Lib.hid (S18.out.keep k19)
          have O19 := Lib.hid own19
          have O18 := Lib.hid (own_keep O18.out k19)
          clear k19 own19 RA K18 z0 z1 z2 z3
          go_wp2_with fail
          refine (sameInts_yes a18 a19 _ c18 c19 (fun i => L.getD i 0) _ (by omega) (reads_own O18.out) (reads_own O19.out)).mono ?_
          rintro e w20 ⟨rfl, k20⟩
          have S20 := Lib.hid (S19.out.keep k20)
          have O18 := Lib.hid (own_keep O18.out k20)
          clear k20 O19
          go_wp2_with fail
          refine (p_words M B n s' _ S20.out.d.p).mono ?_
          rintro e w21 ⟨bw, cw, rfl, hb1, hb2, hw, hf, k21⟩
          have S21 := Lib.hid (S20.out.keep k21)
          have O18 := Lib.hid (own_keep O18.out k21)
          have HWD := Lib.hid hw
          clear k21 hw hb1 hb2 hf
          go_wp2_with fail
          refine (r_words M2 B2 n s' _ S21.out.d.r S21.out.d.n1 S21.out.d.n2).mono ?_
          rintro e w22 ⟨gr, og, cr, rfl, hr, k22⟩
          have S22 := Lib.hid (S21.out.keep k22)
          have O18 := Lib.hid (own_keep O18.out k22)
          have HWD := Lib.hid (fun i hi => k22.some (HWD.out i hi))
          have HRD := Lib.hid hr
          clear k22 hr
          go_wp2_with fail
          refine (sameWords (f := s'.ws) S22.out.d.n2 (fun i hi => by rw [Nat.zero_add]; exact HWD.out i hi) HRD.out).mono ?_
          rintro e w23 ⟨rfl, k23⟩
          have S23 := Lib.hid (S22.out.keep k23)
          have O18 := Lib.hid (own_keep O18.out k23)
          clear k23 HWD HRD
          go_wp2_with fail
          refine (p_last M B n s' _ S23.out.d.p).mono ?_
          rintro e w24 ⟨rfl, k24⟩
          have S24 := Lib.hid (S23.out.keep k24)
          have O18 := Lib.hid (own_keep O18.out k24)
          clear k24
          go_wp2_with fail
          refine (r_last M2 B2 n s' _ S24.out.d.r).mono ?_
          rintro e w25 ⟨rfl, k25⟩
          have S25 := Lib.hid (S24.out.keep k25)
          have O18 := Lib.hid (own_keep O18.out k25)
          clear k25
          go_wp2_with fail
          refine (count_w S25.out.d.p).mono ?_
          rintro e w26 ⟨rfl, k26⟩
          have S26 := Lib.hid (S25.out.keep k26)
          have O18 := Lib.hid (own_keep O18.out k26)
          clear k26
          go_wp2_with fail
          refine (r_count M2 B2 n s' _ S26.out.d.r).mono ?_
          rintro e w27 ⟨rfl, k27⟩
          have S27 := Lib.hid (S26.out.keep k27)
          have O18 := Lib.hid (own_keep O18.out k27)
          clear k27
          go_wp2_with fail
          refine (overInts_own O18.out hLn).mono ?_
          rintro e w28 ⟨rfl, b28⟩
          have S28 := Lib.hid (S27.out.free (b28.mono (fun j _ (e : w17.heap.size ≤ j) => show wA.heap.size ≤ j by have := z17.out; omega)) (fun j hj => cut_new hj) SI.out.co.lt (lt_of_cell SI.out.t0))
          clear b28
          go_wp2
          go_roundw
          case rel => exact ⟨k + 1, cut own wA.heap.size, put st c p', s', by omega, by go_num, S28.out⟩
          case measure => simp [intOf]; omega
    · have hge : m3 ≤ k := by omega
      go_wp2_with fail
      refine (awake_any _).mono ?_
      rintro e w40 ⟨rfl, k40⟩
      go_wp2
      go_ret
      exact ⟨rfl, HI.out.kept.trans k40⟩
end Go.Proofs.YtlfdiffbepfgbaaGreat.Ri
