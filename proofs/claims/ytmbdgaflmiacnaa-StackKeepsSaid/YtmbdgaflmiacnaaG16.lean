/- A core's step: an All's. Written by gen10g.py, out of StGoP. -/
import Derived.Test.YtmbdgaflmiacnaaG15
import Derived.Test.YtmbdgaflmiacnaaG13
import Derived.WalkLawsBesides
set_option linter.unusedVariables false
set_option linter.unusedSimpArgs false

namespace Go.Proofs.Ytmbdgaflmiacnaa.Sk
set_option maxRecDepth 20000
open Go.RowKit
open Wo (St acc wordAt PMem RefIs)

set_option maxHeartbeats 4000000 in
theorem steps_all_on {own : Nat → Nat} {c : Nat} {w : World} {R M B n : Nat} {S : Stk} {s : St} {t : Int} {ch : List Int} {A D : List Cr} {x : Op} {has : List Int} {lays : Int} {P : Nat} {a : Option Addr} {cap : Nat} (h : Stand own c w R M B n S s t ch A D ⟨.all x, has, lays⟩ P a cap) (h9 : (allOp n S s x).line ≠ 9) :
    Calls Try.prog 30 #[.pointer (some ⟨R, 5 * c, none⟩), .agg #[.int .i64 S.T, .int .i64 S.K, .int .i64 S.N], .pointer (some ⟨M, 0, none⟩)] w (GoesOn own c w R M B n S (allSt n S s x) ⟨.all (allOp n S s x), has, lays⟩ P a cap) := by
  obtain ⟨⟨hg, hl, hx9, h3, htk, _⟩, _⟩ : (Cr.Ok S s.ws t ⟨.all x, has, lays⟩) ∧ True := ⟨(mid h.inv.core).1, trivial⟩
  have CO := Lib.hid h.core
  have HM := Lib.hid h.mem
  have HI := Lib.hid h.inv
  have hS := h.ok
  have hc0 := h.c0
  have hc1 := h.c1
  have oP := (h.core.oP rfl).1
  have hlP := (h.core.oP rfl).2
  have hPM : P ≠ M := fun e => by have := h.oM; subst e; omega
  have hPB : P ≠ B := fun e => by have := h.oB; subst e; omega
  have hRP : ¬ (R = P ∨ R = B) := by
    rintro (e | e)
    · have := h.oR; have := h.cl; subst e; omega
    · have := h.oR; have := h.oB; subst e; omega
  obtain ⟨c0, c1, c2, c3, c4⟩ := h.core.five
  have hop : AllAt w P 0 S x := h.core.op
  have hb : ((allOp n S s x).line == 9) = false := by simpa using h9
  have ST : ∀ W, Hid (AllAt W P 0 S x → PMem W M B n s → Calls Try.prog 13 #[.pointer (some ⟨P, 0, none⟩), .pointer (some ⟨M, 0, none⟩)] W (Stepped (fun w' => AllAt w' P 0 S (allOp n S s x)) M B n (allSt n S s x) P 0 false W)) := fun W => Lib.hid (fun ho hm => by
    have k := all_step P 0 M B n S s x W ho hm hc0 hc1 hPM hPB hg hl h3 htk hS HI.out.wd
    rw [hb] at k
    exact k)
  have OP := Lib.hid hop
  have H := Lib.hid h
  clear h hop hb hg hl h3 htk h9 hx9 hc0 hc1
  dsimp only [Kd.p0, Kd.p1, Kd.p2] at c0 c1 c2 c3 c4
  go_enter Try.func30, Try.ntmps30
  go_wp2_with fail
  refine (p_chain S (pmem_kept HM.out ((Kept.refl _).alloc _ _)) HI.out.wd hS).mono ?_
  rintro e w2 ⟨a2, c2', rfl, k2, h2⟩
  have d0 := k2.some (pastc c0 _ _)
  have d1 := k2.some (pastc c1 _ _)
  have d2 := k2.some (pastc c2 _ _)
  have K2 := Lib.hid (Kept.trans ((Kept.refl w).alloc _ _) k2)
  clear k2 h2 c0 c1 c2 c3 c4
  go_wp2_with fail
  refine ((ST _).out (OpAt.kept OP.out K2.out) (pmem_kept HM.out K2.out)).mono ?_
  rintro e w3 ⟨rfl, o3, m3, g3⟩
  have b3 := g3.but
  have O3 := Lib.hid o3
  have M3 := Lib.hid m3
  have B3 := Lib.hid ((K2.out.but _).trans b3 (fun _ _ h => h))
  clear o3 m3 g3 b3 d0 d1 d2
  go_wp2
  go_ret
  refine ⟨rfl, ?_, M3.out, B3.out⟩
  have hh := H.out
  have fr := hh.core.five.frame B3.out hRP
  refine ⟨fr, O3.out, fun _ => ⟨(ownN_old hlP).trans oP, Nat.lt_of_lt_of_le hlP B3.out.size⟩, own_same hh.core.row (fun g hg => B3.out.block g (own_lt hh.core.row g hg) ?_), fun g hg => (ownN_old (own_lt hh.core.row g hg)).trans (hh.core.oR g hg)⟩
  rintro (e | e)
  · have := hh.core.oR g hg; subst e; have := hh.cl; omega
  · have := hh.core.oR g hg; have := hh.oB; subst e; omega
set_option maxHeartbeats 4000000 in
theorem steps_all_none {own : Nat → Nat} {c : Nat} {w : World} {R M B n : Nat} {S : Stk} {s : St} {t : Int} {ch : List Int} {A D : List Cr} {x : Op} {has : List Int} {lays : Int} {P : Nat} {a : Option Addr} {cap : Nat} (h : Stand own c w R M B n S s t ch A D ⟨.all x, has, lays⟩ P a cap) (h9 : (allOp n S s x).line = 9) (hi : idx S.N (allOp n S s x).W < 0) (hch : ch = []) :
    Calls Try.prog 30 #[.pointer (some ⟨R, 5 * c, none⟩), .agg #[.int .i64 S.T, .int .i64 S.K, .int .i64 S.N], .pointer (some ⟨M, 0, none⟩)] w (Ends own c w R M B n S (allSt n S s x) ⟨.idle, has, lays⟩ P a cap) := by
  obtain ⟨⟨hg, hl, hx9, h3, htk, _⟩, _⟩ : (Cr.Ok S s.ws t ⟨.all x, has, lays⟩) ∧ True := ⟨(mid h.inv.core).1, trivial⟩
  have CO := Lib.hid h.core
  have HM := Lib.hid h.mem
  have HI := Lib.hid h.inv
  have hS := h.ok
  have hc0 := h.c0
  have hc1 := h.c1
  have oP := (h.core.oP rfl).1
  have hlP := (h.core.oP rfl).2
  have hPM : P ≠ M := fun e => by have := h.oM; subst e; omega
  have hPB : P ≠ B := fun e => by have := h.oB; subst e; omega
  have hRP : ¬ (R = P ∨ R = B) := by
    rintro (e | e)
    · have := h.oR; have := h.cl; subst e; omega
    · have := h.oR; have := h.oB; subst e; omega
  obtain ⟨c0, c1, c2, c3, c4⟩ := h.core.five
  have hop : AllAt w P 0 S x := h.core.op
  have hb : ((allOp n S s x).line == 9) = true := by simpa using h9
  have ST : ∀ W, Hid (AllAt W P 0 S x → PMem W M B n s → Calls Try.prog 13 #[.pointer (some ⟨P, 0, none⟩), .pointer (some ⟨M, 0, none⟩)] W (Stepped (fun w' => AllAt w' P 0 S (allOp n S s x)) M B n (allSt n S s x) P 0 true W)) := fun W => Lib.hid (fun ho hm => by
    have k := all_step P 0 M B n S s x W ho hm hc0 hc1 hPM hPB hg hl h3 htk hS HI.out.wd
    rw [hb] at k
    exact k)
  have hx' : (allOp n S s x).Good := (allOp_good hg hl h3 htk HI.out.wd).1
  have TL : ∀ W, Hid (AllAt W P 0 S (allOp n S s x) → Calls Try.prog 10 #[.pointer (some ⟨P, 0, none⟩)] W fun e w' => e = .returned (.tuple #[.int .i64 0, .int .i64 15]) ∧ Kept W w') := fun W => Lib.hid (fun ho => by
    have k := all_told P 0 S (allOp n S s x) W ho hx'
    rw [show tookI S (allOp n S s x) = 0 from by unfold tookI; rw [if_neg (by omega)], show tookE S (allOp n S s x) = 15 from by unfold tookE; rw [if_pos h9, if_pos hi]] at k
    exact k)
  have hcn : chn n s.ws S = [] := (HI.out.chain hS).trans hch
  have OP := Lib.hid hop
  have H := Lib.hid h
  clear h hop hb hg hl h3 htk h9 hi hx' hx9 hc0 hc1
  dsimp only [Kd.p0, Kd.p1, Kd.p2] at c0 c1 c2 c3 c4
  go_enter Try.func30, Try.ntmps30
  go_wp2_with fail
  refine (p_chain S (pmem_kept HM.out ((Kept.refl _).alloc _ _)) HI.out.wd hS).mono ?_
  rw [hcn]
  rintro e w2 ⟨a2, c2', rfl, k2, h2⟩
  have d0 := k2.some (pastc c0 _ _)
  have d1 := k2.some (pastc c1 _ _)
  have d2 := k2.some (pastc c2 _ _)
  have K2 := Lib.hid (Kept.trans ((Kept.refl w).alloc _ _) k2)
  clear k2 h2 c0 c1 c2 c3 c4 hcn
  go_wp2_with fail
  refine ((ST _).out (OpAt.kept OP.out K2.out) (pmem_kept HM.out K2.out)).mono ?_
  rintro e w3 ⟨rfl, o3, m3, g3⟩
  have b3 := g3.but
  have d0 := b3.some d0 hRP
  have d1 := b3.some d1 hRP
  have d2 := b3.some d2 hRP
  have O3 := Lib.hid o3
  have M3 := Lib.hid m3
  have B3 := Lib.hid ((K2.out.but _).trans b3 (fun _ _ h => h))
  clear o3 m3 g3 b3
  go_wp2_with fail
  refine ((TL _).out O3.out).mono ?_
  rintro e w4 ⟨rfl, k4⟩
  have d0 := k4.some d0
  have d1 := k4.some d1
  have d2 := k4.some d2
  have B4 := Lib.hid (B3.out.then k4)
  have M4 := Lib.hid (pmem_kept M3.out k4)
  have df : ∀ i, w4.frozen? ⟨R, i, none⟩ = false := fun i => B4.out.soft (lt_of_cell H.out.core.five.c0) (H.out.f i)
  clear k4
  go_wp2
  go_ret
  have hh := H.out
  have hRM : ¬ (R = M ∨ R = B) := by
    rintro (e | e)
    · have := hh.oR; have := hh.oM; subst e; omega
    · have := hh.oR; have := hh.oB; subst e; omega
  refine ⟨rfl, ?_, pmem_frame M4.out (T := fun k => k = R) ((But.refl _ _).here _ _) (fun e => hRM (.inl e.symm)) (fun e => hRM (.inr e.symm)), (B4.out.mono (fun k _ h => by rcases h with h | h; exact .inl h; exact .inr (.inl h))).setCell (Or.inl (.inr (.inr rfl))) _, ((Rest.refl R c w).but B4.out hRP (lt_of_cell hh.core.five.c0)).set (by omega) (by omega) _⟩
  have f0 := hh.core.five.frame B4.out hRP
  have bt : But (fun k => k = P ∨ k = B ∨ k = R) w _ := (B4.out.mono (fun k _ h => by rcases h with h | h; exact .inl h; exact .inr (.inl h))).setCell (p := ⟨R, 5 * c + 2, none⟩) (Or.inl (.inr (.inr rfl))) (.pointer none)
  refine ⟨⟨?_, ?_, ?_, ?_, ?_⟩, trivial, fun h => absurd h (by simp [Kd.busy]), own_same hh.core.row (fun g hg => bt.block g (own_lt hh.core.row g hg) ?_), fun g hg => (ownN_old (own_lt hh.core.row g hg)).trans (hh.core.oR g hg)⟩
  · simp [cell_set, Kd.p0]; exact d0
  · simp [cell_set, Kd.p1]; exact d1
  · simp [cell_set, d2, Kd.p2]
  · simp [cell_set]; exact f0.c3
  · simp [cell_set]; exact f0.c4
  · rintro (e | e | e)
    · have := hh.core.oR g hg; subst e; have := hh.cl; omega
    · have := hh.core.oR g hg; have := hh.oB; subst e; omega
    · have := hh.core.oR g hg; have := hh.oR; subst e; omega
end Go.Proofs.Ytmbdgaflmiacnaa.Sk

namespace Go.Proofs.Ytmbdgaflmiacnaa.Sk
set_option maxRecDepth 20000
open Go.RowKit
open Wo (St acc wordAt PMem RefIs)

set_option maxHeartbeats 4000000 in
theorem steps_all_ok {own : Nat → Nat} {c : Nat} {w : World} {R M B n : Nat} {S : Stk} {s : St} {t : Int} {ch ch' : List Int} {A D : List Cr} {x : Op} {has : List Int} {lays : Int} {P : Nat} {a : Option Addr} {cap : Nat} (h : Stand own c w R M B n S s t ch A D ⟨.all x, has, lays⟩ P a cap) (h9 : (allOp n S s x).line = 9) (hi : 0 ≤ idx S.N (allOp n S s x).W) (hn : chn n (allSt n S s x).ws S = []) (hch : ch = idx S.N (allOp n S s x).W :: ch') :
    Calls Try.prog 30 #[.pointer (some ⟨R, 5 * c, none⟩), .agg #[.int .i64 S.T, .int .i64 S.K, .int .i64 S.N], .pointer (some ⟨M, 0, none⟩)] w (Takes own c w R M B n S (allSt n S s x) (has ++ ch) lays P) := by
  obtain ⟨⟨hg, hl, hx9, h3, htk, _⟩, _⟩ : (Cr.Ok S s.ws t ⟨.all x, has, lays⟩) ∧ True := ⟨(mid h.inv.core).1, trivial⟩
  have CO := Lib.hid h.core
  have HM := Lib.hid h.mem
  have HI := Lib.hid h.inv
  have hS := h.ok
  have hc0 := h.c0
  have hc1 := h.c1
  have oP := (h.core.oP rfl).1
  have hlP := (h.core.oP rfl).2
  have hPM : P ≠ M := fun e => by have := h.oM; subst e; omega
  have hPB : P ≠ B := fun e => by have := h.oB; subst e; omega
  have hRP : ¬ (R = P ∨ R = B) := by
    rintro (e | e)
    · have := h.oR; have := h.cl; subst e; omega
    · have := h.oR; have := h.oB; subst e; omega
  obtain ⟨c0, c1, c2, c3, c4⟩ := h.core.five
  have hop : AllAt w P 0 S x := h.core.op
  have hb : ((allOp n S s x).line == 9) = true := by simpa using h9
  have ST : ∀ W, Hid (AllAt W P 0 S x → PMem W M B n s → Calls Try.prog 13 #[.pointer (some ⟨P, 0, none⟩), .pointer (some ⟨M, 0, none⟩)] W (Stepped (fun w' => AllAt w' P 0 S (allOp n S s x)) M B n (allSt n S s x) P 0 true W)) := fun W => Lib.hid (fun ho hm => by
    have k := all_step P 0 M B n S s x W ho hm hc0 hc1 hPM hPB hg hl h3 htk hS HI.out.wd
    rw [hb] at k
    exact k)
  have hx' : (allOp n S s x).Good := (allOp_good hg hl h3 htk HI.out.wd).1
  obtain ⟨I, hI⟩ : ∃ I, I = idx S.N (allOp n S s x).W := ⟨_, rfl⟩
  have TL : ∀ W, Hid (AllAt W P 0 S (allOp n S s x) → Calls Try.prog 10 #[.pointer (some ⟨P, 0, none⟩)] W fun e w' => e = .returned (.tuple #[.int .i64 I, .int .i64 0]) ∧ Kept W w') := fun W => Lib.hid (fun ho => by
    have k := all_told P 0 S (allOp n S s x) W ho hx'
    rw [show tookI S (allOp n S s x) = I from by unfold tookI; rw [if_pos ⟨h9, hi⟩, hI], show tookE S (allOp n S s x) = 0 from by unfold tookE; rw [if_pos h9, if_neg (by omega)]] at k
    exact k)
  have hl4 : has.length ≤ 4096 := by
    have := HI.out.hasLen
    have := hS.N2
    simp at *
    omega
  rw [← hI] at hch
  obtain ⟨i0, hi0, hz0, hz1, hz2⟩ := info_parts infoInt
  have hcn : chn n s.ws S = I :: ch' := (HI.out.chain hS).trans hch
  have hlc : (I :: ch').length ≤ 4096 := by
    have h1 := HI.out.len
    have h2 := hS.N2
    rw [hch] at h1
    omega
  rw [hch]
  have hwd' := allSt_wd (S := S) (x := x) HI.out.wd
  have OP := Lib.hid hop
  clear hI
  have H := Lib.hid h
  clear h hop hb hg hl h3 htk h9 hi hx' hx9 hc0 hc1
  dsimp only [Kd.p0, Kd.p1, Kd.p2] at c0 c1 c2 c3 c4
  go_enter Try.func30, Try.ntmps30
  go_wp2_with fail
  refine (p_chain S (pmem_kept HM.out ((Kept.refl _).alloc _ _)) HI.out.wd hS).mono ?_
  rw [hcn]
  rintro e w2 ⟨a2, c2', rfl, k2, h2⟩
  obtain ⟨G, rfl, hG, hGc⟩ : ∃ G, a2 = some ⟨G, 0, none⟩ ∧ w.heap.size ≤ G ∧ w2.cell? ⟨G, 0, none⟩ = some (.int .i64 I) := by
    have hl := own_lies h2
    rcases h2.2 with ⟨_, h0⟩ | ⟨g', cap', cur, hv, hb, _⟩
    · simp at h0
    · cases hv
      rcases hl with ⟨e, _⟩ | ⟨g, o, c', e, _, _, hc⟩
      · simp at e
      · cases e
        exact ⟨_, rfl, by simp at hb; omega, hc 0 _ (by simp [ints])⟩
  have s0 : w2.cell? ⟨w.heap.size, 0, none⟩ = some (.int .i64 S.T) := k2.some (cell_new _ _ _ _ 0 rfl)
  have s1 : w2.cell? ⟨w.heap.size, 1, none⟩ = some (.int .i64 S.K) := k2.some (cell_new _ _ _ _ 1 rfl)
  have s2 : w2.cell? ⟨w.heap.size, 2, none⟩ = some (.int .i64 S.N) := k2.some (cell_new _ _ _ _ 2 rfl)
  have LC := Lib.hid (own_lies h2)
  have hsP : ¬ (w.heap.size = P ∨ w.heap.size = B) := by
    have := pmem_lt HM.out
    rintro (e | e) <;> omega
  have hsR : w.heap.size ≠ R := by have := lt_of_cell c0; omega
  have d0 := k2.some (pastc c0 _ _)
  have d1 := k2.some (pastc c1 _ _)
  have d2 := k2.some (pastc c2 _ _)
  have d3 := k2.some (pastc c3 _ _)
  have d4 := k2.some (pastc c4 _ _)
  have K2 := Lib.hid (Kept.trans ((Kept.refl w).alloc _ _) k2)
  have hGP : ¬ (G = P ∨ G = B) := by
    have := pmem_lt HM.out
    rintro (e | e) <;> omega
  have hGR : G ≠ R := by have := lt_of_cell c0; omega
  clear k2 h2 c0 c1 c2 c3 c4 hcn
  go_wp2_with fail
  refine ((ST _).out (OpAt.kept OP.out K2.out) (pmem_kept HM.out K2.out)).mono ?_
  rintro e w3 ⟨rfl, o3, m3, g3⟩
  have b3 := g3.but
  have d0 := b3.some d0 hRP
  have d1 := b3.some d1 hRP
  have d2 := b3.some d2 hRP
  have d3 := b3.some d3 hRP
  have d4 := b3.some d4 hRP
  have hGc := b3.some hGc hGP
  have s0 := b3.some s0 hsP
  have s1 := b3.some s1 hsP
  have s2 := b3.some s2 hsP
  have LC := Lib.hid (LC.out.but b3 (fun g hg => by simp [Value.ownBlock] at hg; subst hg; exact hGP))
  have O3 := Lib.hid o3
  have M3 := Lib.hid m3
  have B3 := Lib.hid ((K2.out.but _).trans b3 (fun _ _ h => h))
  clear o3 m3 g3 b3
  go_wp2_with fail
  refine ((TL _).out O3.out).mono ?_
  rintro e w4 ⟨rfl, k4⟩
  have d0 := k4.some d0
  have d1 := k4.some d1
  have d2 := k4.some d2
  have d3 := k4.some d3
  have d4 := k4.some d4
  have hGc := k4.some hGc
  have s0 := k4.some s0
  have s1 := k4.some s1
  have s2 := k4.some s2
  have LC := Lib.hid (LC.out.kept k4)
  have B4 := Lib.hid (B3.out.then k4)
  have M4 := Lib.hid (pmem_kept M3.out k4)
  have df : ∀ i, w4.frozen? ⟨R, i, none⟩ = false := fun i => B4.out.soft (lt_of_cell H.out.core.five.c0) (H.out.f i)
  clear k4
  go_upto_region 18 with fail
  obtain ⟨W5, hW5⟩ : ∃ W5, W5 = w4.setCell ⟨R, 5 * c + 2, none⟩ (.pointer none) := ⟨_, rfl⟩
  have e0 : W5.cell? ⟨R, 5 * c, none⟩ = some (.pointer none) := by rw [hW5]; simp [cell_set]; exact d0
  have e1 : W5.cell? ⟨R, 5 * c + 1, none⟩ = some (.pointer none) := by rw [hW5]; simp [cell_set]; exact d1
  have e2 : W5.cell? ⟨R, 5 * c + 2, none⟩ = some (.pointer none) := by rw [hW5]; simp [cell_set, d2]
  have e3 : W5.cell? ⟨R, 5 * c + 3, none⟩ = some (.slice a has.length cap) := by rw [hW5]; simp [cell_set]; exact d3
  have e4 : W5.cell? ⟨R, 5 * c + 4, none⟩ = some (.int .i64 lays) := by rw [hW5]; simp [cell_set]; exact d4
  have hGc : W5.cell? ⟨G, 0, none⟩ = some (.int .i64 I) := by rw [hW5, cell_set_far' _ _ _ _ _ _ hGR]; exact hGc
  have s0 : W5.cell? ⟨w.heap.size, 0, none⟩ = some (.int .i64 S.T) := by rw [hW5, cell_set_far' _ _ _ _ _ _ hsR]; exact s0
  have s1 : W5.cell? ⟨w.heap.size, 1, none⟩ = some (.int .i64 S.K) := by rw [hW5, cell_set_far' _ _ _ _ _ _ hsR]; exact s1
  have s2 : W5.cell? ⟨w.heap.size, 2, none⟩ = some (.int .i64 S.N) := by rw [hW5, cell_set_far' _ _ _ _ _ _ hsR]; exact s2
  have LC := Lib.hid (show Lies W5 _ _ _ from by rw [hW5]; exact LC.out.but ((But.refl (fun k => k = R) w4).here _ _) (fun g hg => by simp [Value.ownBlock] at hg; subst hg; exact hGR))
  have B5 : Hid (But (fun k => k = P ∨ k = B ∨ k = R) w W5) := Lib.hid (by rw [hW5]; exact (B4.out.mono (fun k _ h => by rcases h with h | h; exact .inl h; exact .inr (.inl h))).setCell (Or.inl (.inr (.inr rfl))) _)
  have df : ∀ i, W5.frozen? ⟨R, i, none⟩ = false := fun i => B5.out.soft (lt_of_cell H.out.core.five.c0) (H.out.f i)
  have hRM : ¬ (R = M ∨ R = B) := by
    have hh := H.out
    rintro (e | e)
    · have := hh.oR; have := hh.oM; subst e; omega
    · have := hh.oR; have := hh.oB; subst e; omega
  have M5 : Hid (PMem W5 M B n (allSt n S s x)) := Lib.hid (by rw [hW5]; exact pmem_frame M4.out (T := fun k => k = R) ((But.refl _ _).here _ _) (fun e => hRM (.inl e.symm)) (fun e => hRM (.inr e.symm)))
  have far : ∀ g, (Value.slice a has.length cap).ownBlock = some g → g < w.heap.size ∧ g ≠ P ∧ g ≠ B ∧ g ≠ R ∧ g ≠ M ∧ g ≠ G ∧ g ≠ w.heap.size := by
    have hh := H.out
    intro g hg
    have l1 := own_lt hh.core.row g hg
    have o1 := hh.core.oR g hg
    have := hh.cl; have := hh.oB; have := hh.oR; have := hh.oM
    refine ⟨l1, ?_, ?_, ?_, ?_, by omega, by omega⟩ <;> (intro e; subst e; omega)
  have FAR := Lib.hid far
  have OR5 : ∀ W, Hid (Kept W5 W → W.ownsRow 0 3 1 (.slice a has.length cap) has.length (ints has)) := fun W => Lib.hid (fun k => own_same H.out.core.row (fun g hg => by
    obtain ⟨l1, l2, l3, l4, _, _, _⟩ := FAR.out g hg
    exact (B5.out.then k).block g l1 (by rintro (e | e | e) <;> contradiction)))
  have hlR0 := lt_of_cell H.out.core.five.c0
  have R5 : Hid (Rest R c w W5) := Lib.hid (by rw [hW5]; exact ((Rest.refl R c w).but B4.out hRP hlR0).set (by omega) (by omega) _)
  rw [← hW5]
  clear hW5 d0 d1 d2 d3 d4 far
  have hlR := lt_of_cell e0
  have nR : ¬ (Value.slice a has.length cap).ownBlock = some R := fun e => (FAR.out R e).2.2.2.1 rfl
  have nG : ¬ (Value.slice a has.length cap).ownBlock = some G := fun e => (FAR.out G e).2.2.2.2.2.1 rfl
  have nS : ¬ (Value.slice a has.length cap).ownBlock = some w.heap.size := fun e => (FAR.out _ e).2.2.2.2.2.2 rfl
  have nM : ¬ (Value.slice a has.length cap).ownBlock = some M := fun e => (FAR.out M e).2.2.2.2.1 rfl
  have nB : ¬ (Value.slice a has.length cap).ownBlock = some B := fun e => (FAR.out B e).2.2.1 rfl
  go_wp2_with (at_builtin; refine wpList_append_any _ rfl _ _ _ rfl 0 3 i0 _ 1 8 Try.underlying62 hi0 hz0 hz1 hz2 (by rfl) (by decide) (.slice a has.length cap) has.length (ints has) (by simp [Act.eval, Act.put]) ((OR5 _).out (Kept.refl _)) _ (I :: ch').length (ints (I :: ch')) (by simp [Act.eval, Act.put]) (ints_length _) LC.out (ints_one _) (by unfold maxLen; omega) (by omega) (Nat.zero_le _) ?_; intro a6 c6 w6 own6 but6 at6; have f0 := but6.some e0 nR; have f1 := but6.some e1 nR; have f2 := but6.some e2 nR; have f3 := but6.some e3 nR; have f4 := but6.some e4 nR; have fG := but6.some hGc nG; have dg : (∀ i, w6.frozen? ⟨R, i, none⟩ = false) := (fun i => but6.soft hlR (df i)); have sG : (w6.setCell ⟨R, 5 * c + 3, none⟩ (.slice a6 (has.length + (I :: ch').length) c6)).cell? ⟨G, 0, none⟩ = some (.int .i64 I) := ((cell_set_far' _ _ _ _ _ _ hGR).trans fG); have g0 := but6.some s0 nS; have g1 := but6.some s1 nS; have g2 := but6.some s2 nS; have bb6 := but6)
  have B6 : Hid (But (fun k => (Value.slice a has.length cap).ownBlock = some k) W5 w6) := Lib.hid bb6
  have AT6 : Hid (∀ g, (Value.slice a6 (has.length + (I :: ch').length) c6).ownBlock = some g → own g = 20 + c ∧ g < w.heap.size ∨ w.heap.size ≤ g) := Lib.hid (fun g hg => by
    rcases at6 with e | e
    · rw [e] at hg
      exact .inl ⟨H.out.core.oR g hg, (FAR.out g hg).1⟩
    · rw [e] at hg
      have h1 := B5.out.size
      have h2 : W5.heap.size = g := by simpa using hg
      omega)
  have OW6 := Lib.hid own6
  have M7 : Hid (PMem (w6.setCell ⟨R, 5 * c + 3, none⟩ (.slice a6 (has.length + (I :: ch').length) c6)) M B n (allSt n S s x)) := Lib.hid (pmem_frame (pmem_frame M5.out (T := fun k => (Value.slice a has.length cap).ownBlock = some k) B6.out nM nB) (T := fun k => k = R) ((But.refl _ _).here _ _) (fun e => hRM (.inl e.symm)) (fun e => hRM (.inr e.symm)))
  clear own6 but6 bb6 at6 e0 e1 e2 e3 e4 hGc df s0 s1 s2 g0 g1 g2 dg sG fG
  refine (p_chain S M7.out hwd' hS).mono ?_
  rw [hn]
  rintro e w8 ⟨a8, c8, rfl, k8, _⟩
  have K8 := Lib.hid k8
  clear k8
  go_wp2
  go_ret
  have nR6 : ∀ g, (Value.slice a6 (has.length + (I :: ch').length) c6).ownBlock = some g → g ≠ R := fun g hg e => by
    have hh := H.out
    have h1 := hh.oR
    have h2 := hh.cl
    have h3 := lt_of_cell hh.core.five.c0
    subst e
    rcases AT6.out _ hg with ⟨h, _⟩ | h <;> omega
  have BT : But (fun k => k = P ∨ k = B ∨ k = R ∨ own k = 20 + c) w w8 :=
    (((B5.out.mono (fun k _ h => by rcases h with h | h | h; exact .inl h; exact .inr (.inl h); exact .inr (.inr (.inl h)))).trans B6.out (fun k _ h => .inr (.inr (.inr (H.out.core.oR k h))))).setCell (Or.inl (.inr (.inr (.inl rfl)))) _).then K8.out
  refine ⟨a6, c6, rfl, ⟨⟨K8.out.some ?_, K8.out.some ?_, K8.out.some ?_, K8.out.some ?_, K8.out.some ?_⟩, trivial, fun h => absurd h (by simp [Kd.busy]), ?_, ?_⟩, pmem_kept M7.out K8.out, BT, ((R5.out.but B6.out nR (Nat.lt_of_lt_of_le hlR0 B5.out.size)).set (by omega) (by omega) _).kept K8.out (by simpa using Nat.lt_of_lt_of_le (Nat.lt_of_lt_of_le hlR0 B5.out.size) B6.out.size)⟩
  · simp [cell_set, Kd.p0]; exact f0
  · simp [cell_set, Kd.p1]; exact f1
  · simp [cell_set, Kd.p2]; exact f2
  · simp [cell_set, f3]
  · simp [cell_set]; exact f4
  · show World.ownsRow _ 0 3 1 (.slice a6 (has ++ I :: ch').length c6) (has ++ I :: ch').length (ints (has ++ I :: ch'))
    rw [show (has ++ I :: ch').length = has.length + (I :: ch').length from List.length_append, ints_append]
    have o7 := own_same (w' := w6.setCell ⟨R, 5 * c + 3, none⟩ (.slice a6 (has.length + (I :: ch').length) c6)) OW6.out (fun g hg => ((But.refl (fun k => k = R) w6).here _ _).block g (own_lt OW6.out g hg) (nR6 g hg))
    exact own_same o7 (fun g hg => K8.out.below.block g (own_lt o7 g hg))
  · intro g hg
    rw [show (has ++ I :: ch').length = has.length + (I :: ch').length from List.length_append] at hg
    rcases AT6.out g hg with ⟨h1, h2⟩ | h
    · exact (ownN_old h2).trans h1
    · exact ownN_new h
end Go.Proofs.Ytmbdgaflmiacnaa.Sk

namespace Go.Proofs.Ytmbdgaflmiacnaa.Sk
set_option maxRecDepth 20000
open Go.RowKit
open Wo (St acc wordAt PMem RefIs)

set_option maxHeartbeats 4000000 in
theorem steps_push_on {own : Nat → Nat} {c : Nat} {w : World} {R M B n : Nat} {S : Stk} {s : St} {t : Int} {ch : List Int} {A D : List Cr} {x : Op} {has : List Int} {lays : Int} {P : Nat} {a : Option Addr} {cap : Nat} (h : Stand own c w R M B n S s t ch A D ⟨.push x, has, lays⟩ P a cap) (h9 : (pushOp n S s x).line ≠ 9) :
    Calls Try.prog 30 #[.pointer (some ⟨R, 5 * c, none⟩), .agg #[.int .i64 S.T, .int .i64 S.K, .int .i64 S.N], .pointer (some ⟨M, 0, none⟩)] w (GoesOn own c w R M B n S (pushSt n S lays s x) ⟨.push (pushOp n S s x), has, lays⟩ P a cap) := by
  obtain ⟨⟨hg, hl, hx9, l0, l1, _, _⟩, _⟩ : (Cr.Ok S s.ws t ⟨.push x, has, lays⟩) ∧ True := ⟨(mid h.inv.core).1, trivial⟩
  have CO := Lib.hid h.core
  have HM := Lib.hid h.mem
  have HI := Lib.hid h.inv
  have hS := h.ok
  have hc0 := h.c0
  have hc1 := h.c1
  have oP := (h.core.oP rfl).1
  have hlP := (h.core.oP rfl).2
  have hPM : P ≠ M := fun e => by have := h.oM; subst e; omega
  have hPB : P ≠ B := fun e => by have := h.oB; subst e; omega
  have hRP : ¬ (R = P ∨ R = B) := by
    rintro (e | e)
    · have := h.oR; have := h.cl; subst e; omega
    · have := h.oR; have := h.oB; subst e; omega
  obtain ⟨c0, c1, c2, c3, c4⟩ := h.core.five
  have hop : PushAt w P 0 S lays 0 x := h.core.op
  have hb : ((pushOp n S s x).line == 9) = false := by simpa using h9
  have ST : ∀ W, Hid (PushAt W P 0 S lays 0 x → PMem W M B n s → Calls Try.prog 12 #[.pointer (some ⟨P, 0, none⟩), .pointer (some ⟨M, 0, none⟩)] W (Stepped (fun w' => PushAt w' P 0 S lays 0 (pushOp n S s x)) M B n (pushSt n S lays s x) P 0 false W)) := fun W => Lib.hid (fun ho hm => by
    have k := push_step P 0 M B n S lays 0 s x W ho hm hc0 hc1 hPM hPB hg hl hS HI.out.wd (fun _ => ⟨l0, l1, rfl⟩)
    rw [hb] at k
    exact k)
  have OP := Lib.hid hop
  have H := Lib.hid h
  clear h hop hb hg hl h9 hx9 hc0 hc1
  dsimp only [Kd.p0, Kd.p1, Kd.p2] at c0 c1 c2 c3 c4
  go_enter Try.func30, Try.ntmps30
  go_wp2_with fail
  refine (p_chain S (pmem_kept HM.out ((Kept.refl _).alloc _ _)) HI.out.wd hS).mono ?_
  rintro e w2 ⟨a2, c2', rfl, k2, h2⟩
  have d0 := k2.some (pastc c0 _ _)
  have d1 := k2.some (pastc c1 _ _)
  have d2 := k2.some (pastc c2 _ _)
  have K2 := Lib.hid (Kept.trans ((Kept.refl w).alloc _ _) k2)
  clear k2 h2 c0 c1 c2 c3 c4
  go_wp2_with fail
  refine ((ST _).out (PushAt.frame OP.out (K2.out.but (fun _ => False)) id) (pmem_kept HM.out K2.out)).mono ?_
  rintro e w3 ⟨rfl, o3, m3, g3⟩
  have b3 := g3.but
  have d2 := b3.some d2 hRP
  have O3 := Lib.hid o3
  have M3 := Lib.hid m3
  have B3 := Lib.hid ((K2.out.but _).trans b3 (fun _ _ h => h))
  clear o3 m3 g3 b3 d0 d1
  go_wp2
  go_ret
  refine ⟨rfl, ?_, M3.out, B3.out⟩
  have hh := H.out
  have fr := hh.core.five.frame B3.out hRP
  refine ⟨fr, O3.out, fun _ => ⟨(ownN_old hlP).trans oP, Nat.lt_of_lt_of_le hlP B3.out.size⟩, own_same hh.core.row (fun g hg => B3.out.block g (own_lt hh.core.row g hg) ?_), fun g hg => (ownN_old (own_lt hh.core.row g hg)).trans (hh.core.oR g hg)⟩
  rintro (e | e)
  · have := hh.core.oR g hg; subst e; have := hh.cl; omega
  · have := hh.core.oR g hg; have := hh.oB; subst e; omega
end Go.Proofs.Ytmbdgaflmiacnaa.Sk

namespace Go.Proofs.Ytmbdgaflmiacnaa.Sk
set_option maxRecDepth 20000
open Go.RowKit
open Wo (St acc wordAt PMem RefIs)

theorem run_tail1 {a : Option Addr} {n c : Nat} (w : World) : (Instr.slice 62 (.slice a (n + 1) c) (some (.int .i64 1)) none none).run Try.prog w = .ok (.slice (if c = 1 then a else a.map (·.add 1)) n (c - 1)) w := by
  obtain ⟨i0, hi, hz0, hz1, hz2⟩ := info_parts infoInt
  rw [run_slice_any (w := w) 62 a (n + 1) c (by rw [show Try.prog.elem 62 = 3 from by kernel_rfl]; exact Try.underlying62)]
  have h1 : (1 : Int) ≤ (n : Int) + 1 := by omega
  simp [h1, Instr.sliceBounds, Instr.sliceBound, asIntOf, show Try.prog.elem 62 = 3 from by kernel_rfl, sizeOf, typeInfo, hi, hz1, sliced, Result.andThen]

set_option maxHeartbeats 4000000 in
theorem steps_push_ends {own : Nat → Nat} {c : Nat} {w : World} {R M B n : Nat} {S : Stk} {s : St} {t : Int} {ch : List Int} {A D : List Cr} {x : Op} {has : List Int} {lays : Int} {P : Nat} {a : Option Addr} {cap : Nat} (h : Stand own c w R M B n S s t ch A D ⟨.push x, has, lays⟩ P a cap) (h9 : (pushOp n S s x).line = 9) (hn : chn n (pushSt n S lays s x).ws S = lays :: ch) (hnl : ch.length ≤ 4096) :
    Calls Try.prog 30 #[.pointer (some ⟨R, 5 * c, none⟩), .agg #[.int .i64 S.T, .int .i64 S.K, .int .i64 S.N], .pointer (some ⟨M, 0, none⟩)] w (Ends own c w R M B n S (pushSt n S lays s x) ⟨.idle, has, lays⟩ P a cap) := by
  obtain ⟨⟨hg, hl, hx9, l0, l1, _, _⟩, _⟩ : (Cr.Ok S s.ws t ⟨.push x, has, lays⟩) ∧ True := ⟨(mid h.inv.core).1, trivial⟩
  have CO := Lib.hid h.core
  have HM := Lib.hid h.mem
  have HI := Lib.hid h.inv
  have hS := h.ok
  have hc0 := h.c0
  have hc1 := h.c1
  have oP := (h.core.oP rfl).1
  have hlP := (h.core.oP rfl).2
  have hPM : P ≠ M := fun e => by have := h.oM; subst e; omega
  have hPB : P ≠ B := fun e => by have := h.oB; subst e; omega
  have hRP : ¬ (R = P ∨ R = B) := by
    rintro (e | e)
    · have := h.oR; have := h.cl; subst e; omega
    · have := h.oR; have := h.oB; subst e; omega
  obtain ⟨c0, c1, c2, c3, c4⟩ := h.core.five
  have hop : PushAt w P 0 S lays 0 x := h.core.op
  have hb : ((pushOp n S s x).line == 9) = true := by simpa using h9
  have ST : ∀ W, Hid (PushAt W P 0 S lays 0 x → PMem W M B n s → Calls Try.prog 12 #[.pointer (some ⟨P, 0, none⟩), .pointer (some ⟨M, 0, none⟩)] W (Stepped (fun w' => PushAt w' P 0 S lays 0 (pushOp n S s x)) M B n (pushSt n S lays s x) P 0 true W)) := fun W => Lib.hid (fun ho hm => by
    have k := push_step P 0 M B n S lays 0 s x W ho hm hc0 hc1 hPM hPB hg hl hS HI.out.wd (fun _ => ⟨l0, l1, rfl⟩)
    rw [hb] at k
    exact k)
  have l0' : 0 ≤ lays := l0
  have l1' : lays < S.N := l1
  have hwd' := pushSt_wd (S := S) (x := x) (i := lays) HI.out.wd (fun _ => ⟨by omega, by have := hS.N2; omega⟩)
  have TL : ∀ W, Hid (PushAt W P 0 S lays 0 (pushOp n S s x) → Calls Try.prog 14 #[.pointer (some ⟨P, 0, none⟩)] W fun e w' => e = .returned (.int .i64 0) ∧ W = w') := fun W => Lib.hid (fun ho => by
    have k := push_told P 0 S lays 0 (pushOp n S s x) W ho
    rw [show laidE 0 (pushOp n S s x) = 0 from by unfold laidE; rw [if_pos h9]] at k
    exact k)
  have hcn : chn n s.ws S = ch := HI.out.chain hS
  have OP := Lib.hid hop
  have H := Lib.hid h
  clear h hop hb hg hl h9 hx9 hc0 hc1
  dsimp only [Kd.p0, Kd.p1, Kd.p2] at c0 c1 c2 c3 c4
  go_enter Try.func30, Try.ntmps30
  go_wp2_with fail
  refine (p_chain S (pmem_kept HM.out ((Kept.refl _).alloc _ _)) HI.out.wd hS).mono ?_
  rw [hcn]
  rintro e w2 ⟨a2, c2', rfl, k2, h2⟩
  have LC := Lib.hid (own_lies h2)
  have lcG : ∀ g, (Value.slice a2 ch.length c2').ownBlock = some g → w.heap.size ≤ g := by
    intro g hg
    rcases h2.2 with ⟨hv, _⟩ | ⟨g', cap', cur, hv, hb, _⟩
    · simp at hv; obtain ⟨rfl, _, _⟩ := hv; cases hg
    · cases hv
      have : g' = g := by simpa [Value.ownBlock] using hg
      simp at hb; omega
  have d0 := k2.some (pastc c0 _ _)
  have d1 := k2.some (pastc c1 _ _)
  have d2 := k2.some (pastc c2 _ _)
  have d4 := k2.some (pastc c4 _ _)
  have s0 : w2.cell? ⟨w.heap.size, 0, none⟩ = some (.int .i64 S.T) := k2.some (cell_new _ _ _ _ 0 rfl)
  have s1 : w2.cell? ⟨w.heap.size, 1, none⟩ = some (.int .i64 S.K) := k2.some (cell_new _ _ _ _ 1 rfl)
  have s2 : w2.cell? ⟨w.heap.size, 2, none⟩ = some (.int .i64 S.N) := k2.some (cell_new _ _ _ _ 2 rfl)
  have hpl := pmem_lt HM.out
  have hsP : ¬ (w.heap.size = P ∨ w.heap.size = B) := by rintro (e | e) <;> omega
  have hRl := lt_of_cell c0
  have hsR : w.heap.size ≠ R := by omega
  have K2 := Lib.hid (Kept.trans ((Kept.refl w).alloc _ _) k2)
  clear k2 h2 c0 c1 c2 c3 c4 hcn
  go_wp2_with fail
  refine ((ST _).out (PushAt.frame OP.out (K2.out.but (fun _ => False)) id) (pmem_kept HM.out K2.out)).mono ?_
  rintro e w3 ⟨rfl, o3, m3, g3⟩
  have b3 := g3.but
  have d0 := b3.some d0 hRP
  have d1 := b3.some d1 hRP
  have d2 := b3.some d2 hRP
  have d4 := b3.some d4 hRP
  have s0 := b3.some s0 hsP
  have s1 := b3.some s1 hsP
  have s2 := b3.some s2 hsP
  have LC := Lib.hid (LC.out.but b3 (fun g hg => by have := lcG g hg; rintro (e | e) <;> omega))
  have O3 := Lib.hid o3
  have M3 := Lib.hid m3
  have B3 := Lib.hid ((K2.out.but _).trans b3 (fun _ _ h => h))
  clear o3 m3 g3 b3
  go_wp2_with fail
  refine ((TL _).out O3.out).mono ?_
  rintro e _ ⟨rfl, rfl⟩
  have df : ∀ i, w3.frozen? ⟨R, i, none⟩ = false := fun i => B3.out.soft hRl (H.out.f i)
  go_upto_region 12 with fail
  obtain ⟨W5, hW5⟩ : ∃ W5, W5 = w3.setCell ⟨R, 5 * c + 1, none⟩ (.pointer none) := ⟨_, rfl⟩
  have e0 : W5.cell? ⟨R, 5 * c, none⟩ = some (.pointer none) := by rw [hW5]; simp [cell_set]; exact d0
  have e1 : W5.cell? ⟨R, 5 * c + 1, none⟩ = some (.pointer none) := by rw [hW5]; simp [cell_set, d1]
  have e2 : W5.cell? ⟨R, 5 * c + 2, none⟩ = some (.pointer none) := by rw [hW5]; simp [cell_set]; exact d2
  have e4 : W5.cell? ⟨R, 5 * c + 4, none⟩ = some (.int .i64 lays) := by rw [hW5]; simp [cell_set]; exact d4
  have e3 : W5.cell? ⟨R, 5 * c + 3, none⟩ = some (.slice a has.length cap) := by rw [hW5]; simp [cell_set]; exact (H.out.core.five.frame B3.out hRP).c3
  have s0 : W5.cell? ⟨w.heap.size, 0, none⟩ = some (.int .i64 S.T) := by rw [hW5, cell_set_far' _ _ _ _ _ _ hsR]; exact s0
  have s1 : W5.cell? ⟨w.heap.size, 1, none⟩ = some (.int .i64 S.K) := by rw [hW5, cell_set_far' _ _ _ _ _ _ hsR]; exact s1
  have s2 : W5.cell? ⟨w.heap.size, 2, none⟩ = some (.int .i64 S.N) := by rw [hW5, cell_set_far' _ _ _ _ _ _ hsR]; exact s2
  have LC := Lib.hid (show Lies W5 _ _ _ from by rw [hW5]; exact LC.out.but ((But.refl (fun k => k = R) w3).here _ _) (fun g hg => by have := lcG g hg; omega))
  have hRM : ¬ (R = M ∨ R = B) := by
    have hh := H.out
    rintro (e | e)
    · have := hh.oR; have := hh.oM; subst e; omega
    · have := hh.oR; have := hh.oB; subst e; omega
  have M5 : Hid (PMem W5 M B n (pushSt n S lays s x)) := Lib.hid (by rw [hW5]; exact pmem_frame M3.out (T := fun k => k = R) ((But.refl _ _).here _ _) (fun e => hRM (.inl e.symm)) (fun e => hRM (.inr e.symm)))
  have B5 : Hid (But (fun k => k = P ∨ k = B ∨ k = R) w W5) := Lib.hid (by rw [hW5]; exact (B3.out.mono (fun k _ h => by rcases h with h | h; exact .inl h; exact .inr (.inl h))).setCell (Or.inl (.inr (.inr rfl))) _)
  have R5 : Hid (Rest R c w W5) := Lib.hid (by rw [hW5]; exact ((Rest.refl R c w).but B3.out hRP hRl).set (by omega) (by omega) _)
  rw [← hW5]
  clear hW5 d0 d1 d2 d4 df
  go_wp2_with fail
  refine (p_chain S M5.out hwd' hS).mono ?_
  rw [hn]
  rintro e w6 ⟨a6, c6, rfl, k6, h6⟩
  have hc6 : ch.length + 1 ≤ c6 := by
    rcases h6.2 with ⟨_, h0⟩ | ⟨g', cap', cur, hv, _, _, h1, _⟩
    · simp at h0
    · cases hv; simpa using h1
  obtain ⟨G, rfl, hc0, hct⟩ : ∃ G, a6 = some ⟨G, 0, none⟩ ∧ w6.cell? ⟨G, 0, none⟩ = some (.int .i64 lays) ∧ Reads w6 (if c6 = 1 then some ⟨G, 0, none⟩ else some ⟨G, 1, none⟩) ch.length (fun i => ch.getD i 0) := by
    have hl := own_lies h6
    rcases h6.2 with ⟨_, h0⟩ | ⟨g', cap', cur, hv, hb, _⟩
    · simp at h0
    · cases hv
      rcases hl with ⟨e, _⟩ | ⟨g, o, c', e, _, _, hc⟩
      · simp at e
      · cases e
        refine ⟨_, rfl, hc 0 _ (by simp [ints]), ?_⟩
        by_cases hch : ch.length = 0
        · exact .inl hch
        rw [if_neg (by omega)]
        refine .inr ⟨_, _, rfl, fun i hi => ?_⟩
        have := hc (i + 1) (.int .i64 (ch.getD i 0)) (by simp [ints, hi])
        rw [show 0 + (i + 1) = 1 + i from by omega] at this
        exact this
  have hrc : Reads w6 a2 ch.length (fun i => ch.getD i 0) := by
    rcases LC.out.kept k6 with ⟨e, h0, _⟩ | ⟨g, o, c', e, _, _, hc⟩
    · exact .inl h0
    · cases e
      exact .inr ⟨g, o, rfl, fun i hi => hc i _ (ints_at ch i hi)⟩
  have e0 := k6.some e0
  have e1 := k6.some e1
  have e2 := k6.some e2
  have e3 := k6.some e3
  have e4 := k6.some e4
  have B6 := Lib.hid (B5.out.then k6)
  have R6 := Lib.hid (R5.out.kept k6 (Nat.lt_of_lt_of_le hRl B5.out.size))
  have M6 := Lib.hid (pmem_kept M5.out k6)
  have RC := Lib.hid hrc
  have RT := Lib.hid hct
  clear k6 h6 hrc hct s0 s1 s2
  have b0 : (1 : Int) ≤ (ch.length : Int) + 1 := by omega
  have b1 : (1 : Int) ≤ ((ch.length + 1 : Nat) : Int) := by omega
  have b2 : ((ch.length + 1 : Nat) : Int) ≤ (c6 : Int) := by omega
  have b3 : (ch.length : Int) + 1 ≤ (c6 : Int) := by omega
  have q0 : IntKind.i64.wrap ((ch.length : Int) + 1) = (ch.length : Int) + 1 := by rw [IntKind.wrap_i64]; omega
  obtain ⟨aa, haa⟩ : ∃ aa, aa = (if c6 = 1 then some (⟨G, 0, none⟩ : Addr) else some ⟨G, 1, none⟩) := ⟨_, rfl⟩
  have hsl : ∀ W, (Instr.slice 62 (.slice (some ⟨G, 0, none⟩) (ch.length + 1) c6) (some (.int .i64 1)) none none).run Try.prog W = .ok (.slice aa ch.length (c6 - 1)) W := fun W => by
    rw [run_tail1, haa]
    congr 1
  rw [← haa] at RT
  have HSI : ∀ W, Hid (Kept w6 W → Calls Try.prog 22 #[.slice aa ch.length (c6 - 1), .slice a2 ch.length c2'] W fun e w' => e = .returned (.bool true) ∧ Kept W w') := fun W => Lib.hid (fun k => sameInts_yes _ _ ch.length _ _ (fun i => ch.getD i 0) _ (by omega) (RT.out.kept k) (RC.out.kept k))
  clear haa b1 b2 b3
  obtain ⟨cc, hcc⟩ : ∃ cc, cc = c6 - 1 := ⟨_, rfl⟩
  rw [← hcc] at hsl HSI
  clear hcc
  go_upto_region 13 with fail
  go_region_held3 (fun w' => w'.cell? ⟨G, 0, none⟩ = some (.int .i64 lays) ∧ w'.cell? ⟨R, 5 * c + 4, none⟩ = some (.int .i64 lays)) (first | go_keep | (with_reducible exact ⟨k7.some hc0, k7.some e4⟩) | (with_reducible exact ⟨KT.some hc0, KT.some e4⟩)) (first
    | (go_at_call 22; with_reducible refine ((HSI _).out (by first | exact Kept.refl _ | exact (Kept.refl _).drew | exact (Kept.refl _).drewN _)).mono ?_; rintro e w7 ⟨rfl, k7⟩; have KT : Kept w6 w7 := Kept.trans (b := _) (by first | exact Kept.refl _ | exact (Kept.refl _).drew | exact (Kept.refl _).drewN _) k7))
  go_wp2
  go_ret
  have hh := H.out
  have BT := B6.out.then KT
  refine ⟨rfl, ⟨⟨KT.some e0, KT.some e1, KT.some e2, KT.some e3, KT.some e4⟩, trivial, fun h => absurd h (by simp [Kd.busy]), own_same hh.core.row (fun g hg => BT.block g (own_lt hh.core.row g hg) ?_), fun g hg => (ownN_old (own_lt hh.core.row g hg)).trans (hh.core.oR g hg)⟩, pmem_kept M6.out KT, BT, R6.out.kept KT (Nat.lt_of_lt_of_le hRl B6.out.size)⟩
  rintro (e | e | e)
  · have := hh.core.oR g hg; subst e; have := hh.cl; omega
  · have := hh.core.oR g hg; have := hh.oB; subst e; omega
  · have := hh.core.oR g hg; have := hh.oR; subst e; omega
end Go.Proofs.Ytmbdgaflmiacnaa.Sk
