/- A core begins a Push of the last one that it has. -/
import Derived.Test.YtmbdgaflmiacnaaG14
import Derived.StillTailTactics
set_option linter.unusedVariables false
set_option linter.unusedSimpArgs false

namespace Go.Proofs.Ytmbdgaflmiacnaa.Sk
set_option maxRecDepth 20000
open Go.RowKit
open Wo (St acc wordAt PMem RefIs)

set_option maxHeartbeats 4000000 in
theorem begins_push {own : Nat → Nat} {c : Nat} {w : World} {R : Nat} {S : Stk} {has : List Int} {i lays n : Int} {P : Nat} {a : Option Addr} {cap : Nat} (h : CoreAt own c w R S ⟨.idle, has ++ [i], lays⟩ P a cap) (hf : ∀ i, w.frozen? ⟨R, i, none⟩ = false) (hR : own R = 1)
    (n0 : 0 ≤ n) (n1 : n < 300) (hA : n % 3 = 1) (i0 : 0 ≤ i) (i1 : i < S.N) (i2 : i ≤ 65534) (hl : has.length ≤ 100000) :
    Calls Try.prog 29 #[.pointer (some ⟨R, 5 * c, none⟩), .agg #[.int .i64 S.T, .int .i64 S.K, .int .i64 S.N], .int .i64 n] w (Begun own c w R S ⟨.push Op.new, has, i⟩ a cap) := by
  obtain ⟨⟨c0, c1, c2, c3, c4⟩, _, _, hrow, hown⟩ := h
  have hlen : (has ++ [i]).length = has.length + 1 := by simp
  dsimp only at c3 hrow hown
  rw [hlen] at c3 hrow hown
  obtain ⟨g, rfl, hg⟩ : ∃ g, a = some ⟨g, 0, none⟩ ∧ w.cell? ⟨g, has.length, none⟩ = some (.int .i64 i) := by
    rcases own_lies hrow with ⟨e, h0, _⟩ | ⟨g, o, c', e, _, _, hc⟩
    · exact absurd h0 (Nat.succ_ne_zero _)
    · have e2 := own_form hrow
      rcases hrow.2 with ⟨_, h0⟩ | ⟨g', cap', cur, hv, _⟩
      · exact absurd h0 (Nat.succ_ne_zero _)
      · cases hv
        cases e
        have := hc has.length (.int .i64 i) (by simp [ints])
        rw [Nat.zero_add] at this
        exact ⟨_, rfl, this⟩
  have hcap : has.length + 1 ≤ cap := by
    rcases hrow.2 with ⟨_, h0⟩ | ⟨g', cap', cur, hv, _, _, h1, _⟩
    · exact absurd h0 (Nat.succ_ne_zero _)
    · cases hv; exact h1
  have hgR : g ≠ R := fun e => by have := hown g rfl; subst e; omega
  have hrow2 := own_prefix hrow rfl
  have hlt := lt_of_cell c0
  have hglt := lt_of_cell hg
  have t3 : Int.tmod n 3 = n % 3 := Int.tmod_eq_emod_of_nonneg n0
  have HR := Lib.hid hrow2
  have HO := Lib.hid hown
  clear hrow hrow2 hown hlen
  have q1 : IntKind.i64.wrap (has.length : Int) = has.length := by rw [IntKind.wrap_i64]; omega
  have q2 : IntKind.i64.wrap ((has.length : Int) + 1 - 1) = has.length := by rw [IntKind.wrap_i64]; omega
  have q3 : IntKind.i64.wrap (((has.length + 1 : Nat) : Int) - 1) = has.length := by rw [IntKind.wrap_i64]; omega
  have b0 : (0 : Int) ≤ has.length := by omega
  have b1 : (has.length : Int) < ((has.length + 1 : Nat) : Int) := by omega
  have b2 : (has.length : Int) < (has.length : Int) + 1 := by omega
  have b3 : (has.length : Int) ≤ ((has.length + 1 : Nat) : Int) := by omega
  have b4 : (has.length : Int) ≤ (cap : Int) := by omega
  have e3 : (w.setCell ⟨R, 5 * c + 4, none⟩ (.int .i64 i)).cell? ⟨R, 5 * c + 3, none⟩ = some (.slice (some ⟨g, 0, none⟩) (has.length + 1) cap) := by simp [cell_set, c3]
  have eg : (w.setCell ⟨R, 5 * c + 4, none⟩ (.int .i64 i)).cell? ⟨g, has.length, none⟩ = some (.int .i64 i) := by rw [cell_set_far' _ _ _ _ _ _ hgR]; exact hg
  go_enter Try.func29, Try.ntmps29
  go_upto_region 3 with fail
  go_region_held3 (fun w' => w'.cell? ⟨R, 5 * c + 3, none⟩ = some (.slice (some ⟨g, 0, none⟩) (has.length + 1) cap) ∧ w'.cell? ⟨g, has.length, none⟩ = some (.int .i64 i)) (first | go_keep | (exact ⟨(((Kept.refl _).alloc _ _).drew).some e3, (((Kept.refl _).alloc _ _).drew).some eg⟩)) (fail)
  rename_i hcells
  clear hcells
  obtain ⟨W3, hW3⟩ : ∃ W3, W3 = ((w.setCell ⟨R, 5 * c + 4, none⟩ (.int .i64 i)).alloc (.cells #[.int .i64 S.T, .int .i64 S.K, .int .i64 S.N] 23)).drew := ⟨_, rfl⟩
  have kk : Kept (w.setCell ⟨R, 5 * c + 4, none⟩ (.int .i64 i)) W3 := by rw [hW3]; exact ((Kept.refl _).alloc _ _).drew
  have R3 : Hid (Rest R c w W3) := Lib.hid (by rw [hW3]; exact (((Rest.refl R c w).set (by omega) (by omega) _).kept ((Kept.refl _).alloc _ _).drew (by simpa using hlt)))
  have B3 : Hid (But (fun k => k = R) w W3) := Lib.hid (((But.refl (fun k => k = R) w).here _ _).then kk)
  have d0 : W3.cell? ⟨R, 5 * c, none⟩ = some (.pointer none) := kk.some (by simp [cell_set]; exact c0)
  have d1 : W3.cell? ⟨R, 5 * c + 1, none⟩ = some (.pointer none) := kk.some (by simp [cell_set]; exact c1)
  have d2 : W3.cell? ⟨R, 5 * c + 2, none⟩ = some (.pointer none) := kk.some (by simp [cell_set]; exact c2)
  have d3 := kk.some e3
  have d4 : W3.cell? ⟨R, 5 * c + 4, none⟩ = some (.int .i64 i) := kk.some (by simp [cell_set, c4])
  have s0 : W3.cell? ⟨w.heap.size, 0, none⟩ = some (.int .i64 S.T) := by rw [hW3]; exact (Kept.refl _).drew.some (cell_new _ _ _ _ 0 (by simp))
  have s1 : W3.cell? ⟨w.heap.size, 1, none⟩ = some (.int .i64 S.K) := by rw [hW3]; exact (Kept.refl _).drew.some (cell_new _ _ _ _ 1 (by simp))
  have s2 : W3.cell? ⟨w.heap.size, 2, none⟩ = some (.int .i64 S.N) := by rw [hW3]; exact (Kept.refl _).drew.some (cell_new _ _ _ _ 2 (by simp))
  have df : ∀ i, W3.frozen? ⟨R, i, none⟩ = false := fun i => B3.out.soft hlt (hf i)
  rw [← hW3]
  clear hW3 kk c0 c1 c2 c3 c4 e3 eg hg hf
  have hwR : w.heap.size ≠ R := by omega
  go_upto_region 4 with fail
  go_still_tail 14, (by kernel_rfl)
  change wpList _ _ _ _ _ W3.drew
  obtain ⟨W4, hW4⟩ : ∃ W4, W4 = W3.drew := ⟨_, rfl⟩
  have k4 : Kept W3 W4 := by rw [hW4]; exact (Kept.refl _).drew
  rw [← hW4]
  clear hW4
  have d0 := k4.some d0
  have d1 := k4.some d1
  have d2 := k4.some d2
  have d3 := k4.some d3
  have d4 := k4.some d4
  have s0 := k4.some s0
  have s1 := k4.some s1
  have s2 := k4.some s2
  have hRW : R < W3.heap.size := Nat.lt_of_lt_of_le hlt B3.out.size
  have df : ∀ i, W4.frozen? ⟨R, i, none⟩ = false := fun i => k4.soft hRW (df i)
  have B4 := Lib.hid (B3.out.then k4)
  have R4 := Lib.hid (R3.out.kept k4 hRW)
  clear k4
  go_upto_region 5 with fail
  obtain ⟨W5, hW5⟩ : ∃ W5, W5 = W4.setCell ⟨R, 5 * c + 3, none⟩ (.slice (some ⟨g, 0, none⟩) has.length cap) := ⟨_, rfl⟩
  have d0 : W5.cell? ⟨R, 5 * c, none⟩ = some (.pointer none) := by rw [hW5]; simp [cell_set]; exact d0
  have d1 : W5.cell? ⟨R, 5 * c + 1, none⟩ = some (.pointer none) := by rw [hW5]; simp [cell_set]; exact d1
  have d2 : W5.cell? ⟨R, 5 * c + 2, none⟩ = some (.pointer none) := by rw [hW5]; simp [cell_set]; exact d2
  have d3 : W5.cell? ⟨R, 5 * c + 3, none⟩ = some (.slice (some ⟨g, 0, none⟩) has.length cap) := by rw [hW5]; simp [cell_set, d3]
  have d4 : W5.cell? ⟨R, 5 * c + 4, none⟩ = some (.int .i64 i) := by rw [hW5]; simp [cell_set]; exact d4
  have s0 : W5.cell? ⟨w.heap.size, 0, none⟩ = some (.int .i64 S.T) := by rw [hW5, cell_set_far' _ _ _ _ _ _ hwR]; exact s0
  have s1 : W5.cell? ⟨w.heap.size, 1, none⟩ = some (.int .i64 S.K) := by rw [hW5, cell_set_far' _ _ _ _ _ _ hwR]; exact s1
  have s2 : W5.cell? ⟨w.heap.size, 2, none⟩ = some (.int .i64 S.N) := by rw [hW5, cell_set_far' _ _ _ _ _ _ hwR]; exact s2
  have b45 : But (fun k => k = R) W4 W5 := by rw [hW5]; exact (But.refl _ _).here _ _
  have hRW4 : R < W4.heap.size := Nat.lt_of_lt_of_le hlt B4.out.size
  have df : ∀ i, W5.frozen? ⟨R, i, none⟩ = false := fun i => b45.soft hRW4 (df i)
  have B5 := Lib.hid (B4.out.trans b45 (fun _ _ h => h))
  have R5 : Hid (Rest R c w W5) := Lib.hid (by rw [hW5]; exact R4.out.set (by omega) (by omega) _)
  rw [← hW5]
  clear hW5 b45 hRW hRW4
  have HN : ∀ W, Hid (Calls Try.prog 15 #[.agg #[.int .i64 S.T, .int .i64 S.K, .int .i64 S.N], .int .i64 i] W (Made (fun w P => PushAt w P 0 S i 0 Op.new) W)) := fun W => Lib.hid (newPush_in S i i0 i1 i2 W)
  go_region_held3 (fun w' => w'.cell? ⟨R, 5 * c + 4, none⟩ = some (.int .i64 i) ∧ w'.cell? ⟨w.heap.size, 0, none⟩ = some (.int .i64 S.T) ∧ w'.cell? ⟨w.heap.size, 1, none⟩ = some (.int .i64 S.K) ∧ w'.cell? ⟨w.heap.size, 2, none⟩ = some (.int .i64 S.N)) (first | go_keep | (exact ⟨k6.some d4, k6.some s0, k6.some s1, k6.some s2⟩) | (exact ⟨KT.some d4, KT.some s0, KT.some s1, KT.some s2⟩) | (refine ⟨?_, ?_, ?_, ?_⟩ <;> (simp [cell_set, cell_set_far', *]; done))) (first
    | (go_at_call 15; refine (HN _).out.mono ?_; rintro e w6 ⟨P', rfl, lP, gP, o6, k6⟩; have KT : Kept W5 w6 := Kept.trans (b := _) (by first | exact Kept.refl _ | exact (Kept.refl _).drew | exact (Kept.refl _).drewN _) k6; have f1 := KT.some d1; have f4 := KT.some d4; have g0 := KT.some s0; have g1 := KT.some s1; have g2 := KT.some s2; have ff : ∀ i, w6.frozen? ⟨R, i, none⟩ = false := (fun i => KT.soft (lt_of_cell d1) (df i))))
  rename_i hcells
  clear hcells
  have f0 := KT.some d0
  have f2 := KT.some d2
  have f3 := KT.some d3
  have hP : w.heap.size ≤ P' := by
    have h1 := B5.out.size
    first | omega | (simp at lP; omega)
  have BT := Lib.hid (B5.out.then KT)
  have RT := Lib.hid (R5.out.kept KT (Nat.lt_of_lt_of_le hlt B5.out.size))
  have O6 := Lib.hid o6
  clear KT k6 o6 lP d0 d1 d2 d3 d4 s0 s1 s2 g0 g1 g2
  go_end0
  refine ⟨P', rfl, begun_mk ?_ ?_ ?_ hP ?_ HR.out HO.out hR, ?_, RT.out.set (by omega) (by omega) _⟩
  · exact BT.out.here _ _
  · refine ⟨?_, ?_, ?_, ?_, ?_⟩ <;> simp [cell_set, *, Kd.p0, Kd.p1, Kd.p2]
  · exact Kd.At.frame (k := .push Op.new) (w := w6) O6.out ((But.refl (fun k => k = R) w6).here _ _) (fun _ e => by have e : P' = R := e; omega)
  · simpa using gP
  · exact BT.out.here _ _
end Go.Proofs.Ytmbdgaflmiacnaa.Sk

namespace Go.Proofs.Ytmbdgaflmiacnaa.Sk
set_option maxRecDepth 20000
open Go.RowKit
open Wo (St acc wordAt PMem RefIs)

structure Stand (own : Nat → Nat) (c : Nat) (w : World) (R M B n : Nat) (S : Stk) (s : St) (t : Int) (ch : List Int) (A D : List Cr) (cr : Cr) (P : Nat) (a : Option Addr) (cap : Nat) : Prop where
  core : CoreAt own c w R S cr P a cap
  mem : PMem w M B n s
  inv : Inv n S s t ch (A ++ cr :: D)
  ok : S.Ok n
  c0 : 0 ≤ s.cnt
  c1 : s.cnt ≤ 1000000
  f : ∀ i, w.frozen? ⟨R, i, none⟩ = false
  oR : own R = 1
  oM : own M = 0
  oB : own B = 0
  cl : c ≤ 2
def GoesOn (own : Nat → Nat) (c : Nat) (w : World) (R M B n : Nat) (S : Stk) (s' : St) (cr : Cr) (P : Nat) (a : Option Addr) (cap : Nat) (e : Ending) (w' : World) : Prop :=
  e = .returned (.bool true) ∧ CoreAt (ownN own w (20 + c)) c w' R S cr P a cap ∧ PMem w' M B n s' ∧ But (fun k => k = P ∨ k = B) w w'

def Ends (own : Nat → Nat) (c : Nat) (w : World) (R M B n : Nat) (S : Stk) (s' : St) (cr : Cr) (P : Nat) (a : Option Addr) (cap : Nat) (e : Ending) (w' : World) : Prop :=
  e = .returned (.bool true) ∧ CoreAt (ownN own w (20 + c)) c w' R S cr P a cap ∧ PMem w' M B n s' ∧ But (fun k => k = P ∨ k = B ∨ k = R) w w' ∧ Rest R c w w'

def Takes (own : Nat → Nat) (c : Nat) (w : World) (R M B n : Nat) (S : Stk) (s' : St) (has : List Int) (lays : Int) (P : Nat) (e : Ending) (w' : World) : Prop :=
  ∃ a cap, e = .returned (.bool true) ∧ CoreAt (ownN own w (20 + c)) c w' R S ⟨.idle, has, lays⟩ P a cap ∧ PMem w' M B n s' ∧ But (fun k => k = P ∨ k = B ∨ k = R ∨ own k = 20 + c) w w' ∧ Rest R c w w'
theorem Inv.hasLen {n : Nat} {S : Stk} {s : St} {t : Int} {ch : List Int} {A B : List Cr} {c : Cr} (h : Inv n S s t ch (A ++ c :: B)) : c.has.length ≤ S.N.toNat := by
  have := ((hold_perm ch A B c).symm.trans h.perm).length_eq
  rw [full_length] at this
  simp [Cr.hold] at this
  omega
theorem lies_one {w : World} {g : Nat} {x : Int} {t : TypeId} {fr : Nat × Nat} (h : w.heap[g]? = some (.cells #[.int .i64 x] t fr)) : Lies w (.slice (some ⟨g, 0, none⟩) 1 1) 1 (ints [x]) :=
  .inr ⟨g, 0, 1, rfl, Nat.le_refl _, by decide, fun j u hu => by
    have := World.news_of_block h j u hu
    rwa [add_none] at this⟩

set_option maxHeartbeats 4000000 in
theorem steps_pop_on {own : Nat → Nat} {c : Nat} {w : World} {R M B n : Nat} {S : Stk} {s : St} {t : Int} {ch : List Int} {A D : List Cr} {x : Op} {has : List Int} {lays : Int} {P : Nat} {a : Option Addr} {cap : Nat} (h : Stand own c w R M B n S s t ch A D ⟨.pop x, has, lays⟩ P a cap) (h9 : (popOp n S s x).line ≠ 9) :
    Calls Try.prog 30 #[.pointer (some ⟨R, 5 * c, none⟩), .agg #[.int .i64 S.T, .int .i64 S.K, .int .i64 S.N], .pointer (some ⟨M, 0, none⟩)] w (GoesOn own c w R M B n S (popSt n S s x) ⟨.pop (popOp n S s x), has, lays⟩ P a cap) := by
  obtain ⟨⟨hg, hl, hx9, htk, _, _⟩, _⟩ : (Cr.Ok S s.ws t ⟨.pop x, has, lays⟩) ∧ True := ⟨(mid h.inv.core).1, trivial⟩
  have CO := Lib.hid h.core
  have HM := Lib.hid h.mem
  have HI := Lib.hid h.inv
  have hS := h.ok
  have hc0 := h.c0
  have hc1 := h.c1
  have oP := (h.core.oP rfl).1
  have hlP := (h.core.oP rfl).2
  have hPM : P ≠ M := fun e => by have := h.oM; subst e; omega
  have hPB : P ≠ B := fun e => by have := h.oB; subst e; omega
  have hRP : ¬ (R = P ∨ R = B) := by
    rintro (e | e)
    · have := h.oR; have := h.cl; subst e; omega
    · have := h.oR; have := h.oB; subst e; omega
  obtain ⟨c0, c1, c2, c3, c4⟩ := h.core.five
  have hop : PopAt w P 0 S x := h.core.op
  have hb : ((popOp n S s x).line == 9) = false := by simpa using h9
  have ST : ∀ W, Hid (PopAt W P 0 S x → PMem W M B n s → Calls Try.prog 11 #[.pointer (some ⟨P, 0, none⟩), .pointer (some ⟨M, 0, none⟩)] W (Stepped (fun w' => PopAt w' P 0 S (popOp n S s x)) M B n (popSt n S s x) P 0 false W)) := fun W => Lib.hid (fun ho hm => by
    have k := pop_step P 0 M B n S s x W ho hm hc0 hc1 hPM hPB hg hl htk hS HI.out.wd
    rw [hb] at k
    exact k)
  have OP := Lib.hid hop
  have H := Lib.hid h
  clear h hop hb hg hl htk h9 hx9 hc0 hc1
  dsimp only [Kd.p0, Kd.p1, Kd.p2] at c0 c1 c2 c3 c4
  go_enter Try.func30, Try.ntmps30
  go_wp2_with fail
  refine (p_chain S (pmem_kept HM.out ((Kept.refl _).alloc _ _)) HI.out.wd hS).mono ?_
  rintro e w2 ⟨a2, c2', rfl, k2, h2⟩
  have d0 := k2.some (pastc c0 _ _)
  have d1 := k2.some (pastc c1 _ _)
  have d2 := k2.some (pastc c2 _ _)
  have K2 := Lib.hid (Kept.trans ((Kept.refl w).alloc _ _) k2)
  clear k2 h2 c0 c1 c2 c3 c4
  go_wp2_with fail
  refine ((ST _).out (OpAt.kept OP.out K2.out) (pmem_kept HM.out K2.out)).mono ?_
  rintro e w3 ⟨rfl, o3, m3, g3⟩
  have b3 := g3.but
  have d1 := b3.some d1 hRP
  have d2 := b3.some d2 hRP
  have O3 := Lib.hid o3
  have M3 := Lib.hid m3
  have B3 := Lib.hid ((K2.out.but _).trans b3 (fun _ _ h => h))
  clear o3 m3 g3 b3 d0
  go_wp2
  go_ret
  refine ⟨rfl, ?_, M3.out, B3.out⟩
  have hh := H.out
  have fr := hh.core.five.frame B3.out hRP
  refine ⟨fr, O3.out, fun _ => ⟨(ownN_old hlP).trans oP, Nat.lt_of_lt_of_le hlP B3.out.size⟩, own_same hh.core.row (fun g hg => B3.out.block g (own_lt hh.core.row g hg) ?_), fun g hg => (ownN_old (own_lt hh.core.row g hg)).trans (hh.core.oR g hg)⟩
  rintro (e | e)
  · have := hh.core.oR g hg; subst e; have := hh.cl; omega
  · have := hh.core.oR g hg; have := hh.oB; subst e; omega
set_option maxHeartbeats 4000000 in
theorem steps_pop_none {own : Nat → Nat} {c : Nat} {w : World} {R M B n : Nat} {S : Stk} {s : St} {t : Int} {ch : List Int} {A D : List Cr} {x : Op} {has : List Int} {lays : Int} {P : Nat} {a : Option Addr} {cap : Nat} (h : Stand own c w R M B n S s t ch A D ⟨.pop x, has, lays⟩ P a cap) (h9 : (popOp n S s x).line = 9) (hi : idx S.N (popOp n S s x).W < 0) (hch : ch = []) :
    Calls Try.prog 30 #[.pointer (some ⟨R, 5 * c, none⟩), .agg #[.int .i64 S.T, .int .i64 S.K, .int .i64 S.N], .pointer (some ⟨M, 0, none⟩)] w (Ends own c w R M B n S (popSt n S s x) ⟨.idle, has, lays⟩ P a cap) := by
  obtain ⟨⟨hg, hl, hx9, htk, _, _⟩, _⟩ : (Cr.Ok S s.ws t ⟨.pop x, has, lays⟩) ∧ True := ⟨(mid h.inv.core).1, trivial⟩
  have CO := Lib.hid h.core
  have HM := Lib.hid h.mem
  have HI := Lib.hid h.inv
  have hS := h.ok
  have hc0 := h.c0
  have hc1 := h.c1
  have oP := (h.core.oP rfl).1
  have hlP := (h.core.oP rfl).2
  have hPM : P ≠ M := fun e => by have := h.oM; subst e; omega
  have hPB : P ≠ B := fun e => by have := h.oB; subst e; omega
  have hRP : ¬ (R = P ∨ R = B) := by
    rintro (e | e)
    · have := h.oR; have := h.cl; subst e; omega
    · have := h.oR; have := h.oB; subst e; omega
  obtain ⟨c0, c1, c2, c3, c4⟩ := h.core.five
  have hop : PopAt w P 0 S x := h.core.op
  have hb : ((popOp n S s x).line == 9) = true := by simpa using h9
  have ST : ∀ W, Hid (PopAt W P 0 S x → PMem W M B n s → Calls Try.prog 11 #[.pointer (some ⟨P, 0, none⟩), .pointer (some ⟨M, 0, none⟩)] W (Stepped (fun w' => PopAt w' P 0 S (popOp n S s x)) M B n (popSt n S s x) P 0 true W)) := fun W => Lib.hid (fun ho hm => by
    have k := pop_step P 0 M B n S s x W ho hm hc0 hc1 hPM hPB hg hl htk hS HI.out.wd
    rw [hb] at k
    exact k)
  have hx' : (popOp n S s x).Good := (popOp_good hg hl htk HI.out.wd).1
  have TL : ∀ W, Hid (PopAt W P 0 S (popOp n S s x) → Calls Try.prog 9 #[.pointer (some ⟨P, 0, none⟩)] W fun e w' => e = .returned (.tuple #[.int .i64 0, .int .i64 15]) ∧ Kept W w') := fun W => Lib.hid (fun ho => by
    have k := pop_told P 0 S (popOp n S s x) W ho hx'
    rw [show tookI S (popOp n S s x) = 0 from by unfold tookI; rw [if_neg (by omega)], show tookE S (popOp n S s x) = 15 from by unfold tookE; rw [if_pos h9, if_pos hi]] at k
    exact k)
  have hcn : chn n s.ws S = [] := (HI.out.chain hS).trans hch
  have OP := Lib.hid hop
  have H := Lib.hid h
  clear h hop hb hg hl htk h9 hi hx' hx9 hc0 hc1
  dsimp only [Kd.p0, Kd.p1, Kd.p2] at c0 c1 c2 c3 c4
  go_enter Try.func30, Try.ntmps30
  go_wp2_with fail
  refine (p_chain S (pmem_kept HM.out ((Kept.refl _).alloc _ _)) HI.out.wd hS).mono ?_
  rw [hcn]
  rintro e w2 ⟨a2, c2', rfl, k2, h2⟩
  have d0 := k2.some (pastc c0 _ _)
  have d1 := k2.some (pastc c1 _ _)
  have d2 := k2.some (pastc c2 _ _)
  have K2 := Lib.hid (Kept.trans ((Kept.refl w).alloc _ _) k2)
  clear k2 h2 c0 c1 c2 c3 c4 hcn
  go_wp2_with fail
  refine ((ST _).out (OpAt.kept OP.out K2.out) (pmem_kept HM.out K2.out)).mono ?_
  rintro e w3 ⟨rfl, o3, m3, g3⟩
  have b3 := g3.but
  have d0 := b3.some d0 hRP
  have d1 := b3.some d1 hRP
  have d2 := b3.some d2 hRP
  have O3 := Lib.hid o3
  have M3 := Lib.hid m3
  have B3 := Lib.hid ((K2.out.but _).trans b3 (fun _ _ h => h))
  clear o3 m3 g3 b3
  go_wp2_with fail
  refine ((TL _).out O3.out).mono ?_
  rintro e w4 ⟨rfl, k4⟩
  have d0 := k4.some d0
  have d1 := k4.some d1
  have d2 := k4.some d2
  have B4 := Lib.hid (B3.out.then k4)
  have M4 := Lib.hid (pmem_kept M3.out k4)
  have df : ∀ i, w4.frozen? ⟨R, i, none⟩ = false := fun i => B4.out.soft (lt_of_cell H.out.core.five.c0) (H.out.f i)
  clear k4
  go_wp2
  go_ret
  have hh := H.out
  have hRM : ¬ (R = M ∨ R = B) := by
    rintro (e | e)
    · have := hh.oR; have := hh.oM; subst e; omega
    · have := hh.oR; have := hh.oB; subst e; omega
  have hlR0 := lt_of_cell hh.core.five.c0
  refine ⟨rfl, ?_, pmem_frame M4.out (T := fun k => k = R) ((But.refl _ _).here _ _) (fun e => hRM (.inl e.symm)) (fun e => hRM (.inr e.symm)), (B4.out.mono (fun k _ h => by rcases h with h | h; exact .inl h; exact .inr (.inl h))).setCell (Or.inl (.inr (.inr rfl))) _, ((Rest.refl R c w).but B4.out hRP hlR0).set (by omega) (by omega) _⟩
  have f0 := hh.core.five.frame B4.out hRP
  have bt : But (fun k => k = P ∨ k = B ∨ k = R) w _ := (B4.out.mono (fun k _ h => by rcases h with h | h; exact .inl h; exact .inr (.inl h))).setCell (p := ⟨R, 5 * c, none⟩) (Or.inl (.inr (.inr rfl))) (.pointer none)
  refine ⟨⟨?_, ?_, ?_, ?_, ?_⟩, trivial, fun h => absurd h (by simp [Kd.busy]), own_same hh.core.row (fun g hg => bt.block g (own_lt hh.core.row g hg) ?_), fun g hg => (ownN_old (own_lt hh.core.row g hg)).trans (hh.core.oR g hg)⟩
  · simp [cell_set, d0, Kd.p0]
  · simp [cell_set, Kd.p1]; exact d1
  · simp [cell_set, Kd.p2]; exact d2
  · simp [cell_set]; exact f0.c3
  · simp [cell_set]; exact f0.c4
  · rintro (e | e | e)
    · have := hh.core.oR g hg; subst e; have := hh.cl; omega
    · have := hh.core.oR g hg; have := hh.oB; subst e; omega
    · have := hh.core.oR g hg; have := hh.oR; subst e; omega
set_option maxHeartbeats 4000000 in
theorem steps_pop_ok {own : Nat → Nat} {c : Nat} {w : World} {R M B n : Nat} {S : Stk} {s : St} {t : Int} {ch ch' : List Int} {A D : List Cr} {x : Op} {has : List Int} {lays : Int} {P : Nat} {a : Option Addr} {cap : Nat} (h : Stand own c w R M B n S s t ch A D ⟨.pop x, has, lays⟩ P a cap) (h9 : (popOp n S s x).line = 9) (hi : 0 ≤ idx S.N (popOp n S s x).W) (hch : ch = idx S.N (popOp n S s x).W :: ch') :
    Calls Try.prog 30 #[.pointer (some ⟨R, 5 * c, none⟩), .agg #[.int .i64 S.T, .int .i64 S.K, .int .i64 S.N], .pointer (some ⟨M, 0, none⟩)] w (Takes own c w R M B n S (popSt n S s x) (has ++ [idx S.N (popOp n S s x).W]) lays P) := by
  obtain ⟨⟨hg, hl, hx9, htk, _, _⟩, _⟩ : (Cr.Ok S s.ws t ⟨.pop x, has, lays⟩) ∧ True := ⟨(mid h.inv.core).1, trivial⟩
  have CO := Lib.hid h.core
  have HM := Lib.hid h.mem
  have HI := Lib.hid h.inv
  have hS := h.ok
  have hc0 := h.c0
  have hc1 := h.c1
  have oP := (h.core.oP rfl).1
  have hlP := (h.core.oP rfl).2
  have hPM : P ≠ M := fun e => by have := h.oM; subst e; omega
  have hPB : P ≠ B := fun e => by have := h.oB; subst e; omega
  have hRP : ¬ (R = P ∨ R = B) := by
    rintro (e | e)
    · have := h.oR; have := h.cl; subst e; omega
    · have := h.oR; have := h.oB; subst e; omega
  obtain ⟨c0, c1, c2, c3, c4⟩ := h.core.five
  have hop : PopAt w P 0 S x := h.core.op
  have hb : ((popOp n S s x).line == 9) = true := by simpa using h9
  have ST : ∀ W, Hid (PopAt W P 0 S x → PMem W M B n s → Calls Try.prog 11 #[.pointer (some ⟨P, 0, none⟩), .pointer (some ⟨M, 0, none⟩)] W (Stepped (fun w' => PopAt w' P 0 S (popOp n S s x)) M B n (popSt n S s x) P 0 true W)) := fun W => Lib.hid (fun ho hm => by
    have k := pop_step P 0 M B n S s x W ho hm hc0 hc1 hPM hPB hg hl htk hS HI.out.wd
    rw [hb] at k
    exact k)
  have hx' : (popOp n S s x).Good := (popOp_good hg hl htk HI.out.wd).1
  obtain ⟨I, hI⟩ : ∃ I, I = idx S.N (popOp n S s x).W := ⟨_, rfl⟩
  have TL : ∀ W, Hid (PopAt W P 0 S (popOp n S s x) → Calls Try.prog 9 #[.pointer (some ⟨P, 0, none⟩)] W fun e w' => e = .returned (.tuple #[.int .i64 I, .int .i64 0]) ∧ Kept W w') := fun W => Lib.hid (fun ho => by
    have k := pop_told P 0 S (popOp n S s x) W ho hx'
    rw [show tookI S (popOp n S s x) = I from by unfold tookI; rw [if_pos ⟨h9, hi⟩, hI], show tookE S (popOp n S s x) = 0 from by unfold tookE; rw [if_pos h9, if_neg (by omega)]] at k
    exact k)
  have hl4 : has.length ≤ 4096 := by
    have := HI.out.hasLen
    have := hS.N2
    simp at *
    omega
  rw [← hI] at hch ⊢
  obtain ⟨i0, hi0, hz0, hz1, hz2⟩ := info_parts infoInt
  have hcn : chn n s.ws S = I :: ch' := (HI.out.chain hS).trans hch
  have OP := Lib.hid hop
  clear hI
  have H := Lib.hid h
  clear h hop hb hg hl htk h9 hi hx' hx9 hc0 hc1
  dsimp only [Kd.p0, Kd.p1, Kd.p2] at c0 c1 c2 c3 c4
  go_enter Try.func30, Try.ntmps30
  go_wp2_with fail
  refine (p_chain S (pmem_kept HM.out ((Kept.refl _).alloc _ _)) HI.out.wd hS).mono ?_
  rw [hcn]
  rintro e w2 ⟨a2, c2', rfl, k2, h2⟩
  obtain ⟨G, rfl, hG, hGc⟩ : ∃ G, a2 = some ⟨G, 0, none⟩ ∧ w.heap.size ≤ G ∧ w2.cell? ⟨G, 0, none⟩ = some (.int .i64 I) := by
    have hl := own_lies h2
    rcases h2.2 with ⟨_, h0⟩ | ⟨g', cap', cur, hv, hb, _⟩
    · simp at h0
    · cases hv
      rcases hl with ⟨e, _⟩ | ⟨g, o, c', e, _, _, hc⟩
      · simp at e
      · cases e
        exact ⟨_, rfl, by simp at hb; omega, hc 0 _ (by simp [ints])⟩
  have d0 := k2.some (pastc c0 _ _)
  have d1 := k2.some (pastc c1 _ _)
  have d2 := k2.some (pastc c2 _ _)
  have d3 := k2.some (pastc c3 _ _)
  have d4 := k2.some (pastc c4 _ _)
  have K2 := Lib.hid (Kept.trans ((Kept.refl w).alloc _ _) k2)
  have hGP : ¬ (G = P ∨ G = B) := by
    have := pmem_lt HM.out
    rintro (e | e) <;> omega
  have hGR : G ≠ R := by have := lt_of_cell c0; omega
  clear k2 h2 c0 c1 c2 c3 c4 hcn
  go_wp2_with fail
  refine ((ST _).out (OpAt.kept OP.out K2.out) (pmem_kept HM.out K2.out)).mono ?_
  rintro e w3 ⟨rfl, o3, m3, g3⟩
  have b3 := g3.but
  have d0 := b3.some d0 hRP
  have d1 := b3.some d1 hRP
  have d2 := b3.some d2 hRP
  have d3 := b3.some d3 hRP
  have d4 := b3.some d4 hRP
  have hGc := b3.some hGc hGP
  have O3 := Lib.hid o3
  have M3 := Lib.hid m3
  have B3 := Lib.hid ((K2.out.but _).trans b3 (fun _ _ h => h))
  clear o3 m3 g3 b3
  go_wp2_with fail
  refine ((TL _).out O3.out).mono ?_
  rintro e w4 ⟨rfl, k4⟩
  have d0 := k4.some d0
  have d1 := k4.some d1
  have d2 := k4.some d2
  have d3 := k4.some d3
  have d4 := k4.some d4
  have hGc := k4.some hGc
  have B4 := Lib.hid (B3.out.then k4)
  have M4 := Lib.hid (pmem_kept M3.out k4)
  have df : ∀ i, w4.frozen? ⟨R, i, none⟩ = false := fun i => B4.out.soft (lt_of_cell H.out.core.five.c0) (H.out.f i)
  clear k4
  go_upto_region 6 with fail
  obtain ⟨W5, hW5⟩ : ∃ W5, W5 = w4.setCell ⟨R, 5 * c, none⟩ (.pointer none) := ⟨_, rfl⟩
  have e0 : W5.cell? ⟨R, 5 * c, none⟩ = some (.pointer none) := by rw [hW5]; simp [cell_set, d0]
  have e1 : W5.cell? ⟨R, 5 * c + 1, none⟩ = some (.pointer none) := by rw [hW5]; simp [cell_set]; exact d1
  have e2 : W5.cell? ⟨R, 5 * c + 2, none⟩ = some (.pointer none) := by rw [hW5]; simp [cell_set]; exact d2
  have e3 : W5.cell? ⟨R, 5 * c + 3, none⟩ = some (.slice a has.length cap) := by rw [hW5]; simp [cell_set]; exact d3
  have e4 : W5.cell? ⟨R, 5 * c + 4, none⟩ = some (.int .i64 lays) := by rw [hW5]; simp [cell_set]; exact d4
  have hGc : W5.cell? ⟨G, 0, none⟩ = some (.int .i64 I) := by rw [hW5, cell_set_far' _ _ _ _ _ _ hGR]; exact hGc
  have B5 : Hid (But (fun k => k = P ∨ k = B ∨ k = R) w W5) := Lib.hid (by rw [hW5]; exact (B4.out.mono (fun k _ h => by rcases h with h | h; exact .inl h; exact .inr (.inl h))).setCell (Or.inl (.inr (.inr rfl))) _)
  have df : ∀ i, W5.frozen? ⟨R, i, none⟩ = false := fun i => B5.out.soft (lt_of_cell H.out.core.five.c0) (H.out.f i)
  have hRM : ¬ (R = M ∨ R = B) := by
    have hh := H.out
    rintro (e | e)
    · have := hh.oR; have := hh.oM; subst e; omega
    · have := hh.oR; have := hh.oB; subst e; omega
  have M5 : Hid (PMem W5 M B n (popSt n S s x)) := Lib.hid (by rw [hW5]; exact pmem_frame M4.out (T := fun k => k = R) ((But.refl _ _).here _ _) (fun e => hRM (.inl e.symm)) (fun e => hRM (.inr e.symm)))
  have far : ∀ g, (Value.slice a has.length cap).ownBlock = some g → g < w.heap.size ∧ g ≠ P ∧ g ≠ B ∧ g ≠ R ∧ g ≠ M ∧ g ≠ G := by
    have hh := H.out
    intro g hg
    have l1 := own_lt hh.core.row g hg
    have o1 := hh.core.oR g hg
    have := hh.cl; have := hh.oB; have := hh.oR; have := hh.oM
    refine ⟨l1, ?_, ?_, ?_, ?_, by omega⟩ <;> (intro e; subst e; omega)
  have FAR := Lib.hid far
  have OR5 : ∀ W, Hid (Kept W5 W → W.ownsRow 0 3 1 (.slice a has.length cap) has.length (ints has)) := fun W => Lib.hid (fun k => own_same H.out.core.row (fun g hg => by
    obtain ⟨l1, l2, l3, l4, _, _⟩ := FAR.out g hg
    exact (B5.out.then k).block g l1 (by rintro (e | e | e) <;> contradiction)))
  have hlR0 := lt_of_cell H.out.core.five.c0
  have R5 : Hid (Rest R c w W5) := Lib.hid (by rw [hW5]; exact ((Rest.refl R c w).but B4.out hRP hlR0).set (by omega) (by omega) _)
  rw [← hW5]
  clear hW5 d0 d1 d2 d3 d4 far
  have hlR := lt_of_cell e0
  have nR : ¬ (Value.slice a has.length cap).ownBlock = some R := fun e => (FAR.out R e).2.2.2.1 rfl
  have nG : ¬ (Value.slice a has.length cap).ownBlock = some G := fun e => (FAR.out G e).2.2.2.2.2 rfl
  have p0 := pastc e0 #[.int .i64 I] 3
  have p1 := pastc e1 #[.int .i64 I] 3
  have p2 := pastc e2 #[.int .i64 I] 3
  have p3 := pastc e3 #[.int .i64 I] 3
  have p4 := pastc e4 #[.int .i64 I] 3
  have pG := pastc hGc #[.int .i64 I] 3
  have pf : ∀ i, (W5.alloc (.cells #[.int .i64 I] 3)).frozen? ⟨R, i, none⟩ = false := fun i => ((Kept.refl _).alloc _ _).soft hlR (df i)
  have plt := lt_of_cell p0
  go_wp2_with (at_builtin; refine wpList_append_any _ rfl _ _ _ rfl 0 3 i0 _ 1 8 Try.underlying62 hi0 hz0 hz1 hz2 (by rfl) (by decide) (.slice a has.length cap) has.length (ints has) (by simp [Act.eval, Act.put]) ((OR5 _).out ((Kept.refl _).alloc _ _)) _ 1 (ints [I]) (by simp [Act.eval, Act.put]) (by rfl) (lies_one (heap_alloc_new _ _)) (ints_one _) (by unfold maxLen; omega) (by omega) (Nat.zero_le _) ?_; intro a6 c6 w6 own6 but6 at6; have f0 := but6.some p0 nR; have f1 := but6.some p1 nR; have f2 := but6.some p2 nR; have f3 := but6.some p3 nR; have f4 := but6.some p4 nR; have fG := but6.some pG nG; have dg : (∀ i, w6.frozen? ⟨R, i, none⟩ = false) := (fun i => but6.soft plt (pf i)); have sG : (w6.setCell ⟨R, 5 * c + 3, none⟩ (.slice a6 (has.length + 1) c6)).cell? ⟨G, 0, none⟩ = some (.int .i64 I) := ((cell_set_far' _ _ _ _ _ _ hGR).trans fG))
  have B6 : Hid (But (fun k => (Value.slice a has.length cap).ownBlock = some k) W5 w6) := Lib.hid (((Kept.refl W5).alloc _ _).but _ |>.trans but6 (fun _ _ h => h))
  have AT6 : Hid (∀ g, (Value.slice a6 (has.length + 1) c6).ownBlock = some g → own g = 20 + c ∧ g < w.heap.size ∨ w.heap.size ≤ g) := Lib.hid (fun g hg => by
    rcases at6 with e | e
    · rw [e] at hg
      exact .inl ⟨H.out.core.oR g hg, (FAR.out g hg).1⟩
    · rw [e] at hg
      have h1 := B5.out.size
      have h2 : (W5.alloc (.cells #[.int .i64 I] 3)).heap.size = g := by simpa using hg
      simp at h2
      omega)
  have OW6 := Lib.hid own6
  clear own6 but6 at6 e0 e1 e2 e3 e4 hGc df
  go_ret
  have nR6 : ∀ g, (Value.slice a6 (has.length + 1) c6).ownBlock = some g → g ≠ R := fun g hg e => by
    have hh := H.out
    have h1 := hh.oR
    have h2 := hh.cl
    have h3 := lt_of_cell hh.core.five.c0
    subst e
    rcases AT6.out _ hg with ⟨h, _⟩ | h <;> omega
  have BT : But (fun k => k = P ∨ k = B ∨ k = R ∨ own k = 20 + c) w (w6.setCell ⟨R, 5 * c + 3, none⟩ (.slice a6 (has.length + 1) c6)) :=
    ((B5.out.mono (fun k _ h => by rcases h with h | h | h; exact .inl h; exact .inr (.inl h); exact .inr (.inr (.inl h)))).trans B6.out (fun k _ h => .inr (.inr (.inr (H.out.core.oR k h))))).setCell (Or.inl (.inr (.inr (.inl rfl)))) _
  refine ⟨a6, c6, rfl, ⟨⟨?_, ?_, ?_, ?_, ?_⟩, trivial, fun h => absurd h (by simp [Kd.busy]), ?_, ?_⟩, ?_, BT, (R5.out.but B6.out nR (Nat.lt_of_lt_of_le hlR0 B5.out.size)).set (by omega) (by omega) _⟩
  · simp [cell_set, Kd.p0]; exact f0
  · simp [cell_set, Kd.p1]; exact f1
  · simp [cell_set, Kd.p2]; exact f2
  · simp [cell_set, f3]
  · simp [cell_set]; exact f4
  · show World.ownsRow _ 0 3 1 (.slice a6 (has ++ [I]).length c6) (has ++ [I]).length (ints (has ++ [I]))
    rw [show (has ++ [I]).length = has.length + 1 from by simp, ints_append]
    exact own_same OW6.out (fun g hg => ((But.refl (fun k => k = R) w6).here _ _).block g (own_lt OW6.out g hg) (nR6 g hg))
  · intro g hg
    rw [show (has ++ [I]).length = has.length + 1 from by simp] at hg
    rcases AT6.out g hg with ⟨h1, h2⟩ | h
    · exact (ownN_old h2).trans h1
    · exact ownN_new h
  · have m6 := pmem_frame M5.out (T := fun k => (Value.slice a has.length cap).ownBlock = some k) B6.out (fun e => (FAR.out M e).2.2.2.2.1 rfl) (fun e => (FAR.out B e).2.2.1 rfl)
    exact pmem_frame m6 (T := fun k => k = R) ((But.refl _ _).here _ _) (fun e => hRM (.inl e.symm)) (fun e => hRM (.inr e.symm))
end Go.Proofs.Ytmbdgaflmiacnaa.Sk
