/- The program's Calls and Pending, over the iterator. -/
import Derived.Test.YtjbplbfedndjpaaEvIter
import Derived.RangeFuncBox
import Derived.Maps.AppendAt
import Derived.Lib.Hide
namespace Go.Proofs.Ytjbplbfedndjpaa
open Go.RowKit Go.Shelf Go.Maps
attribute [local go_sem] Oper.semAt_some

/-- 'append' under a name that the walk leaves alone: an equation on its run serves in a region that draws its order. -/
def appSem (ts : Array TypeId) (ty : TypeId) (args : Array Value) : Sem Value := Builtin.append_ ts ty args
theorem app_named (ts : Array TypeId) (ty : TypeId) (args : Array Value) : Builtin.append_ ts ty args = appSem ts ty args := rfl
attribute [local go_sem ↓] app_named

set_option maxHeartbeats 2000000 in
theorem calls_bad {w : World} {a : Option Addr} {c : Nat} {h : List Ev} (hE : Lay w (.slice a h.length c) h.length (flatE h)) (hw : ∀ e ∈ h, Wf e) (hl : h.length ≤ 5000) (v : Int) (hv : chk h = v) (hz : v ≠ 0) :
    Calls Try.prog 11 #[.slice a h.length c] w (RetS2 w [] v) := by
  have RD := Lib.hid (read_bad hE hw hl v hv hz)
  have b1 : (v != 0) = true := by simpa using hz
  clear hE hv hz hw
  refine (callsIn_wide (n := 6)).1 ?_
  refine callsIn_of_wp_marks Try.func11 rfl trivial ?_ rfl
  simp only [Try.ntmps11, List.size_toArray, List.length_cons, List.length_nil, Nat.reduceAdd, Nat.reduceSub, Array.replicate_succ, Array.replicate_zero, List.push_toArray, List.append_toArray, List.nil_append, List.cons_append]
  rw [wpIn_wide]
  go_wp2_with fail; refine RD.out.mono ?_; rintro ed w1 ⟨rfl, k1⟩
  have K1 := Lib.hid k1
  clear k1
  go_wp2
  exact ⟨.tuple #[.slice none 0 0, .int .i64 v], by simp [results, Try.results11, go_sem], none, 0, rfl, K1.out.alloc _ _, World.ownsRow_nil _ _ _ _⟩

theorem calls_round {h : List Ev} {pre : List (Cl h)} {x : Cl h} {w1 W X : World} {B0 Bx b c : Nat} {a a2 a4 : Option Addr} {c2 c4 : Nat} (_ : w1.heap.size + 3 ≤ Bx) (hN : w1.heap.size + 3 ≤ W.heap.size) (hv : ∀ j, (Value.slice a2 (spA pre).length c2).ownBlock = some j → w1.heap.size + 3 ≤ j)
    (hrow : W.ownsRow (w1.heap.size + 3) 57 10 (.slice a2 (spA pre).length c2) (spA pre).length (flatS (spA pre))) (hx : Boxed W (w1.heap.size + 1) 25 (.slice a2 (spA pre).length c2)) (hB : Below w1.heap.size w1 W)
    (hr : W.heap[w1.heap.size]? = some (.cells #[.slice a h.length c, .map (some b)] 62 (0, 0))) (bx : Boxed X (w1.heap.size + 1) 25 (.slice a4 ((spA pre).length + 1) c4))
    (own : X.ownsRow (w1.heap.size + 3) 57 10 (.slice a4 ((spA pre).length + 1) c4) ((spA pre).length + 1) (flatS (spA pre) ++ flatS [sp h (x.1.1, x.1.2)]))
    (but : But (fun j => (Value.slice a2 (spA pre).length c2).ownBlock = some j ∨ j = w1.heap.size + 1) W X) :
    KeepsFrom B0 W X ∧ KeepB (w1.heap.size + 3) (w1.heap.size + 1) W X ∧
      (∃ v, Boxed X (w1.heap.size + 1) 25 v ∧ X.ownsRow (w1.heap.size + 3) 57 10 v (spA (pre ++ [x])).length (flatS (spA (pre ++ [x]))) ∧ True) ∧
      X.heap[w1.heap.size]? = some (.cells #[.slice a h.length c, .map (some b)] 62 (0, 0)) ∧ Below w1.heap.size w1 X ∧ w1.heap.size + 3 ≤ X.heap.size := by
  refine ⟨keeps_end but (fun j h => h) hrow hx, keepB_end but (fun j h => h) hv hN, ⟨_, bx, ?_, trivial⟩, ?_, ?_, Nat.le_trans hN but.size⟩
  · rw [spA_snoc, flatS_snoc, List.length_append]
    simpa [flatS] using own
  · refine (but.block _ (by omega) (fun h => ?_)).trans hr
    rcases h with h | h
    · have := hv _ h; omega
    · omega
  · have k : Kept w1 X := (((Kept.mk hB).but _).trans but (fun _ _ h => h)).kept (fun j hj h => by
      rcases h with h | h
      · have := hv _ h; omega
      · omega)
    exact k.below

set_option maxRecDepth 100000 in
set_option maxHeartbeats 8000000 in
theorem calls_ok {w : World} {a : Option Addr} {c : Nat} {h : List Ev} (hE : Lay w (.slice a h.length c) h.length (flatE h)) (hw : ∀ e ∈ h, Wf e) (hl : h.length ≤ 5000) (hv : chk h = 0) :
    Calls Try.prog 11 #[.slice a h.length c] w (RetS2 w (spans h) 0) := by
  have RD := Lib.hid (read_ok hE hw hl hv)
  have HE := Lib.hid hE
  have HW := Lib.hid hw
  have HV := Lib.hid (vd_of_chk hv)
  clear hE hv hw
  refine (callsIn_wide (n := 6)).1 ?_
  refine callsIn_of_wp_marks Try.func11 rfl trivial ?_ rfl
  simp only [Try.ntmps11, List.size_toArray, List.length_cons, List.length_nil, Nat.reduceAdd, Nat.reduceSub, Array.replicate_succ, Array.replicate_zero, List.push_toArray, List.append_toArray, List.nil_append, List.cons_append]
  rw [wpIn_wide]
  go_wp2_with fail; refine RD.out.mono ?_; rintro ed w1 ⟨b, rfl, hs, hbge, k1⟩
  have K1 := Lib.hid k1
  have HS := Lib.hid hs
  clear k1 hs
  go_wp2_with fail; refine (calls_any _ _).mono ?_; rintro ed w2 ⟨rfl, rfl⟩
  go_wp2
  obtain ⟨W0, hW0⟩ : ∃ W0, ((w1.alloc (.cells #[.slice a h.length c, .map (some b)] 62)).alloc (.cells #[.slice none 0 0] 25)).alloc (.cells #[.slice a h.length c, .map (some b)] 62) = W0 := ⟨_, rfl⟩
  have z0 : W0.heap.size = w1.heap.size + 3 := by rw [← hW0]; simp
  have kW : Kept w1 W0 := by rw [← hW0]; exact (((Kept.refl w1).alloc _ _).alloc _ _).alloc _ _
  have hrec : W0.heap[w1.heap.size]? = some (.cells #[.slice a h.length c, .map (some b)] 62 (0, 0)) := by rw [← hW0]; exact (((Kept.refl _).alloc _ _).alloc _ _).below.block _ (by simp) |>.trans (heap_alloc_new _ _)
  have hbx : Boxed W0 (w1.heap.size + 1) 25 (.slice none 0 0) := by rw [← hW0]; exact (by simpa using (Boxed.new (w1.alloc (.cells #[.slice a h.length c, .map (some b)] 62)) 25 (.slice none 0 0)).alloc (.cells #[.slice a h.length c, .map (some b)] 62))
  have hB0 : W0.cell? ⟨w1.heap.size + 1 + 1, 0, none⟩ = some (.slice a h.length c) := by rw [← hW0]; exact cell_new _ _ _ _ 0 (by simp)
  have hB1 : W0.cell? ⟨w1.heap.size + 1 + 1, 1, none⟩ = some (.map (some b)) := by rw [← hW0]; exact cell_new _ _ _ _ 1 (by simp)
  rw [hW0]
  clear hW0
  have hbl := HS.out.lt
  have hga : ∀ x, a = some x → h ≠ [] → x.block < w1.heap.size := by
    intro x hx hne
    have hp : 0 < h.length := List.length_pos_iff.2 hne
    obtain ⟨g, o, c', e, _, _, hc⟩ := HE.out.ev hp
    cases e
    cases hx
    obtain ⟨e, he⟩ : ∃ e, h[0]? = some e := ⟨_, List.getElem?_eq_getElem hp⟩
    exact Nat.lt_of_lt_of_le (lt_of_cell (hc 0 e he).c0) K1.out.size
  obtain ⟨i0, hi, hz0', hz1, hz2⟩ := info_parts infoSp
  rename_i K hK0
  rw [← wpIn_wide (n := 6)]
  refine wpIn_rangeFunc_ownH rfl (by decide) (gf := 45) (lb := #[.pointer (some ⟨w1.heap.size + 1 + 1, 0, none⟩)]) rfl trivial (enters_of Try.func45 (by kernel_rfl) rfl)
    (calls_stops 5 (by decide) (w1.heap.size + 1 + 1) b (w1.heap.size + 3) (w1.heap.size + 1) h.length a c h HV.out hl HW.out (by omega) (by omega) (by omega) (by omega) (fun x hx hne => by have := hga x hx hne; omega) W0 (by omega) hB0 hB1 (HE.out.kept (K1.out.trans kW)) (HS.out.kept kW)) KeepB.trans
    (fun W l o o' hl h _ _ => ⟨by simp [World.putObj], fun k hk _ => (grownBy_putObj' W l o').block k (by have := (Array.getElem?_eq_some_iff.1 h).1; omega) (fun e => by cases e; omega)⟩) (Below.refl _ _) (fun _ => rfl)
    (fun (pre : List (Cl h)) W => (∃ v, Boxed W (w1.heap.size + 1) 25 v ∧ W.ownsRow (w1.heap.size + 3) 57 10 v (spA pre).length (flatS (spA pre)) ∧ True) ∧ (W.heap[w1.heap.size]? = some (.cells #[.slice a h.length c, .map (some b)] 62 (0, 0)) ∧ (Below w1.heap.size w1 W ∧ w1.heap.size + 3 ≤ W.heap.size)))
    (fun _ _ _ => False)
    (OwnFrom.and (Own.from (holdsRow_own (w1.heap.size + 3) (w1.heap.size + 1) 25 57 10 (fun (pre : List (Cl h)) => (spA pre).length) (fun (pre : List (Cl h)) => flatS (spA pre)) (fun _ _ => True)) _) (OwnFrom.and (Own.from (block_own _ _ _ _) _) (OwnFrom.and (ownFrom_below (Nat.le_refl _) (by omega)) (fun _ A C _ hs hg _ => Nat.le_trans hs hg.size))))
    (fun _ _ _ _ _ hs _ _ => hs)
    ⟨⟨_, hbx, World.ownsRow_nil _ _ _ _, trivial⟩, hrec, kW.below, by omega⟩
    (fun x a' W => ∃ Bx, w1.heap.size + 3 ≤ Bx ∧ W.heap[Bx]? = some (.cells #[.int .i64 x.1.1, .int .i64 (too h x.1.2.id)] 69 (0, 0)) ∧
      a' = { tmps := #[.slice a h.length c, undef, .slice none 0 0, .int .i64 0, .pointer (some ⟨w1.heap.size, 0, none⟩), .int .i64 0, .pointer (some ⟨w1.heap.size + 1, 0, none⟩), .int .i64 x.1.2.id, .pointer (some ⟨Bx, 0, none⟩), .tuple #[.agg #[.slice a h.length c, .map (some b)], .int .i64 0], .slice a h.length c, .tuple #[.agg #[.slice a h.length c, .map (some b)], .int .i64 0], .agg #[.slice a h.length c, .map (some b)], .int .i64 0, .int .i64 0, .bool false, undef, .agg #[.slice a h.length c, .map (some b)], .func (.func 45) #[] #[.pointer (some ⟨w1.heap.size + 1 + 1, 0, none⟩)], .int .i64 x.1.2.id, .agg #[.int .i64 x.1.1, .int .i64 (too h x.1.2.id)], undef, undef, undef, undef, undef, undef, undef, undef], defers := [] })
    (fun x a' => fun _ A C row hs hg hr => by
      obtain ⟨Bx, h1, h2, h3⟩ := hs
      exact ⟨Bx, h1, block_own (β := Unit) Bx _ _ _ () A C row h2 hg (fun r e => (hr r e).2), h3⟩) ?assign ?body ?done ?stop
  case assign =>
    rintro l pre x W K ⟨⟨v, hv, hrow, _⟩, hr, hB, hN⟩ hK
    dsimp only [encs]
    gi_wp2
    exact hK _ _ ((KeepsOthers.alloc _ _).from _) (KeepB.of_kept ((Kept.refl W).alloc _ _) hN) ⟨⟨v, hv.alloc _, hrow.alloc _, trivial⟩, ((Kept.refl W).alloc _ _).below.block _ (Array.getElem?_eq_some_iff.1 hr).1 |>.trans hr, hB.alloc hB.size _, by simp; omega⟩ ⟨W.heap.size, hN, heap_alloc_new _ _, rfl⟩
  case body =>
    rintro l pre x a' W hlD hrl ⟨⟨v, hv, hrow, _⟩, hr, hB, hN⟩ ⟨Bx, hBx, hbox, rfl⟩ hlt
    obtain ⟨a2, c2, rfl⟩ := own_form hrow
    have hcell := hv.cell
    have r0 : W.cell? ⟨w1.heap.size, 0, none⟩ = some (.slice a h.length c) := by simp [World.cell?, hr]
    have r1 : W.cell? ⟨w1.heap.size, 1, none⟩ = some (.map (some b)) := by simp [World.cell?, hr]
    have q0 : W.cell? ⟨Bx, 0, none⟩ = some (.int .i64 x.1.1) := by simp [World.cell?, hbox]
    have q1 : W.cell? ⟨Bx, 1, none⟩ = some (.int .i64 (too h x.1.2.id)) := by simp [World.cell?, hbox]
    have hlen : (spA pre).length ≤ 5000 := by rw [spA_length]; omega
    have SP := Lib.hid (fun (W' : World) (k : Kept W W') => span_any (b := b) (i := x.1.1) (e := x.1.2) (HE.out.kept ((K1.out.trans ⟨hB⟩).trans k)) hl x.2.1)
    have OWN := Lib.hid hrow
    have HR := Lib.hid hr
    have HX := Lib.hid hv
    have HBL := Lib.hid hB
    clear hrow hr hbox hv hB
    gi_wp2
    have hfm : Try.prog.follows .mixedOrders = true := by kernel_rfl
    have APP := Lib.hid (fun (w5 : World) (k5 : Kept W.drew w5) => append_lay (P := Try.prog) (w5.alloc (.cells #[.int .i64 (sp h (x.1.1, x.1.2)).id, .int .i64 (sp h (x.1.1, x.1.2)).from_, .int .i64 (sp h (x.1.1, x.1.2)).to, .int .i64 (sp h (x.1.1, x.1.2)).k, .int .i64 (sp h (x.1.1, x.1.2)).x, .int .i64 (sp h (x.1.1, x.1.2)).y, .int .u64 (sp h (x.1.1, x.1.2)).u, .int .i64 (sp h (x.1.1, x.1.2)).er, .int .i64 (sp h (x.1.1, x.1.2)).n, .int .u64 (sp h (x.1.1, x.1.2)).v] 57)) (w1.heap.size + 3) 25 25 57 i0 _ 10 80 Try.underlying25 hi hz0' hz1 hz2 (by rfl) (by decide)
      (.slice a2 (spA pre).length c2) (spA pre).length (flatS (spA pre)) (own_kept OWN.out (((Kept.refl W).drew.trans k5).alloc _ _)) (.slice (some ⟨w5.heap.size, 0, none⟩) 1 1) 1 (flatS [sp h (x.1.1, x.1.2)]) (flatS_length [_]) (lay_new (heap_alloc_new _ _) (by decide)) (flatS_one _) (by unfold maxLen; omega) (by omega) (by have h1 := k5.size; have h2 : W.drew.heap.size = W.heap.size := rfl; rw [World.size_alloc]; omega))
    gi_region_with_o (refine ⟨trivial, ?_⟩; gi_at_call 35; refine (CallsIn.inRound l (callsIn_wide.2 (SP.out _ (Kept.refl _).drew))).mono ?_; rintro ed w5 ⟨rfl, k5⟩; obtain ⟨a4, c4, w4, hrun0, own4, but4, at4⟩ := APP.out w5 k5; have hrun := hrun0; rw [app_named] at hrun; clear hrun0; have kA : Kept W (w5.alloc (.cells #[.int .i64 (sp h (x.1.1, x.1.2)).id, .int .i64 (sp h (x.1.1, x.1.2)).from_, .int .i64 (sp h (x.1.1, x.1.2)).to, .int .i64 (sp h (x.1.1, x.1.2)).k, .int .i64 (sp h (x.1.1, x.1.2)).x, .int .i64 (sp h (x.1.1, x.1.2)).y, .int .u64 (sp h (x.1.1, x.1.2)).u, .int .i64 (sp h (x.1.1, x.1.2)).er, .int .i64 (sp h (x.1.1, x.1.2)).n, .int .u64 (sp h (x.1.1, x.1.2)).v] 57)) := ((Kept.refl W).drew.trans k5).alloc _ _; obtain ⟨bx9, own9, but9⟩ := round_end kA but4 OWN.out HX.out hN (by omega) own4; have m5 := ((Kept.refl W).drew.trans k5).some hcell; have z5 := lt_of_cell m5; have m4 := but4.some (kA.some hcell) (fun h => by have := (OWN.out.lt _ h).1; omega); have f4 := but4.soft (b := w1.heap.size + 1) (i := 0) (Nat.lt_of_lt_of_le HX.out.lt kA.size) (kA.soft HX.out.lt HX.out.frozen); have KA := Lib.hid kA; have K5 := Lib.hid k5; have OWN9 := Lib.hid own9; have BUT9 := Lib.hid but9; have BX9 := Lib.hid bx9; clear kA k5 own9 but9 bx9 own4 but4 at4)
    all_goals gi_wp2
    all_goals exact calls_round (x := x) hBx hN (fun j h => (OWN.out.lt j h).1) OWN.out HX.out HBL.out HR.out BX9.out OWN9.out BUT9.out
  case done =>
    rintro D' ys W hD rfl ⟨⟨v, hv, hrow, _⟩, hr, hB, hN⟩ hK
    rw [spA_all] at hrow
    apply hK0
    have hcell := hv.cell
    go_wp2
    obtain ⟨a', c', rfl⟩ := own_form hrow
    refine ⟨by simp, .inl ⟨_, _, rfl, run_takeDeferred hK, ?_⟩⟩
    exact ⟨.tuple #[.slice a' (spans h).length c', .int .i64 0], by simp [results, Try.results11, go_sem], a', c', rfl, K1.out.trans ⟨hB.trans (belowK_b (w := w1) (Nat.le_refl _) W D' _ _ (by omega) hK rfl rfl)⟩, own_mono (ownsRow_putObj hrow _ hK rfl) (by have := K1.out.size; omega)⟩
  case stop =>
    rintro D' c pre W hD _ hx hK
    exact hx.elim
end Go.Proofs.Ytjbplbfedndjpaa
