/- list: a range over the iterator that collects. -/
import Derived.Test.YtlkadickhhaakaaDoorPoAll
namespace Go.Proofs.YtlkadickhhaakaaDoor
open Go.RowKit Go.Shelf
attribute [local go_sem] Oper.semAt_some
attribute [local go_sem ↓] ld_named st_named lv_named ix_named zv_named

/-- A new list of ints is told: in memory of the call's own. -/
def RetI (w : World) (l : List Int) (ed : Ending) (w' : World) : Prop := ∃ a c, ed = .returned (.slice a l.length c) ∧ Kept w w' ∧ OwnI w' w.heap.size (.slice a l.length c) l

set_option maxRecDepth 100000 in
set_option maxHeartbeats 4000000 in
theorem list_any {w : World} {R : Array Value} {M : Nat → Bool} (hR : Ws R M) (hT : Tab w) :
    Calls Tryd.prog 37 #[.agg R] w (RetI w (memI M)) := by
  have hg := hT.lt
  have ld0 := ws_ld (((WsAt.new w R 57 hR.size hR.one _ rfl).kept ((Kept.refl _).alloc #[.slice none 0 0] 22)))
  refine (callsIn_wide (n := 6)).1 ?_
  refine callsIn_of_wp_marks Tryd.func37 rfl trivial ?_ rfl
  simp only [Tryd.ntmps37, List.size_toArray, List.length_cons, List.length_nil, Nat.reduceAdd, Nat.reduceSub, Array.replicate_succ, Array.replicate_zero, List.push_toArray, List.append_toArray, List.nil_append, List.cons_append]
  rw [wpIn_wide]
  go_wp2_with fail; refine (all_any R).mono ?_; rintro e w' ⟨rfl, rfl⟩
  go_wp2
  obtain ⟨W0, hW0⟩ : ∃ W0, (((w.alloc (.cells R 57)).alloc (.cells #[.slice none 0 0] 22)).alloc (.cells R 57)) = W0 := ⟨_, rfl⟩
  have z0 : W0.heap.size = w.heap.size + 3 := by rw [← hW0]; simp
  have kW : Kept w W0 := by rw [← hW0]; exact (((Kept.refl w).alloc _ _).alloc _ _).alloc _ _
  have hbx : Boxed W0 (w.heap.size + 1) 22 (.slice none 0 0) := by rw [← hW0]; have := ((Boxed.new (w.alloc (.cells R 57)) 22 (.slice none 0 0)).alloc (.cells R 57)); simpa using this
  have hBs : WsAt W0 (w.heap.size + 1 + 1) R := by rw [← hW0]; exact WsAt.new _ R _ hR.size hR.one _ (by simp)
  rw [hW0]
  clear hW0 ld0
  obtain ⟨i0, hi, hz0, hz1, hz2⟩ := info_parts infoInt
  rename_i K hK0
  rw [← wpIn_wide (n := 6)]
  refine wpIn_rangeFunc_ownF rfl (by decide) (gf := 50) (lb := #[.pointer (some ⟨w.heap.size + 1 + 1, 0, none⟩)]) rfl trivial (enters_of Tryd.func50 (by kernel_rfl) rfl)
    (all_stops 5 (by decide) (w.heap.size + 1 + 1) (w.heap.size + 3) (w.heap.size + 1) hR (by omega) (by omega) W0 (by omega) hBs (hT.kept kW)) KeepB.trans
    (fun W l o o' hl h _ _ => ⟨by simp [World.putObj], fun k hk _ => (grownBy_putObj' W l o').block k (by have := (Array.getElem?_eq_some_iff.1 h).1; omega) (fun e => by cases e; omega)⟩) (Below.refl _ _) (fun _ => rfl)
    (fun (pre : List Nat) W => (∃ v, Boxed W (w.heap.size + 1) 22 v ∧ W.ownsRow (w.heap.size + 3) 3 1 v (cast pre).length (ints (cast pre)) ∧ True) ∧ (Below w.heap.size w W ∧ w.heap.size + 3 ≤ W.heap.size))
    (fun _ _ _ => False)
    (OwnFrom.and (Own.from (holdsRow_own (w.heap.size + 3) (w.heap.size + 1) 22 3 1 (fun (pre : List Nat) => (cast pre).length) (fun (pre : List Nat) => ints (cast pre)) (fun _ _ => True)) _) (OwnFrom.and (ownFrom_below (Nat.le_refl _) (by omega)) (fun _ A C _ hs hg _ => Nat.le_trans hs hg.size)))
    (fun _ _ _ _ _ hs _ _ => hs)
    ⟨⟨_, hbx, World.ownsRow_nil _ _ _ _, trivial⟩, kW.below, by omega⟩
    (fun x => { tmps := #[.agg R, .pointer (some ⟨w.heap.size, 0, none⟩), .slice none 0 0, .pointer (some ⟨w.heap.size + 1, 0, none⟩), .int .i64 (x : Nat), .agg R, .func (.func 50) #[] #[.pointer (some ⟨w.heap.size + 1 + 1, 0, none⟩)], .int .i64 (x : Nat), undef, undef, undef, undef, undef], defers := [] }) ?assign ?body ?done ?stop
  case assign =>
    intro l x W K hK
    gi_wp2
    exact hK
  case body =>
    rintro l pre x W ⟨⟨v, hv, hrow, _⟩, hB, hN⟩ hlt
    have hcell := hv.cell
    have hlen := cast_length pre
    gi_wp2_with (gi_at_builtin; refine wpListIn_append_own _ rfl _ _ _ rfl (w.heap.size + 3) 3 i0 _ 1 8 Tryd.underlying22 hi hz0 hz1 hz2 rfl (by decide) _ _ _ rfl (hrow.alloc _) ⟨W.heap.size, 0, none⟩ 1 1 [.int .i64 (x : Nat)] rfl rfl (cell_one_new _ _ _) (by simp [Value.oneCell']) (by unfold maxLen; omega) (by omega) (by have := hB.size; simp; omega) ?_; intro v' w1 hown' hgrow _; obtain ⟨g', cap', rfl⟩ := ownsRow_succ hown'; obtain ⟨hv1, hv2, hr2, hk2, hb2⟩ := hv.appended (by decide) (own_mono hrow (Nat.le_add_right _ 3)) hB.size (Nat.le_add_right _ 1) (own_mono hown' (Nat.le_add_right _ 3)) hgrow; have hc1 := hv1.cell; have hf1 := hv1.frozen)
    have gr : World.grownBy (W.alloc (.cells #[.int .i64 (x : Nat)] 3)) w1 v.ownBlock := hgrow
    have own3 : (w1.setCell ⟨w.heap.size + 1, 0, none⟩ (.slice (some ⟨g', 0, none⟩) ((cast pre).length + 1) cap')).ownsRow (w.heap.size + 3) 3 1 (.slice (some ⟨g', 0, none⟩) ((cast pre).length + 1) cap') ((cast pre).length + 1) (ints (cast pre) ++ [.int .i64 (x : Nat)]) :=
      own_same hown' fun g hg => by
        have := (hown'.lt g hg).1
        exact Below.heap_setCell _ _ _ _ (by simp; omega)
    have e1 : (cast (pre ++ [x])).length = (cast pre).length + 1 := by rw [cast_append]; simp [cast]
    have e2 : ints (cast (pre ++ [x])) = ints (cast pre) ++ [.int .i64 (x : Nat)] := by rw [cast_append, ints_append]; simp [cast, ints]
    have kk : KeepB (w.heap.size + 3) (w.heap.size + 1) W (w1.setCell ⟨w.heap.size + 1, 0, none⟩ (.slice (some ⟨g', 0, none⟩) ((cast pre).length + 1) cap')) := by
      refine ⟨hb2.size, fun k hk hkB => ?_⟩
      have hkW : k < W.heap.size := Nat.lt_of_lt_of_le hk hN
      rw [Below.heap_setCell _ _ _ _ (by simp; exact hkB), gr.block k (by simp; omega) (fun e => by have := (hrow.lt k e.symm).1; omega)]
      exact ((Kept.refl W).alloc _ _).below.block k hkW
    rw [hlen] at hv2 hk2 hb2 own3 kk e1
    refine ⟨hk2, kk, ⟨_, hv2, ?_, trivial⟩, hB.trans hb2, Nat.le_trans hN hb2.size⟩
    rw [e1, e2]
    exact own3
  case done =>
    rintro D' ys W hD rfl ⟨⟨v, hv, hrow, _⟩, hB, hN⟩ hK
    have hrow' : W.ownsRow (w.heap.size + 3) 3 1 v (memI M).length (ints (memI M)) := hrow
    clear hrow
    apply hK0
    have hcell := hv.cell
    go_wp2
    obtain ⟨a, c, rfl⟩ := own_form hrow'
    refine ⟨by simp, .inl ⟨_, _, rfl, run_takeDeferred hK, ?_⟩⟩
    exact ⟨.slice a (memI M).length c, by simp [results, Tryd.results37, go_sem], a, c, rfl, ⟨hB.trans (belowK_b (w := w) (Nat.le_refl _) W D' _ _ (by omega) hK rfl rfl)⟩, own_mono (ownsRow_putObj hrow' _ hK rfl) (Nat.le_add_right _ _)⟩
  case stop =>
    rintro D' c pre W hD _ hx hK
    exact hx.elim
end Go.Proofs.YtlkadickhhaakaaDoor
