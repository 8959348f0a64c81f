/- Busy: a range over the iterator that collects; Turn over it. -/
import Derived.Test.YtdgajkimepgljaaFThose
import Derived.RangeFuncBox
import Derived.Maps.AppendAt
import Derived.Lib.Hide
namespace Go.Proofs.Ytdgajkimepgljaa
open Go.RowKit Go.Shelf
attribute [local go_sem] Oper.semAt_some

def nats (l : List Nat) : List Int := l.map fun (i : Nat) => (i : Int)
theorem nats_append (l m : List Nat) : nats (l ++ m) = nats l ++ nats m := by simp [nats]
theorem nats_length (l : List Nat) : (nats l).length = l.length := by simp [nats]
theorem cores_busyTo (s : St) (n : Nat) : cores s n = nats (busyTo s.on n) := by
  unfold cores Lf ents busyTo nats
  rw [List.map_map, List.range_eq_range']
  rfl

set_option maxRecDepth 100000 in
set_option maxHeartbeats 4000000 in
theorem busyL_held {w : World} {F G T : Nat} {dv : Value} {base n m : Nat} {s : St} (h : PF w F G T dv base n m s) :
    Calls Try.prog 18 #[.pointer (some ⟨F, 0, none⟩)] w fun e w' => ∃ a c, e = .returned (.slice a (cores s n).length c) ∧ Kept w w' ∧ OwnI w' w.heap.size (.slice a (cores s n).length c) (cores s n) := by
  refine (callsIn_wide (n := 6)).1 ?_
  refine callsIn_of_wp_marks Try.func18 rfl trivial ?_ rfl
  simp only [Try.ntmps18, List.size_toArray, List.length_cons, List.length_nil, Nat.reduceAdd, Nat.reduceSub, Array.replicate_succ, Array.replicate_zero, List.push_toArray, List.append_toArray, List.nil_append, List.cons_append]
  rw [wpIn_wide]
  go_wp2_with fail; refine (busy_held (h.kept ((Kept.refl w).alloc _ _))).mono ?_; rintro e w' ⟨rfl, rfl⟩
  go_wp2
  obtain ⟨W0, hW0⟩ : ∃ W0, (((w.alloc (.cells #[.slice none 0 0] 39)).alloc (.cells #[.slice (some ⟨T, 0, none⟩) n n] 65)).alloc (.cells #[.func (.func 34) #[] #[]] 83)) = W0 := ⟨_, rfl⟩
  have z0 : W0.heap.size = w.heap.size + 3 := by rw [← hW0]; simp
  have kW : Kept w W0 := by rw [← hW0]; exact (((Kept.refl w).alloc _ _).alloc _ _).alloc _ _
  have hbx : Boxed W0 w.heap.size 39 (.slice none 0 0) := by rw [← hW0]; exact ((Boxed.new w _ _).alloc _).alloc _
  have hBt : W0.cell? ⟨w.heap.size + 1, 0, none⟩ = some (.slice (some ⟨T, 0, none⟩) n n) := by rw [← hW0]; exact ((Kept.refl _).alloc _ _).some (cell_new _ _ _ _ 0 (by simp))
  have hBh : W0.cell? ⟨w.heap.size + 1 + 1, 0, none⟩ = some (.func (.func 34) #[] #[]) := by rw [← hW0]; exact cell_new _ _ _ _ 0 (by simp)
  rw [hW0]
  clear hW0
  have hH0 := h.kept kW
  have hTl := h.lt T (.inr (.inr (.inl rfl)))
  have hn64 := h.fine.n64
  obtain ⟨i0, hi, hz0, hz1, hz2⟩ := info_parts infoIntF
  rename_i Q' K hK0
  rw [← wpIn_wide (n := 6)]
  refine wpIn_rangeFunc_ownF rfl (by decide) (gf := 43) (lb := #[.pointer (some ⟨w.heap.size + 1, 0, none⟩), .pointer (some ⟨w.heap.size + 1 + 1, 0, none⟩)]) rfl trivial (enters_of Try.func43 (by kernel_rfl) rfl)
    (those_stops 5 (by decide) (w.heap.size + 1) (w.heap.size + 1 + 1) T (w.heap.size + 3) w.heap.size n s.on hn64 (by omega) (by omega) (by omega) (by omega) (by omega) (by omega) W0 (by omega) hBt hBh hH0.c3) KeepB.trans
    (fun W l o o' hl h _ _ => ⟨by simp [World.putObj], fun k hk _ => (grownBy_putObj' W l o').block k (by have := (Array.getElem?_eq_some_iff.1 h).1; omega) (fun e => by cases e; omega)⟩) (Below.refl _ _) (fun _ => rfl)
    (fun (pre : List Nat) W => (∃ v, Boxed W w.heap.size 39 v ∧ W.ownsRow (w.heap.size + 3) 3 1 v (nats pre).length (ints (nats pre)) ∧ True) ∧ (Below w.heap.size w W ∧ w.heap.size + 3 ≤ W.heap.size))
    (fun _ _ _ => False)
    (OwnFrom.and (Own.from (holdsRow_own (w.heap.size + 3) w.heap.size 39 3 1 (fun (pre : List Nat) => (nats pre).length) (fun (pre : List Nat) => ints (nats pre)) (fun _ _ => True)) _) (OwnFrom.and (ownFrom_below (Nat.le_refl _) (by omega)) (fun _ A C _ hs hg _ => Nat.le_trans hs hg.size)))
    (fun _ _ _ _ _ hs _ _ => hs)
    ⟨⟨_, hbx, World.ownsRow_nil _ _ _ _, trivial⟩, kW.below, by omega⟩
    (fun x => { tmps := #[.pointer (some ⟨F, 0, none⟩), undef, .slice none 0 0, .pointer (some ⟨w.heap.size, 0, none⟩), .int .i64 (x : Nat), .pointer (some ⟨F, 0, none⟩), .func (.func 43) #[] #[.pointer (some ⟨w.heap.size + 1, 0, none⟩), .pointer (some ⟨w.heap.size + 1 + 1, 0, none⟩)], .int .i64 (x : Nat), .pointer (some ⟨T, x * 4, none⟩), undef, undef, undef, undef, undef], defers := [] }) ?assign ?body ?done ?stop
  case assign =>
    intro l x W K hK
    gi_wp2
    exact hK
  case body =>
    rintro l pre x W ⟨⟨v, hv, hrow, _⟩, hB, hN⟩ hlt
    have hcell := hv.cell
    have hlen := nats_length pre
    gi_wp2_with (gi_at_builtin; refine wpListIn_append_own _ rfl _ _ _ rfl (w.heap.size + 3) 3 i0 _ 1 8 Try.underlying39 hi hz0 hz1 hz2 rfl (by decide) _ _ _ rfl (hrow.alloc _) ⟨W.heap.size, 0, none⟩ 1 1 [.int .i64 (x : Nat)] rfl rfl (cell_one_new _ _ _) (by simp [Value.oneCell']) (by unfold maxLen; omega) (by omega) (by have := hB.size; simp; omega) ?_; intro v' w1 hown' hgrow _; obtain ⟨g', cap', rfl⟩ := ownsRow_succ hown'; obtain ⟨hv1, hv2, hr2, hk2, hb2⟩ := hv.appended (by decide) (own_mono hrow (Nat.le_add_right _ 3)) hB.size (Nat.le_refl _) (own_mono hown' (Nat.le_add_right _ 3)) hgrow; have hc1 := hv1.cell; have hf1 := hv1.frozen)
    have gr : World.grownBy (W.alloc (.cells #[.int .i64 (x : Nat)] 3)) w1 v.ownBlock := hgrow
    have own3 : (w1.setCell ⟨w.heap.size, 0, none⟩ (.slice (some ⟨g', 0, none⟩) ((nats pre).length + 1) cap')).ownsRow (w.heap.size + 3) 3 1 (.slice (some ⟨g', 0, none⟩) ((nats pre).length + 1) cap') ((nats pre).length + 1) (ints (nats pre) ++ [.int .i64 (x : Nat)]) :=
      own_same hown' fun g hg => by
        have := (hown'.lt g hg).1
        exact Below.heap_setCell _ _ _ _ (by simp; omega)
    have e1 : (nats (pre ++ [x])).length = (nats pre).length + 1 := by rw [nats_append]; simp [nats]
    have e2 : ints (nats (pre ++ [x])) = ints (nats pre) ++ [.int .i64 (x : Nat)] := by rw [nats_append, ints_append]; simp [nats, ints]
    have kk : KeepB (w.heap.size + 3) w.heap.size W (w1.setCell ⟨w.heap.size, 0, none⟩ (.slice (some ⟨g', 0, none⟩) ((nats pre).length + 1) cap')) := by
      refine ⟨hb2.size, fun k hk hkB => ?_⟩
      have hkW : k < W.heap.size := Nat.lt_of_lt_of_le hk hN
      rw [Below.heap_setCell _ _ _ _ (by simp; exact hkB), gr.block k (by simp; omega) (fun e => by have := (hrow.lt k e.symm).1; omega)]
      exact ((Kept.refl W).alloc _ _).below.block k hkW
    rw [hlen] at hv2 hk2 hb2 own3 kk e1
    refine ⟨hk2, kk, ⟨_, hv2, ?_, trivial⟩, hB.trans hb2, Nat.le_trans hN hb2.size⟩
    rw [e1, e2]
    exact own3
  case done =>
    rintro D' ys W hD rfl ⟨⟨v, hv, hrow, _⟩, hB, hN⟩ hK
    rw [← cores_busyTo] at hrow
    apply hK0
    have hcell := hv.cell
    go_wp2
    obtain ⟨a, c, rfl⟩ := own_form hrow
    refine ⟨by simp, .inl ⟨_, _, rfl, run_takeDeferred hK, ?_⟩⟩
    exact ⟨.slice a (cores s n).length c, by simp [results, Try.results18, go_sem], a, c, rfl, ⟨hB.trans (belowK_b (w := w) (Nat.le_refl _) W D' _ _ (by omega) hK rfl rfl)⟩, own_mono (ownsRow_putObj hrow _ hK rfl) (Nat.le_add_right _ _)⟩
  case stop =>
    rintro D' c pre W hD _ hx hK
    exact hx.elim

set_option maxRecDepth 100000 in
set_option maxHeartbeats 4000000 in
theorem busyL_none {w : World} {p : Option Addr} (h : NobF w p) :
    Calls Try.prog 18 #[.pointer p] w fun e w' => e = .returned (.slice none 0 0) ∧ Kept w w' := by
  refine (callsIn_wide (n := 6)).1 ?_
  refine callsIn_of_wp_marks Try.func18 rfl trivial ?_ rfl
  simp only [Try.ntmps18, List.size_toArray, List.length_cons, List.length_nil, Nat.reduceAdd, Nat.reduceSub, Array.replicate_succ, Array.replicate_zero, List.push_toArray, List.append_toArray, List.nil_append, List.cons_append]
  rw [wpIn_wide]
  go_wp2_with fail; refine (busy_none (h.kept ((Kept.refl w).alloc _ _))).mono ?_; rintro e w' ⟨rfl, rfl⟩
  go_wp2
  obtain ⟨W0, hW0⟩ : ∃ W0, w.alloc (.cells #[.slice none 0 0] 39) = W0 := ⟨_, rfl⟩
  have z0 : W0.heap.size = w.heap.size + 1 := by rw [← hW0]; simp
  have kW : Kept w W0 := by rw [← hW0]; exact (Kept.refl w).alloc _ _
  have hbx : Boxed W0 w.heap.size 39 (.slice none 0 0) := by rw [← hW0]; exact Boxed.new w _ _
  rw [hW0]
  clear hW0
  rename_i Q' K hK0
  rw [← wpIn_wide (n := 6)]
  refine wpIn_rangeFunc_ownF rfl (by decide) (gf := 41) (lb := #[]) rfl trivial (enters_of Try.func41 (by kernel_rfl) rfl)
    (nothing_stops 5 W0 0 0 w.heap.size) KeepB.trans
    (fun W l o o' hl h _ _ => ⟨by simp [World.putObj], fun k hk _ => absurd hk (Nat.not_lt_zero _)⟩) (Below.refl _ _) (fun _ => rfl)
    (fun (pre : List Nat) W => (∃ v, Boxed W w.heap.size 39 v ∧ W.ownsRow (w.heap.size + 1) 3 1 v 0 [] ∧ v = .slice none 0 0) ∧ Below w.heap.size w W)
    (fun _ _ _ => False)
    (OwnFrom.and (Own.from (holdsRow_own (w.heap.size + 1) w.heap.size 39 3 1 (fun _ => 0) (fun _ => []) (fun _ v => v = .slice none 0 0)) _) (ownFrom_below (Nat.le_refl _) (by omega)))
    (fun _ _ _ _ _ hs _ _ => hs)
    ⟨⟨_, hbx, World.ownsRow_nil _ _ _ _, rfl⟩, kW.below⟩
    (fun x => { tmps := #[.pointer p, undef, .slice none 0 0, .pointer (some ⟨w.heap.size, 0, none⟩), .int .i64 (x : Nat), .pointer p, .func (.func 41) #[] #[], .int .i64 (x : Nat), .pointer (some ⟨0, x * 4, none⟩), undef, undef, undef, undef, undef], defers := [] }) ?assign ?body ?done ?stop
  case assign =>
    intro l x W K hK
    gi_wp2
    exact hK
  case body =>
    rintro l pre x W _ hlt
    exact absurd hlt (Nat.not_lt_zero _)
  case done =>
    rintro D' ys W hD _ ⟨⟨v, hv, _, rfl⟩, hB⟩ hK
    apply hK0
    have hcell := hv.cell
    go_wp2
    refine ⟨by simp, .inl ⟨_, _, rfl, run_takeDeferred hK, ?_⟩⟩
    exact ⟨.slice none 0 0, by simp [results, Try.results18, go_sem], rfl, ⟨hB.trans (belowK_b (w := w) (Nat.le_refl _) W D' _ _ (by omega) hK rfl rfl)⟩⟩
  case stop =>
    rintro D' c pre W hD _ hx hK
    exact hx.elim

/-! ### Turn -/
def turnOf (s : St) (n : Nat) (x : Int) : Int := if (cores s n).length = 0 then -1 else (cores s n)[(x % ((cores s n).length : Int)).toNat]?.getD 0

theorem turn_mod (x n : Int) (hn : 0 < n) (hn' : n ≤ 1000) : (x.tmod n + n).tmod n = x % n := by
  have e := Int.tmod_eq_emod (a := x) (b := n)
  have h1 := Int.emod_nonneg x (show n ≠ 0 by omega)
  have h2 := Int.emod_lt_of_pos x hn
  have h3 : 0 ≤ x.tmod n + n := by split at e <;> omega
  rw [Int.tmod_eq_emod_of_nonneg h3]
  split at e
  · have e' : x.tmod n = x % n := by omega
    rw [e', Int.add_emod_right, Int.emod_emod_of_dvd _ (Int.dvd_refl _)]
  · rw [e]
    have : x % n - ↑n.natAbs + n = x % n := by omega
    rw [this, Int.emod_emod_of_dvd _ (Int.dvd_refl _)]

theorem Lies.int {w : World} {v : Value} {l : List Int} (h : Lies w v l.length (ints l)) (hp : 0 < l.length) : ∃ g o c, v = .slice (some ⟨g, o, none⟩) l.length c ∧ l.length ≤ c ∧ c ≤ maxLen ∧
    ∀ i d, l[i]? = some d → w.cell? ⟨g, o + i, none⟩ = some (.int .i64 d) := by
  rcases h with ⟨_, h, _⟩ | ⟨g, o, c, hv, h1, h2, hc⟩
  · omega
  · exact ⟨g, o, c, hv, h1, h2, fun i d hd => hc _ _ (ints_get l i d hd)⟩
theorem cores_length {m n : Nat} {s : St} (h : Fine n m s) : (cores s n).length ≤ 64 := by
  have := ents_length s 0 n
  have := h.n64
  simp [cores, Lf]
  omega

set_option maxHeartbeats 1000000 in
theorem turn_any {w : World} {F G T : Nat} {dv : Value} {base n m : Nat} {s : St} (h : PF w F G T dv base n m s) (x : Int) (hx1 : -9223372036854775808 ≤ x) (hx2 : x ≤ 9223372036854775807) :
    Calls Try.prog 23 #[.pointer (some ⟨F, 0, none⟩), .int .i64 x] w fun e w' => e = .returned (.int .i64 (turnOf s n x)) ∧ Kept w w' := by
  have hl := cores_length h.fine
  obtain ⟨N, hN⟩ : ∃ N, N = (cores s n).length := ⟨_, rfl⟩
  have hN64 : N ≤ 64 := by omega
  by_cases h0 : (cores s n).length = 0
  · have e : turnOf s n x = -1 := by simp [turnOf, h0]
    rw [e]
    have H := Lib.hid h
    clear h
    go_enter Try.func23, Try.ntmps23
    go_wp2_with fail; refine (busyL_held H.out).mono ?_; rintro e w1 ⟨a, c, rfl, k1, own1⟩
    rw [h0]
    go_wp2
    go_ret
    exact ⟨rfl, k1⟩
  · have hp : 0 < (cores s n).length := by omega
    have b1 := Int.emod_nonneg x (show ((cores s n).length : Int) ≠ 0 by omega)
    have b2 := Int.emod_lt_of_pos x (show (0 : Int) < ((cores s n).length : Int) by omega)
    have t0 := turn_mod x ((cores s n).length : Int) (by omega) (by omega)
    have b3 : -64 ≤ x.tmod ((cores s n).length : Int) ∧ x.tmod ((cores s n).length : Int) ≤ 64 := by
      have e := Int.tmod_eq_emod (a := x) (b := ((cores s n).length : Int))
      split at e <;> omega
    obtain ⟨b4, b5⟩ := b3
    obtain ⟨d, hd⟩ : ∃ d, (cores s n)[(x % ((cores s n).length : Int)).toNat]? = some d := ⟨_, List.getElem?_eq_getElem (by omega)⟩
    have e : turnOf s n x = d := by simp [turnOf, h0, hd]
    rw [e]
    have H := Lib.hid h
    have HD := Lib.hid hd
    clear h hd e
    go_enter Try.func23, Try.ntmps23
    go_wp2_with fail; refine (busyL_held H.out).mono ?_; rintro e w1 ⟨a, c, rfl, k1, own1⟩
    obtain ⟨g, o, c', hv, _, _, hc⟩ := (own_lies own1).int hp
    cases hv
    have c1 := hc _ _ HD.out
    obtain ⟨j, hj⟩ := Int.eq_ofNat_of_zero_le b1
    rw [hj] at c1 b2 t0
    rw [Int.toNat_natCast] at c1
    rw [← hN] at *
    have t1 : (wrap64 (x.tmod (N : Int) + (N : Int))).tmod (N : Int) = (j : Int) := by
      rw [show wrap64 (x.tmod (N : Int) + (N : Int)) = x.tmod (N : Int) + (N : Int) by unfold wrap64; omega]
      exact t0
    clear hc own1
    go_wp2
    go_ret
    exact ⟨rfl, k1⟩
theorem turn_none {w : World} {p : Option Addr} (h : NobF w p) (x : Int) :
    Calls Try.prog 23 #[.pointer p, .int .i64 x] w fun e w' => e = .returned (.int .i64 (-1)) ∧ Kept w w' := by
  have H := Lib.hid h
  clear h
  go_enter Try.func23, Try.ntmps23
  go_wp2_with fail; refine (busyL_none H.out).mono ?_; rintro e w1 ⟨rfl, k1⟩
  go_wp2
  go_ret
  exact ⟨rfl, k1⟩
end Go.Proofs.Ytdgajkimepgljaa
