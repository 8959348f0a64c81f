/- The chapter's examples: of, Ahead, awake, EventKnown. -/
import Derived.Test.YtjbplbfedndjpaaEvPend
import Derived.Test.YtjbplbfedndjpaaEvMod2
import Derived.Deep.RegionHeld3
import Derived.KernelRfl
namespace Go.Proofs.Ytjbplbfedndjpaa
open Go.RowKit Go.Maps

/-! ### of -/
def evOf (x : Int) : Ev := if 0 < x then ⟨x, false, 0, 0, 0, 0, 0, 0, 0⟩ else ⟨-x, true, 0, 0, 0, 0, 0, 0, 0⟩
def ofL (l : List Int) : List Ev := l.map evOf
theorem ofL_take (l : List Int) (k : Nat) (x : Int) (hx : l[k]? = some x) : ofL (l.take (k + 1)) = ofL (l.take k) ++ [evOf x] := by
  unfold ofL; rw [take_snoc l k x hx, List.map_append]; rfl
theorem ofL_le (l : List Int) (k : Nat) : (ofL (l.take k)).length ≤ k := by
  unfold ofL; rw [List.length_map, List.length_take]; omega
def OfAt (w : World) (l : List Int) (v i : Value) (W : World) : Prop :=
  ∃ k : Nat, k ≤ l.length ∧ i = .int .i64 k ∧ Kept w W ∧ ∃ a c, v = .slice a (ofL (l.take k)).length c ∧ OwnE W w.heap.size (.slice a (ofL (l.take k)).length c) (ofL (l.take k))

set_option maxHeartbeats 4000000 in
theorem of_any {w : World} {v : Value} {l : List Int} (h : Lay w v l.length (ints l)) (hp : 0 < l.length) (hl : l.length ≤ 1000) (hb : ∀ x ∈ l, -1000 ≤ x ∧ x ≤ 1000) :
    Calls Try.prog 31 #[v] w (RetE w (ofL l)) := by
  obtain ⟨g, o, c, rfl, _, _, hc⟩ := h.num hp
  have HC := Lib.hid hc
  have HB := Lib.hid hb
  obtain ⟨n, hn⟩ : ∃ n, n = l.length := ⟨_, rfl⟩
  have HN := Lib.hid hn
  rw [← hn] at hl ⊢
  obtain ⟨i0, hi0, hz0, hz1, hz2⟩ := info_parts infoEv
  clear hc h hp hn hb
  go_enter Try.func31, Try.ntmps31
  go_wp2
  go_loopw [3, 4] (fun v i wr => OfAt w l v i wr) (fun _ i _ => n - (intOf i).toNat)
  case atStart => exact ⟨0, Nat.zero_le _, rfl, Kept.refl _, none, 0, by simp [ofL], by simp [ofL, flatE]; exact World.ownsRow_nil _ _ _ _⟩
  case round =>
    obtain ⟨k, hk, rfl, hkept, a2, c2, rfl, own2⟩ := hrel
    rw [← HN.out] at hk
    have KR := Lib.hid hkept
    have OW := Lib.hid own2
    clear hkept own2
    by_cases hlt : k < n
    · obtain ⟨x, hx⟩ : ∃ x, l[k]? = some x := ⟨_, List.getElem?_eq_getElem (by rw [← HN.out]; exact hlt)⟩
      have x0 := KR.out.some (HC.out k x hx)
      obtain ⟨bx1, bx2⟩ := HB.out x (List.mem_of_getElem? hx)
      have FS := Lib.hid (ofL_take l k x hx)
      have tl := ofL_le l k
      clear hx
      by_cases hz : 0 < x
      · have HZ := Lib.hid hz
        go_wp2_with (at_builtin; refine wpList_append_lay _ rfl _ _ _ rfl w.heap.size 51 i0 _ 9 72 Try.underlying22 hi0 hz0 hz1 hz2 (by rfl) (by decide) (.slice a2 (ofL (l.take k)).length c2) (ofL (l.take k)).length (flatE (ofL (l.take k))) (by simp [Act.eval, Act.put]) (own_kept OW.out ((Kept.refl _).alloc _ _)) _ 1 (flatE [Ev.mk x false 0 0 0 0 0 0 0]) (by simp [Act.eval, Act.put]) (flatE_length [_]) (lay_new (heap_alloc_new _ _) (by decide)) (flatE_one _) (by unfold maxLen; omega) (by omega) (by have := KR.out.size; simp; omega) ?_; intro a4 c4 w4 own4 but4 at4)
        go_roundw
        case rel =>
          have e3 : ofL (l.take (k + 1)) = ofL (l.take k) ++ [Ev.mk x false 0 0 0 0 0 0 0] := by rw [FS.out]; unfold evOf; rw [if_pos HZ.out]
          refine ⟨k + 1, by rw [← HN.out]; omega, by go_num, (((KR.out.alloc _ _).but _).trans but4 (fun _ _ h => h)).kept (fun b hb e => by have := (OW.out.lt b e).1; omega), a4, c4, by rw [e3]; simp, ?_⟩
          unfold OwnE
          rw [e3, flatE_snoc, List.length_append]
          simpa [flatE] using own4
        case measure => simp [intOf]; omega
      · have HZ := Lib.hid hz
        go_wp2_with (at_builtin; refine wpList_append_lay _ rfl _ _ _ rfl w.heap.size 51 i0 _ 9 72 Try.underlying22 hi0 hz0 hz1 hz2 (by rfl) (by decide) (.slice a2 (ofL (l.take k)).length c2) (ofL (l.take k)).length (flatE (ofL (l.take k))) (by simp [Act.eval, Act.put]) (own_kept OW.out ((Kept.refl _).alloc _ _)) _ 1 (flatE [Ev.mk (-x) true 0 0 0 0 0 0 0]) (by simp [Act.eval, Act.put]) (flatE_length [_]) (lay_new (heap_alloc_new _ _) (by decide)) (flatE_one _) (by unfold maxLen; omega) (by omega) (by have := KR.out.size; simp; omega) ?_; intro a4 c4 w4 own4 but4 at4)
        go_roundw
        case rel =>
          have e3 : ofL (l.take (k + 1)) = ofL (l.take k) ++ [Ev.mk (-x) true 0 0 0 0 0 0 0] := by rw [FS.out]; unfold evOf; rw [if_neg (by have := HZ.out; omega)]
          refine ⟨k + 1, by rw [← HN.out]; omega, by go_num, (((KR.out.alloc _ _).but _).trans but4 (fun _ _ h => h)).kept (fun b hb e => by have := (OW.out.lt b e).1; omega), a4, c4, by rw [e3]; simp, ?_⟩
          unfold OwnE
          rw [e3, flatE_snoc, List.length_append]
          simpa [flatE] using own4
        case measure => simp [intOf]; omega
    · have tt : ofL (l.take k) = ofL l := by rw [show k = l.length by rw [← HN.out]; omega, List.take_length]
      rw [tt] at OW ⊢
      clear tt
      go_wp2
      go_ret
      exact ⟨a2, c2, rfl, KR.out, OW.out⟩
theorem of_at {w : World} {v : Value} (l : List Int) (L : List Ev) (hL : ofL l = L) (h : Lay w v l.length (ints l)) (hp : 0 < l.length) (hl : l.length ≤ 1000) (hb : ∀ x ∈ l, -1000 ≤ x ∧ x ≤ 1000) :
    Calls Try.prog 31 #[v] w (RetE w L) := by subst hL; exact of_any h hp hl hb

/-! ### Ahead -/
theorem ahead_any (s t : Sp) (w : World) : Calls Try.prog 32 #[.agg #[.int .i64 s.id, .int .i64 s.from_, .int .i64 s.to, .int .i64 s.k, .int .i64 s.x, .int .i64 s.y, .int .u64 s.u, .int .i64 s.er, .int .i64 s.n, .int .u64 s.v], .agg #[.int .i64 t.id, .int .i64 t.from_, .int .i64 t.to, .int .i64 t.k, .int .i64 t.x, .int .i64 t.y, .int .u64 t.u, .int .i64 t.er, .int .i64 t.n, .int .u64 t.v]] w fun e w' => e = .returned (.bool (ahd s t)) ∧ Kept w w' := by
  unfold ahd
  by_cases h1 : 0 ≤ s.to
  · by_cases h2 : s.to < t.from_
    · go_enter Try.func32, Try.ntmps32
      go_wp2
      go_ret
      exact ⟨by simp [h1, h2], ((Kept.refl w).alloc _ _).alloc _ _⟩
    · go_enter Try.func32, Try.ntmps32
      go_wp2
      go_ret
      exact ⟨by simp [h1, h2], ((Kept.refl w).alloc _ _).alloc _ _⟩
  · go_enter Try.func32, Try.ntmps32
    go_wp2
    go_ret
    exact ⟨by rw [show decide (0 ≤ s.to) = false by simpa using h1]; rfl, ((Kept.refl w).alloc _ _).alloc _ _⟩
theorem ahead_at (s t : Sp) (q : Bool) (hq : ahd s t = q) (w : World) : Calls Try.prog 32 #[.agg #[.int .i64 s.id, .int .i64 s.from_, .int .i64 s.to, .int .i64 s.k, .int .i64 s.x, .int .i64 s.y, .int .u64 s.u, .int .i64 s.er, .int .i64 s.n, .int .u64 s.v], .agg #[.int .i64 t.id, .int .i64 t.from_, .int .i64 t.to, .int .i64 t.k, .int .i64 t.x, .int .i64 t.y, .int .u64 t.u, .int .i64 t.er, .int .i64 t.n, .int .u64 t.v]] w fun e w' => e = .returned (.bool q) ∧ Kept w w' := by
  subst hq; exact ahead_any s t w

/-! ### the example -/
def exH : List Ev := [⟨1, false, 0, 0, 0, 0, 0, 0, 0⟩, ⟨2, false, 0, 0, 0, 0, 0, 0, 0⟩, ⟨1, true, 0, 0, 0, 0, 0, 0, 0⟩, ⟨3, false, 0, 0, 0, 0, 0, 0, 0⟩, ⟨3, true, 0, 0, 0, 0, 0, 0, 0⟩]
def exS : List Sp := [⟨1, 0, 2, 0, 0, 0, 0, 0, 0, 0⟩, ⟨2, 1, -1, 0, 0, 0, 0, 0, 0, 0⟩, ⟨3, 3, 4, 0, 0, 0, 0, 0, 0, 0⟩]
theorem exH_wf : ∀ e ∈ exH, Wf e := by
  intro e he
  simp only [exH, List.mem_cons, List.not_mem_nil, or_false] at he
  rcases he with rfl | rfl | rfl | rfl | rfl <;> exact ⟨by decide, by decide⟩
theorem exH_of : ofL [1, 2, -1, 3, -3] = exH := by rfl
theorem exH_chk : chk exH = 0 := by decide +kernel
theorem exH_vd : Vd exH := vd_of_chk exH_chk
theorem exS_of : spans exH = exS := by rfl
theorem exH_most : (most exH).2 = 2 := by decide +kernel
/-- The example's spans in block g. -/
structure ExAt (w : World) (g : Nat) : Prop where
  c0 : w.cell? ⟨g, 0, none⟩ = some (.int .i64 1)
  c1 : w.cell? ⟨g, 1, none⟩ = some (.int .i64 0)
  c2 : w.cell? ⟨g, 2, none⟩ = some (.int .i64 2)
  c3 : w.cell? ⟨g, 3, none⟩ = some (.int .i64 0)
  c4 : w.cell? ⟨g, 4, none⟩ = some (.int .i64 0)
  c5 : w.cell? ⟨g, 5, none⟩ = some (.int .i64 0)
  c6 : w.cell? ⟨g, 6, none⟩ = some (.int .u64 0)
  c7 : w.cell? ⟨g, 7, none⟩ = some (.int .i64 0)
  c8 : w.cell? ⟨g, 8, none⟩ = some (.int .i64 0)
  c9 : w.cell? ⟨g, 9, none⟩ = some (.int .u64 0)
  c10 : w.cell? ⟨g, 10, none⟩ = some (.int .i64 2)
  c11 : w.cell? ⟨g, 11, none⟩ = some (.int .i64 1)
  c12 : w.cell? ⟨g, 12, none⟩ = some (.int .i64 (-1))
  c13 : w.cell? ⟨g, 13, none⟩ = some (.int .i64 0)
  c14 : w.cell? ⟨g, 14, none⟩ = some (.int .i64 0)
  c15 : w.cell? ⟨g, 15, none⟩ = some (.int .i64 0)
  c16 : w.cell? ⟨g, 16, none⟩ = some (.int .u64 0)
  c17 : w.cell? ⟨g, 17, none⟩ = some (.int .i64 0)
  c18 : w.cell? ⟨g, 18, none⟩ = some (.int .i64 0)
  c19 : w.cell? ⟨g, 19, none⟩ = some (.int .u64 0)
  c20 : w.cell? ⟨g, 20, none⟩ = some (.int .i64 3)
  c21 : w.cell? ⟨g, 21, none⟩ = some (.int .i64 3)
  c22 : w.cell? ⟨g, 22, none⟩ = some (.int .i64 4)
  c23 : w.cell? ⟨g, 23, none⟩ = some (.int .i64 0)
  c24 : w.cell? ⟨g, 24, none⟩ = some (.int .i64 0)
  c25 : w.cell? ⟨g, 25, none⟩ = some (.int .i64 0)
  c26 : w.cell? ⟨g, 26, none⟩ = some (.int .u64 0)
  c27 : w.cell? ⟨g, 27, none⟩ = some (.int .i64 0)
  c28 : w.cell? ⟨g, 28, none⟩ = some (.int .i64 0)
  c29 : w.cell? ⟨g, 29, none⟩ = some (.int .u64 0)
theorem ExAt.kept {w w' : World} {g : Nat} (h : ExAt w g) (k : Kept w w') : ExAt w' g :=
  ⟨k.some h.c0, k.some h.c1, k.some h.c2, k.some h.c3, k.some h.c4, k.some h.c5, k.some h.c6, k.some h.c7, k.some h.c8, k.some h.c9, k.some h.c10, k.some h.c11, k.some h.c12, k.some h.c13, k.some h.c14, k.some h.c15, k.some h.c16, k.some h.c17, k.some h.c18, k.some h.c19, k.some h.c20, k.some h.c21, k.some h.c22, k.some h.c23, k.some h.c24, k.some h.c25, k.some h.c26, k.some h.c27, k.some h.c28, k.some h.c29⟩
theorem own_sp {w : World} {base : Nat} {v : Value} {l : List Sp} (h : OwnS w base v l) (hp : 0 < l.length) : ∃ g c, v = .slice (some ⟨g, 0, none⟩) l.length c ∧ ∀ i s, l[i]? = some s → ∀ j u, j < 10 → (spc s)[j]? = some u → w.cell? ⟨g, i * 10 + j, none⟩ = some u := by
  rcases h.2 with ⟨_, h0⟩ | ⟨g, cap, cur, rfl, _, hg, _, _, _, h4⟩
  · omega
  · refine ⟨g, cap, rfl, fun i s hs j u hj hu => ?_⟩
    have hj2 : (flatS l)[i * 10 + j]? = some u := (flatS_get l i j s hs hj).trans hu
    rw [cell_of_row w g _ cur _ _ hg]
    rw [← h4] at hj2
    have hlt : i * 10 + j < l.length * 10 := by
      have := (List.getElem?_eq_some_iff.1 hs).1
      omega
    rw [List.getElem?_take_of_lt hlt] at hj2
    simpa using hj2
theorem exAt {w : World} {base : Nat} {v : Value} (h : OwnS w base v exS) : ∃ g c, v = .slice (some ⟨g, 0, none⟩) 3 c ∧ ExAt w g := by
  obtain ⟨g, c, hv, H⟩ := own_sp h (by decide)
  exact ⟨g, c, hv, ⟨H 0 _ rfl 0 _ (by decide) rfl, H 0 _ rfl 1 _ (by decide) rfl, H 0 _ rfl 2 _ (by decide) rfl, H 0 _ rfl 3 _ (by decide) rfl, H 0 _ rfl 4 _ (by decide) rfl, H 0 _ rfl 5 _ (by decide) rfl, H 0 _ rfl 6 _ (by decide) rfl, H 0 _ rfl 7 _ (by decide) rfl, H 0 _ rfl 8 _ (by decide) rfl, H 0 _ rfl 9 _ (by decide) rfl, H 1 _ rfl 0 _ (by decide) rfl, H 1 _ rfl 1 _ (by decide) rfl, H 1 _ rfl 2 _ (by decide) rfl, H 1 _ rfl 3 _ (by decide) rfl, H 1 _ rfl 4 _ (by decide) rfl, H 1 _ rfl 5 _ (by decide) rfl, H 1 _ rfl 6 _ (by decide) rfl, H 1 _ rfl 7 _ (by decide) rfl, H 1 _ rfl 8 _ (by decide) rfl, H 1 _ rfl 9 _ (by decide) rfl, H 2 _ rfl 0 _ (by decide) rfl, H 2 _ rfl 1 _ (by decide) rfl, H 2 _ rfl 2 _ (by decide) rfl, H 2 _ rfl 3 _ (by decide) rfl, H 2 _ rfl 4 _ (by decide) rfl, H 2 _ rfl 5 _ (by decide) rfl, H 2 _ rfl 6 _ (by decide) rfl, H 2 _ rfl 7 _ (by decide) rfl, H 2 _ rfl 8 _ (by decide) rfl, H 2 _ rfl 9 _ (by decide) rfl⟩⟩
end Go.Proofs.Ytjbplbfedndjpaa
