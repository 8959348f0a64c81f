/- End over the program's frame. -/
import Derived.Test.YtdgajkimepgljaaFOps
import Derived.Deep.RegionHeld3
import Derived.Deep.RegionLaw
import Derived.Deep.DeepCutAuto
import Derived.Deep.CutBlock
namespace Go.Proofs.Ytdgajkimepgljaa
open Go.RowKit

theorem own_kept {w w' : World} {base : Nat} {v : Value} {l : List Dd} (h : OwnD w base v l) (k : Kept w w') : OwnD w' base v l :=
  own_same h fun g hg => k.below.block g (h.lt g hg).2
/-- A deed that has just been laid. -/
theorem lies_new {w : World} {g : Nat} {d : Dd} {t : TypeId} {fr : Nat × Nat} (h : w.heap[g]? = some (.cells #[.int .i64 d.1, .int .i64 d.2.1, .int .i64 d.2.2] t fr)) : Lies w (.slice (some ⟨g, 0, none⟩) 1 1) 1 (flat [d]) :=
  .inr ⟨g, 0, 1, rfl, Nat.le_refl _, by decide, fun j u hu => by
    have := World.news_of_block h j u hu
    rwa [add_none] at this⟩

/-- Behind the append. -/
def EndMid (w1 : World) (F G T base i : Nat) (v : Value) (n m : Nat) (s : St) (d : Value) (wr : World) : Prop :=
  d = .pointer (some ⟨T, i * 4, none⟩) ∧ ∃ v', OwnD wr base v' (s.D ++ [((i : Int), s.what i, s.steps i)]) ∧ But (fun k => v.ownBlock = some k ∨ k = G) w1 wr ∧ wr.cell? ⟨G, 1, none⟩ = some v' ∧
    (∀ o, o ≠ 1 → wr.cell? ⟨G, o, none⟩ = w1.cell? ⟨G, o, none⟩) ∧ ∀ g, v'.ownBlock = some g → v.ownBlock = some g ∨ w1.heap.size ≤ g
theorem EndMid.mk {w1 w2 : World} {F G T base i : Nat} {v v' : Value} {n m : Nat} {s : St} (own2 : OwnD w2 base v' (s.D ++ [((i : Int), s.what i, s.steps i)])) (q2 : But (fun k => v.ownBlock = some k) w1 w2) (c : w2.cell? ⟨G, 1, none⟩ = some v) (hG : v.ownBlock ≠ some G) (hlt : G < w1.heap.size)
    (hat : v'.ownBlock = v.ownBlock ∨ ∃ N, v'.ownBlock = some N ∧ w1.heap.size ≤ N) : EndMid w1 F G T base i v n m s (.pointer (some ⟨T, i * 4, none⟩)) (w2.setCell ⟨G, 1, none⟩ v') := by
  have hn : ∀ g, v'.ownBlock = some g → v.ownBlock = some g ∨ w1.heap.size ≤ g := by
    intro g hg
    rcases hat with h | ⟨N, h, hN⟩
    · exact .inl (h ▸ hg)
    · rw [h] at hg; cases hg; exact .inr hN
  refine ⟨rfl, v', own_but own2 ((But.refl (fun k => k = G) w2).here 1 v') (fun g hg e => ?_), (q2.mono fun _ _ h => .inl h).setCell (p := ⟨G, 1, none⟩) (.inl (.inr rfl)) _, ?_, fun o ho => ?_, hn⟩
  · subst e
    rcases hn g hg with h | h
    · exact hG h
    · omega
  · rw [World.cell?_setCell_same _ _ _ c]
  · rw [cell_set, if_neg (fun e => ho e.symm)]
    exact q2.cell G o hlt hG

set_option maxHeartbeats 4000000 in
theorem end_on {w : World} {F G T : Nat} {dv : Value} {base n m : Nat} {s : St} (h : PF w F G T dv base n m s) (hbase : base ≤ w.heap.size) (hm : m ≤ 1000) (i : Nat) (hi : i < n) (ho : s.on i = true) :
    Calls Try.prog 14 #[.pointer (some ⟨F, 0, none⟩), .int .i64 i] w fun e w' => e = .returned (.int .i64 0) ∧ But (MineP F G T dv) w w' ∧ ∃ dv', PF w' F G T dv' base n (m + 1) (s.fin i) ∧ ∀ g, dv'.ownBlock = some g → dv.ownBlock = some g ∨ w.heap.size ≤ g := by
  obtain ⟨a, c, hd⟩ := own_form h.own
  subst hd
  have H := Lib.hid h
  clear h
  go_enter Try.func14, Try.ntmps14
  go_wp2_with fail; refine (within_on H.out i hi ho).mono ?_; rintro e w1 ⟨rfl, k1⟩
  have H1 := Lib.hid (H.out.kept k1)
  have c0 := H1.out.ptr
  have c1 := H1.out.dee
  have d0 := H1.out.c0 i hi
  rw [ho] at d0
  have d1 := H1.out.c1 i hi
  have d2 := H1.out.c2 i hi
  have g1 := H1.out.softG 1
  have own := Lib.hid H1.out.own
  have s1 := k1.size
  have z1 := H1.out.fine.dm
  obtain ⟨i0, hi0, hz0, hz1, hz2⟩ := info_parts infoDeed
  have nF := H1.out.df
  have nG := H1.out.dg
  have nT := H1.out.dt
  have glt := H1.out.lt G (.inr (.inl rfl))
  have flt := H1.out.lt F (.inl rfl)
  have tlt := H1.out.lt T (.inr (.inr (.inl rfl)))
  rw [if_pos rfl] at d0
  go_upto_region 4 with fail
  go_cut [5] (EndMid w1 F G T base i (.slice a s.D.length c) n m s)
  case first =>
    go_upto_region 4 with fail
    go_region_law
      ((refine step_append_any _ (by rfl) _ _ _ (by rfl) base 59 i0 _ 3 24 Try.underlying41 hi0 hz0 hz1 hz2 (by rfl) (by decide) (.slice a s.D.length c) s.D.length (flat s.D) (by simp [Act.eval, Act.put]) (own_kept own.out (by repeat (first | with_reducible exact Kept.refl _ | with_reducible refine Kept.alloc ?_ _ _ | with_reducible refine Kept.drew ?_ | with_reducible refine Kept.drewN ?_ _))) _ 1 (flat [((i : Int), s.what i, s.steps i)]) (by simp [Act.eval, Act.put]) (by rfl) (lies_new (heap_alloc_new _ _)) (flat_one _) (by unfold maxLen; omega) (by omega) (by simp; omega) ?_; intro a' c' w2 own2 but2 at2; have q2 := ((((Kept.refl w1).alloc _ _).drew).but _).trans but2 (fun _ _ h => h); have g2 := q2.soft glt g1; have e2 := q2.some c1 nG; have e3 := q2.some c0 nF))
    all_goals go_wp2
    all_goals go_meet
    all_goals (
      have own3 : OwnD w2 base (.slice a' (s.D.length + 1) c') (s.D ++ [((i : Int), s.what i, s.steps i)]) := by
        have e : (s.D ++ [((i : Int), s.what i, s.steps i)]).length = s.D.length + 1 := by simp
        unfold OwnD
        rw [e, flat_append]
        exact own2
      have hat : (Value.slice a' (s.D.length + 1) c').ownBlock = (Value.slice a s.D.length c).ownBlock ∨ ∃ N, (Value.slice a' (s.D.length + 1) c').ownBlock = some N ∧ w1.heap.size ≤ N := at2.imp id fun h => ⟨_, h, by simp⟩
      first
        | exact EndMid.mk own3 q2 e2 nG glt hat
        | exact EndMid.mk (own_kept own3 (Kept.refl _).drew) q2.drew (by simpa using e2) nG glt hat)
  case rest =>
    obtain ⟨rfl, v', own3, b3, x1, xG, hat⟩ := hcut
    have hS : ∀ k, k ≠ G → (Value.slice a s.D.length c).ownBlock ≠ some k → ¬ ((Value.slice a s.D.length c).ownBlock = some k ∨ k = G) := fun k h1 h2 h => h.elim h2 h1
    have y0 := b3.some d0 (hS T H1.out.gt.symm nT)
    have y1 := b3.some d1 (hS T H1.out.gt.symm nT)
    have y2 := b3.some d2 (hS T H1.out.gt.symm nT)
    have y3 := b3.some (H1.out.c3 i hi) (hS T H1.out.gt.symm nT)
    have f0 := b3.soft tlt (H1.out.softT (i * 4))
    have f1 := b3.soft tlt (H1.out.softT (i * 4 + 1))
    have f2 := b3.soft tlt (H1.out.softT (i * 4 + 2))
    have f3 := b3.soft tlt (H1.out.softT (i * 4 + 3))
    have OW := Lib.hid own3
    have B3 := Lib.hid b3
    have HA := Lib.hid hat
    have XG := Lib.hid xG
    have HS := Lib.hid hS
    clear own3 b3 hat xG hS c0 c1 d0 d1 d2 g1
    go_wp2
    go_ret
    obtain ⟨w4, e4, b4, t0, t1, t2, t3, ts⟩ := slot4 (.int .i64 0) (.int .i64 0) (.int .i64 0) (.bool false) y0 y1 y2 y3
    rw [e4]
    have h1 := H1.out
    have tg : ∀ k, k ≠ T → ∀ o v, wc.cell? ⟨k, o, none⟩ = some v → w4.cell? ⟨k, o, none⟩ = some v := fun k hk o v h => b4.some h hk
    have bb : But (MineP F G T (.slice a s.D.length c)) w1 w4 := (B3.out.mono (T := MineP F G T (.slice a s.D.length c)) fun k _ h => h.elim (fun h => .inr (.inr (.inr h))) (fun h => .inr (.inl h))).trans (mineT b4) (fun _ _ h => h)
    have nv : ∀ g, v'.ownBlock = some g → g ≠ T := by
      rintro g hg rfl
      rcases HA.out g hg with h | h
      · exact nT h
      · omega
    refine ⟨rfl, (k1.but _).trans bb (fun _ _ h => h), v', ?_, fun g hg => (HA.out g hg).imp id (fun h => Nat.le_trans s1 h)⟩
    refine h1.put i false 0 0 (s.D ++ [((i : Int), s.what i, s.steps i)]) s.all (h1.fine.fin i) bb (tg F h1.ft _ _ (B3.out.some h1.ptr (HS.out F h1.fg nF))) (tg G h1.gt _ _ ((XG.out 0 (by decide)).trans h1.tab)) (tg G h1.gt _ _ x1) (tg G h1.gt _ _ ((XG.out 2 (by decide)).trans h1.all)) t0 t1 t2 t3 (fun j r hj hr => ?_) (own_but OW.out b4 (fun g hg => nv g hg)) HA.out
    rw [ts j r hj hr]
    exact B3.out.cell T _ tlt (HS.out T h1.gt.symm nT)

theorem end_any {w : World} {F G T : Nat} {dv : Value} {base n m : Nat} {s : St} (h : PF w F G T dv base n m s) (hbase : base ≤ w.heap.size) (hm : m ≤ 1000) (c : Int) :
    Calls Try.prog 14 #[.pointer (some ⟨F, 0, none⟩), .int .i64 c] w fun e w' => e = .returned (.int .i64 (sErr s n c)) ∧ But (MineP F G T dv) w w' ∧ ∃ dv', PF w' F G T dv' base n (m + 1) (eSt s c) ∧ ∀ g, dv'.ownBlock = some g → dv.ownBlock = some g ∨ w.heap.size ≤ g := by
  cases ho : s.on c with
  | true =>
    obtain ⟨h0, h1⟩ := h.fine.inn c ho
    obtain ⟨i, rfl⟩ := Int.eq_ofNat_of_zero_le h0
    rw [sErr_on h.fine ho]
    have e2 : eSt s i = s.fin i := by simp [eSt, ho]
    rw [e2]
    exact end_on h hbase hm i (by omega) ho
  | false =>
    have e2 : eSt s c = s := by simp [eSt, ho]
    rw [e2]
    have H := Lib.hid h
    have HE := Lib.hid (sErr_not (n := n) ho)
    have K : ∀ w' : World, Kept w w' → PF w' F G T dv base n (m + 1) s := fun _ hk => (H.out.kept hk).mono (Nat.le_succ _)
    have KK := Lib.hid K
    clear h e2 K
    rcases HE.out with he | he
    · go_enter Try.func14, Try.ntmps14
      go_wp2_with fail; refine (within_not H.out c ho).mono ?_; rintro e w1 ⟨rfl, k1⟩
      rw [he]
      go_wp2
      go_ret
      exact ⟨by rw [he]; rfl, k1.but _, _, KK.out _ k1, fun _ h => .inl h⟩
    · go_enter Try.func14, Try.ntmps14
      go_wp2_with fail; refine (within_not H.out c ho).mono ?_; rintro e w1 ⟨rfl, k1⟩
      rw [he]
      go_wp2
      go_ret
      exact ⟨by rw [he]; rfl, k1.but _, _, KK.out _ k1, fun _ h => .inl h⟩
theorem end_none {w : World} {p : Option Addr} (h : NobF w p) (c : Int) :
    Calls Try.prog 14 #[.pointer p, .int .i64 c] w fun e w' => e = .returned (.int .i64 1) ∧ w' = w := by
  have H := Lib.hid h
  clear h
  go_enter Try.func14, Try.ntmps14
  go_wp2_with fail; refine (within_none H.out c).mono ?_; rintro e w1 ⟨rfl, rfl⟩
  go_wp2
  go_ret
  exact ⟨rfl, rfl⟩
end Go.Proofs.Ytdgajkimepgljaa
