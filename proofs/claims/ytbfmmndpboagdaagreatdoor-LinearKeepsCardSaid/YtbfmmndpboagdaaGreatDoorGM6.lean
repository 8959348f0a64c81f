/- LinearKeeps. -/
import Derived.Test.YtbfmmndpboagdaaGreatDoorGM5
set_option maxRecDepth 20000
namespace Go.Proofs.YtbfmmndpboagdaaGreatDoor
open Go.RowKit Go.Shelf

theorem own_e {W V : World} {base g : Nat} (k : Kept (W.alloc (.cells #[] 29)) V) (hg : g = W.heap.size) (hb : base ≤ W.heap.size) : V.ownsRow base 29 10 (.slice (some ⟨g, 0, none⟩) 0 0) 0 [] := by
  subst hg
  exact own_mono (own_kept (own_empty W 29 10) k) hb
theorem lay_two (W : World) (E : Array Value) (t1 t2 : TypeId) (s : Sp) : Lay ((W.alloc (.cells E t1)).alloc (.cells #[.int .i64 s.id, .int .i64 s.from_, .int .i64 s.to, .int .i64 s.k, .int .i64 s.x, .int .i64 s.y, .int .u64 s.u, .int .i64 s.er, .int .i64 s.n, .int .u64 s.v] t2)) (.slice (some ⟨W.heap.size + 1, 0, none⟩) 1 1) 1 (flatS [s]) := by
  have : Lay ((W.alloc (.cells E t1)).alloc (.cells #[.int .i64 s.id, .int .i64 s.from_, .int .i64 s.to, .int .i64 s.k, .int .i64 s.x, .int .i64 s.y, .int .u64 s.u, .int .i64 s.er, .int .i64 s.n, .int .u64 s.v] t2)) (.slice (some ⟨(W.alloc (.cells E t1)).heap.size, 0, none⟩) 1 1) 1 (flatS [s]) := lay_new (heap_alloc_new _ _) (by decide)
  rw [World.size_alloc] at this
  exact this
abbrev opn (m : Sp) : Sp := ⟨m.id, m.from_, -1, m.k, m.x, m.y, m.u, m.er, m.n, m.v⟩
def WithRel (W : World) (n : Nat) (L : List Sp) (v : Value) (wx : World) : Prop := ∃ a c, v = .slice a (n + 1) c ∧ Kept W wx ∧ wx.ownsRow W.heap.size 29 10 (.slice a (n + 1) c) (n + 1) (flatS L)

def posn (l : List Sp) (o : List Nat) (x : Int) : Int := (whereI (idsO l o) x).elim (-1 : Int) (fun (i : Nat) => (i : Int))
theorem where_at {L : List Int} (h : L.Nodup) {i : Nat} {x : Int} (hx : L[i]? = some x) : whereI L x = some i := by
  unfold whereI
  rw [if_pos (List.mem_of_getElem? hx), idx_at h hx]
theorem where_some {L : List Int} {p : Nat} {x : Int} (h : whereI L x = some p) : L[p]? = some x := by
  unfold whereI at h
  split at h
  · rename_i hm
    obtain rfl := Option.some.inj h
    have := List.idxOf_lt_length_of_mem hm
    rw [List.getElem?_eq_getElem this, List.getElem_idxOf]
  · cases h
theorem id_at {l : List Sp} (hd : (idsM l).Nodup) {i j : Nat} {s t : Sp} (hi : l[i]? = some s) (hj : l[j]? = some t) (e : s.id = t.id) : i = j := by
  have h1 : (idsM l)[i]? = some s.id := by unfold idsM; rw [List.getElem?_map, hi]; rfl
  have h2 : (idsM l)[j]? = some s.id := by unfold idsM; rw [List.getElem?_map, hj, e]; rfl
  exact (List.getElem?_inj (List.getElem?_eq_some_iff.1 h1).1 hd).1 (h1.trans h2.symm)
theorem idsO_at {l : List Sp} {o : List Nat} {q i : Nat} {s : Sp} (hq : o[q]? = some i) (hs : l[i]? = some s) : (idsO l o)[q]? = some s.id := by
  unfold idsO
  rw [List.getElem?_map, hq, Option.map_some, hs]
  rfl
theorem idsO_of {l : List Sp} {o : List Nat} (hS : Said l o) {q : Nat} {x : Int} (h : (idsO l o)[q]? = some x) : ∃ i s, o[q]? = some i ∧ l[i]? = some s ∧ s.id = x := by
  unfold idsO at h
  rw [List.getElem?_map] at h
  obtain ⟨i, hi, e⟩ := Option.map_eq_some_iff.1 h
  obtain ⟨s, hs⟩ : ∃ s, l[i]? = some s := ⟨_, List.getElem?_eq_getElem (hS.lt i (List.mem_of_getElem? hi))⟩
  rw [hs] at e
  exact ⟨i, s, hi, hs, e⟩
theorem idsO_nodup {l : List Sp} {o : List Nat} (hS : Said l o) (hd : (idsM l).Nodup) : (idsO l o).Nodup := by
  rw [List.nodup_iff_pairwise_ne, List.pairwise_iff_getElem]
  intro i j hi hj hij e
  obtain ⟨i1, s1, h1, h2, h3⟩ := idsO_of hS (List.getElem?_eq_getElem hi)
  obtain ⟨i2, s2, g1, g2, g3⟩ := idsO_of hS (List.getElem?_eq_getElem hj)
  have := id_at hd h2 g2 (by rw [h3, g3, e])
  subst this
  exact absurd ((List.getElem?_inj (List.getElem?_eq_some_iff.1 h1).1 hS.nodup).1 (h1.trans g1.symm)) (by omega)
theorem keeps_order {l : List Sp} {o : List Nat} (hS : Said l o) (hd : (idsM l).Nodup) {i k : Nat} {s t : Sp} (hi : l[i]? = some s) (hk : l[k]? = some t) (hik : i ≠ k) (ha : ahd s t = true) (hp : posn l o t.id ≥ 0) : ¬ posn l o s.id > posn l o t.id := by
  unfold posn at hp ⊢
  cases hw : whereI (idsO l o) t.id with
  | none => rw [hw] at hp; simp at hp
  | some p =>
    obtain ⟨k', t', h1, h2, h3⟩ := idsO_of hS (where_some hw)
    have := id_at hd h2 hk h3
    subst this
    have hm := hS.ord p k' h1 i s t hi hk hik ha
    obtain ⟨q, hq⟩ := List.mem_iff_getElem?.1 hm
    have hqp : q < p := by have := (List.getElem?_eq_some_iff.1 hq).1; simp at this; omega
    rw [List.getElem?_take_of_lt hqp] at hq
    have := where_at (idsO_nodup hS hd) (idsO_at hq hi)
    rw [this]
    simp only [Option.elim_some]
    omega
theorem among_done {l : List Sp} {o : List Nat} (hS : Said l o) {i : Nat} {s : Sp} (hi : l[i]? = some s) (hp : 0 ≤ s.to) : (whereI (idsO l o) s.id).isSome = true := by
  obtain ⟨q, hq⟩ := List.mem_iff_getElem?.1 (hS.done i s hi (by unfold pend; simp; omega))
  rw [some_in]
  simpa using List.mem_of_getElem? (idsO_at hq hi)
def NoRel (W : World) (v : Value) (wx : World) : Prop := v = .bool false ∧ Kept W wx
theorem three {a b c : Bool} (h : (a && b && c) = true) : a = true ∧ b = true ∧ c = true := by
  cases a <;> cases b <;> cases c <;> simp_all
section
variable {P : Program} {ops : Array Oper} {Q : Exit → Act → World → Prop} {md : Region.Mode} {S : World → Prop}
theorem take_on {i : Nat} {oi : Oper} {v : Value} {fuel : Nat} {listed : Array Bool} {a : Act} {w : World} (hi : ops[i]? = some oi)
    (h3 : (Region.noSelect ops && Region.free md ops listed i && (Region.ready md ops listed).contains i) = true)
    (hw : Region.wanted oi (yielded ops a.tmps) = true) (hv : ∀ w, S w → (execOp a.eval oi).run P w = .ok (.value v) w)
    (hQ : ∀ c a w, Q (.panic c) (a.put oi.dst v) w → Q (.panic c) a w) (hS : S w)
    (h : wpAnyH P md ops Q S fuel (listed.setIfInBounds i true) (a.put oi.dst v) w) : wpAnyH P md ops Q S (fuel + 1) listed a w :=
  wpAnyH_take hi (three h3).1 (three h3).2.1 (three h3).2.2 hQ (Or.inl ⟨hw, hv⟩) hS h
theorem take_off {i : Nat} {oi : Oper} {fuel : Nat} {listed : Array Bool} {a : Act} {w : World} (hi : ops[i]? = some oi)
    (h3 : (Region.noSelect ops && Region.free md ops listed i && (Region.ready md ops listed).contains i) = true)
    (hw : Region.wanted oi (yielded ops a.tmps) = false)
    (hQ : ∀ c a w, Q (.panic c) (a.put oi.dst undef) w → Q (.panic c) a w) (hS : S w)
    (h : wpAnyH P md ops Q S fuel (listed.setIfInBounds i true) (a.put oi.dst undef) w) : wpAnyH P md ops Q S (fuel + 1) listed a w :=
  wpAnyH_take hi (three h3).1 (three h3).2.1 (three h3).2.2 hQ (Or.inr ⟨hw, rfl⟩) hS h
end
def KpRel (W : World) (n : Nat) (v : Value) (wr : World) : Prop := ∃ k : Nat, k ≤ n ∧ v = .int .i64 k ∧ Kept W wr
set_option maxRecDepth 100000 in
set_option maxHeartbeats 2000000 in
theorem keeps_law {w : World} {a : Option Addr} {n c : Nat} {l : List Sp} (mo room : Int) (h : Lay w (.slice a n c) n (flatS l)) (hn : n = l.length) (hW : WfA l) (m : Sp) (hm : WfA [m]) (hT : Po.Tab w) :
    Calls Tryz.prog 5 #[.int .i64 mo, .int .i64 room, .slice a n c, .agg #[.int .i64 m.id, .int .i64 m.from_, .int .i64 m.to, .int .i64 m.k, .int .i64 m.x, .int .i64 m.y, .int .u64 m.u, .int .i64 m.er, .int .i64 m.n, .int .u64 m.v]] w fun e w' => e = .returned (.bool true) ∧ Kept w w' := by
  have KN := Lib.hid (fun W (k : Kept w W) => known_any W (hT.kept k))
  have PK := Lib.hid (fun W => Po.pick_any room 4 (by decide) (by decide) W)
  have OR := Lib.hid (fun W (k : Kept w W) mo r => order_all (h.kept k) hn hW (hT.kept k) mo r)
  have HL := Lib.hid h
  have HN := Lib.hid hn
  have HT := Lib.hid hT
  obtain ⟨r, hr⟩ : ∃ r, room % 4 = r := ⟨_, rfl⟩
  have r0 : 0 ≤ r := by omega
  have r4 : r < 4 := by omega
  rw [hr] at PK
  clear h hn hT hr
  go_enter Tryz.func5, Tryz.ntmps5
  go_wp2_with fail; refine (KN.out _ (by (go_light; repeat (first | (with_reducible exact Kept.refl _) | (with_reducible assumption) | (with_reducible refine Kept.alloc ?_ _ _) | (with_reducible refine Kept.drew ?_) | (with_reducible refine Kept.drewN ?_ _) | ((with_reducible refine Kept.setCell ?_ ?_ _); rotate_left; focus (first | (simp; done) | (simp; omega))) | refine Kept.trans ?_ (by assumption))))).mono ?_; rintro e w1 ⟨rfl, k1⟩
  have K1 := Lib.hid k1
  clear k1
  go_wp2_with fail; refine (PK.out _).mono ?_; rintro e w2 ⟨rfl, rfl⟩
  by_cases h6 : 6 < n
  · have h6' : (6 : Int) < (n : Int) := by omega
    have KK := Lib.hid (show Kept w w1 from ((Kept.refl w).alloc _ _).trans K1.out)
    go_wp2
    go_ret
    exact ⟨rfl, KK.out⟩
  · have h6' : ¬ (6 : Int) < (n : Int) := by omega
    have KK := Lib.hid (show Kept w w1 from ((Kept.refl w).alloc _ _).trans K1.out)
    have BX := Lib.hid ((SpBox.at w m 29 _ rfl).kept K1.out)
    have SB := Lib.hid (show ∀ i, w1.frozen? ⟨w.heap.size, i, none⟩ = false from fun i => K1.out.soft (by simp) (soft_new _ _ _ _ _ rfl))
    go_wp2_with fail; refine (OR.out _ KK.out _ _).mono ?_; rintro e w2 ⟨k2, h2⟩
    have K2 := Lib.hid k2
    clear k2
    rcases h2 with ⟨hc, rfl⟩ | ⟨hc, h2⟩
    · go_wp2
      go_ret
      exact ⟨rfl, KK.out.trans K2.out⟩
    · have HC := Lib.hid hc
      clear hc
      have B2 := Lib.hid (BX.out.kept K2.out)
      have S2 := Lib.hid (show ∀ i, w2.frozen? ⟨w.heap.size, i, none⟩ = false from fun i => K2.out.soft (lt_of_cell BX.out.c0) (SB.out i))
      obtain ⟨b0, b1, b2, b3, b4, b5, b6, b7, b8, b9⟩ := B2.out
      have sB := S2.out
      have lB := lt_of_cell b0
      obtain ⟨W3, hW3⟩ : ∃ W3, w2.setCell ⟨w.heap.size, 2, none⟩ (.int .i64 (-1)) = W3 := ⟨_, rfl⟩
      have HW3 := Lib.hid hW3
      have KB := Lib.hid (show Kept w W3 by rw [← hW3]; exact (KK.out.trans K2.out).setCell (p := ⟨w.heap.size, 2, none⟩) (Nat.le_refl _) _)
      have K23 := Lib.hid (show But (fun k => k = w.heap.size) w2 W3 by rw [← hW3]; exact (But.refl _ _).here _ _)
      have B3 := Lib.hid (show SpBox W3 w.heap.size (opn m) by
        rw [← hW3]
        exact ⟨by rw [cell_set]; simp [b0], by rw [cell_set]; simp [b1], by rw [cell_set]; simp [b2], by rw [cell_set]; simp [b3], by rw [cell_set]; simp [b4], by rw [cell_set]; simp [b5], by rw [cell_set]; simp [b6], by rw [cell_set]; simp [b7], by rw [cell_set]; simp [b8], by rw [cell_set]; simp [b9]⟩)
      clear hW3
      obtain ⟨da, db, dc, bis, rfl, hf⟩ : ∃ da db dc bis, e = .returned (.tuple #[.slice da db dc, .bool bis, .int .i64 0]) ∧ ((bis = false ∧ dM mo (1 + r) l = none ∧ db = 0) ∨ (bis = true ∧ ∃ o, dM mo (1 + r) l = some o ∧ db = o.length ∧ OwnI w2 w1.heap.size (.slice da db dc) (idsO l o))) := by
        rcases h2 with ⟨hd, rfl⟩ | ⟨o, oa, oc, hd, rfl, own⟩
        · exact ⟨none, 0, 0, false, rfl, .inl ⟨rfl, hd, rfl⟩⟩
        · exact ⟨oa, o.length, oc, true, rfl, .inr ⟨rfl, o, hd, rfl, own⟩⟩
      have HF := Lib.hid hf
      clear hf
      go_upto_region 9 with fail
      rw [HW3.out]
      clear b0 b1 b2 b3 b4 b5 b6 b7 b8 b9 sB lB
      obtain ⟨b0, b1, b2, b3, b4, b5, b6, b7, b8, b9⟩ := B3.out
      dsimp only [opn] at b0 b1 b2 b3 b4 b5 b6 b7 b8 b9
      have lB := lt_of_cell b0
      go_cut [13] (WithRel W3 n (l ++ [(opn m)]))
      case first =>
        go_upto_region 9 with fail
        obtain ⟨i0, hi0, hz0, hz1, hz2⟩ := info_parts infoSp
        have H63 := Lib.hid (show ∀ k, k ≤ 100 → k ≤ maxLen from fun k h => by unfold maxLen; omega)
        go_region_law (first
          | (refine He.step_append_lay _ (by rfl) (.tmp 41) (.tmp 42) _ (by rfl) W3.heap.size 29 i0 _ 10 80 Tryz.underlying38 hi0 hz0 hz1 hz2 (by rfl) (by decide) (.slice (some ⟨W3.heap.size, 0, none⟩) 0 0) 0 [] rfl (own_e (by repeat (first | with_reducible exact Kept.refl _ | with_reducible refine Kept.alloc ?_ _ _ | with_reducible refine Kept.drew ?_)) (by simp) (by simp)) (.slice a n c) n (flatS l) (by simp [Act.eval]) (by rw [flatS_length, ← HN.out]) (HL.out.kept (by repeat (first | with_reducible exact KB.out | with_reducible refine Kept.alloc ?_ _ _ | with_reducible refine Kept.drew ?_))) (flatS_one _) (H63.out _ (by omega)) (by omega) (by first | (simp; done) | (simp; omega)) ?_
             intro a1 c1 w5 own5 but5 at5
             have k35 : Kept W3 w5 := Kept.put (by repeat (first | with_reducible exact Kept.refl _ | with_reducible refine Kept.alloc ?_ _ _ | with_reducible refine Kept.drew ?_)) but5 (fun j hj => by simp [Value.ownBlock] at hj; omega)
             have K35 := Lib.hid k35
             have O5 := Lib.hid (show w5.ownsRow W3.heap.size 29 10 (.slice a1 n c1) n (flatS l) by simpa using own5)
             have HB5 := Lib.hid but5
             clear own5 but5 at5 k35
             obtain ⟨b0, b1, b2, b3, b4, b5, b6, b7, b8, b9⟩ := B3.out.kept K35.out
             dsimp only [opn] at b0 b1 b2 b3 b4 b5 b6 b7 b8 b9)
          | (refine He.step_append_lay _ (by rfl) (.tmp 41) (.tmp 42) _ (by rfl) W3.heap.size 29 i0 _ 10 80 Tryz.underlying38 hi0 hz0 hz1 hz2 (by rfl) (by decide) (.slice (some ⟨W3.heap.size + 1, 0, none⟩) 0 0) 0 [] rfl (own_e (by repeat (first | with_reducible exact Kept.refl _ | with_reducible refine Kept.alloc ?_ _ _ | with_reducible refine Kept.drew ?_)) (by simp) (by simp)) (.slice a n c) n (flatS l) (by simp [Act.eval]) (by rw [flatS_length, ← HN.out]) (HL.out.kept (by repeat (first | with_reducible exact KB.out | with_reducible refine Kept.alloc ?_ _ _ | with_reducible refine Kept.drew ?_))) (flatS_one _) (H63.out _ (by omega)) (by omega) (by first | (simp; done) | (simp; omega)) ?_
             intro a1 c1 w5 own5 but5 at5
             have k35 : Kept W3 w5 := Kept.put (by repeat (first | with_reducible exact Kept.refl _ | with_reducible refine Kept.alloc ?_ _ _ | with_reducible refine Kept.drew ?_)) but5 (fun j hj => by simp [Value.ownBlock] at hj; omega)
             have K35 := Lib.hid k35
             have O5 := Lib.hid (show w5.ownsRow W3.heap.size 29 10 (.slice a1 n c1) n (flatS l) by simpa using own5)
             have HB5 := Lib.hid but5
             clear own5 but5 at5 k35
             obtain ⟨b0, b1, b2, b3, b4, b5, b6, b7, b8, b9⟩ := B3.out.kept K35.out
             dsimp only [opn] at b0 b1 b2 b3 b4 b5 b6 b7 b8 b9)
          | (refine He.step_append_lay _ (by rfl) (.tmp 43) (.tmp 45) _ (by rfl) W3.heap.size 29 i0 _ 10 80 Tryz.underlying38 hi0 hz0 hz1 hz2 (by rfl) (by decide) (.slice a1 n c1) n (flatS l) (by simp [Act.eval]) (own_kept O5.out (by repeat (first | with_reducible exact Kept.refl _ | with_reducible refine Kept.alloc ?_ _ _ | with_reducible refine Kept.drew ?_))) (.slice (some ⟨w5.heap.size, 0, none⟩) 1 1) 1 (flatS [opn m]) rfl (by rfl) (lay_new (heap_alloc_new _ _) (by decide)) (flatS_one _) (H63.out _ (by omega)) (by omega) (Nat.le_trans K35.out.size (by simp)) ?_
             intro a2 c2 w6 own6 but6 at6
             have K36 := Lib.hid (show Kept W3 w6 from Kept.put (w1 := w5.alloc (.cells #[.int .i64 (opn m).id, .int .i64 (opn m).from_, .int .i64 (opn m).to, .int .i64 (opn m).k, .int .i64 (opn m).x, .int .i64 (opn m).y, .int .u64 (opn m).u, .int .i64 (opn m).er, .int .i64 (opn m).n, .int .u64 (opn m).v] 29)) (K35.out.trans ((Kept.refl _).alloc _ _)) but6 (fun j hj => (O5.out.lt j hj).1))
             have O6 := Lib.hid (show w6.ownsRow W3.heap.size 29 10 (.slice a2 (n + 1) c2) (n + 1) (flatS (l ++ [opn m])) by rw [show flatS (l ++ [opn m]) = flatS l ++ flatS [opn m] by simp [flatS]]; exact own6)
             clear own6 but6 at6)
          | (refine He.step_append_lay _ (by rfl) (.tmp 43) (.tmp 45) _ (by rfl) W3.heap.size 29 i0 _ 10 80 Tryz.underlying38 hi0 hz0 hz1 hz2 (by rfl) (by decide) (.slice a1 n c1) n (flatS l) (by simp [Act.eval]) (own_kept O5.out (by repeat (first | with_reducible exact Kept.refl _ | with_reducible refine Kept.alloc ?_ _ _ | with_reducible refine Kept.drew ?_))) (.slice (some ⟨W3.heap.size + 1, 0, none⟩) 1 1) 1 (flatS [opn m]) rfl (by rfl) ((((lay_two _ _ _ _ _).kept (Kept.refl _).drew).but HB5.out (by simp [Value.ownBlock])).kept (by repeat (first | with_reducible exact Kept.refl _ | with_reducible refine Kept.alloc ?_ _ _ | with_reducible refine Kept.drew ?_))) (flatS_one _) (H63.out _ (by omega)) (by omega) (Nat.le_trans K35.out.size (by simp)) ?_
             intro a2 c2 w6 own6 but6 at6
             have K36 := Lib.hid (show Kept W3 w6 from Kept.put (w1 := w5) K35.out but6 (fun j hj => (O5.out.lt j hj).1))
             have O6 := Lib.hid (show w6.ownsRow W3.heap.size 29 10 (.slice a2 (n + 1) c2) (n + 1) (flatS (l ++ [opn m])) by rw [show flatS (l ++ [opn m]) = flatS l ++ flatS [opn m] by simp [flatS]]; exact own6)
             clear own6 but6 at6)
          | (refine He.step_append_lay _ (by rfl) (.tmp 43) (.tmp 45) _ (by rfl) W3.heap.size 29 i0 _ 10 80 Tryz.underlying38 hi0 hz0 hz1 hz2 (by rfl) (by decide) (.slice a1 n c1) n (flatS l) (by simp [Act.eval]) (own_kept O5.out (by repeat (first | with_reducible exact Kept.refl _ | with_reducible refine Kept.alloc ?_ _ _ | with_reducible refine Kept.drew ?_))) (.slice (some ⟨W3.heap.size, 0, none⟩) 1 1) 1 (flatS [opn m]) rfl (by rfl) ((((lay_new (heap_alloc_new W3 (.cells #[.int .i64 (opn m).id, .int .i64 (opn m).from_, .int .i64 (opn m).to, .int .i64 (opn m).k, .int .i64 (opn m).x, .int .i64 (opn m).y, .int .u64 (opn m).u, .int .i64 (opn m).er, .int .i64 (opn m).n, .int .u64 (opn m).v] 29)) (by decide) : Lay (W3.alloc (.cells #[.int .i64 (opn m).id, .int .i64 (opn m).from_, .int .i64 (opn m).to, .int .i64 (opn m).k, .int .i64 (opn m).x, .int .i64 (opn m).y, .int .u64 (opn m).u, .int .i64 (opn m).er, .int .i64 (opn m).n, .int .u64 (opn m).v] 29)) (.slice (some ⟨W3.heap.size, 0, none⟩) 1 1) 1 (flatS [opn m])).kept (((Kept.refl _).alloc _ _).drew)).but HB5.out (by simp [Value.ownBlock])).kept (by repeat (first | with_reducible exact Kept.refl _ | with_reducible refine Kept.alloc ?_ _ _ | with_reducible refine Kept.drew ?_))) (flatS_one _) (H63.out _ (by omega)) (by omega) (Nat.le_trans K35.out.size (by simp)) ?_
             intro a2 c2 w6 own6 but6 at6
             have K36 := Lib.hid (show Kept W3 w6 from Kept.put (w1 := w5) K35.out but6 (fun j hj => (O5.out.lt j hj).1))
             have O6 := Lib.hid (show w6.ownsRow W3.heap.size 29 10 (.slice a2 (n + 1) c2) (n + 1) (flatS (l ++ [opn m])) by rw [show flatS (l ++ [opn m]) = flatS l ++ flatS [opn m] by simp [flatS]]; exact own6)
             clear own6 but6 at6)
          | fail)
        all_goals go_wp2
        all_goals go_meet
        all_goals exact ⟨_, _, rfl, K36.out, O6.out⟩
      case rest =>
        obtain ⟨a6, c6, rfl, k6, own6⟩ := hcut
        rename_i wc _
        have K36 := Lib.hid k6
        have K6 := Lib.hid (KB.out.trans k6)
        have L6 := Lib.hid (own_lies own6).lay
        have WM := Lib.hid (show WfA (l ++ [opn m]) from ⟨fun s hs => by
          rcases List.mem_append.1 hs with h | h
          · exact hW.1 s h
          · rw [List.mem_singleton.1 h]; exact hm.1 m (List.mem_singleton_self _), fun s hs => by
          rcases List.mem_append.1 hs with h | h
          · exact hW.2 s h
          · rw [List.mem_singleton.1 h]; exact hm.2 m (List.mem_singleton_self _)⟩)
        have O2 := Lib.hid (order_all L6.out (by rw [List.length_append, ← HN.out]; rfl) WM.out (HT.out.kept K6.out) mo (1 + r))
        clear k6 own6 b0 b1 b2 b3 b4 b5 b6 b7 b8 b9 lB
        go_wp2_with fail; refine O2.out.mono ?_; rintro e w9 ⟨k9, h9⟩
        have K9 := Lib.hid (K6.out.trans k9)
        have K39 := Lib.hid (K36.out.trans k9)
        clear k9
        obtain ⟨ga, gb, gc, st, fv, rfl, hg⟩ : ∃ ga gb gc st fv, e = .returned (.tuple #[.slice ga gb gc, .bool st, .int .i64 fv]) ∧ ((fv == 0) = false ∨ (fv = 0 ∧ (st = true ∨ bis = false))) := by
          rcases h9 with ⟨hc, rfl⟩ | ⟨hc, ⟨hd, rfl⟩ | ⟨o, oa, oc, hd, rfl, own⟩⟩
          · exact ⟨none, 0, 0, false, _, rfl, .inl (by simpa using hc)⟩
          · refine ⟨none, 0, 0, false, 0, rfl, .inr ⟨rfl, .inr ?_⟩⟩
            rcases HF.out with ⟨hb, _⟩ | ⟨_, o, ho, _⟩
            · exact hb
            · exact absurd hd (dM_more (show pend (opn m) = true by simp [pend]) (chk_ok hc).2.1 ho)
          · exact ⟨oa, o.length, oc, true, 0, rfl, .inr ⟨rfl, .inl rfl⟩⟩
        have HG := Lib.hid hg
        clear hg h9
        cases bis with
        | false =>
          have hz : db = 0 := by
            rcases HF.out with ⟨_, _, h⟩ | ⟨h, _⟩
            · exact h
            · cases h
          subst hz
          clear HF
          cases hq : (fv == 0)
          all_goals cases st
          all_goals go_wp2
          all_goals go_ret
          all_goals exact ⟨rfl, K9.out⟩
        | true =>
          obtain ⟨o, hd, rfl, own⟩ : ∃ o, dM mo (1 + r) l = some o ∧ db = o.length ∧ OwnI w2 w1.heap.size (.slice da db dc) (idsO l o) := by
            rcases HF.out with ⟨h, _⟩ | ⟨_, h⟩
            · cases h
            · exact h
          have LA := Lib.hid (show Lay w9 (.slice da o.length dc) o.length (ints (idsO l o)) from by
            have := (((own_lies own).lay).but K23.out fun g hg e => by have := (own.lt g hg).1; have := lt_of_cell BX.out.c0; omega).kept K39.out
            simpa [idsO] using this)
          have SA := Lib.hid (dM_said hd)
          clear HF hd own
          have hst : (fv == 0) = false ∨ ((fv == 0) = true ∧ st = true) := by
            rcases HG.out with h | ⟨h, h2 | h2⟩
            · exact .inl h
            · exact .inr ⟨by simpa using h, h2⟩
            · cases h2
          clear HG
          go_upto_region 11 with fail
          go_cut [63] (NoRel w9)
          case first =>
            go_upto_region 11 with fail
            rcases hst with hq | ⟨hq, rfl⟩
            · cases st
              all_goals go_wp2
              all_goals go_meet
              all_goals exact ⟨rfl, Kept.refl _⟩
            · go_wp2
              go_meet
              exact ⟨rfl, Kept.refl _⟩
          case rest =>
            obtain ⟨rfl, kx⟩ := hcut
            have KX := Lib.hid kx
            clear kx hst
            go_wp2
            go_loopw [17, 18] (fun i _ wr => KpRel w9 n i wr) (fun i _ _ => n - (intOf i).toNat)
            case atStart => exact ⟨0, Nat.zero_le _, rfl, KX.out⟩
            case round =>
              obtain ⟨k, hkn, rfl, hk⟩ := hrel
              have KE := Lib.hid hk
              clear hk
              by_cases hlt : k < n
              · obtain ⟨s, hs⟩ : ∃ s, l[k]? = some s := ⟨_, List.getElem?_eq_getElem (by rw [← HN.out]; omega)⟩
                have HS := Lib.hid hs
                obtain ⟨g, p, rfl, c0, c1, c2, c3, c4, c5, c6, c7, c8, c9⟩ := sp_one (HL.out.kept (K9.out.trans KE.out)) HN.out k s hs
                have AM := Lib.hid (among_any (LA.out.kept KE.out) (by simp [idsO]) s.id)
                clear hs
                have HD := Lib.hid (fun h => among_done SA.out.1 HS.out h)
                go_upto_region 18 with fail
                go_cut [93] (NoRel wr)
                case first =>
                  go_upto_region 18 with fail
                  by_cases hto : 0 ≤ s.to
                  · rw [HD.out hto] at AM
                    clear HD
                    go_wp2_with fail; refine AM.out.mono ?_; rintro e w10 ⟨rfl, rfl⟩
                    go_wp2
                    go_meet
                    exact ⟨rfl, Kept.refl _⟩
                  · clear AM HD
                    go_wp2
                    go_meet
                    exact ⟨rfl, Kept.refl _⟩
                case rest =>
                  obtain ⟨rfl, kc⟩ := hcut
                  rename_i wc _
                  have KC := Lib.hid (KE.out.trans kc)
                  clear kc AM HD c0 c1 c2 c3 c4 c5 c6 c7 c8 c9
                  go_wp2
                  go_loopw [18] (fun i wr => KpRel wc n i wr) (fun i _ => n - (intOf i).toNat)
                  case atStart => exact ⟨0, Nat.zero_le _, rfl, Kept.refl _⟩
                  case round =>
                    obtain ⟨q, hqn, rfl, hk⟩ := hrel
                    have KI := Lib.hid hk
                    clear hk
                    by_cases hlt2 : q < n
                    · obtain ⟨s2, hs2⟩ : ∃ s2, l[q]? = some s2 := ⟨_, List.getElem?_eq_getElem (by rw [← HN.out]; omega)⟩
                      have HS2 := Lib.hid hs2
                      clear hs2
                      go_wp2
                      go_upto_region 23 with fail
                      go_cut [140] (NoRel wr)
                      case first =>
                        by_cases hkq : k = q
                        · subst hkq
                          have heq : ((k : Int) != (k : Int)) = false := by simp
                          go_upto_region 23 with fail
                          go_quiet (fail)
                          go_wp2
                          go_meet
                          exact ⟨rfl, (Kept.refl _).drewN _⟩
                        · have hne : ((k : Int) != (q : Int)) = true := by simp; omega
                          obtain ⟨g, p, e, c0, c1, c2, c3, c4, c5, c6, c7, c8, c9⟩ := sp_one (HL.out.kept (K9.out.trans (KC.out.trans KI.out))) HN.out k s HS.out
                          cases e
                          obtain ⟨g2, p2, e, d0, d1, d2, d3, d4, d5, d6, d7, d8, d9⟩ := sp_one (HL.out.kept (K9.out.trans (KC.out.trans KI.out))) HN.out q s2 HS2.out
                          cases e
                          have AH := Lib.hid (fun W => SH.ahead_any s s2 W)
                          have WQ := Lib.hid (fun W (K : Kept wr W) => where_any (LA.out.kept ((KC.out.trans KI.out).trans K)) (by simp [idsO]) s2.id)
                          have WK := Lib.hid (fun W (K : Kept wr W) => where_any (LA.out.kept ((KC.out.trans KI.out).trans K)) (by simp [idsO]) s.id)
                          have eQ : (whereI (idsO l o) s2.id).elim (-1 : Int) (fun (i : Nat) => (i : Int)) = posn l o s2.id := rfl
                          have eK : (whereI (idsO l o) s.id).elim (-1 : Int) (fun (i : Nat) => (i : Int)) = posn l o s.id := rfl
                          rw [eQ] at WQ
                          rw [eK] at WK
                          have ord : ahd s s2 = true → posn l o s2.id ≥ 0 → ¬ posn l o s.id > posn l o s2.id := fun h1 h2 => keeps_order SA.out.1 (twice_iff.1 (chk_ok HC.out).2.2) HS.out HS2.out hkq h1 h2
                          obtain ⟨b, hb⟩ : ∃ b, ahd s s2 = b := ⟨_, rfl⟩
                          obtain ⟨pq, hpq⟩ : ∃ z, posn l o s2.id = z := ⟨_, rfl⟩
                          obtain ⟨pk, hpk⟩ : ∃ z, posn l o s.id = z := ⟨_, rfl⟩
                          rw [hb] at AH
                          rw [hpq] at WQ
                          rw [hpk] at WK
                          rw [hb, hpq, hpk] at ord
                          have ORD := Lib.hid ord
                          clear ord hb hpq hpk eQ eK
                          go_upto_region 23 with fail
                          have KT : Kept wr wr.drew := (Kept.refl wr).drew
                          cases b with
                          | false =>
                            refine wp_region_held_drew (S := (fun w' => (w'.cell? ⟨g, p + k * 10, none⟩ = some (.int .i64 s.id) ∧ w'.cell? ⟨g, p + k * 10 + 1, none⟩ = some (.int .i64 s.from_) ∧ w'.cell? ⟨g, p + k * 10 + 2, none⟩ = some (.int .i64 s.to) ∧ w'.cell? ⟨g, p + k * 10 + 3, none⟩ = some (.int .i64 s.k) ∧ w'.cell? ⟨g, p + k * 10 + 4, none⟩ = some (.int .i64 s.x) ∧ w'.cell? ⟨g, p + k * 10 + 5, none⟩ = some (.int .i64 s.y) ∧ w'.cell? ⟨g, p + k * 10 + 6, none⟩ = some (.int .u64 s.u) ∧ w'.cell? ⟨g, p + k * 10 + 7, none⟩ = some (.int .i64 s.er) ∧ w'.cell? ⟨g, p + k * 10 + 8, none⟩ = some (.int .i64 s.n) ∧ w'.cell? ⟨g, p + k * 10 + 9, none⟩ = some (.int .u64 s.v)) ∧ (w'.cell? ⟨g, p + q * 10, none⟩ = some (.int .i64 s2.id) ∧ w'.cell? ⟨g, p + q * 10 + 1, none⟩ = some (.int .i64 s2.from_) ∧ w'.cell? ⟨g, p + q * 10 + 2, none⟩ = some (.int .i64 s2.to) ∧ w'.cell? ⟨g, p + q * 10 + 3, none⟩ = some (.int .i64 s2.k) ∧ w'.cell? ⟨g, p + q * 10 + 4, none⟩ = some (.int .i64 s2.x) ∧ w'.cell? ⟨g, p + q * 10 + 5, none⟩ = some (.int .i64 s2.y) ∧ w'.cell? ⟨g, p + q * 10 + 6, none⟩ = some (.int .u64 s2.u) ∧ w'.cell? ⟨g, p + q * 10 + 7, none⟩ = some (.int .i64 s2.er) ∧ w'.cell? ⟨g, p + q * 10 + 8, none⟩ = some (.int .i64 s2.n) ∧ w'.cell? ⟨g, p + q * 10 + 9, none⟩ = some (.int .u64 s2.v)))) (by kernel_rfl) ?_ (fun hHeld => ?_)
                            · exact ⟨⟨KT.some c0, KT.some c1, KT.some c2, KT.some c3, KT.some c4, KT.some c5, KT.some c6, KT.some c7, KT.some c8, KT.some c9⟩, ⟨KT.some d0, KT.some d1, KT.some d2, KT.some d3, KT.some d4, KT.some d5, KT.some d6, KT.some d7, KT.some d8, KT.some d9⟩⟩
                            refine take_on (i := 0) (oi := ?_) (v := ?_) ?_ (by kernel_rfl) ?_ ?_ ?_ hHeld ?_
                            rotate_left 2
                            · simp only [List.getElem?_toArray, List.getElem?_cons_zero]; exact rfl
                            · rfl
                            · intro w hSw; (try dsimp only at hSw); go_simp <;> with_reducible rfl
                            · exact fun _ _ _ h => h
                            simp only [Act.put, List.setIfInBounds_toArray, List.set_cons_zero, List.set_cons_succ]
                            refine take_on (i := 1) (oi := ?_) (v := ?_) ?_ (by kernel_rfl) ?_ ?_ ?_ hHeld ?_; rotate_left 2; (focus (simp only [List.getElem?_toArray, List.getElem?_cons_succ, List.getElem?_cons_zero]; exact rfl)); (focus (rfl)); (focus (intro w hSw; (try dsimp only at hSw); go_simp <;> with_reducible rfl)); (focus (exact fun _ _ _ h => h)); simp only [Act.put, List.setIfInBounds_toArray, List.set_cons_zero, List.set_cons_succ]
                            refine take_on (i := 2) (oi := ?_) (v := ?_) ?_ (by kernel_rfl) ?_ ?_ ?_ hHeld ?_; rotate_left 2; (focus (simp only [List.getElem?_toArray, List.getElem?_cons_succ, List.getElem?_cons_zero]; exact rfl)); (focus (rfl)); (focus (intro w hSw; (try dsimp only at hSw); go_simp <;> with_reducible rfl)); (focus (exact fun _ _ _ h => h)); simp only [Act.put, List.setIfInBounds_toArray, List.set_cons_zero, List.set_cons_succ]
                            refine take_on (i := 3) (oi := ?_) (v := ?_) ?_ (by kernel_rfl) ?_ ?_ ?_ hHeld ?_; rotate_left 2; (focus (simp only [List.getElem?_toArray, List.getElem?_cons_succ, List.getElem?_cons_zero]; exact rfl)); (focus (rfl)); (focus (intro w hSw; (try dsimp only at hSw); go_simp <;> with_reducible rfl)); (focus (exact fun _ _ _ h => h)); simp only [Act.put, List.setIfInBounds_toArray, List.set_cons_zero, List.set_cons_succ]
                            refine take_on (i := 4) (oi := ?_) (v := ?_) ?_ (by kernel_rfl) ?_ ?_ ?_ hHeld ?_; rotate_left 2; (focus (simp only [List.getElem?_toArray, List.getElem?_cons_succ, List.getElem?_cons_zero]; exact rfl)); (focus (rfl)); (focus (intro w hSw; (try dsimp only at hSw); go_simp <;> with_reducible rfl)); (focus (exact fun _ _ _ h => h)); simp only [Act.put, List.setIfInBounds_toArray, List.set_cons_zero, List.set_cons_succ]
                            refine take_on (i := 5) (oi := ?_) (v := ?_) ?_ (by kernel_rfl) ?_ ?_ ?_ hHeld ?_; rotate_left 2; (focus (simp only [List.getElem?_toArray, List.getElem?_cons_succ, List.getElem?_cons_zero]; exact rfl)); (focus (rfl)); (focus (intro w hSw; (try dsimp only at hSw); go_simp <;> with_reducible rfl)); (focus (exact fun _ _ _ h => h)); simp only [Act.put, List.setIfInBounds_toArray, List.set_cons_zero, List.set_cons_succ]
                            refine take_on (i := 6) (oi := ?_) (v := ?_) ?_ (by kernel_rfl) ?_ ?_ ?_ hHeld ?_; rotate_left 2; (focus (simp only [List.getElem?_toArray, List.getElem?_cons_succ, List.getElem?_cons_zero]; exact rfl)); (focus (rfl)); (focus (intro w hSw; (try dsimp only at hSw); go_simp <;> with_reducible rfl)); (focus (exact fun _ _ _ h => h)); simp only [Act.put, List.setIfInBounds_toArray, List.set_cons_zero, List.set_cons_succ]
                            refine take_on (i := 7) (oi := ?_) (v := ?_) ?_ (by kernel_rfl) ?_ ?_ ?_ hHeld ?_; rotate_left 2; (focus (simp only [List.getElem?_toArray, List.getElem?_cons_succ, List.getElem?_cons_zero]; exact rfl)); (focus (rfl)); (focus (intro w hSw; (try dsimp only at hSw); go_simp <;> with_reducible rfl)); (focus (exact fun _ _ _ h => h)); simp only [Act.put, List.setIfInBounds_toArray, List.set_cons_zero, List.set_cons_succ]
                            refine take_on (i := 8) (oi := ?_) (v := ?_) ?_ (by kernel_rfl) ?_ ?_ ?_ hHeld ?_; rotate_left 2; (focus (simp only [List.getElem?_toArray, List.getElem?_cons_succ, List.getElem?_cons_zero]; exact rfl)); (focus (rfl)); (focus (intro w hSw; (try dsimp only at hSw); go_simp <;> with_reducible rfl)); (focus (exact fun _ _ _ h => h)); simp only [Act.put, List.setIfInBounds_toArray, List.set_cons_zero, List.set_cons_succ]
                            refine take_on (i := 9) (oi := ?_) (v := ?_) ?_ (by kernel_rfl) ?_ ?_ ?_ hHeld ?_; rotate_left 2; (focus (simp only [List.getElem?_toArray, List.getElem?_cons_succ, List.getElem?_cons_zero]; exact rfl)); (focus (rfl)); (focus (intro w hSw; (try dsimp only at hSw); go_simp <;> with_reducible rfl)); (focus (exact fun _ _ _ h => h)); simp only [Act.put, List.setIfInBounds_toArray, List.set_cons_zero, List.set_cons_succ]
                            refine take_on (i := 10) (oi := ?_) (v := ?_) ?_ (by kernel_rfl) ?_ ?_ ?_ hHeld ?_; rotate_left 2; (focus (simp only [List.getElem?_toArray, List.getElem?_cons_succ, List.getElem?_cons_zero]; exact rfl)); (focus (rfl)); (focus (intro w hSw; (try dsimp only at hSw); go_simp <;> with_reducible rfl)); (focus (exact fun _ _ _ h => h)); simp only [Act.put, List.setIfInBounds_toArray, List.set_cons_zero, List.set_cons_succ]
                            refine take_on (i := 11) (oi := ?_) (v := ?_) ?_ (by kernel_rfl) ?_ ?_ ?_ hHeld ?_; rotate_left 2; (focus (simp only [List.getElem?_toArray, List.getElem?_cons_succ, List.getElem?_cons_zero]; exact rfl)); (focus (rfl)); (focus (intro w hSw; (try dsimp only at hSw); go_simp <;> with_reducible rfl)); (focus (exact fun _ _ _ h => h)); simp only [Act.put, List.setIfInBounds_toArray, List.set_cons_zero, List.set_cons_succ]
                            refine wpAnyH_ready (rs := [12]) (by kernel_rfl) (by simp) ?_
                            refine AllReadyH.cons (o := ?_) ?_ ?_ AllReadyH.nil
                            rotate_left 1
                            · simp only [List.getElem?_toArray, List.getElem?_cons_succ, List.getElem?_cons_zero]; exact rfl
                            intro K hK
                            go_simp
                            go_at_call 19; refine (AH.out _).mono ?_; rintro e v ⟨rfl, kx⟩; have KT2 : Kept wr v := KT.trans kx; have KT := KT2
                            go_wp2_with fail
                            clear hHeld
                            refine hK.out _ _ ?_ (fun hHeld => ?_)
                            · exact ⟨⟨KT.some c0, KT.some c1, KT.some c2, KT.some c3, KT.some c4, KT.some c5, KT.some c6, KT.some c7, KT.some c8, KT.some c9⟩, ⟨KT.some d0, KT.some d1, KT.some d2, KT.some d3, KT.some d4, KT.some d5, KT.some d6, KT.some d7, KT.some d8, KT.some d9⟩⟩
                            clear hK K
                            try simp only [Act.put, List.setIfInBounds_toArray, List.set_cons_zero, List.set_cons_succ]
                            refine take_on (i := 13) (oi := ?_) (v := ?_) ?_ (by kernel_rfl) ?_ ?_ ?_ hHeld ?_; rotate_left 2; (focus (simp only [List.getElem?_toArray, List.getElem?_cons_succ, List.getElem?_cons_zero]; exact rfl)); (focus (rfl)); (focus (intro w hSw; (try dsimp only at hSw); go_simp <;> with_reducible rfl)); (focus (exact fun _ _ _ h => h)); simp only [Act.put, List.setIfInBounds_toArray, List.set_cons_zero, List.set_cons_succ]
                            refine take_on (i := 14) (oi := ?_) (v := ?_) ?_ (by kernel_rfl) ?_ ?_ ?_ hHeld ?_; rotate_left 2; (focus (simp only [List.getElem?_toArray, List.getElem?_cons_succ, List.getElem?_cons_zero]; exact rfl)); (focus (rfl)); (focus (intro w hSw; (try dsimp only at hSw); go_simp <;> with_reducible rfl)); (focus (exact fun _ _ _ h => h)); simp only [Act.put, List.setIfInBounds_toArray, List.set_cons_zero, List.set_cons_succ]
                            refine take_off (i := 15) (oi := ?_) ?_ (by kernel_rfl) ?_ ?_ hHeld ?_; rotate_left 1; (focus (simp only [List.getElem?_toArray, List.getElem?_cons_succ, List.getElem?_cons_zero]; exact rfl)); (focus (rfl)); (focus (exact fun _ _ _ h => h)); simp only [Act.put, List.setIfInBounds_toArray, List.set_cons_zero, List.set_cons_succ]
                            refine take_off (i := 16) (oi := ?_) ?_ (by kernel_rfl) ?_ ?_ hHeld ?_; rotate_left 1; (focus (simp only [List.getElem?_toArray, List.getElem?_cons_succ, List.getElem?_cons_zero]; exact rfl)); (focus (rfl)); (focus (exact fun _ _ _ h => h)); simp only [Act.put, List.setIfInBounds_toArray, List.set_cons_zero, List.set_cons_succ]
                            refine take_off (i := 17) (oi := ?_) ?_ (by kernel_rfl) ?_ ?_ hHeld ?_; rotate_left 1; (focus (simp only [List.getElem?_toArray, List.getElem?_cons_succ, List.getElem?_cons_zero]; exact rfl)); (focus (rfl)); (focus (exact fun _ _ _ h => h)); simp only [Act.put, List.setIfInBounds_toArray, List.set_cons_zero, List.set_cons_succ]
                            refine take_off (i := 18) (oi := ?_) ?_ (by kernel_rfl) ?_ ?_ hHeld ?_; rotate_left 1; (focus (simp only [List.getElem?_toArray, List.getElem?_cons_succ, List.getElem?_cons_zero]; exact rfl)); (focus (rfl)); (focus (exact fun _ _ _ h => h)); simp only [Act.put, List.setIfInBounds_toArray, List.set_cons_zero, List.set_cons_succ]
                            refine take_off (i := 19) (oi := ?_) ?_ (by kernel_rfl) ?_ ?_ hHeld ?_; rotate_left 1; (focus (simp only [List.getElem?_toArray, List.getElem?_cons_succ, List.getElem?_cons_zero]; exact rfl)); (focus (rfl)); (focus (exact fun _ _ _ h => h)); simp only [Act.put, List.setIfInBounds_toArray, List.set_cons_zero, List.set_cons_succ]
                            refine take_off (i := 20) (oi := ?_) ?_ (by kernel_rfl) ?_ ?_ hHeld ?_; rotate_left 1; (focus (simp only [List.getElem?_toArray, List.getElem?_cons_succ, List.getElem?_cons_zero]; exact rfl)); (focus (rfl)); (focus (exact fun _ _ _ h => h)); simp only [Act.put, List.setIfInBounds_toArray, List.set_cons_zero, List.set_cons_succ]
                            refine take_off (i := 21) (oi := ?_) ?_ (by kernel_rfl) ?_ ?_ hHeld ?_; rotate_left 1; (focus (simp only [List.getElem?_toArray, List.getElem?_cons_succ, List.getElem?_cons_zero]; exact rfl)); (focus (rfl)); (focus (exact fun _ _ _ h => h)); simp only [Act.put, List.setIfInBounds_toArray, List.set_cons_zero, List.set_cons_succ]
                            refine take_off (i := 22) (oi := ?_) ?_ (by kernel_rfl) ?_ ?_ hHeld ?_; rotate_left 1; (focus (simp only [List.getElem?_toArray, List.getElem?_cons_succ, List.getElem?_cons_zero]; exact rfl)); (focus (rfl)); (focus (exact fun _ _ _ h => h)); simp only [Act.put, List.setIfInBounds_toArray, List.set_cons_zero, List.set_cons_succ]
                            refine take_on (i := 23) (oi := ?_) (v := ?_) ?_ (by kernel_rfl) ?_ ?_ ?_ hHeld ?_; rotate_left 2; (focus (simp only [List.getElem?_toArray, List.getElem?_cons_succ, List.getElem?_cons_zero]; exact rfl)); (focus (rfl)); (focus (intro w hSw; (try dsimp only at hSw); go_simp <;> with_reducible rfl)); (focus (exact fun _ _ _ h => h)); simp only [Act.put, List.setIfInBounds_toArray, List.set_cons_zero, List.set_cons_succ]
                            refine take_on (i := 24) (oi := ?_) (v := ?_) ?_ (by kernel_rfl) ?_ ?_ ?_ hHeld ?_; rotate_left 2; (focus (simp only [List.getElem?_toArray, List.getElem?_cons_succ, List.getElem?_cons_zero]; exact rfl)); (focus (rfl)); (focus (intro w hSw; (try dsimp only at hSw); go_simp <;> with_reducible rfl)); (focus (exact fun _ _ _ h => h)); simp only [Act.put, List.setIfInBounds_toArray, List.set_cons_zero, List.set_cons_succ]
                            refine take_off (i := 25) (oi := ?_) ?_ (by kernel_rfl) ?_ ?_ hHeld ?_; rotate_left 1; (focus (simp only [List.getElem?_toArray, List.getElem?_cons_succ, List.getElem?_cons_zero]; exact rfl)); (focus (rfl)); (focus (exact fun _ _ _ h => h)); simp only [Act.put, List.setIfInBounds_toArray, List.set_cons_zero, List.set_cons_succ]
                            refine take_off (i := 26) (oi := ?_) ?_ (by kernel_rfl) ?_ ?_ hHeld ?_; rotate_left 1; (focus (simp only [List.getElem?_toArray, List.getElem?_cons_succ, List.getElem?_cons_zero]; exact rfl)); (focus (rfl)); (focus (exact fun _ _ _ h => h)); simp only [Act.put, List.setIfInBounds_toArray, List.set_cons_zero, List.set_cons_succ]
                            refine take_off (i := 27) (oi := ?_) ?_ (by kernel_rfl) ?_ ?_ hHeld ?_; rotate_left 1; (focus (simp only [List.getElem?_toArray, List.getElem?_cons_succ, List.getElem?_cons_zero]; exact rfl)); (focus (rfl)); (focus (exact fun _ _ _ h => h)); simp only [Act.put, List.setIfInBounds_toArray, List.set_cons_zero, List.set_cons_succ]
                            refine take_off (i := 28) (oi := ?_) ?_ (by kernel_rfl) ?_ ?_ hHeld ?_; rotate_left 1; (focus (simp only [List.getElem?_toArray, List.getElem?_cons_succ, List.getElem?_cons_zero]; exact rfl)); (focus (rfl)); (focus (exact fun _ _ _ h => h)); simp only [Act.put, List.setIfInBounds_toArray, List.set_cons_zero, List.set_cons_succ]
                            refine take_off (i := 29) (oi := ?_) ?_ (by kernel_rfl) ?_ ?_ hHeld ?_; rotate_left 1; (focus (simp only [List.getElem?_toArray, List.getElem?_cons_succ, List.getElem?_cons_zero]; exact rfl)); (focus (rfl)); (focus (exact fun _ _ _ h => h)); simp only [Act.put, List.setIfInBounds_toArray, List.set_cons_zero, List.set_cons_succ]
                            refine take_off (i := 30) (oi := ?_) ?_ (by kernel_rfl) ?_ ?_ hHeld ?_; rotate_left 1; (focus (simp only [List.getElem?_toArray, List.getElem?_cons_succ, List.getElem?_cons_zero]; exact rfl)); (focus (rfl)); (focus (exact fun _ _ _ h => h)); simp only [Act.put, List.setIfInBounds_toArray, List.set_cons_zero, List.set_cons_succ]
                            refine take_off (i := 31) (oi := ?_) ?_ (by kernel_rfl) ?_ ?_ hHeld ?_; rotate_left 1; (focus (simp only [List.getElem?_toArray, List.getElem?_cons_succ, List.getElem?_cons_zero]; exact rfl)); (focus (rfl)); (focus (exact fun _ _ _ h => h)); simp only [Act.put, List.setIfInBounds_toArray, List.set_cons_zero, List.set_cons_succ]
                            refine take_off (i := 32) (oi := ?_) ?_ (by kernel_rfl) ?_ ?_ hHeld ?_; rotate_left 1; (focus (simp only [List.getElem?_toArray, List.getElem?_cons_succ, List.getElem?_cons_zero]; exact rfl)); (focus (rfl)); (focus (exact fun _ _ _ h => h)); simp only [Act.put, List.setIfInBounds_toArray, List.set_cons_zero, List.set_cons_succ]
                            refine take_off (i := 33) (oi := ?_) ?_ (by kernel_rfl) ?_ ?_ hHeld ?_; rotate_left 1; (focus (simp only [List.getElem?_toArray, List.getElem?_cons_succ, List.getElem?_cons_zero]; exact rfl)); (focus (rfl)); (focus (exact fun _ _ _ h => h)); simp only [Act.put, List.setIfInBounds_toArray, List.set_cons_zero, List.set_cons_succ]
                            refine take_off (i := 34) (oi := ?_) ?_ (by kernel_rfl) ?_ ?_ hHeld ?_; rotate_left 1; (focus (simp only [List.getElem?_toArray, List.getElem?_cons_succ, List.getElem?_cons_zero]; exact rfl)); (focus (rfl)); (focus (exact fun _ _ _ h => h)); simp only [Act.put, List.setIfInBounds_toArray, List.set_cons_zero, List.set_cons_succ]
                            refine take_off (i := 35) (oi := ?_) ?_ (by kernel_rfl) ?_ ?_ hHeld ?_; rotate_left 1; (focus (simp only [List.getElem?_toArray, List.getElem?_cons_succ, List.getElem?_cons_zero]; exact rfl)); (focus (rfl)); (focus (exact fun _ _ _ h => h)); simp only [Act.put, List.setIfInBounds_toArray, List.set_cons_zero, List.set_cons_succ]
                            refine take_off (i := 36) (oi := ?_) ?_ (by kernel_rfl) ?_ ?_ hHeld ?_; rotate_left 1; (focus (simp only [List.getElem?_toArray, List.getElem?_cons_succ, List.getElem?_cons_zero]; exact rfl)); (focus (rfl)); (focus (exact fun _ _ _ h => h)); simp only [Act.put, List.setIfInBounds_toArray, List.set_cons_zero, List.set_cons_succ]
                            refine take_off (i := 37) (oi := ?_) ?_ (by kernel_rfl) ?_ ?_ hHeld ?_; rotate_left 1; (focus (simp only [List.getElem?_toArray, List.getElem?_cons_succ, List.getElem?_cons_zero]; exact rfl)); (focus (rfl)); (focus (exact fun _ _ _ h => h)); simp only [Act.put, List.setIfInBounds_toArray, List.set_cons_zero, List.set_cons_succ]
                            refine take_off (i := 38) (oi := ?_) ?_ (by kernel_rfl) ?_ ?_ hHeld ?_; rotate_left 1; (focus (simp only [List.getElem?_toArray, List.getElem?_cons_succ, List.getElem?_cons_zero]; exact rfl)); (focus (rfl)); (focus (exact fun _ _ _ h => h)); simp only [Act.put, List.setIfInBounds_toArray, List.set_cons_zero, List.set_cons_succ]
                            refine take_off (i := 39) (oi := ?_) ?_ (by kernel_rfl) ?_ ?_ hHeld ?_; rotate_left 1; (focus (simp only [List.getElem?_toArray, List.getElem?_cons_succ, List.getElem?_cons_zero]; exact rfl)); (focus (rfl)); (focus (exact fun _ _ _ h => h)); simp only [Act.put, List.setIfInBounds_toArray, List.set_cons_zero, List.set_cons_succ]
                            refine take_on (i := 40) (oi := ?_) (v := ?_) ?_ (by kernel_rfl) ?_ ?_ ?_ hHeld ?_; rotate_left 2; (focus (simp only [List.getElem?_toArray, List.getElem?_cons_succ, List.getElem?_cons_zero]; exact rfl)); (focus (rfl)); (focus (intro w hSw; (try dsimp only at hSw); go_simp <;> with_reducible rfl)); (focus (exact fun _ _ _ h => h)); simp only [Act.put, List.setIfInBounds_toArray, List.set_cons_zero, List.set_cons_succ]
                            refine wpAnyH_done (by kernel_rfl) ?_ _
                            go_wp2
                            go_meet
                            exact ⟨rfl, KT⟩
                          | true =>
                            by_cases hq0 : pq ≥ 0
                            · have hgt : ¬ pk > pq := ORD.out rfl hq0
                              have hgd : decide (pq < pk) = false := decide_eq_false hgt
                              refine wp_region_held_drew (S := (fun w' => (w'.cell? ⟨g, p + k * 10, none⟩ = some (.int .i64 s.id) ∧ w'.cell? ⟨g, p + k * 10 + 1, none⟩ = some (.int .i64 s.from_) ∧ w'.cell? ⟨g, p + k * 10 + 2, none⟩ = some (.int .i64 s.to) ∧ w'.cell? ⟨g, p + k * 10 + 3, none⟩ = some (.int .i64 s.k) ∧ w'.cell? ⟨g, p + k * 10 + 4, none⟩ = some (.int .i64 s.x) ∧ w'.cell? ⟨g, p + k * 10 + 5, none⟩ = some (.int .i64 s.y) ∧ w'.cell? ⟨g, p + k * 10 + 6, none⟩ = some (.int .u64 s.u) ∧ w'.cell? ⟨g, p + k * 10 + 7, none⟩ = some (.int .i64 s.er) ∧ w'.cell? ⟨g, p + k * 10 + 8, none⟩ = some (.int .i64 s.n) ∧ w'.cell? ⟨g, p + k * 10 + 9, none⟩ = some (.int .u64 s.v)) ∧ (w'.cell? ⟨g, p + q * 10, none⟩ = some (.int .i64 s2.id) ∧ w'.cell? ⟨g, p + q * 10 + 1, none⟩ = some (.int .i64 s2.from_) ∧ w'.cell? ⟨g, p + q * 10 + 2, none⟩ = some (.int .i64 s2.to) ∧ w'.cell? ⟨g, p + q * 10 + 3, none⟩ = some (.int .i64 s2.k) ∧ w'.cell? ⟨g, p + q * 10 + 4, none⟩ = some (.int .i64 s2.x) ∧ w'.cell? ⟨g, p + q * 10 + 5, none⟩ = some (.int .i64 s2.y) ∧ w'.cell? ⟨g, p + q * 10 + 6, none⟩ = some (.int .u64 s2.u) ∧ w'.cell? ⟨g, p + q * 10 + 7, none⟩ = some (.int .i64 s2.er) ∧ w'.cell? ⟨g, p + q * 10 + 8, none⟩ = some (.int .i64 s2.n) ∧ w'.cell? ⟨g, p + q * 10 + 9, none⟩ = some (.int .u64 s2.v)))) (by kernel_rfl) ?_ (fun hHeld => ?_)
                              · exact ⟨⟨KT.some c0, KT.some c1, KT.some c2, KT.some c3, KT.some c4, KT.some c5, KT.some c6, KT.some c7, KT.some c8, KT.some c9⟩, ⟨KT.some d0, KT.some d1, KT.some d2, KT.some d3, KT.some d4, KT.some d5, KT.some d6, KT.some d7, KT.some d8, KT.some d9⟩⟩
                              refine take_on (i := 0) (oi := ?_) (v := ?_) ?_ (by kernel_rfl) ?_ ?_ ?_ hHeld ?_
                              rotate_left 2
                              · simp only [List.getElem?_toArray, List.getElem?_cons_zero]; exact rfl
                              · rfl
                              · intro w hSw; (try dsimp only at hSw); go_simp <;> with_reducible rfl
                              · exact fun _ _ _ h => h
                              simp only [Act.put, List.setIfInBounds_toArray, List.set_cons_zero, List.set_cons_succ]
                              refine take_on (i := 1) (oi := ?_) (v := ?_) ?_ (by kernel_rfl) ?_ ?_ ?_ hHeld ?_; rotate_left 2; (focus (simp only [List.getElem?_toArray, List.getElem?_cons_succ, List.getElem?_cons_zero]; exact rfl)); (focus (rfl)); (focus (intro w hSw; (try dsimp only at hSw); go_simp <;> with_reducible rfl)); (focus (exact fun _ _ _ h => h)); simp only [Act.put, List.setIfInBounds_toArray, List.set_cons_zero, List.set_cons_succ]
                              refine take_on (i := 2) (oi := ?_) (v := ?_) ?_ (by kernel_rfl) ?_ ?_ ?_ hHeld ?_; rotate_left 2; (focus (simp only [List.getElem?_toArray, List.getElem?_cons_succ, List.getElem?_cons_zero]; exact rfl)); (focus (rfl)); (focus (intro w hSw; (try dsimp only at hSw); go_simp <;> with_reducible rfl)); (focus (exact fun _ _ _ h => h)); simp only [Act.put, List.setIfInBounds_toArray, List.set_cons_zero, List.set_cons_succ]
                              refine take_on (i := 3) (oi := ?_) (v := ?_) ?_ (by kernel_rfl) ?_ ?_ ?_ hHeld ?_; rotate_left 2; (focus (simp only [List.getElem?_toArray, List.getElem?_cons_succ, List.getElem?_cons_zero]; exact rfl)); (focus (rfl)); (focus (intro w hSw; (try dsimp only at hSw); go_simp <;> with_reducible rfl)); (focus (exact fun _ _ _ h => h)); simp only [Act.put, List.setIfInBounds_toArray, List.set_cons_zero, List.set_cons_succ]
                              refine take_on (i := 4) (oi := ?_) (v := ?_) ?_ (by kernel_rfl) ?_ ?_ ?_ hHeld ?_; rotate_left 2; (focus (simp only [List.getElem?_toArray, List.getElem?_cons_succ, List.getElem?_cons_zero]; exact rfl)); (focus (rfl)); (focus (intro w hSw; (try dsimp only at hSw); go_simp <;> with_reducible rfl)); (focus (exact fun _ _ _ h => h)); simp only [Act.put, List.setIfInBounds_toArray, List.set_cons_zero, List.set_cons_succ]
                              refine take_on (i := 5) (oi := ?_) (v := ?_) ?_ (by kernel_rfl) ?_ ?_ ?_ hHeld ?_; rotate_left 2; (focus (simp only [List.getElem?_toArray, List.getElem?_cons_succ, List.getElem?_cons_zero]; exact rfl)); (focus (rfl)); (focus (intro w hSw; (try dsimp only at hSw); go_simp <;> with_reducible rfl)); (focus (exact fun _ _ _ h => h)); simp only [Act.put, List.setIfInBounds_toArray, List.set_cons_zero, List.set_cons_succ]
                              refine take_on (i := 6) (oi := ?_) (v := ?_) ?_ (by kernel_rfl) ?_ ?_ ?_ hHeld ?_; rotate_left 2; (focus (simp only [List.getElem?_toArray, List.getElem?_cons_succ, List.getElem?_cons_zero]; exact rfl)); (focus (rfl)); (focus (intro w hSw; (try dsimp only at hSw); go_simp <;> with_reducible rfl)); (focus (exact fun _ _ _ h => h)); simp only [Act.put, List.setIfInBounds_toArray, List.set_cons_zero, List.set_cons_succ]
                              refine take_on (i := 7) (oi := ?_) (v := ?_) ?_ (by kernel_rfl) ?_ ?_ ?_ hHeld ?_; rotate_left 2; (focus (simp only [List.getElem?_toArray, List.getElem?_cons_succ, List.getElem?_cons_zero]; exact rfl)); (focus (rfl)); (focus (intro w hSw; (try dsimp only at hSw); go_simp <;> with_reducible rfl)); (focus (exact fun _ _ _ h => h)); simp only [Act.put, List.setIfInBounds_toArray, List.set_cons_zero, List.set_cons_succ]
                              refine take_on (i := 8) (oi := ?_) (v := ?_) ?_ (by kernel_rfl) ?_ ?_ ?_ hHeld ?_; rotate_left 2; (focus (simp only [List.getElem?_toArray, List.getElem?_cons_succ, List.getElem?_cons_zero]; exact rfl)); (focus (rfl)); (focus (intro w hSw; (try dsimp only at hSw); go_simp <;> with_reducible rfl)); (focus (exact fun _ _ _ h => h)); simp only [Act.put, List.setIfInBounds_toArray, List.set_cons_zero, List.set_cons_succ]
                              refine take_on (i := 9) (oi := ?_) (v := ?_) ?_ (by kernel_rfl) ?_ ?_ ?_ hHeld ?_; rotate_left 2; (focus (simp only [List.getElem?_toArray, List.getElem?_cons_succ, List.getElem?_cons_zero]; exact rfl)); (focus (rfl)); (focus (intro w hSw; (try dsimp only at hSw); go_simp <;> with_reducible rfl)); (focus (exact fun _ _ _ h => h)); simp only [Act.put, List.setIfInBounds_toArray, List.set_cons_zero, List.set_cons_succ]
                              refine take_on (i := 10) (oi := ?_) (v := ?_) ?_ (by kernel_rfl) ?_ ?_ ?_ hHeld ?_; rotate_left 2; (focus (simp only [List.getElem?_toArray, List.getElem?_cons_succ, List.getElem?_cons_zero]; exact rfl)); (focus (rfl)); (focus (intro w hSw; (try dsimp only at hSw); go_simp <;> with_reducible rfl)); (focus (exact fun _ _ _ h => h)); simp only [Act.put, List.setIfInBounds_toArray, List.set_cons_zero, List.set_cons_succ]
                              refine take_on (i := 11) (oi := ?_) (v := ?_) ?_ (by kernel_rfl) ?_ ?_ ?_ hHeld ?_; rotate_left 2; (focus (simp only [List.getElem?_toArray, List.getElem?_cons_succ, List.getElem?_cons_zero]; exact rfl)); (focus (rfl)); (focus (intro w hSw; (try dsimp only at hSw); go_simp <;> with_reducible rfl)); (focus (exact fun _ _ _ h => h)); simp only [Act.put, List.setIfInBounds_toArray, List.set_cons_zero, List.set_cons_succ]
                              refine wpAnyH_ready (rs := [12]) (by kernel_rfl) (by simp) ?_
                              refine AllReadyH.cons (o := ?_) ?_ ?_ AllReadyH.nil
                              rotate_left 1
                              · simp only [List.getElem?_toArray, List.getElem?_cons_succ, List.getElem?_cons_zero]; exact rfl
                              intro K hK
                              go_simp
                              go_at_call 19; refine (AH.out _).mono ?_; rintro e v ⟨rfl, kx⟩; have KT2 : Kept wr v := KT.trans kx; have KT := KT2
                              go_wp2_with fail
                              clear hHeld
                              refine hK.out _ _ ?_ (fun hHeld => ?_)
                              · exact ⟨⟨KT.some c0, KT.some c1, KT.some c2, KT.some c3, KT.some c4, KT.some c5, KT.some c6, KT.some c7, KT.some c8, KT.some c9⟩, ⟨KT.some d0, KT.some d1, KT.some d2, KT.some d3, KT.some d4, KT.some d5, KT.some d6, KT.some d7, KT.some d8, KT.some d9⟩⟩
                              clear hK K
                              try simp only [Act.put, List.setIfInBounds_toArray, List.set_cons_zero, List.set_cons_succ]
                              refine take_on (i := 13) (oi := ?_) (v := ?_) ?_ (by kernel_rfl) ?_ ?_ ?_ hHeld ?_; rotate_left 2; (focus (simp only [List.getElem?_toArray, List.getElem?_cons_succ, List.getElem?_cons_zero]; exact rfl)); (focus (rfl)); (focus (intro w hSw; (try dsimp only at hSw); go_simp <;> with_reducible rfl)); (focus (exact fun _ _ _ h => h)); simp only [Act.put, List.setIfInBounds_toArray, List.set_cons_zero, List.set_cons_succ]
                              refine take_on (i := 14) (oi := ?_) (v := ?_) ?_ (by kernel_rfl) ?_ ?_ ?_ hHeld ?_; rotate_left 2; (focus (simp only [List.getElem?_toArray, List.getElem?_cons_succ, List.getElem?_cons_zero]; exact rfl)); (focus (rfl)); (focus (intro w hSw; (try dsimp only at hSw); go_simp <;> with_reducible rfl)); (focus (exact fun _ _ _ h => h)); simp only [Act.put, List.setIfInBounds_toArray, List.set_cons_zero, List.set_cons_succ]
                              refine take_on (i := 15) (oi := ?_) (v := ?_) ?_ (by kernel_rfl) ?_ ?_ ?_ hHeld ?_; rotate_left 2; (focus (simp only [List.getElem?_toArray, List.getElem?_cons_succ, List.getElem?_cons_zero]; exact rfl)); (focus (rfl)); (focus (intro w hSw; (try dsimp only at hSw); go_simp <;> with_reducible rfl)); (focus (exact fun _ _ _ h => h)); simp only [Act.put, List.setIfInBounds_toArray, List.set_cons_zero, List.set_cons_succ]
                              refine take_on (i := 16) (oi := ?_) (v := ?_) ?_ (by kernel_rfl) ?_ ?_ ?_ hHeld ?_; rotate_left 2; (focus (simp only [List.getElem?_toArray, List.getElem?_cons_succ, List.getElem?_cons_zero]; exact rfl)); (focus (rfl)); (focus (intro w hSw; (try dsimp only at hSw); go_simp <;> with_reducible rfl)); (focus (exact fun _ _ _ h => h)); simp only [Act.put, List.setIfInBounds_toArray, List.set_cons_zero, List.set_cons_succ]
                              refine take_on (i := 17) (oi := ?_) (v := ?_) ?_ (by kernel_rfl) ?_ ?_ ?_ hHeld ?_; rotate_left 2; (focus (simp only [List.getElem?_toArray, List.getElem?_cons_succ, List.getElem?_cons_zero]; exact rfl)); (focus (rfl)); (focus (intro w hSw; (try dsimp only at hSw); go_simp <;> with_reducible rfl)); (focus (exact fun _ _ _ h => h)); simp only [Act.put, List.setIfInBounds_toArray, List.set_cons_zero, List.set_cons_succ]
                              refine take_on (i := 18) (oi := ?_) (v := ?_) ?_ (by kernel_rfl) ?_ ?_ ?_ hHeld ?_; rotate_left 2; (focus (simp only [List.getElem?_toArray, List.getElem?_cons_succ, List.getElem?_cons_zero]; exact rfl)); (focus (rfl)); (focus (intro w hSw; (try dsimp only at hSw); go_simp <;> with_reducible rfl)); (focus (exact fun _ _ _ h => h)); simp only [Act.put, List.setIfInBounds_toArray, List.set_cons_zero, List.set_cons_succ]
                              refine take_on (i := 19) (oi := ?_) (v := ?_) ?_ (by kernel_rfl) ?_ ?_ ?_ hHeld ?_; rotate_left 2; (focus (simp only [List.getElem?_toArray, List.getElem?_cons_succ, List.getElem?_cons_zero]; exact rfl)); (focus (rfl)); (focus (intro w hSw; (try dsimp only at hSw); go_simp <;> with_reducible rfl)); (focus (exact fun _ _ _ h => h)); simp only [Act.put, List.setIfInBounds_toArray, List.set_cons_zero, List.set_cons_succ]
                              refine take_on (i := 20) (oi := ?_) (v := ?_) ?_ (by kernel_rfl) ?_ ?_ ?_ hHeld ?_; rotate_left 2; (focus (simp only [List.getElem?_toArray, List.getElem?_cons_succ, List.getElem?_cons_zero]; exact rfl)); (focus (rfl)); (focus (intro w hSw; (try dsimp only at hSw); go_simp <;> with_reducible rfl)); (focus (exact fun _ _ _ h => h)); simp only [Act.put, List.setIfInBounds_toArray, List.set_cons_zero, List.set_cons_succ]
                              refine wpAnyH_ready (rs := [21]) (by kernel_rfl) (by simp) ?_
                              refine AllReadyH.cons (o := ?_) ?_ ?_ AllReadyH.nil
                              rotate_left 1
                              · simp only [List.getElem?_toArray, List.getElem?_cons_succ, List.getElem?_cons_zero]; exact rfl
                              intro K hK
                              go_simp
                              go_at_call 20; refine (WQ.out _ KT).mono ?_; rintro e v ⟨rfl, rfl⟩
                              go_wp2_with fail
                              clear hHeld
                              refine hK.out _ _ ?_ (fun hHeld => ?_)
                              · exact ⟨⟨KT.some c0, KT.some c1, KT.some c2, KT.some c3, KT.some c4, KT.some c5, KT.some c6, KT.some c7, KT.some c8, KT.some c9⟩, ⟨KT.some d0, KT.some d1, KT.some d2, KT.some d3, KT.some d4, KT.some d5, KT.some d6, KT.some d7, KT.some d8, KT.some d9⟩⟩
                              clear hK K
                              try simp only [Act.put, List.setIfInBounds_toArray, List.set_cons_zero, List.set_cons_succ]
                              refine take_on (i := 22) (oi := ?_) (v := ?_) ?_ (by kernel_rfl) ?_ ?_ ?_ hHeld ?_; rotate_left 2; (focus (simp only [List.getElem?_toArray, List.getElem?_cons_succ, List.getElem?_cons_zero]; exact rfl)); (focus (rfl)); (focus (intro w hSw; (try dsimp only at hSw); go_simp <;> with_reducible rfl)); (focus (exact fun _ _ _ h => h)); simp only [Act.put, List.setIfInBounds_toArray, List.set_cons_zero, List.set_cons_succ]
                              refine take_on (i := 23) (oi := ?_) (v := ?_) ?_ (by kernel_rfl) ?_ ?_ ?_ hHeld ?_; rotate_left 2; (focus (simp only [List.getElem?_toArray, List.getElem?_cons_succ, List.getElem?_cons_zero]; exact rfl)); (focus (rfl)); (focus (intro w hSw; (try dsimp only at hSw); go_simp <;> with_reducible rfl)); (focus (exact fun _ _ _ h => h)); simp only [Act.put, List.setIfInBounds_toArray, List.set_cons_zero, List.set_cons_succ]
                              refine take_on (i := 24) (oi := ?_) (v := ?_) ?_ (by kernel_rfl) ?_ ?_ ?_ hHeld ?_; rotate_left 2; (focus (simp only [List.getElem?_toArray, List.getElem?_cons_succ, List.getElem?_cons_zero]; exact rfl)); (focus (rfl)); (focus (intro w hSw; (try dsimp only at hSw); go_simp <;> with_reducible rfl)); (focus (exact fun _ _ _ h => h)); simp only [Act.put, List.setIfInBounds_toArray, List.set_cons_zero, List.set_cons_succ]
                              refine take_on (i := 25) (oi := ?_) (v := ?_) ?_ (by kernel_rfl) ?_ ?_ ?_ hHeld ?_; rotate_left 2; (focus (simp only [List.getElem?_toArray, List.getElem?_cons_succ, List.getElem?_cons_zero]; exact rfl)); (focus (rfl)); (focus (intro w hSw; (try dsimp only at hSw); go_simp <;> with_reducible rfl)); (focus (exact fun _ _ _ h => h)); simp only [Act.put, List.setIfInBounds_toArray, List.set_cons_zero, List.set_cons_succ]
                              refine take_on (i := 26) (oi := ?_) (v := ?_) ?_ (by kernel_rfl) ?_ ?_ ?_ hHeld ?_; rotate_left 2; (focus (simp only [List.getElem?_toArray, List.getElem?_cons_succ, List.getElem?_cons_zero]; exact rfl)); (focus (rfl)); (focus (intro w hSw; (try dsimp only at hSw); go_simp <;> with_reducible rfl)); (focus (exact fun _ _ _ h => h)); simp only [Act.put, List.setIfInBounds_toArray, List.set_cons_zero, List.set_cons_succ]
                              refine take_on (i := 27) (oi := ?_) (v := ?_) ?_ (by kernel_rfl) ?_ ?_ ?_ hHeld ?_; rotate_left 2; (focus (simp only [List.getElem?_toArray, List.getElem?_cons_succ, List.getElem?_cons_zero]; exact rfl)); (focus (rfl)); (focus (intro w hSw; (try dsimp only at hSw); go_simp <;> with_reducible rfl)); (focus (exact fun _ _ _ h => h)); simp only [Act.put, List.setIfInBounds_toArray, List.set_cons_zero, List.set_cons_succ]
                              refine take_on (i := 28) (oi := ?_) (v := ?_) ?_ (by kernel_rfl) ?_ ?_ ?_ hHeld ?_; rotate_left 2; (focus (simp only [List.getElem?_toArray, List.getElem?_cons_succ, List.getElem?_cons_zero]; exact rfl)); (focus (rfl)); (focus (intro w hSw; (try dsimp only at hSw); go_simp <;> with_reducible rfl)); (focus (exact fun _ _ _ h => h)); simp only [Act.put, List.setIfInBounds_toArray, List.set_cons_zero, List.set_cons_succ]
                              refine take_on (i := 29) (oi := ?_) (v := ?_) ?_ (by kernel_rfl) ?_ ?_ ?_ hHeld ?_; rotate_left 2; (focus (simp only [List.getElem?_toArray, List.getElem?_cons_succ, List.getElem?_cons_zero]; exact rfl)); (focus (rfl)); (focus (intro w hSw; (try dsimp only at hSw); go_simp <;> with_reducible rfl)); (focus (exact fun _ _ _ h => h)); simp only [Act.put, List.setIfInBounds_toArray, List.set_cons_zero, List.set_cons_succ]
                              refine take_on (i := 30) (oi := ?_) (v := ?_) ?_ (by kernel_rfl) ?_ ?_ ?_ hHeld ?_; rotate_left 2; (focus (simp only [List.getElem?_toArray, List.getElem?_cons_succ, List.getElem?_cons_zero]; exact rfl)); (focus (rfl)); (focus (intro w hSw; (try dsimp only at hSw); go_simp <;> with_reducible rfl)); (focus (exact fun _ _ _ h => h)); simp only [Act.put, List.setIfInBounds_toArray, List.set_cons_zero, List.set_cons_succ]
                              refine take_on (i := 32) (oi := ?_) (v := ?_) ?_ (by kernel_rfl) ?_ ?_ ?_ hHeld ?_; rotate_left 2; (focus (simp only [List.getElem?_toArray, List.getElem?_cons_succ, List.getElem?_cons_zero]; exact rfl)); (focus (rfl)); (focus (intro w hSw; (try dsimp only at hSw); go_simp <;> with_reducible rfl)); (focus (exact fun _ _ _ h => h)); simp only [Act.put, List.setIfInBounds_toArray, List.set_cons_zero, List.set_cons_succ]
                              refine take_on (i := 33) (oi := ?_) (v := ?_) ?_ (by kernel_rfl) ?_ ?_ ?_ hHeld ?_; rotate_left 2; (focus (simp only [List.getElem?_toArray, List.getElem?_cons_succ, List.getElem?_cons_zero]; exact rfl)); (focus (rfl)); (focus (intro w hSw; (try dsimp only at hSw); go_simp <;> with_reducible rfl)); (focus (exact fun _ _ _ h => h)); simp only [Act.put, List.setIfInBounds_toArray, List.set_cons_zero, List.set_cons_succ]
                              refine take_on (i := 34) (oi := ?_) (v := ?_) ?_ (by kernel_rfl) ?_ ?_ ?_ hHeld ?_; rotate_left 2; (focus (simp only [List.getElem?_toArray, List.getElem?_cons_succ, List.getElem?_cons_zero]; exact rfl)); (focus (rfl)); (focus (intro w hSw; (try dsimp only at hSw); go_simp <;> with_reducible rfl)); (focus (exact fun _ _ _ h => h)); simp only [Act.put, List.setIfInBounds_toArray, List.set_cons_zero, List.set_cons_succ]
                              refine take_on (i := 35) (oi := ?_) (v := ?_) ?_ (by kernel_rfl) ?_ ?_ ?_ hHeld ?_; rotate_left 2; (focus (simp only [List.getElem?_toArray, List.getElem?_cons_succ, List.getElem?_cons_zero]; exact rfl)); (focus (rfl)); (focus (intro w hSw; (try dsimp only at hSw); go_simp <;> with_reducible rfl)); (focus (exact fun _ _ _ h => h)); simp only [Act.put, List.setIfInBounds_toArray, List.set_cons_zero, List.set_cons_succ]
                              refine take_on (i := 36) (oi := ?_) (v := ?_) ?_ (by kernel_rfl) ?_ ?_ ?_ hHeld ?_; rotate_left 2; (focus (simp only [List.getElem?_toArray, List.getElem?_cons_succ, List.getElem?_cons_zero]; exact rfl)); (focus (rfl)); (focus (intro w hSw; (try dsimp only at hSw); go_simp <;> with_reducible rfl)); (focus (exact fun _ _ _ h => h)); simp only [Act.put, List.setIfInBounds_toArray, List.set_cons_zero, List.set_cons_succ]
                              refine take_on (i := 37) (oi := ?_) (v := ?_) ?_ (by kernel_rfl) ?_ ?_ ?_ hHeld ?_; rotate_left 2; (focus (simp only [List.getElem?_toArray, List.getElem?_cons_succ, List.getElem?_cons_zero]; exact rfl)); (focus (rfl)); (focus (intro w hSw; (try dsimp only at hSw); go_simp <;> with_reducible rfl)); (focus (exact fun _ _ _ h => h)); simp only [Act.put, List.setIfInBounds_toArray, List.set_cons_zero, List.set_cons_succ]
                              refine wpAnyH_ready (rs := [31]) (by kernel_rfl) (by simp) ?_
                              refine AllReadyH.cons (o := ?_) ?_ ?_ AllReadyH.nil
                              rotate_left 1
                              · simp only [List.getElem?_toArray, List.getElem?_cons_succ, List.getElem?_cons_zero]; exact rfl
                              intro K hK
                              go_simp
                              go_at_call 20; refine (WK.out _ KT).mono ?_; rintro e v ⟨rfl, rfl⟩
                              go_wp2_with fail
                              clear hHeld
                              refine hK.out _ _ ?_ (fun hHeld => ?_)
                              · exact ⟨⟨KT.some c0, KT.some c1, KT.some c2, KT.some c3, KT.some c4, KT.some c5, KT.some c6, KT.some c7, KT.some c8, KT.some c9⟩, ⟨KT.some d0, KT.some d1, KT.some d2, KT.some d3, KT.some d4, KT.some d5, KT.some d6, KT.some d7, KT.some d8, KT.some d9⟩⟩
                              clear hK K
                              try simp only [Act.put, List.setIfInBounds_toArray, List.set_cons_zero, List.set_cons_succ]
                              refine wpAnyH_ready (rs := [38]) (by kernel_rfl) (by simp) ?_
                              refine AllReadyH.cons (o := ?_) ?_ ?_ AllReadyH.nil
                              rotate_left 1
                              · simp only [List.getElem?_toArray, List.getElem?_cons_succ, List.getElem?_cons_zero]; exact rfl
                              intro K hK
                              go_simp
                              go_at_call 20; refine (WQ.out _ KT).mono ?_; rintro e v ⟨rfl, rfl⟩
                              go_wp2_with fail
                              clear hHeld
                              refine hK.out _ _ ?_ (fun hHeld => ?_)
                              · exact ⟨⟨KT.some c0, KT.some c1, KT.some c2, KT.some c3, KT.some c4, KT.some c5, KT.some c6, KT.some c7, KT.some c8, KT.some c9⟩, ⟨KT.some d0, KT.some d1, KT.some d2, KT.some d3, KT.some d4, KT.some d5, KT.some d6, KT.some d7, KT.some d8, KT.some d9⟩⟩
                              clear hK K
                              try simp only [Act.put, List.setIfInBounds_toArray, List.set_cons_zero, List.set_cons_succ]
                              refine take_on (i := 39) (oi := ?_) (v := ?_) ?_ (by kernel_rfl) ?_ ?_ ?_ hHeld ?_; rotate_left 2; (focus (simp only [List.getElem?_toArray, List.getElem?_cons_succ, List.getElem?_cons_zero]; exact rfl)); (focus (rfl)); (focus (intro w hSw; (try dsimp only at hSw); go_simp <;> with_reducible rfl)); (focus (exact fun _ _ _ h => h)); simp only [Act.put, List.setIfInBounds_toArray, List.set_cons_zero, List.set_cons_succ]
                              refine take_on (i := 40) (oi := ?_) (v := ?_) ?_ (by kernel_rfl) ?_ ?_ ?_ hHeld ?_; rotate_left 2; (focus (simp only [List.getElem?_toArray, List.getElem?_cons_succ, List.getElem?_cons_zero]; exact rfl)); (focus (rfl)); (focus (intro w hSw; (try dsimp only at hSw); go_simp <;> with_reducible rfl)); (focus (exact fun _ _ _ h => h)); simp only [Act.put, List.setIfInBounds_toArray, List.set_cons_zero, List.set_cons_succ]
                              refine wpAnyH_done (by kernel_rfl) ?_ _
                              go_wp2
                              go_meet
                              exact ⟨by first | rfl | (rw [hgd]), KT⟩
                            · have hq1 : pq < 0 := by omega
                              have hq2 : ¬ (0 ≤ pq) := by omega
                              have hq3 : decide (0 ≤ pq) = false := decide_eq_false hq2
                              refine wp_region_held_drew (S := (fun w' => (w'.cell? ⟨g, p + k * 10, none⟩ = some (.int .i64 s.id) ∧ w'.cell? ⟨g, p + k * 10 + 1, none⟩ = some (.int .i64 s.from_) ∧ w'.cell? ⟨g, p + k * 10 + 2, none⟩ = some (.int .i64 s.to) ∧ w'.cell? ⟨g, p + k * 10 + 3, none⟩ = some (.int .i64 s.k) ∧ w'.cell? ⟨g, p + k * 10 + 4, none⟩ = some (.int .i64 s.x) ∧ w'.cell? ⟨g, p + k * 10 + 5, none⟩ = some (.int .i64 s.y) ∧ w'.cell? ⟨g, p + k * 10 + 6, none⟩ = some (.int .u64 s.u) ∧ w'.cell? ⟨g, p + k * 10 + 7, none⟩ = some (.int .i64 s.er) ∧ w'.cell? ⟨g, p + k * 10 + 8, none⟩ = some (.int .i64 s.n) ∧ w'.cell? ⟨g, p + k * 10 + 9, none⟩ = some (.int .u64 s.v)) ∧ (w'.cell? ⟨g, p + q * 10, none⟩ = some (.int .i64 s2.id) ∧ w'.cell? ⟨g, p + q * 10 + 1, none⟩ = some (.int .i64 s2.from_) ∧ w'.cell? ⟨g, p + q * 10 + 2, none⟩ = some (.int .i64 s2.to) ∧ w'.cell? ⟨g, p + q * 10 + 3, none⟩ = some (.int .i64 s2.k) ∧ w'.cell? ⟨g, p + q * 10 + 4, none⟩ = some (.int .i64 s2.x) ∧ w'.cell? ⟨g, p + q * 10 + 5, none⟩ = some (.int .i64 s2.y) ∧ w'.cell? ⟨g, p + q * 10 + 6, none⟩ = some (.int .u64 s2.u) ∧ w'.cell? ⟨g, p + q * 10 + 7, none⟩ = some (.int .i64 s2.er) ∧ w'.cell? ⟨g, p + q * 10 + 8, none⟩ = some (.int .i64 s2.n) ∧ w'.cell? ⟨g, p + q * 10 + 9, none⟩ = some (.int .u64 s2.v)))) (by kernel_rfl) ?_ (fun hHeld => ?_)
                              · exact ⟨⟨KT.some c0, KT.some c1, KT.some c2, KT.some c3, KT.some c4, KT.some c5, KT.some c6, KT.some c7, KT.some c8, KT.some c9⟩, ⟨KT.some d0, KT.some d1, KT.some d2, KT.some d3, KT.some d4, KT.some d5, KT.some d6, KT.some d7, KT.some d8, KT.some d9⟩⟩
                              refine take_on (i := 0) (oi := ?_) (v := ?_) ?_ (by kernel_rfl) ?_ ?_ ?_ hHeld ?_
                              rotate_left 2
                              · simp only [List.getElem?_toArray, List.getElem?_cons_zero]; exact rfl
                              · rfl
                              · intro w hSw; (try dsimp only at hSw); go_simp <;> with_reducible rfl
                              · exact fun _ _ _ h => h
                              simp only [Act.put, List.setIfInBounds_toArray, List.set_cons_zero, List.set_cons_succ]
                              refine take_on (i := 1) (oi := ?_) (v := ?_) ?_ (by kernel_rfl) ?_ ?_ ?_ hHeld ?_; rotate_left 2; (focus (simp only [List.getElem?_toArray, List.getElem?_cons_succ, List.getElem?_cons_zero]; exact rfl)); (focus (rfl)); (focus (intro w hSw; (try dsimp only at hSw); go_simp <;> with_reducible rfl)); (focus (exact fun _ _ _ h => h)); simp only [Act.put, List.setIfInBounds_toArray, List.set_cons_zero, List.set_cons_succ]
                              refine take_on (i := 2) (oi := ?_) (v := ?_) ?_ (by kernel_rfl) ?_ ?_ ?_ hHeld ?_; rotate_left 2; (focus (simp only [List.getElem?_toArray, List.getElem?_cons_succ, List.getElem?_cons_zero]; exact rfl)); (focus (rfl)); (focus (intro w hSw; (try dsimp only at hSw); go_simp <;> with_reducible rfl)); (focus (exact fun _ _ _ h => h)); simp only [Act.put, List.setIfInBounds_toArray, List.set_cons_zero, List.set_cons_succ]
                              refine take_on (i := 3) (oi := ?_) (v := ?_) ?_ (by kernel_rfl) ?_ ?_ ?_ hHeld ?_; rotate_left 2; (focus (simp only [List.getElem?_toArray, List.getElem?_cons_succ, List.getElem?_cons_zero]; exact rfl)); (focus (rfl)); (focus (intro w hSw; (try dsimp only at hSw); go_simp <;> with_reducible rfl)); (focus (exact fun _ _ _ h => h)); simp only [Act.put, List.setIfInBounds_toArray, List.set_cons_zero, List.set_cons_succ]
                              refine take_on (i := 4) (oi := ?_) (v := ?_) ?_ (by kernel_rfl) ?_ ?_ ?_ hHeld ?_; rotate_left 2; (focus (simp only [List.getElem?_toArray, List.getElem?_cons_succ, List.getElem?_cons_zero]; exact rfl)); (focus (rfl)); (focus (intro w hSw; (try dsimp only at hSw); go_simp <;> with_reducible rfl)); (focus (exact fun _ _ _ h => h)); simp only [Act.put, List.setIfInBounds_toArray, List.set_cons_zero, List.set_cons_succ]
                              refine take_on (i := 5) (oi := ?_) (v := ?_) ?_ (by kernel_rfl) ?_ ?_ ?_ hHeld ?_; rotate_left 2; (focus (simp only [List.getElem?_toArray, List.getElem?_cons_succ, List.getElem?_cons_zero]; exact rfl)); (focus (rfl)); (focus (intro w hSw; (try dsimp only at hSw); go_simp <;> with_reducible rfl)); (focus (exact fun _ _ _ h => h)); simp only [Act.put, List.setIfInBounds_toArray, List.set_cons_zero, List.set_cons_succ]
                              refine take_on (i := 6) (oi := ?_) (v := ?_) ?_ (by kernel_rfl) ?_ ?_ ?_ hHeld ?_; rotate_left 2; (focus (simp only [List.getElem?_toArray, List.getElem?_cons_succ, List.getElem?_cons_zero]; exact rfl)); (focus (rfl)); (focus (intro w hSw; (try dsimp only at hSw); go_simp <;> with_reducible rfl)); (focus (exact fun _ _ _ h => h)); simp only [Act.put, List.setIfInBounds_toArray, List.set_cons_zero, List.set_cons_succ]
                              refine take_on (i := 7) (oi := ?_) (v := ?_) ?_ (by kernel_rfl) ?_ ?_ ?_ hHeld ?_; rotate_left 2; (focus (simp only [List.getElem?_toArray, List.getElem?_cons_succ, List.getElem?_cons_zero]; exact rfl)); (focus (rfl)); (focus (intro w hSw; (try dsimp only at hSw); go_simp <;> with_reducible rfl)); (focus (exact fun _ _ _ h => h)); simp only [Act.put, List.setIfInBounds_toArray, List.set_cons_zero, List.set_cons_succ]
                              refine take_on (i := 8) (oi := ?_) (v := ?_) ?_ (by kernel_rfl) ?_ ?_ ?_ hHeld ?_; rotate_left 2; (focus (simp only [List.getElem?_toArray, List.getElem?_cons_succ, List.getElem?_cons_zero]; exact rfl)); (focus (rfl)); (focus (intro w hSw; (try dsimp only at hSw); go_simp <;> with_reducible rfl)); (focus (exact fun _ _ _ h => h)); simp only [Act.put, List.setIfInBounds_toArray, List.set_cons_zero, List.set_cons_succ]
                              refine take_on (i := 9) (oi := ?_) (v := ?_) ?_ (by kernel_rfl) ?_ ?_ ?_ hHeld ?_; rotate_left 2; (focus (simp only [List.getElem?_toArray, List.getElem?_cons_succ, List.getElem?_cons_zero]; exact rfl)); (focus (rfl)); (focus (intro w hSw; (try dsimp only at hSw); go_simp <;> with_reducible rfl)); (focus (exact fun _ _ _ h => h)); simp only [Act.put, List.setIfInBounds_toArray, List.set_cons_zero, List.set_cons_succ]
                              refine take_on (i := 10) (oi := ?_) (v := ?_) ?_ (by kernel_rfl) ?_ ?_ ?_ hHeld ?_; rotate_left 2; (focus (simp only [List.getElem?_toArray, List.getElem?_cons_succ, List.getElem?_cons_zero]; exact rfl)); (focus (rfl)); (focus (intro w hSw; (try dsimp only at hSw); go_simp <;> with_reducible rfl)); (focus (exact fun _ _ _ h => h)); simp only [Act.put, List.setIfInBounds_toArray, List.set_cons_zero, List.set_cons_succ]
                              refine take_on (i := 11) (oi := ?_) (v := ?_) ?_ (by kernel_rfl) ?_ ?_ ?_ hHeld ?_; rotate_left 2; (focus (simp only [List.getElem?_toArray, List.getElem?_cons_succ, List.getElem?_cons_zero]; exact rfl)); (focus (rfl)); (focus (intro w hSw; (try dsimp only at hSw); go_simp <;> with_reducible rfl)); (focus (exact fun _ _ _ h => h)); simp only [Act.put, List.setIfInBounds_toArray, List.set_cons_zero, List.set_cons_succ]
                              refine wpAnyH_ready (rs := [12]) (by kernel_rfl) (by simp) ?_
                              refine AllReadyH.cons (o := ?_) ?_ ?_ AllReadyH.nil
                              rotate_left 1
                              · simp only [List.getElem?_toArray, List.getElem?_cons_succ, List.getElem?_cons_zero]; exact rfl
                              intro K hK
                              go_simp
                              go_at_call 19; refine (AH.out _).mono ?_; rintro e v ⟨rfl, kx⟩; have KT2 : Kept wr v := KT.trans kx; have KT := KT2
                              go_wp2_with fail
                              clear hHeld
                              refine hK.out _ _ ?_ (fun hHeld => ?_)
                              · exact ⟨⟨KT.some c0, KT.some c1, KT.some c2, KT.some c3, KT.some c4, KT.some c5, KT.some c6, KT.some c7, KT.some c8, KT.some c9⟩, ⟨KT.some d0, KT.some d1, KT.some d2, KT.some d3, KT.some d4, KT.some d5, KT.some d6, KT.some d7, KT.some d8, KT.some d9⟩⟩
                              clear hK K
                              try simp only [Act.put, List.setIfInBounds_toArray, List.set_cons_zero, List.set_cons_succ]
                              refine take_on (i := 13) (oi := ?_) (v := ?_) ?_ (by kernel_rfl) ?_ ?_ ?_ hHeld ?_; rotate_left 2; (focus (simp only [List.getElem?_toArray, List.getElem?_cons_succ, List.getElem?_cons_zero]; exact rfl)); (focus (rfl)); (focus (intro w hSw; (try dsimp only at hSw); go_simp <;> with_reducible rfl)); (focus (exact fun _ _ _ h => h)); simp only [Act.put, List.setIfInBounds_toArray, List.set_cons_zero, List.set_cons_succ]
                              refine take_on (i := 14) (oi := ?_) (v := ?_) ?_ (by kernel_rfl) ?_ ?_ ?_ hHeld ?_; rotate_left 2; (focus (simp only [List.getElem?_toArray, List.getElem?_cons_succ, List.getElem?_cons_zero]; exact rfl)); (focus (rfl)); (focus (intro w hSw; (try dsimp only at hSw); go_simp <;> with_reducible rfl)); (focus (exact fun _ _ _ h => h)); simp only [Act.put, List.setIfInBounds_toArray, List.set_cons_zero, List.set_cons_succ]
                              refine take_on (i := 15) (oi := ?_) (v := ?_) ?_ (by kernel_rfl) ?_ ?_ ?_ hHeld ?_; rotate_left 2; (focus (simp only [List.getElem?_toArray, List.getElem?_cons_succ, List.getElem?_cons_zero]; exact rfl)); (focus (rfl)); (focus (intro w hSw; (try dsimp only at hSw); go_simp <;> with_reducible rfl)); (focus (exact fun _ _ _ h => h)); simp only [Act.put, List.setIfInBounds_toArray, List.set_cons_zero, List.set_cons_succ]
                              refine take_on (i := 16) (oi := ?_) (v := ?_) ?_ (by kernel_rfl) ?_ ?_ ?_ hHeld ?_; rotate_left 2; (focus (simp only [List.getElem?_toArray, List.getElem?_cons_succ, List.getElem?_cons_zero]; exact rfl)); (focus (rfl)); (focus (intro w hSw; (try dsimp only at hSw); go_simp <;> with_reducible rfl)); (focus (exact fun _ _ _ h => h)); simp only [Act.put, List.setIfInBounds_toArray, List.set_cons_zero, List.set_cons_succ]
                              refine take_on (i := 17) (oi := ?_) (v := ?_) ?_ (by kernel_rfl) ?_ ?_ ?_ hHeld ?_; rotate_left 2; (focus (simp only [List.getElem?_toArray, List.getElem?_cons_succ, List.getElem?_cons_zero]; exact rfl)); (focus (rfl)); (focus (intro w hSw; (try dsimp only at hSw); go_simp <;> with_reducible rfl)); (focus (exact fun _ _ _ h => h)); simp only [Act.put, List.setIfInBounds_toArray, List.set_cons_zero, List.set_cons_succ]
                              refine take_on (i := 18) (oi := ?_) (v := ?_) ?_ (by kernel_rfl) ?_ ?_ ?_ hHeld ?_; rotate_left 2; (focus (simp only [List.getElem?_toArray, List.getElem?_cons_succ, List.getElem?_cons_zero]; exact rfl)); (focus (rfl)); (focus (intro w hSw; (try dsimp only at hSw); go_simp <;> with_reducible rfl)); (focus (exact fun _ _ _ h => h)); simp only [Act.put, List.setIfInBounds_toArray, List.set_cons_zero, List.set_cons_succ]
                              refine take_on (i := 19) (oi := ?_) (v := ?_) ?_ (by kernel_rfl) ?_ ?_ ?_ hHeld ?_; rotate_left 2; (focus (simp only [List.getElem?_toArray, List.getElem?_cons_succ, List.getElem?_cons_zero]; exact rfl)); (focus (rfl)); (focus (intro w hSw; (try dsimp only at hSw); go_simp <;> with_reducible rfl)); (focus (exact fun _ _ _ h => h)); simp only [Act.put, List.setIfInBounds_toArray, List.set_cons_zero, List.set_cons_succ]
                              refine take_on (i := 20) (oi := ?_) (v := ?_) ?_ (by kernel_rfl) ?_ ?_ ?_ hHeld ?_; rotate_left 2; (focus (simp only [List.getElem?_toArray, List.getElem?_cons_succ, List.getElem?_cons_zero]; exact rfl)); (focus (rfl)); (focus (intro w hSw; (try dsimp only at hSw); go_simp <;> with_reducible rfl)); (focus (exact fun _ _ _ h => h)); simp only [Act.put, List.setIfInBounds_toArray, List.set_cons_zero, List.set_cons_succ]
                              refine wpAnyH_ready (rs := [21]) (by kernel_rfl) (by simp) ?_
                              refine AllReadyH.cons (o := ?_) ?_ ?_ AllReadyH.nil
                              rotate_left 1
                              · simp only [List.getElem?_toArray, List.getElem?_cons_succ, List.getElem?_cons_zero]; exact rfl
                              intro K hK
                              go_simp
                              go_at_call 20; refine (WQ.out _ KT).mono ?_; rintro e v ⟨rfl, rfl⟩
                              go_wp2_with fail
                              clear hHeld
                              refine hK.out _ _ ?_ (fun hHeld => ?_)
                              · exact ⟨⟨KT.some c0, KT.some c1, KT.some c2, KT.some c3, KT.some c4, KT.some c5, KT.some c6, KT.some c7, KT.some c8, KT.some c9⟩, ⟨KT.some d0, KT.some d1, KT.some d2, KT.some d3, KT.some d4, KT.some d5, KT.some d6, KT.some d7, KT.some d8, KT.some d9⟩⟩
                              clear hK K
                              try simp only [Act.put, List.setIfInBounds_toArray, List.set_cons_zero, List.set_cons_succ]
                              refine take_on (i := 22) (oi := ?_) (v := ?_) ?_ (by kernel_rfl) ?_ ?_ ?_ hHeld ?_; rotate_left 2; (focus (simp only [List.getElem?_toArray, List.getElem?_cons_succ, List.getElem?_cons_zero]; exact rfl)); (focus (rfl)); (focus (intro w hSw; (try dsimp only at hSw); go_simp <;> with_reducible rfl)); (focus (exact fun _ _ _ h => h)); simp only [Act.put, List.setIfInBounds_toArray, List.set_cons_zero, List.set_cons_succ]
                              refine take_on (i := 23) (oi := ?_) (v := ?_) ?_ (by kernel_rfl) ?_ ?_ ?_ hHeld ?_; rotate_left 2; (focus (simp only [List.getElem?_toArray, List.getElem?_cons_succ, List.getElem?_cons_zero]; exact rfl)); (focus (rfl)); (focus (intro w hSw; (try dsimp only at hSw); go_simp <;> with_reducible rfl)); (focus (exact fun _ _ _ h => h)); simp only [Act.put, List.setIfInBounds_toArray, List.set_cons_zero, List.set_cons_succ]
                              refine take_on (i := 24) (oi := ?_) (v := ?_) ?_ (by kernel_rfl) ?_ ?_ ?_ hHeld ?_; rotate_left 2; (focus (simp only [List.getElem?_toArray, List.getElem?_cons_succ, List.getElem?_cons_zero]; exact rfl)); (focus (rfl)); (focus (intro w hSw; (try dsimp only at hSw); go_simp <;> with_reducible rfl)); (focus (exact fun _ _ _ h => h)); simp only [Act.put, List.setIfInBounds_toArray, List.set_cons_zero, List.set_cons_succ]
                              refine take_off (i := 25) (oi := ?_) ?_ (by kernel_rfl) ?_ ?_ hHeld ?_; rotate_left 1; (focus (simp only [List.getElem?_toArray, List.getElem?_cons_succ, List.getElem?_cons_zero]; exact rfl)); (focus (rfl)); (focus (exact fun _ _ _ h => h)); simp only [Act.put, List.setIfInBounds_toArray, List.set_cons_zero, List.set_cons_succ]
                              refine take_off (i := 26) (oi := ?_) ?_ (by kernel_rfl) ?_ ?_ hHeld ?_; rotate_left 1; (focus (simp only [List.getElem?_toArray, List.getElem?_cons_succ, List.getElem?_cons_zero]; exact rfl)); (focus (rfl)); (focus (exact fun _ _ _ h => h)); simp only [Act.put, List.setIfInBounds_toArray, List.set_cons_zero, List.set_cons_succ]
                              refine take_off (i := 27) (oi := ?_) ?_ (by kernel_rfl) ?_ ?_ hHeld ?_; rotate_left 1; (focus (simp only [List.getElem?_toArray, List.getElem?_cons_succ, List.getElem?_cons_zero]; exact rfl)); (focus (rfl)); (focus (exact fun _ _ _ h => h)); simp only [Act.put, List.setIfInBounds_toArray, List.set_cons_zero, List.set_cons_succ]
                              refine take_off (i := 28) (oi := ?_) ?_ (by kernel_rfl) ?_ ?_ hHeld ?_; rotate_left 1; (focus (simp only [List.getElem?_toArray, List.getElem?_cons_succ, List.getElem?_cons_zero]; exact rfl)); (focus (rfl)); (focus (exact fun _ _ _ h => h)); simp only [Act.put, List.setIfInBounds_toArray, List.set_cons_zero, List.set_cons_succ]
                              refine take_off (i := 29) (oi := ?_) ?_ (by kernel_rfl) ?_ ?_ hHeld ?_; rotate_left 1; (focus (simp only [List.getElem?_toArray, List.getElem?_cons_succ, List.getElem?_cons_zero]; exact rfl)); (focus (rfl)); (focus (exact fun _ _ _ h => h)); simp only [Act.put, List.setIfInBounds_toArray, List.set_cons_zero, List.set_cons_succ]
                              refine take_off (i := 30) (oi := ?_) ?_ (by kernel_rfl) ?_ ?_ hHeld ?_; rotate_left 1; (focus (simp only [List.getElem?_toArray, List.getElem?_cons_succ, List.getElem?_cons_zero]; exact rfl)); (focus (rfl)); (focus (exact fun _ _ _ h => h)); simp only [Act.put, List.setIfInBounds_toArray, List.set_cons_zero, List.set_cons_succ]
                              refine take_off (i := 31) (oi := ?_) ?_ (by kernel_rfl) ?_ ?_ hHeld ?_; rotate_left 1; (focus (simp only [List.getElem?_toArray, List.getElem?_cons_succ, List.getElem?_cons_zero]; exact rfl)); (focus (rfl)); (focus (exact fun _ _ _ h => h)); simp only [Act.put, List.setIfInBounds_toArray, List.set_cons_zero, List.set_cons_succ]
                              refine take_off (i := 32) (oi := ?_) ?_ (by kernel_rfl) ?_ ?_ hHeld ?_; rotate_left 1; (focus (simp only [List.getElem?_toArray, List.getElem?_cons_succ, List.getElem?_cons_zero]; exact rfl)); (focus (rfl)); (focus (exact fun _ _ _ h => h)); simp only [Act.put, List.setIfInBounds_toArray, List.set_cons_zero, List.set_cons_succ]
                              refine take_off (i := 33) (oi := ?_) ?_ (by kernel_rfl) ?_ ?_ hHeld ?_; rotate_left 1; (focus (simp only [List.getElem?_toArray, List.getElem?_cons_succ, List.getElem?_cons_zero]; exact rfl)); (focus (rfl)); (focus (exact fun _ _ _ h => h)); simp only [Act.put, List.setIfInBounds_toArray, List.set_cons_zero, List.set_cons_succ]
                              refine take_off (i := 34) (oi := ?_) ?_ (by kernel_rfl) ?_ ?_ hHeld ?_; rotate_left 1; (focus (simp only [List.getElem?_toArray, List.getElem?_cons_succ, List.getElem?_cons_zero]; exact rfl)); (focus (rfl)); (focus (exact fun _ _ _ h => h)); simp only [Act.put, List.setIfInBounds_toArray, List.set_cons_zero, List.set_cons_succ]
                              refine take_off (i := 35) (oi := ?_) ?_ (by kernel_rfl) ?_ ?_ hHeld ?_; rotate_left 1; (focus (simp only [List.getElem?_toArray, List.getElem?_cons_succ, List.getElem?_cons_zero]; exact rfl)); (focus (rfl)); (focus (exact fun _ _ _ h => h)); simp only [Act.put, List.setIfInBounds_toArray, List.set_cons_zero, List.set_cons_succ]
                              refine take_off (i := 36) (oi := ?_) ?_ (by kernel_rfl) ?_ ?_ hHeld ?_; rotate_left 1; (focus (simp only [List.getElem?_toArray, List.getElem?_cons_succ, List.getElem?_cons_zero]; exact rfl)); (focus (rfl)); (focus (exact fun _ _ _ h => h)); simp only [Act.put, List.setIfInBounds_toArray, List.set_cons_zero, List.set_cons_succ]
                              refine take_off (i := 37) (oi := ?_) ?_ (by kernel_rfl) ?_ ?_ hHeld ?_; rotate_left 1; (focus (simp only [List.getElem?_toArray, List.getElem?_cons_succ, List.getElem?_cons_zero]; exact rfl)); (focus (rfl)); (focus (exact fun _ _ _ h => h)); simp only [Act.put, List.setIfInBounds_toArray, List.set_cons_zero, List.set_cons_succ]
                              refine take_off (i := 38) (oi := ?_) ?_ (by kernel_rfl) ?_ ?_ hHeld ?_; rotate_left 1; (focus (simp only [List.getElem?_toArray, List.getElem?_cons_succ, List.getElem?_cons_zero]; exact rfl)); (focus (rfl)); (focus (exact fun _ _ _ h => h)); simp only [Act.put, List.setIfInBounds_toArray, List.set_cons_zero, List.set_cons_succ]
                              refine take_off (i := 39) (oi := ?_) ?_ (by kernel_rfl) ?_ ?_ hHeld ?_; rotate_left 1; (focus (simp only [List.getElem?_toArray, List.getElem?_cons_succ, List.getElem?_cons_zero]; exact rfl)); (focus (rfl)); (focus (exact fun _ _ _ h => h)); simp only [Act.put, List.setIfInBounds_toArray, List.set_cons_zero, List.set_cons_succ]
                              refine take_on (i := 40) (oi := ?_) (v := ?_) ?_ (by kernel_rfl) ?_ ?_ ?_ hHeld ?_; rotate_left 2; (focus (simp only [List.getElem?_toArray, List.getElem?_cons_succ, List.getElem?_cons_zero]; exact rfl)); (focus (rfl)); (focus (intro w hSw; (try dsimp only at hSw); go_simp <;> with_reducible rfl)); (focus (exact fun _ _ _ h => h)); simp only [Act.put, List.setIfInBounds_toArray, List.set_cons_zero, List.set_cons_succ]
                              refine wpAnyH_done (by kernel_rfl) ?_ _
                              go_wp2
                              go_meet
                              exact ⟨rfl, KT⟩
                      case rest =>
                        obtain ⟨rfl, kc⟩ := hcut
                        have KC2 := Lib.hid (KI.out.trans kc)
                        clear kc
                        go_wp2
                        go_roundw
                        case rel => exact ⟨q + 1, by omega, by go_num, KC2.out⟩
                        case measure => simp [intOf]; omega
                    · go_wp2
                      go_roundw
                      case rel => exact ⟨k + 1, by omega, by go_num, KC.out.trans KI.out⟩
                      case measure => simp [intOf]; omega
              · obtain rfl : k = n := by omega
                have TF := Lib.hid (told_fits (HL.out.kept (K9.out.trans KE.out)) HN.out hW (HT.out.kept (K9.out.trans KE.out)) mo (1 + r) HC.out SA.out.1 SA.out.2 (LA.out.kept KE.out))
                go_wp2_with fail; refine TF.out.mono ?_; rintro e w10 ⟨rfl, k10⟩
                have K10 := Lib.hid (K9.out.trans (KE.out.trans k10))
                clear k10
                go_wp2
                go_ret
                exact ⟨rfl, K10.out⟩
end Go.Proofs.YtbfmmndpboagdaaGreatDoor

namespace Go.Proofs.YtbfmmndpboagdaaGreatDoor
open Go.RowKit

theorem keeps_top {w : World} {a : Option Addr} {n c : Nat} {cs : Array Value} (mo room : Int) (h : ∃ l : List Sp, l.length = n ∧ Lay w (.slice a n c) n (flatS l) ∧ ∀ s ∈ l, WfS s) (hm : ∃ s : Sp, cs = (spc s).toArray ∧ WfS s) (hT : Po.Tab w) :
    Calls Tryz.prog 5 #[.int .i64 mo, .int .i64 room, .slice a n c, .agg cs] w fun e w' => e = .returned (.bool true) ∧ Kept w w' := by
  obtain ⟨l, hl, h1, h2⟩ := h
  obtain ⟨m, rfl, h3⟩ := hm
  exact keeps_law mo room h1 hl.symm (wfA_of h2) m (wfA_of fun s hs => by rw [List.mem_singleton.1 hs]; exact h3) hT
end Go.Proofs.YtbfmmndpboagdaaGreatDoor
