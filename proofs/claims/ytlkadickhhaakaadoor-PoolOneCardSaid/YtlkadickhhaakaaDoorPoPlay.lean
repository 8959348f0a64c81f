/- The program's Play: a row of answers that is filled. -/
import Derived.Test.YtlkadickhhaakaaDoorPoRest
import Derived.WalkLawsBesides
import Derived.Laws.MakeOwn
import Derived.Laws.OwnMore
namespace Go.Proofs.YtlkadickhhaakaaDoor
open Go.RowKit
attribute [local go_sem ↓] ld_named st_named lv_named ix_named zv_named

/-! ### the model -/
def one (M : Nat → Bool) (o : Opn) : Ann := (outs M o).headD noAnn
def stepM (M : Nat → Bool) (o : Opn) : Nat → Bool := aft M o (one M o)
def playM (M : Nat → Bool) (l : List Opn) : Nat → Bool := l.foldl stepM M
def playA : (Nat → Bool) → List Opn → List Ann
  | _, [] => []
  | M, o :: l => one M o :: playA (stepM M o) l
theorem playA_length (M : Nat → Bool) (l : List Opn) : (playA M l).length = l.length := by
  induction l generalizing M with
  | nil => rfl
  | cons o l ih => simp [playA, ih]
theorem playA_append (M : Nat → Bool) (l m : List Opn) : playA M (l ++ m) = playA M l ++ playA (playM M l) m := by
  induction l generalizing M with
  | nil => rfl
  | cons o l ih => simp [playA, ih, playM]
theorem playM_snoc (M : Nat → Bool) (l : List Opn) (o : Opn) : playM M (l ++ [o]) = stepM (playM M l) o := by simp [playM, List.foldl_append]
theorem playA_snoc (M : Nat → Bool) (l : List Opn) (o : Opn) : playA M (l ++ [o]) = playA M l ++ [one (playM M l) o] := by rw [playA_append]; rfl
theorem take_snoc {α : Type} (l : List α) (k : Nat) (d : α) (h : l[k]? = some d) : l.take (k + 1) = l.take k ++ [d] := by rw [List.take_add_one, h]; rfl
theorem aft_none {M : Nat → Bool} {o : Opn} (x : Ann) (h : outs M o = []) : aft M o x = M := by
  unfold outs at h
  split at h
  · simp at h
  · split at h
    · cases h
    · rename_i h7 h8
      simp [aft, h7, h8]
/-- What is told of the first k operations, and noughts behind. -/
def soFar (M : Nat → Bool) (l : List Opn) (k : Nat) : List Ann := playA M (l.take k) ++ List.replicate (l.length - k) noAnn
theorem soFar_length (M : Nat → Bool) (l : List Opn) (k : Nat) (h : k ≤ l.length) : (soFar M l k).length = l.length := by
  unfold soFar
  rw [List.length_append, playA_length, List.length_take, List.length_replicate]
  omega
theorem soFar_all (M : Nat → Bool) (l : List Opn) : soFar M l l.length = playA M l := by simp [soFar]

/-! ### the row -/
structure RowA (w : World) (g n : Nat) (L : List Ann) : Prop where
  len : L.length = n
  row : ∃ cur : Array Value, w.heap[g]? = some (.cells cur 28 (0, 0)) ∧ cur.toList = flatA L
section
variable {w w' : World} {g n : Nat} {L : List Ann}
theorem RowA.lt (h : RowA w g n L) : g < w.heap.size := by
  obtain ⟨_, cur, h1, _⟩ := h
  exact (Array.getElem?_eq_some_iff.1 h1).1
theorem RowA.but {S : Nat → Prop} (h : RowA w g n L) (k : But S w w') (hS : ¬ S g) : RowA w' g n L := by
  have := h.lt
  obtain ⟨h0, cur, h1, h2⟩ := h
  exact ⟨h0, cur, (k.block g this hS).trans h1, h2⟩
theorem RowA.kept (h : RowA w g n L) (k : Kept w w') : RowA w' g n L := h.but (k.but (fun _ => False)) id
theorem RowA.cell (h : RowA w g n L) (j : Nat) (hj : j < n * 3) : ∃ v, w.cell? ⟨g, j, none⟩ = some v := by
  obtain ⟨h0, cur, h1, h2⟩ := h
  have hs : cur.size = n * 3 := by rw [← Array.length_toList, h2, flatA_length, h0]
  refine ⟨cur[j]'(by omega), ?_⟩
  rw [cell_of_row w g j cur _ _ h1]
  exact Array.getElem?_eq_getElem (by omega)
theorem RowA.soft (h : RowA w g n L) (j : Nat) : w.frozen? ⟨g, j, none⟩ = false := by
  obtain ⟨_, cur, h1, _⟩ := h
  exact frozen_of_row w g j cur _ h1
theorem flatA_set (A R : List Ann) (y x : Ann) : (((flatA (A ++ y :: R)).set (A.length * 3) (.int .i64 x.e)).set (A.length * 3 + 1) (.int .i64 x.n)).set (A.length * 3 + 2) (.int .u64 x.v) = flatA (A ++ x :: R) := by
  have e : ∀ z : Ann, flatA (A ++ z :: R) = flatA A ++ (.int .i64 z.e :: .int .i64 z.n :: .int .u64 z.v :: flatA R) := fun z => by simp [flatA, anc]
  rw [e, e, ← flatA_length A]
  simp
theorem RowA.set3 (h : RowA w g n L) (A R : List Ann) (y x : Ann) (hL : L = A ++ y :: R) (o : Nat) (ho : o = A.length * 3) :
    RowA (((w.setCell ⟨g, o, none⟩ (.int .i64 x.e)).setCell ⟨g, o + 1, none⟩ (.int .i64 x.n)).setCell ⟨g, o + 2, none⟩ (.int .u64 x.v)) g n (A ++ x :: R) := by
  subst hL
  subst ho
  obtain ⟨h0, cur, h1, h2⟩ := h
  refine ⟨by rw [← h0]; simp, ((cur.setIfInBounds (A.length * 3) (.int .i64 x.e)).setIfInBounds (A.length * 3 + 1) (.int .i64 x.n)).setIfInBounds (A.length * 3 + 2) (.int .u64 x.v), ?_, ?_⟩
  · have e1 : (w.setCell ⟨g, A.length * 3, none⟩ (.int .i64 x.e)).heap[g]? = some (.cells (cur.setIfInBounds (A.length * 3) (.int .i64 x.e)) 28 (0, 0)) := by
      rw [setCell_eq_setRow w g _ cur _ _ _ h1]
      exact setRow_heap w g cur _ _ _ h1
    have e2 : ((w.setCell ⟨g, A.length * 3, none⟩ (.int .i64 x.e)).setCell ⟨g, A.length * 3 + 1, none⟩ (.int .i64 x.n)).heap[g]? = some (.cells ((cur.setIfInBounds (A.length * 3) (.int .i64 x.e)).setIfInBounds (A.length * 3 + 1) (.int .i64 x.n)) 28 (0, 0)) := by
      rw [setCell_eq_setRow _ g _ _ _ _ _ e1]
      exact setRow_heap _ g _ _ _ _ e1
    rw [setCell_eq_setRow _ g _ _ _ _ _ e2]
    exact setRow_heap _ g _ _ _ _ e2
  · simp only [Array.toList_setIfInBounds, h2]
    exact flatA_set A R y x
theorem RowA.own {base : Nat} (h : RowA w g n L) (hb : base ≤ g) (hmax : n ≤ maxLen) : OwnA w base (.slice (some ⟨g, 0, none⟩) n n) L := by
  obtain ⟨h0, cur, h1, h2⟩ := h
  subst h0
  have hs : cur.size = L.length * 3 := by rw [← Array.length_toList, h2, flatA_length]
  refine ⟨flatA_length L, .inr ⟨g, L.length, cur, rfl, hb, h1, Nat.le_refl _, hmax, hs, ?_⟩⟩
  rw [h2, ← flatA_length L, List.take_length]
end
theorem flatA_noughts (n : Nat) : flatA (List.replicate n noAnn) = List.flatten (List.replicate n [.int .i64 0, .int .i64 0, .int .u64 0]) := by
  induction n with
  | zero => rfl
  | succ n ih => rw [List.replicate_succ, List.replicate_succ]; simp [flatA, anc, noAnn] at ih ⊢; exact ih
theorem make_answers (n : Nat) (hn : n ≤ 100000) : ∃ Z : Array Value, Z.toList = flatA (List.replicate n noAnn) ∧
    ∀ w : World, (Instr.makeSlice 33 (.int .i64 (n : Int)) (.int .i64 (n : Int))).run Tryd.prog w = .ok (.slice (some ⟨w.heap.size, 0, none⟩) n n) (w.alloc (.cells Z 28)) := by
  obtain ⟨i0, hi, hz0, hz1, hz2⟩ := info_parts infoA
  refine ⟨madeCells #[.int .i64 0, .int .i64 0, .int .u64 0] (n * 3), ?_, fun w => ?_⟩
  · apply List.ext_getElem?
    intro j
    rw [Array.getElem?_toList]
    by_cases hj : j < n * 3
    · have hc : (madeCells #[.int .i64 0, .int .i64 0, .int .u64 0] (n * 3))[j]? = some (#[Value.int .i64 0, .int .i64 0, .int .u64 0].getD (j % 3) undef) := by
        have h3 : j % 3 = 0 ∨ j % 3 = 1 ∨ j % 3 = 2 := by omega
        rcases h3 with h | h | h <;> simp [madeCells, hj, h]
      rw [hc]
      have hq : (List.replicate n noAnn)[j / 3]? = some noAnn := by rw [List.getElem?_replicate, if_pos (by omega)]
      have := flatA_get (List.replicate n noAnn) (j / 3) (j % 3) noAnn hq (Nat.mod_lt _ (by decide))
      rw [show j / 3 * 3 + j % 3 = j by omega] at this
      rw [this]
      have h3 : j % 3 = 0 ∨ j % 3 = 1 ∨ j % 3 = 2 := by omega
      rcases h3 with h | h | h <;> rw [h] <;> rfl
    · rw [Array.getElem?_eq_none (by rw [size_madeCells]; omega), List.getElem?_eq_none (by rw [flatA_length, List.length_replicate]; omega)]
  · have h := run_makeSlice (P := Tryd.prog) w 33 28 i0 _ Tryd.underlying33 hi hz0 .i64 .i64 (n : Int) (n : Int) (by omega) (Int.le_refl _) (by rw [hz1]; omega) (by rw [hz2]; omega) (by omega)
    rw [h, hz1]
    simp [Value.cells]

/-! ### Play -/
/-- The answers, what is free, an error. -/
def RetPl (w : World) (L : List Ann) (q : List Int) (err : Int) (ed : Ending) (w' : World) : Prop :=
  ∃ a c b d, ed = .returned (.tuple #[.slice a L.length c, .slice b q.length d, .int .i64 err]) ∧ Kept w w' ∧ OwnA w' w.heap.size (.slice a L.length c) L ∧ OwnI w' w.heap.size (.slice b q.length d) q
structure PlayAt (w wr : World) (B G n : Nat) (M : Nat → Bool) (l : List Opn) (k : Nat) : Prop where
  row : RowA wr G n (soFar M l k)
  set : ∃ R, WsAt wr B R ∧ Ws R (playM M (l.take k))
  kept : Kept w wr
theorem soFar_at (M : Nat → Bool) (l : List Opn) (k : Nat) (h : k < l.length) : soFar M l k = playA M (l.take k) ++ noAnn :: List.replicate (l.length - k - 1) noAnn := by
  unfold soFar
  obtain ⟨d, hd⟩ : ∃ d, l.length - k = d + 1 := ⟨l.length - k - 1, by omega⟩
  rw [hd, List.replicate_succ]
  rfl
theorem soFar_next (M : Nat → Bool) (l : List Opn) (k : Nat) (o : Opn) (h : l[k]? = some o) : soFar M l (k + 1) = playA M (l.take k) ++ one (playM M (l.take k)) o :: List.replicate (l.length - k - 1) noAnn := by
  unfold soFar
  rw [take_snoc l k o h, playA_snoc, List.append_assoc, Nat.sub_sub]
  rfl
theorem op_one {w : World} {a : Option Addr} {n c : Nat} {s : List Opn} (h : Lay w (.slice a n c) n (flatO s)) (hn : n = s.length) (i : Nat) (x : Opn) (hx : s[i]? = some x) :
    ∃ g o, a = some ⟨g, o, none⟩ ∧ OpAt w g (o + i * 4) x := by
  have := (List.getElem?_eq_some_iff.1 hx).1
  subst hn
  obtain ⟨g, o, c', e, _, _, hc⟩ := h.op (by omega)
  cases e
  exact ⟨g, o, rfl, hc i x hx⟩

set_option maxRecDepth 100000 in
set_option maxHeartbeats 8000000 in
theorem play_ok {w : World} {a : Option Addr} {n c : Nat} {l : List Opn} (h : Lay w (.slice a n c) n (flatO l)) (hn : n = l.length) (hlen : n ≤ 1000) (hT : Tab w) (N : Nat) (hN : N ≤ 1024) :
    Calls Tryd.prog 23 #[.int .i64 N, .slice a n c] w (RetPl w (playA (first N) l) (memI (playM (first N) l)) 0) := by
  obtain ⟨Z, hZ, hz⟩ := zeroed
  obtain ⟨ZA, hZA, hmake⟩ := make_answers n (by omega)
  have CE := Lib.hid (fun W (k : Kept w W) i y hy => op_one (h.kept k) hn i y hy)
  have HN := Lib.hid hn
  have TT := Lib.hid hT
  have BL := Lib.hid (fun W => below_any N hN W)
  have i1 : ¬ ((N : Int) < 0) := by omega
  have i2 : ¬ ((N : Int) > 1024) := by omega
  clear h hn hT
  go_enter Tryd.func23, Tryd.ntmps23
  go_wp2_with fail; refine (BL.out _).mono ?_; rintro e w1 ⟨R, rfl, hR, k1⟩
  obtain ⟨w3, run3, but3, big3, s3⟩ := ws_st (WsAt.new w1 Z 57 hZ.size hZ.one _ rfl) hR.size hR.one
  have s3' : w3.heap.size = w1.heap.size + 1 := by rw [s3]; simp
  have k3 := (k1.alloc Z 57).wrote1 but3 k1.size
  have hwB := k1.size
  obtain ⟨W0, hW0⟩ : ∃ W0, w3.alloc (.cells ZA 28) = W0 := ⟨_, rfl⟩
  have P0 := Lib.hid (show PlayAt w W0 w1.heap.size w3.heap.size n (first N) l 0 by
    rw [← hW0]
    refine ⟨⟨by rw [soFar_length _ _ _ (Nat.zero_le _)]; exact HN.out.symm, ZA, heap_alloc_new w3 _, ?_⟩, ⟨R, big3.kept ((Kept.refl _).alloc _ _), hR⟩, k3.alloc _ _⟩
    rw [hZA, HN.out]
    rfl)
  have HW := Lib.hid hW0
  clear hW0 k3 k1 big3 but3 hZA hZ hR s3
  obtain ⟨B, hB⟩ : ∃ B, w1.heap.size = B := ⟨_, rfl⟩
  obtain ⟨G, hG⟩ : ∃ G, w3.heap.size = G := ⟨_, rfl⟩
  have HBB := Lib.hid hB
  have HGG := Lib.hid hG
  rw [hB, hG] at P0
  rw [hG, hB] at s3'
  rw [hB] at hwB
  clear hB hG
  go_wp2_with fail
  rw [HW.out, HBB.out, HGG.out]
  have hGB : B < G := by omega
  clear s3'
  go_loopw [26] (fun i wr => ∃ k : Nat, k ≤ n ∧ i = .int .i64 k ∧ PlayAt w wr B G n (first N) l k) (fun i _ => n - (intOf i).toNat)
  case atStart => exact ⟨0, Nat.zero_le _, rfl, P0.out⟩
  case round =>
    obtain ⟨k, hkn, rfl, hp⟩ := hrel
    have PA := Lib.hid hp
    clear hp
    by_cases hlt : k < n
    · obtain ⟨o, ho⟩ : ∃ o, l[k]? = some o := ⟨_, List.getElem?_eq_getElem (by rw [← HN.out]; omega)⟩
      obtain ⟨g, oo, rfl, q0, q1, q2, q3⟩ := CE.out _ PA.out.kept k o ho
      obtain ⟨Rk, hb, hWs⟩ := PA.out.set
      have HO := Lib.hid ho
      have kA : Kept wr (wr.alloc (.cells #[.int .i64 o.k, .int .i64 o.a, .int .i64 o.b, .int .u64 o.u] 25)) := (Kept.refl wr).alloc _ _
      have BO := Lib.hid (OpBox.new wr o 25 wr.heap.size rfl)
      have BS := Lib.hid (hb.kept kA)
      have ld := ws_ld (hb.kept kA)
      have WS := Lib.hid hWs
      have hsz := PA.out.kept.size
      have hlB := hb.lt
      have hlG := PA.out.row.lt
      have PS := Lib.hid (poss_any (w := (wr.alloc (.cells #[.int .i64 o.k, .int .i64 o.a, .int .i64 o.b, .int .u64 o.u] 25))) hWs ((TT.out.kept PA.out.kept).kept kA) o 1 (by decide))
      have KA := Lib.hid kA
      obtain ⟨M, hM⟩ : ∃ M, M = playM (first N) (l.take k) := ⟨_, rfl⟩
      rw [← hM] at WS PS
      have HM := Lib.hid hM
      clear ho hb hWs kA hM
      cases hx : outs M o with
      | nil =>
        have HX := Lib.hid hx
        have hone : one M o = noAnn := by simp [one, hx]
        have hst : stepM M o = M := by unfold stepM; exact aft_none _ hx
        have FIN := Lib.hid (fun W (k2 : Kept (wr.alloc (.cells #[.int .i64 o.k, .int .i64 o.a, .int .i64 o.b, .int .u64 o.u] 25)) W) => show PlayAt w W B G n (first N) l (k + 1) from
          ⟨by rw [soFar_next _ _ _ _ HO.out, ← HM.out, hone, ← soFar_at _ _ _ (by rw [← HN.out]; exact hlt)]; exact (PA.out.row.kept KA.out).kept k2,
           ⟨Rk, BS.out.kept k2, by rw [take_snoc l k o HO.out, playM_snoc, ← HM.out, hst]; exact WS.out⟩, (PA.out.kept.trans KA.out).trans k2⟩)
        clear hx hone hst
        go_wp2_with fail; refine PS.out.mono ?_; rintro e w4 hr; obtain ⟨a4, c4, rfl, k4, L4⟩ := hr.one
        rw [HX.out]
        have P2 := Lib.hid (FIN.out _ k4)
        clear L4 hr
        go_wp2
        refine wp_loop_rounds 1 ?_
        rw [rounds_succ]
        go_wp2
        exact ⟨⟨k + 1, by omega, by go_num, P2.out⟩, by simp [intOf]; omega⟩
      | cons x rest =>
        have HX := Lib.hid hx
        have hone : one M o = x := by simp [one, hx]
        have hst : stepM M o = aft M o x := by unfold stepM; rw [hone]
        have FT := fits_of_mem (M := M) (o := o) (x := x) (by rw [hx]; exact List.mem_cons_self ..)
        have HONE := Lib.hid hone
        have HST := Lib.hid hst
        have AF := Lib.hid (fun W => after_any WS.out o x FT W)
        clear hx hone hst FT
        go_wp2_with fail; refine PS.out.mono ?_; rintro e w4 hr; obtain ⟨a4, c4, rfl, k4, L4⟩ := hr.one
        rw [HX.out] at L4 ⊢
        obtain ⟨g4, o4, rfl, y0, y1, y2⟩ := an_one L4 rfl 0 x rfl
        rw [Nat.zero_mul, Nat.add_zero] at y0 y1 y2
        have K4 := Lib.hid k4
        have k5 : Kept w4 (w4.alloc (.cells #[.int .i64 x.e, .int .i64 x.n, .int .u64 x.v] 28)) := (Kept.refl w4).alloc _ _
        have RW := Lib.hid (((PA.out.row.kept KA.out).kept k4).kept k5)
        obtain ⟨z0, zc0⟩ := RW.out.cell (k * 3) (by omega)
        obtain ⟨z1, zc1⟩ := RW.out.cell (k * 3 + 1) (by omega)
        obtain ⟨z2, zc2⟩ := RW.out.cell (k * 3 + 2) (by omega)
        have f0 := RW.out.soft (k * 3)
        have f1 := RW.out.soft (k * 3 + 1)
        have f2 := RW.out.soft (k * 3 + 2)
        have hw4 : wr.heap.size + 1 ≤ w4.heap.size := by have := k4.size; simpa using this
        obtain ⟨W6, hW6⟩ : ∃ W6, ((((w4.alloc (.cells #[.int .i64 x.e, .int .i64 x.n, .int .u64 x.v] 28)).setCell ⟨G, k * 3, none⟩ (.int .i64 x.e)).setCell ⟨G, k * 3 + 1, none⟩ (.int .i64 x.n)).setCell ⟨G, k * 3 + 2, none⟩ (.int .u64 x.v)) = W6 := ⟨_, rfl⟩
        have b6 : But (fun j => j = G) w4 W6 := by rw [← hW6]; exact (((k5.but _).here _ _).here _ _).here _ _
        have b56 : But (fun j => j = G) (w4.alloc (.cells #[.int .i64 x.e, .int .i64 x.n, .int .u64 x.v] 28)) W6 := by rw [← hW6]; exact (((But.refl _ _).here _ _).here _ _).here _ _
        have bs6 := (BS.out.kept k4).but b6 (by omega)
        have R6 := Lib.hid (show RowA W6 G n (soFar (first N) l (k + 1)) by
          rw [← hW6, soFar_next _ _ _ _ HO.out, ← HM.out, HONE.out]
          exact RW.out.set3 _ _ _ _ (soFar_at _ _ _ (by rw [← HN.out]; exact hlt)) _ (by rw [playA_length, List.length_take, ← HN.out]; omega))
        obtain ⟨v0, v1, v2, v3⟩ := (BO.out.kept k4).but b6 (by omega)
        obtain ⟨u0, u1, u2, _⟩ := (AnBox.new w4 x 28 w4.heap.size rfl).but b56 (by omega)
        have ld6 := ws_ld bs6
        have B6 := Lib.hid bs6
        have K6 := Lib.hid (show Kept w W6 from ((PA.out.kept.trans KA.out).trans k4).wrote1 b6 (by omega))
        clear L4 hr k4 k5 b6 b56 bs6 ld
        go_wp2
        refine wp_loop_rounds 2 ?_
        rw [rounds_succ]
        go_wp2_with fail; refine (AF.out _).mono ?_; rintro e w7 ⟨R7, rfl, hR7, k7⟩
        obtain ⟨w8, run8, but8, big8, s8⟩ := ws_st (B6.out.kept k7) hR7.size hR7.one
        have P8 := Lib.hid (show PlayAt w w8 B G n (first N) l (k + 1) from
          ⟨(R6.out.kept k7).but but8 (by omega), ⟨R7, big8, by rw [take_snoc l k o HO.out, playM_snoc, ← HM.out, HST.out]; exact hR7⟩, (K6.out.trans k7).wrote1 but8 (by omega)⟩)
        clear but8 big8 s8 hR7 k7
        go_wp2
        rw [rounds_succ]
        go_wp2
        exact ⟨⟨k + 1, by omega, by go_num, P8.out⟩, by simp [intOf]; omega⟩
    · obtain rfl : k = n := by omega
      obtain ⟨Rk, hb, hWs⟩ := PA.out.set
      have ld := ws_ld hb
      have RS := Lib.hid (show Ws Rk (playM (first N) l) by have := hWs; rw [HN.out, List.take_length] at this; exact this)
      have OW := Lib.hid (show RowA wr G k (playA (first N) l) by have := PA.out.row; rw [HN.out, soFar_all] at this; rw [HN.out]; exact this)
      have HB := Lib.hid hb
      clear hb hWs
      go_wp2_with fail; refine (list_any RS.out (TT.out.kept PA.out.kept)).mono ?_; rintro e w7 ⟨a7, c7, rfl, k7, own7⟩
      go_wp2
      exact bodyPost_ret (v := .tuple #[.slice (some ⟨G, 0, none⟩) k k, .slice a7 (memI (playM (first N) l)).length c7, .int .i64 0]) (by simp [results, Tryd.results23, go_sem]) rfl (by
        have e : k = (playA (first N) l).length := by rw [playA_length]; exact HN.out
        have ow := (OW.out.kept k7).own (base := w.heap.size) (by omega) (by unfold maxLen; omega)
        rw [e] at ow ⊢
        exact ⟨some ⟨G, 0, none⟩, _, a7, c7, rfl, PA.out.kept.trans k7, ow, own_mono own7 PA.out.kept.size⟩)

set_option maxHeartbeats 1000000 in
theorem play_no {w : World} (v : Value) (z : Int) (hz : z < 0 ∨ 1024 < z) :
    Calls Tryd.prog 23 #[.int .i64 z, v] w (RetPl w [] [] 3) := by
  rcases hz with hz | hz
  · go_enter Tryd.func23, Tryd.ntmps23
    go_wp2
    exact bodyPost_ret (v := .tuple #[.slice none 0 0, .slice none 0 0, .int .i64 3]) (by simp [results, Tryd.results23, go_sem]) rfl ⟨none, 0, none, 0, rfl, Kept.refl _, World.ownsRow_nil _ _ _ _, World.ownsRow_nil _ _ _ _⟩
  · have i1 : ¬ (z < 0) := by omega
    have i2 : z > 1024 := hz
    go_enter Tryd.func23, Tryd.ntmps23
    go_wp2
    exact bodyPost_ret (v := .tuple #[.slice none 0 0, .slice none 0 0, .int .i64 3]) (by simp [results, Tryd.results23, go_sem]) rfl ⟨none, 0, none, 0, rfl, Kept.refl _, World.ownsRow_nil _ _ _ _, World.ownsRow_nil _ _ _ _⟩
/-- What Play tells. -/
def plA (z : Int) (l : List Opn) : List Ann := if z < 0 ∨ 1024 < z then [] else playA (first z.toNat) l
def plQ (z : Int) (l : List Opn) : List Int := if z < 0 ∨ 1024 < z then [] else memI (playM (first z.toNat) l)
def plE (z : Int) : Int := if z < 0 ∨ 1024 < z then 3 else 0
theorem play_S {w : World} {a : Option Addr} {n c : Nat} {l : List Opn} (h : Lay w (.slice a n c) n (flatO l)) (hn : n = l.length) (hlen : n ≤ 1000) (hT : Tab w) (z : Int) :
    Calls Tryd.prog 23 #[.int .i64 z, .slice a n c] w (RetPl w (plA z l) (plQ z l) (plE z)) := by
  unfold plA plQ plE
  by_cases hz : z < 0 ∨ 1024 < z
  · rw [if_pos hz, if_pos hz, if_pos hz]; exact play_no _ z hz
  · rw [if_neg hz, if_neg hz, if_neg hz]
    obtain ⟨N, rfl⟩ : ∃ N : Nat, z = N := ⟨z.toNat, by omega⟩
    exact play_ok h hn hlen hT N (by omega)
end Go.Proofs.YtlkadickhhaakaaDoor
