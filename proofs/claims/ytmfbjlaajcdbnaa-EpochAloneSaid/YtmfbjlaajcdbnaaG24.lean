/- The cores' operations in the law's own list: a list of pairs, six cells each, loaded and stored whole; and small laws for the walk. -/
import Derived.Test.YtmfbjlaajcdbnaaG20
import Derived.Test.YtmfbjlaajcdbnaaG21
import Derived.Test.YtmfbjlaajcdbnaaG22
import Derived.Test.YtmfbjlaajcdbnaaG23
import Derived.Deep.MidRow
import Derived.Test.YtmfbjlaajcdbnaaG04
import Derived.Test.YtmfbjlaajcdbnaaG06
import Derived.Deep.RegionHeld3
import Derived.Deep.Light
import Derived.Test.YtmfbjlaajcdbnaaG08
import Derived.Deep.AppendSrc
set_option linter.unusedVariables false
set_option linter.unusedSimpArgs false

namespace Go.Proofs.Ytmfbjlaajcdbnaa.Ep
set_option maxRecDepth 20000
open Go.RowKit
open Wo (St acc wordAt PMem RefIs)
open Sk (Stk Wd pmem_kept pmem_lt pmem_frame ref_frame ref_kept ref_lt)

def ldP (p : Value) : Sem Value := Instr.loadAt 44 p
def stP (p v : Value) : Sem Unit := Instr.storeAt 44 p v
theorem ldP_named (p : Value) : Instr.loadAt 44 p = ldP p := rfl
theorem stP_named (p v : Value) : Instr.storeAt 44 p v = stP p v := rfl
theorem infoPair : (Try.prog.info? 44).map (fun i => (i.zero, i.size, i.bytes)) = some (some (.agg #[.pointer none, .pointer none, .pointer none, .pointer none, .pointer none, .pointer none]), 6, 48) := by kernel_rfl
theorem sizePair : (Try.prog.info? 44).map (·.size) = some 6 := by
  obtain ⟨i0, hi, hz0, hz1, hz2⟩ := info_parts infoPair
  rw [hi]; simp [hz1]
theorem ld_pair {w : World} {C o : Nat} {p : PS} (h : w.rangeAt C o p.cells) : (ldP (.pointer (some ⟨C, o, none⟩))).run Try.prog w = .ok (.agg p.cells.toArray) w :=
  run_loadAt_mid w C o _ p.cells _ h Try.underlying44 rfl (by rw [PS.cells_len]; exact sizePair)
theorem st_pair {w : World} {C o : Nat} {p : PS} (h : w.there C o 6) : (stP (.pointer (some ⟨C, o, none⟩)) (.agg p.cells.toArray)).run Try.prog w = .ok () (w.setCells C o p.cells) :=
  run_storeAt_mid _ _ _ _ _ (by rw [List.size_toArray, PS.cells_len]; exact h) (by rw [List.size_toArray, PS.cells_len]; exact sizePair) (all_oneCell_toArray p.cells_one)

theorem but_setCells {S : Nat → Prop} {C : Nat} {a : World} (hC : S C) : ∀ (vs : List Value) (o : Nat) (w : World), But S a w → But S a (w.setCells C o vs)
  | [], _, _, h => h
  | v :: r, o, w, h => but_setCells hC r (o + 1) _ (h.setCell (p := ⟨C, o, none⟩) (.inl hC) v)
theorem set_range {w : World} {C o : Nat} {p : PS} (h : w.there C o 6) : (w.setCells C o p.cells).rangeAt C o p.cells := World.rangeAt_setCells_same _ _ _ _ (by rw [PS.cells_len]; exact h)
theorem setCells_off : ∀ (vs : List Value) (o : Nat) (w : World) (C x : Nat), (x < o ∨ o + vs.length ≤ x) → (w.setCells C o vs).cell? ⟨C, x, none⟩ = w.cell? ⟨C, x, none⟩
  | [], _, _, _, _, _ => rfl
  | v :: r, o, w, C, x, h => by
    show ((w.setCell ⟨C, o, none⟩ v).setCells C (o + 1) r).cell? ⟨C, x, none⟩ = _
    rw [setCells_off r (o + 1) _ C x (by simp at h; omega), cell_set, if_neg (by simp at h; omega)]

structure Cores (w : World) (C : Nat) (st : Nat → PS) : Prop where
  at_ : ∀ c, c < 4 → w.rangeAt C (c * 6) (st c).cells
  f : ∀ i, w.frozen? ⟨C, i, none⟩ = false
  lt : C < w.heap.size
theorem range_but {w w' : World} {C o : Nat} {cs : List Value} (h : w.rangeAt C o cs) {T : Nat → Prop} (hb : But T w w') (hC : ¬ T C) : w'.rangeAt C o cs := fun j v hv => hb.some (h j v hv) hC
theorem Cores.frame {w w' : World} {C : Nat} {st : Nat → PS} (h : Cores w C st) {T : Nat → Prop} (hb : But T w w') (hC : ¬ T C) : Cores w' C st :=
  ⟨fun c hc => range_but (h.at_ c hc) hb hC, fun i => hb.soft h.lt (h.f i), Nat.lt_of_lt_of_le h.lt hb.size⟩
theorem Cores.kept {w w' : World} {C : Nat} {st : Nat → PS} (h : Cores w C st) (k : Kept w w') : Cores w' C st := h.frame (k.but (fun _ => False)) id
theorem Cores.there {w : World} {C : Nat} {st : Nat → PS} (h : Cores w C st) (c : Nat) (hc : c < 4) : w.there C (c * 6) 6 := by
  intro j hj
  have h1 := h.at_ c hc j
  have : j < (st c).cells.length := by rw [PS.cells_len]; exact hj
  refine ⟨?_, h.f _⟩
  have h2 := h1 _ (List.getElem?_eq_getElem this)
  rw [h2]; rfl
def put (st : Nat → PS) (c : Nat) (p : PS) (k : Nat) : PS := if k = c then p else st k
theorem Cores.set {w : World} {C : Nat} {st : Nat → PS} (h : Cores w C st) {c : Nat} (hc : c < 4) (p : PS) : Cores (w.setCells C (c * 6) p.cells) C (put st c p) := by
  have hb : But (fun k => k = C) w (w.setCells C (c * 6) p.cells) := but_setCells (S := fun k => k = C) rfl _ _ _ (But.refl _ _)
  refine ⟨fun k hk => ?_, fun i => hb.soft h.lt (h.f i), Nat.lt_of_lt_of_le h.lt hb.size⟩
  unfold put
  by_cases e : k = c
  · subst e
    rw [if_pos rfl]
    exact set_range (h.there k hk)
  · rw [if_neg e]
    intro j v hv
    have hj : j < 6 := by
      have := (List.getElem?_eq_some_iff.1 hv).1
      rw [PS.cells_len] at this; exact this
    rw [setCells_off _ _ _ _ _ (by rw [PS.cells_len]; omega)]
    exact h.at_ k hk j v hv

theorem told_idle (own : Nat → Nat) (c : Nat) (S : Stk) (M B M2 B2 n : Nat) (s : St) (b : Bool) (w : World) (hd : Duo own w M B M2 B2 n s) :
    Calls Try.prog 14 #[.agg #[.pointer none, .pointer none, .pointer none, .pointer none, .pointer none, .pointer none], .pointer (some ⟨M, 0, none⟩), .pointer (some ⟨M2, 0, none⟩), .bool b] w (ToldPost own c S M B M2 B2 n s .idle b w) := by
  have HD := Lib.hid hd
  clear hd
  go_enter Try.func14, Try.ntmps14
  go_wp2
  go_ret
  have k : Kept w (w.alloc (.cells #[.pointer none, .pointer none, .pointer none, .pointer none, .pointer none, .pointer none] 44)) := (Kept.refl w).alloc _ _
  exact ⟨rfl, .idle, s, rfl, fun _ => rfl, trivial, HD.out.kept k, by omega, k.but _⟩
theorem told_step_any (own : Nat → Nat) (c : Nat) (S : Stk) (M B M2 B2 n : Nat) (s : St) (p : PS) (w : World) (h : p.Is own c S w) (hd : Duo own w M B M2 B2 n s) (hS : EOk S n) (c1 : s.cnt ≤ 900000) :
    Calls Try.prog 14 #[.agg p.cells.toArray, .pointer (some ⟨M, 0, none⟩), .pointer (some ⟨M2, 0, none⟩), .bool true] w (ToldPost own c S M B M2 B2 n s p true w) := by
  cases p with
  | idle => exact told_idle own c S M B M2 B2 n s true w hd
  | pin d x P Q => exact same_pin_step own c S M B M2 B2 n s d x P Q w h hd hS c1
  | unpin d x P Q => exact same_unpin_step own c S M B M2 B2 n s d x P Q w h hd hS c1
  | adv d p x P Q => exact same_adv_step own c S M B M2 B2 n s d p x P Q w h hd hS c1
theorem told_rest_any (own : Nat → Nat) (c : Nat) (S : Stk) (M B M2 B2 n : Nat) (s : St) (p : PS) (w : World) (h : p.Is own c S w) (hd : Duo own w M B M2 B2 n s) (hS : EOk S n) (c1 : s.cnt ≤ 900000) :
    Calls Try.prog 14 #[.agg p.cells.toArray, .pointer (some ⟨M, 0, none⟩), .pointer (some ⟨M2, 0, none⟩), .bool false] w (ToldPost own c S M B M2 B2 n s p false w) := by
  cases p with
  | idle => exact told_idle own c S M B M2 B2 n s false w hd
  | pin d x P Q => exact same_pin_rest own c S M B M2 B2 n s d x P Q w h hd hS c1
  | unpin d x P Q => exact same_unpin_rest own c S M B M2 B2 n s d x P Q w h hd hS c1
  | adv d p x P Q => exact same_adv_rest own c S M B M2 B2 n s d p x P Q w h hd hS c1
theorem told_any (own : Nat → Nat) (c : Nat) (S : Stk) (M B M2 B2 n : Nat) (s : St) (p : PS) (b : Bool) (w : World) (h : p.Is own c S w) (hd : Duo own w M B M2 B2 n s) (hS : EOk S n) (c1 : s.cnt ≤ 900000) :
    Calls Try.prog 14 #[.agg p.cells.toArray, .pointer (some ⟨M, 0, none⟩), .pointer (some ⟨M2, 0, none⟩), .bool b] w (ToldPost own c S M B M2 B2 n s p b w) := by
  cases b
  · exact told_rest_any own c S M B M2 B2 n s p w h hd hS c1
  · exact told_step_any own c S M B M2 B2 n s p w h hd hS c1

theorem access_same (k a o n : Int) (h : Bool) (w : World) : (binOp .neq 57 (.agg #[.int .i64 k, .int .i64 a, .int .u64 o, .int .u64 n, .bool h]) (.agg #[.int .i64 k, .int .i64 a, .int .u64 o, .int .u64 n, .bool h])).run Try.prog w = .ok (.bool false) w := by
  cases h <;> go_simp
theorem pick4 (co : Int) : ∃ c : Nat, c < 4 ∧ ∀ w, Hid (Calls Try.prog 12 #[.int .i64 co, .int .i64 4] w fun e w' => e = .returned (.int .i64 (c : Int)) ∧ w = w') := by
  refine ⟨(co % 4).toNat, by omega, fun w => Lib.hid ?_⟩
  have h := Wo.pick_any co 4 (by decide) (by decide) w
  rw [show (((co % 4).toNat : Nat) : Int) = co % 4 by omega]
  exact h
theorem ints_at (l : List Int) (j : Nat) (h : j < l.length) : (ints l)[j]? = some (.int .i64 (l.getD j 0)) := by
  simp [ints, h]
theorem overInts_own {w : World} {base : Nat} {a : Option Addr} {l : List Int} {c : Nat} (h : w.ownsRow base 3 1 (.slice a l.length c) l.length (ints l)) (hl : l.length ≤ 4096) :
    Calls Try.prog 27 #[.slice a l.length c] w fun e w' => e = .returned (.tuple #[]) ∧ But (fun k => base ≤ k) w w' := by
  rcases h.2 with ⟨e, h0⟩ | ⟨g, cap, cur, e, hb, hg, _⟩
  · injection e with e1 e2 e3
    subst e1 e3
    rw [h0]
    go_enter Try.func27, Try.ntmps27
    go_wp2
    go_loopw [2] (fun i wr => i = .int .i64 0 ∧ wr = w) (fun _ _ => 0)
    case atStart => exact ⟨rfl, rfl⟩
    case round =>
      obtain ⟨rfl, rfl⟩ := hrel
      go_wp2
      go_end0
      exact ⟨rfl, But.refl _ _⟩
  · have hs := own_soft h g (by rw [e]; rfl)
    injection e with e1 e2 e3
    subst e1 e3
    have hg2 := (h.lt g rfl).2
    rcases own_lies h with ⟨e, _⟩ | ⟨g', o, c', e, _, _, hc⟩
    · injection e with e1 _ _
      cases e1
    · injection e with e1 _ _
      injection e1 with e1
      injection e1 with e1 e2 _
      subst e1 e2
      refine (overInts_any _ c l.length (fun i => l.getD i 0) w (by omega) (fun i hi => ?_) hg2 hs).mono fun _ _ ⟨x, k⟩ => ⟨x, k.mono fun _ _ e => by rw [e]; exact hb⟩
      have := hc i _ (ints_at l i hi)
      rw [Nat.zero_add] at this
      exact this
end Go.Proofs.Ytmfbjlaajcdbnaa.Ep

namespace Go.Proofs.Ytmfbjlaajcdbnaa.Ep
set_option maxRecDepth 20000
open Go.RowKit
open Wo (St acc wordAt PMem RefIs)
open Sk (Stk Wd ref_frame ref_kept ref_lt)

theorem infoW : (Try.prog.info? 55).map (fun i => (i.zero, i.size, i.bytes)) = some (some (.int .u64 0), 1, 8) := by kernel_rfl
theorem words_length (l : List Int) : (words l).length = l.length * 1 := by simp [words]
theorem words_one (l : List Int) : ∀ u ∈ words l, u.oneCell' = true := by
  intro u h
  obtain ⟨x, _, rfl⟩ := List.mem_map.1 h
  rfl
set_option maxHeartbeats 1000000 in
theorem copyWords_any {w : World} {v : Value} {l : List Int} (h : Lay w v l.length (words l)) (hl : l.length ≤ 100000) :
    Calls Try.prog 71 #[v] w fun e w' => ∃ a c, e = .returned (.slice a l.length c) ∧ Kept w w' ∧ w'.ownsRow w.heap.size 55 1 (.slice a l.length c) l.length (words l) := by
  obtain ⟨i0, hi0, hz0, hz1, hz2⟩ := info_parts infoW
  have L := Lib.hid h
  clear h
  go_enter Try.func71, Try.ntmps71
  go_wp2_with (at_builtin; refine wpList_append_lay _ rfl _ _ _ rfl w.heap.size 55 i0 _ 1 8 Try.underlying24 hi0 hz0 hz1 hz2 (by rfl) (by decide) (.slice (some ⟨w.heap.size, 0, none⟩) 0 0) 0 [] (by simp [Act.eval]) (World.ownsRow_made w #[] 0 (Nat.le_refl _) (by decide) rfl) _ l.length (words l) (by simp [Act.eval]) (words_length l) (L.out.kept ((Kept.refl w).alloc _ _)) (words_one _) (by unfold maxLen; omega) (by omega) (by simp) ?_; rintro a' c' w2 own2 but2 at2)
  go_ret
  refine ⟨a', c', by simp, ?_, ?_⟩
  · exact (((Kept.refl w).alloc _ _).but _).trans but2 (fun _ _ h => h) |>.kept (fun k hk e => by simp [Value.ownBlock] at e; omega)
  · simpa using own2
theorem words_of (f : Nat → Int) (n j : Nat) (u : Value) (h : (words ((List.range n).map f))[j]? = some u) : j < n ∧ u = .int .u64 (f j) := by
  have hj : j < n := by
    have := (List.getElem?_eq_some_iff.1 h).1
    simpa [words] using this
  refine ⟨hj, ?_⟩
  simp [words, hj] at h
  exact h.symm
set_option maxHeartbeats 1000000 in
theorem r_words (M B n : Nat) (s : St) (w : World) (hm : RefIs w M B n s) (n1 : 1 ≤ n) (n2 : n ≤ 4096) :
    Calls Try.prog 22 #[.pointer (some ⟨M, 0, none⟩)] w fun e w' => ∃ g o c, e = .returned (.slice (some ⟨g, o, none⟩) n c) ∧ (∀ i, i < n → w'.cell? ⟨g, o + i, none⟩ = some (.int .u64 (s.ws i))) ∧ Kept w w' := by
  have c0 := hm.c0
  have LL : ∀ W, Hid (Kept w W → Lay W (.slice (some ⟨B, 0, none⟩) n n) n (words ((List.range n).map s.ws))) := fun W => Lib.hid (fun k => .inl (.inr ⟨B, 0, n, rfl, Nat.le_refl _, by unfold maxLen; omega, fun j u hu => by
    obtain ⟨hj, rfl⟩ := words_of s.ws n j u hu
    rw [Nat.zero_add]
    exact k.some (hm.words j hj)⟩))
  have CW := Lib.hid (fun W (k : Kept w W) => by
    have h := copyWords_any (v := .slice (some ⟨B, 0, none⟩) n n) (l := (List.range n).map s.ws) (w := W) (by simpa using (LL W).out k) (by simp; omega)
    rw [List.length_map, List.length_range] at h
    exact h)
  clear hm LL
  go_enter Try.func22, Try.ntmps22
  go_wp2_with fail
  refine (CW.out _ (Kept.refl _)).mono ?_
  rintro e w1 ⟨a, c, rfl, k, own⟩
  have HO := Lib.hid own
  have HK := Lib.hid k
  clear own k
  go_wp2
  go_ret
  rcases own_lies HO.out with ⟨e, h0, _⟩ | ⟨g, o, c', e, _, _, hc⟩
  · omega
  · injection e with e1 e2 e3
    subst e1 e3
    exact ⟨g, o, _, rfl, fun i hi => hc i _ (by simp [words, hi]), HK.out⟩
set_option maxHeartbeats 1000000 in
theorem r_last (M B n : Nat) (s : St) (w : World) (hm : RefIs w M B n s) :
    Calls Try.prog 24 #[.pointer (some ⟨M, 0, none⟩)] w fun e w' => e = .returned (.agg #[.int .i64 s.kind, .int .i64 s.at_, .int .u64 s.old, .int .u64 s.new, .bool s.held]) ∧ Kept w w' := by
  obtain ⟨c0, c1, c2, c3, c4, c5, c6, _, _, _, _⟩ := hm
  have hl := lt_of_cell c0
  have ne1 : M ≠ w.heap.size := by omega
  have ne2 : w.heap.size ≠ M := by omega
  go_enter Try.func24, Try.ntmps24
  go_wp2
  refine bodyPost_ret (v := .agg #[.int .i64 s.kind, .int .i64 s.at_, .int .u64 s.old, .int .u64 s.new, .bool s.held]) (by simp [results, Try.results24, go_sem, cell_set]) rfl ⟨rfl, ?_⟩
  go_light
  exact (Kept.refl w).alloc _ _
set_option maxHeartbeats 1000000 in
theorem r_count (M B n : Nat) (s : St) (w : World) (hm : RefIs w M B n s) :
    Calls Try.prog 26 #[.pointer (some ⟨M, 0, none⟩)] w fun e w' => e = .returned (.int .i64 s.cnt) ∧ Kept w w' := by
  obtain ⟨c0, c1, c2, c3, c4, c5, c6, _, _, _, _⟩ := hm
  go_enter Try.func26, Try.ntmps26
  go_wp2
  go_ret
  exact ⟨rfl, by (go_light; repeat (first | (with_reducible exact Kept.refl _) | (with_reducible assumption) | (with_reducible refine Kept.alloc ?_ _ _) | (with_reducible refine Kept.drew ?_) | (with_reducible refine Kept.drewN ?_ _) | ((with_reducible refine Kept.setCell ?_ ?_ _); rotate_left; focus (first | (simp; done) | (simp; omega))) | refine Kept.trans ?_ (by assumption)))⟩
end Go.Proofs.Ytmfbjlaajcdbnaa.Ep

namespace Go.Proofs.Ytmfbjlaajcdbnaa.Ep
set_option maxRecDepth 20000
open Go.RowKit
open Wo (St acc wordAt PMem RefIs)
open Sk (Stk Wd r_load r_store r_cas r_at ref_frame ref_kept ref_lt)

def pinsL (n : Nat) (f : Nat → Int) (S : Stk) (k : Nat) : List Int := (List.range k).map (fun j : Nat => pinV (hv n f (S.K + (j : Int))))
theorem pinsL_succ (n : Nat) (f : Nat → Int) (S : Stk) (k : Nat) : pinsL n f S (k + 1) = pinsL n f S k ++ [pinV (hv n f (S.K + (k : Int)))] := by simp [pinsL, List.range_succ]
theorem pinsL_length (n : Nat) (f : Nat → Int) (S : Stk) (k : Nat) : (pinsL n f S k).length = k := by simp [pinsL]
def lenV : Value → Nat
  | .slice _ n _ => n
  | _ => 0
def RetI (w : World) (l : List Int) (ed : Ending) (w' : World) : Prop := ∃ a c, ed = .returned (.slice a l.length c) ∧ Kept w w' ∧ w'.ownsRow w.heap.size 3 1 (.slice a l.length c) l.length (ints l)
set_option maxHeartbeats 2000000 in
theorem rpinned_any {w : World} {M B n : Nat} {s : St} (S : Stk) (hm : RefIs w M B n s) (hs : Wd n s) (n1 : 1 ≤ n) (N1 : 1 ≤ S.N) (N2 : S.N ≤ 64) (K0 : 0 ≤ S.K) (K1 : S.K ≤ 10000) :
    Calls Try.prog 19 #[.agg #[.int .i64 S.T, .int .i64 S.K, .int .i64 S.N], .pointer (some ⟨M, 0, none⟩)] w (RetI w (pinsL n s.ws S S.N.toNat)) := by
  obtain ⟨i0, hi, hz0, hz1, hz2⟩ := info_parts infoInt
  have HM := Lib.hid hm
  have HW := Lib.hid hs
  clear hm hs
  go_enter Try.func19, Try.ntmps19
  go_wp2_with fail
  obtain ⟨W1, hW1⟩ : ∃ W1, W1 = w.alloc (.cells #[.int .i64 S.T, .int .i64 S.K, .int .i64 S.N] 23) := ⟨_, rfl⟩
  have t0 : W1.cell? ⟨w.heap.size, 0, none⟩ = some (.int .i64 S.T) := by rw [hW1]; exact cell_new w _ _ _ 0 rfl
  have t1 : W1.cell? ⟨w.heap.size, 1, none⟩ = some (.int .i64 S.K) := by rw [hW1]; exact cell_new w _ _ _ 1 rfl
  have t2 : W1.cell? ⟨w.heap.size, 2, none⟩ = some (.int .i64 S.N) := by rw [hW1]; exact cell_new w _ _ _ 2 rfl
  have k1 : Kept w W1 := by rw [hW1]; exact (Kept.refl w).alloc _ _
  have z1 : W1.heap.size = w.heap.size + 1 := by rw [hW1]; simp
  rw [← hW1]
  have K1' := Lib.hid k1
  have Z1 := Lib.hid z1
  have T0 := Lib.hid t0
  have T1 := Lib.hid t1
  have T2 := Lib.hid t2
  clear hW1 k1 z1 t0 t1 t2
  go_loopw [5, 6] (fun v i wr => ∃ k : Nat, k ≤ S.N.toNat ∧ i = .int .i64 k ∧ wr.ownsRow W1.heap.size 3 1 v k (ints (pinsL n s.ws S k)) ∧ Kept W1 wr) (fun _ i _ => S.N.toNat - (intOf i).toNat)
  case atStart => exact ⟨0, Nat.zero_le _, rfl, World.ownsRow_nil _ _ _ _, Kept.refl _⟩
  case round =>
    obtain ⟨k, hk, rfl, hrow, kr⟩ := hrel
    obtain ⟨a, c, rfl⟩ := own_form hrow
    have d0 := kr.some T0.out
    have d1 := kr.some T1.out
    have d2 := kr.some T2.out
    have KR := Lib.hid kr
    have HR := Lib.hid hrow
    have MY := Lib.hid (fun W => many_yes S.N W N1 N2)
    by_cases hfull : k = S.N.toNat
    · have hfl : ¬ (k : Int) < S.N := by omega
      have hfl2 : S.N ≤ (k : Int) := by omega
      have HF := Lib.hid hfull
      clear hk hrow hfull
      go_wp2_with fail
      refine (MY.out _).mono ?_
      rintro e _ ⟨rfl, rfl⟩
      go_wp2
      go_ret
      refine ⟨a, c, by rw [pinsL_length, ← HF.out]; rfl, K1'.out.trans KR.out, ?_⟩
      rw [pinsL_length, ← HF.out]
      exact own_mono HR.out (by have := Z1.out; omega)
    · have hlt : (k : Int) < S.N := by omega
      have hk2 : k ≤ 64 := by omega
      have HKN : Hid (k < S.N.toNat) := Lib.hid (by omega)
      have hsum : IntKind.i64.wrap (S.K + (k : Int)) = S.K + (k : Int) := by rw [IntKind.wrap_i64]; omega
      have wb := HW.out.word (S.K + (k : Int))
      clear hk hfull hrow
      go_wp2_with fail
      refine (MY.out _).mono ?_
      rintro e _ ⟨rfl, rfl⟩
      go_wp2_with fail
      refine (r_at M B n s (S.K + (k : Int)) _ (ref_kept HM.out n1 (K1'.out.trans KR.out))).mono ?_
      rintro e _ ⟨rfl, rfl⟩
      by_cases hz : wordAt n s (S.K + (k : Int)) = 0
      · have HV : Hid (pinV (hv n s.ws (S.K + (k : Int))) = -1) := Lib.hid (by unfold pinV; rw [hv_word, if_pos hz])
        have hzb : (wordAt n s (S.K + (k : Int)) == 0) = true := by simpa using hz
        go_wp2_with (at_builtin; refine wpList_append_own _ rfl _ _ 47 rfl W1.heap.size 3 i0 (.int .i64 0) 1 8 Try.underlying47 hi hz0 hz1 hz2 rfl (by decide) _ _ _ rfl (HR.out.alloc _) ⟨wr.heap.size, 0, none⟩ 1 1 [.int .i64 (-1)] rfl ?qc1 ?qc2 ?qc3 ?qc4 ?qc5 ?qc6 ?_)
        case qc1 => rfl
        case qc2 =>
          intro j u hj
          cases j with
          | zero => rw [← hj]; exact cell_new _ _ _ _ 0 rfl
          | succ j => simp at hj
        case qc3 => intro u hu; simp at hu; subst hu; rfl
        case qc4 => unfold maxLen; omega
        case qc5 => omega
        case qc6 => have := KR.out.size; simp; omega
        intro v' w4 hown hgrow hnil
        have hKz : Kept W1 (wr.alloc (.cells #[.int .i64 (-1)] 3)) := KR.out.alloc _ _
        have k4 : Kept W1 w4 := ⟨hKz.below.grown hgrow hKz.size (fun j e => (HR.out.lt j e).1)⟩
        have HO := Lib.hid hown
        have K4 := Lib.hid k4
        clear hown hgrow hnil hKz k4 d0 d1 d2
        go_wp2_with fail
        go_roundw
        case rel =>
          exact ⟨k + 1, by have := HKN.out; omega, by go_num, by
            rw [pinsL_succ, ints_append, HV.out]
            exact HO.out, K4.out⟩
        case measure => simp [intOf]; have := HKN.out; omega
      · have HV : Hid (pinV (hv n s.ws (S.K + (k : Int))) = ep (wordAt n s (S.K + (k : Int)) - 1)) := Lib.hid (by unfold pinV; rw [hv_word, if_neg hz])
        have hzb : (wordAt n s (S.K + (k : Int)) == 0) = false := by simpa using hz
        have hw1 : IntKind.u64.wrap (wordAt n s (S.K + (k : Int)) - 1) = wordAt n s (S.K + (k : Int)) - 1 := by rw [IntKind.wrap_u64]; omega
        go_wp2_with fail
        refine (rread_any _ _ (by omega) (by omega)).mono ?_
        rintro e _ ⟨rfl, rfl⟩
        go_wp2_with (at_builtin; refine wpList_append_own _ rfl _ _ 47 rfl W1.heap.size 3 i0 (.int .i64 0) 1 8 Try.underlying47 hi hz0 hz1 hz2 rfl (by decide) _ _ _ rfl (HR.out.alloc _) ⟨wr.heap.size, 0, none⟩ 1 1 [.int .i64 (ep (wordAt n s (S.K + (k : Int)) - 1))] rfl ?qc1 ?qc2 ?qc3 ?qc4 ?qc5 ?qc6 ?_)
        case qc1 => rfl
        case qc2 =>
          intro j u hj
          cases j with
          | zero => rw [← hj]; exact cell_new _ _ _ _ 0 rfl
          | succ j => simp at hj
        case qc3 => intro u hu; simp at hu; subst hu; rfl
        case qc4 => unfold maxLen; omega
        case qc5 => omega
        case qc6 => have := KR.out.size; simp; omega
        intro v' w4 hown hgrow hnil
        have hKz : Kept W1 (wr.alloc (.cells #[.int .i64 (ep (wordAt n s (S.K + (k : Int)) - 1))] 3)) := KR.out.alloc _ _
        have k4 : Kept W1 w4 := ⟨hKz.below.grown hgrow hKz.size (fun j e => (HR.out.lt j e).1)⟩
        have HO := Lib.hid hown
        have K4 := Lib.hid k4
        clear hown hgrow hnil hKz k4 d0 d1 d2
        go_wp2_with fail
        go_roundw
        case rel =>
          exact ⟨k + 1, by have := HKN.out; omega, by go_num, by
            rw [pinsL_succ, ints_append, HV.out]
            exact HO.out, K4.out⟩
        case measure => simp [intOf]; have := HKN.out; omega
theorem pins_reads {w : World} {M B n : Nat} {s : St} (S : Stk) (hm : RefIs w M B n s) (hs : Wd n s) (n1 : 1 ≤ n) (N1 : 1 ≤ S.N) (N2 : S.N ≤ 64) (K0 : 0 ≤ S.K) (K1 : S.K ≤ 10000) :
    Calls Try.prog 19 #[.agg #[.int .i64 S.T, .int .i64 S.K, .int .i64 S.N], .pointer (some ⟨M, 0, none⟩)] w fun e w' => ∃ a c, e = .returned (.slice a S.N.toNat c) ∧ Kept w w' ∧ Reads w' a S.N.toNat (pinL n s.ws S) := by
  refine (rpinned_any S hm hs n1 N1 N2 K0 K1).mono ?_
  rintro e w' ⟨a, c, rfl, k, own⟩
  rw [pinsL_length] at own ⊢
  refine ⟨a, c, rfl, k, ?_⟩
  rcases own_lies own with ⟨e, h0, _⟩ | ⟨g, o, c', e, _, _, hc⟩
  · exact .inl h0
  · injection e with e1 e2 e3
    subst e1
    exact .inr ⟨g, o, rfl, fun i hi => hc i _ (by simp [ints, pinsL, pinL, hi])⟩
end Go.Proofs.Ytmfbjlaajcdbnaa.Ep
