/- Fill: the program's and the document's. -/
import Derived.Test.YtmbdgaflmiacnaaG12
import Derived.Test.YtmbdgaflmiacnaaG03
import Derived.Deep.RegionHeld3
import Derived.Test.YtmbdgaflmiacnaaProg
import Derived.Test.YtmbdgaflmiacnaaG00
import Derived.WalkLawsBesides
import Derived.Deep.AppendSrc
import Derived.ChangeSlices
import Derived.WalkKit
import Derived.ProofKit
import Derived.Lib.Hide
import Derived.Deep.QuietTactic
import Derived.BigQuiet
import Derived.OwnWalk
import Derived.LoopN
import Derived.Test.YtmbdgaflmiacnaaG11
set_option linter.unusedVariables false
set_option linter.unusedSimpArgs false

namespace Go.Proofs.Ytmbdgaflmiacnaa.Sk
set_option maxRecDepth 20000
open Go.RowKit
open Wo (St acc wordAt PMem RefIs)

def fillTo (n : Nat) (S : Stk) (s : St) : Nat → St
  | 0 => acc n s 2 S.T true 1
  | k + 1 => acc n (fillTo n S s k) 2 (S.K + k) true (k + 2)
def fillSt (n : Nat) (S : Stk) (s : St) : St := acc n (fillTo n S s (S.N.toNat - 1)) 2 (S.K + (S.N - 1)) true 0
theorem fillTo_cnt (n : Nat) (S : Stk) (s : St) (k : Nat) : (fillTo n S s k).cnt = s.cnt + 1 + k := by
  induction k with
  | zero => show (acc n s 2 S.T true 1).cnt = _; rw [acc_cnt]; simp
  | succ k ih => show (acc n (fillTo n S s k) 2 (S.K + k) true (k + 2)).cnt = _; rw [acc_cnt, ih]; omega
theorem fillTo_wd {n : Nat} {S : Stk} {s : St} (h : Wd n s) : ∀ k, k ≤ 100000 → Wd n (fillTo n S s k)
  | 0, _ => h.acc _ _ _ _ (by omega) (by omega)
  | k + 1, hk => (fillTo_wd h k (by omega)).acc _ _ _ _ (by omega) (by omega)
theorem fillSt_cnt {n : Nat} {S : Stk} {s : St} (h : 1 ≤ S.N) : (fillSt n S s).cnt = s.cnt + 1 + S.N := by
  unfold fillSt; rw [acc_cnt, fillTo_cnt]; omega
theorem fillSt_wd {n : Nat} {S : Stk} {s : St} (h : Wd n s) (hN : S.N ≤ 4096) : Wd n (fillSt n S s) := (fillTo_wd h _ (by omega)).acc _ _ _ _ (by omega) (by omega)

set_option maxHeartbeats 2000000 in
theorem p_fill (M B n : Nat) (S : Stk) (s : St) (w : World) (hm : PMem w M B n s) (h0 : 0 ≤ s.cnt) (h1 : s.cnt ≤ 900000) (hS : S.Ok n) :
    Calls Try.prog 17 #[.agg #[.int .i64 S.T, .int .i64 S.K, .int .i64 S.N], .pointer (some ⟨M, 0, none⟩)] w fun e w' => e = .returned (.tuple #[]) ∧ PMem w' M B n (fillSt n S s) ∧ But (fun k => k = B) w w' := by
  have N1 := hS.N1
  have N2 := hS.N2
  have K1 := hS.K1
  have K2 := hS.K2
  have n2 := hS.n2
  have hB := (pmem_lt hm).2
  have HM := Lib.hid hm
  clear hm hS
  go_enter Try.func17, Try.ntmps17
  go_wp2_with fail
  refine (sized_yes S _ N1 N2).mono ?_
  rintro e w1 ⟨rfl, k1⟩
  have a0 : w1.cell? ⟨w.heap.size, 0, none⟩ = some (.int .i64 S.T) := k1.some (by simp)
  have a1 : w1.cell? ⟨w.heap.size, 1, none⟩ = some (.int .i64 S.K) := k1.some (by simp)
  have a2 : w1.cell? ⟨w.heap.size, 2, none⟩ = some (.int .i64 S.N) := k1.some (by simp)
  have hne : w.heap.size ≠ B := by omega
  have K : Hid (Kept w w1) := Lib.hid (by (go_light; repeat (first | (with_reducible exact Kept.refl _) | (with_reducible assumption) | (with_reducible refine Kept.alloc ?_ _ _) | (with_reducible refine Kept.drew ?_) | (with_reducible refine Kept.drewN ?_ _) | ((with_reducible refine Kept.setCell ?_ ?_ _); rotate_left; focus (first | (simp; done) | (simp; omega))) | refine Kept.trans ?_ (by assumption))))
  clear k1
  go_wp2_with fail
  go_region_held3 (fun w' => w'.cell? ⟨w.heap.size, 0, none⟩ = some (.int .i64 S.T) ∧ w'.cell? ⟨w.heap.size, 1, none⟩ = some (.int .i64 S.K) ∧ w'.cell? ⟨w.heap.size, 2, none⟩ = some (.int .i64 S.N)) (first | go_keep | (exact ⟨k2.some a0, k2.some a1, k2.some a2⟩) | (exact ⟨d0, d1, d2⟩)) (first
    | (go_at_call 46; refine (untagged_any 0 _ (by omega) (by omega)).mono ?_; rintro e w2 ⟨rfl, k2⟩; have KT : Kept w1 w2 := Kept.trans (b := _) (by first | exact Kept.refl _ | exact (Kept.refl _).drew | exact (Kept.refl _).drewN _) k2)
    | (go_at_call 45; refine (p_store M B n s S.T 1 _ (pmem_kept HM.out (K.out.trans (by first | exact KT | exact KT.drew | exact KT.drewN _))) h0 (by omega)).mono ?_; rintro e w3 ⟨rfl, m3, b3⟩; have BT : But (fun k => k = B) w1 w3 := (Kept.but (w' := _) (by first | exact KT | exact KT.drew | exact KT.drewN _) _).trans b3 (fun _ _ h => h); have d0 := BT.some a0 hne; have d1 := BT.some a1 hne; have d2 := BT.some a2 hne))
  have M3 := Lib.hid m3
  have BW := Lib.hid ((K.out.but _).trans BT (fun _ _ h => h))
  have D0 := Lib.hid d0
  have D1 := Lib.hid d1
  have D2 := Lib.hid d2
  clear a0 a1 k2 KT m3 b3 BT d0 d1
  obtain ⟨m, hmm⟩ : ∃ m : Nat, (m : Int) = S.N - 1 := ⟨(S.N - 1).toNat, by omega⟩
  have HMM := Lib.hid hmm
  clear hmm
  go_wp2_with fail
  go_loopw [18, 5] (fun i _ wr => ∃ k : Nat, k ≤ m ∧ i = .int .i64 k ∧ PMem wr M B n (fillTo n S s k) ∧ But (fun k => k = B) w3 wr) (fun i _ _ => m - (intOf i).toNat)
  case atStart => exact ⟨0, Nat.zero_le _, rfl, M3.out, But.refl _ _⟩
  case round =>
    obtain ⟨k, hk, rfl, mr, br⟩ := hrel
    have e0 := br.some D0.out hne
    have e1 := br.some D1.out hne
    have e2 := br.some D2.out hne
    have hmm := HMM.out
    have MR := Lib.hid mr
    have BR := Lib.hid br
    have c0 : 0 ≤ (fillTo n S s k).cnt := by rw [fillTo_cnt]; omega
    have c1 : (fillTo n S s k).cnt ≤ 1000000 := by rw [fillTo_cnt]; omega
    clear mr br
    by_cases hlt : k < m
    · have hl : (k : Int) < S.N - 1 := by omega
      clear hmm
      go_wp2_with fail
      refine (link_in S.T S.K S.N k _ K1 (by omega) (by omega) (by omega)).mono ?_
      rintro e w4 ⟨rfl, k4⟩
      go_wp2_with fail
      refine (untagged_any (k + 1) _ (by omega) (by omega)).mono ?_
      rintro e w5 ⟨rfl, k5⟩
      go_wp2_with fail
      refine (p_store M B n _ (S.K + k) (k + 1 + 1) _ (pmem_kept MR.out (k4.trans k5)) c0 c1).mono ?_
      rintro e w6 ⟨rfl, m6, b6⟩
      have M6 := Lib.hid m6
      have B6 := Lib.hid ((BR.out.then (k4.trans k5)).trans b6 (fun _ _ h => h))
      clear k4 k5 m6 b6
      go_wp2
      go_roundw
      case rel => exact ⟨k + 1, by omega, by go_num, by have := M6.out; rw [show ((k : Int) + 1 + 1) = k + 2 by omega] at this; exact this, B6.out⟩
      case measure => simp [intOf]; omega
    · have hl : S.N - 1 ≤ (k : Int) := by omega
      have hkm : k = S.N.toNat - 1 := by omega
      have HKM := Lib.hid hkm
      clear hmm hkm
      go_wp2_with fail
      refine (link_in S.T S.K S.N (S.N - 1) _ K1 (by omega) (by omega) (by omega)).mono ?_
      rintro e w4 ⟨rfl, k4⟩
      go_wp2_with fail
      refine (untagged_any (-1) _ (by omega) (by omega)).mono ?_
      rintro e w5 ⟨rfl, k5⟩
      go_wp2_with fail
      refine (p_store M B n _ (S.K + (S.N - 1)) 0 _ (pmem_kept MR.out (k4.trans k5)) c0 c1).mono ?_
      rintro e w6 ⟨rfl, m6, b6⟩
      have M6 := Lib.hid m6
      have B6 := Lib.hid ((BR.out.then (k4.trans k5)).trans b6 (fun _ _ h => h))
      clear k4 k5 m6 b6
      go_wp2
      go_end0
      refine ⟨rfl, ?_, BW.out.trans B6.out (fun _ _ h => h)⟩
      have := M6.out
      rw [HKM.out] at this
      exact this

end Go.Proofs.Ytmbdgaflmiacnaa.Sk

namespace Go.Proofs.Ytmbdgaflmiacnaa
open Go.RowKit Go.ChangeShapes Go.WideShapes

structure Nums (f : Nat → Int) (len : Nat) : Prop where
  lo : ∀ i, -9223372036854775808 ≤ f i
  hi : ∀ i, f i ≤ 9223372036854775807
  zero : ∀ i, len ≤ i → f i = 0

def Row (w : World) (a : Option Addr) (len cap : Nat) (f : Nat → Int) : Prop :=
  Nums f len ∧ len ≤ cap ∧ cap ≤ maxLen ∧ ((a = none ∧ len = 0 ∧ cap = 0) ∨ (∃ x, a = some x ∧ len = 0) ∨
    ∃ b off, a = some ⟨b, off, none⟩ ∧ b < w.heap.size ∧ ∀ i, i < len → w.cell? ⟨b, off + i, none⟩ = some (.int .i64 (f i)))

theorem wf_i64 (x : Int) (h : (Lit.int .i64 x).wf = true) : -9223372036854775808 ≤ x ∧ x ≤ 9223372036854775807 := by
  have e : IntKind.i64.min = -9223372036854775808 := by decide
  simpa [Lit.wf, e] using h
theorem getD_mem (zs : List Int) (i : Nat) (h : i < zs.length) : zs.getD i 0 ∈ zs := by
  have e : zs.getD i 0 = zs[i]'h := by simp [h]
  rw [e]
  exact List.getElem_mem _

theorem open_row {H : Type} {enc : TypeId × Value → H} {w : World} {base : Nat} {spare : Nat → Bool} {held : Bool} {fuel : Nat} {a : Option Addr} {len cap : Nat} {x : DataW H × List MemPlace}
    (h : DataW.trod enc Try.prog w base spare held fuel 62 [.slice a len cap] = some x) : ∃ f, Row w a len cap f := by
  rcases open_ints Try.underlying62 Try.underlying3 (by kernel_rfl) h with h0 | ⟨x, len', cap', zs, hcs, _, hl, hm, hz, _, hc, hw⟩
  · obtain ⟨rfl, rfl, rfl⟩ : a = none ∧ len = 0 ∧ cap = 0 := by simpa using h0.1
    exact ⟨fun _ => 0, ⟨by intro i; omega, by intro i; omega, fun _ _ => rfl⟩, Nat.le_refl _, Nat.zero_le _, .inl ⟨rfl, rfl, rfl⟩⟩
  · obtain ⟨rfl, rfl, rfl⟩ : a = some x ∧ len = len' ∧ cap = cap' := by simpa using hcs
    have hle : len ≤ zs.length := by rw [hz]; split <;> omega
    refine ⟨fun i => if i < len then zs.getD i 0 else 0, ⟨fun i => ?_, fun i => ?_, fun i hi => by simp; omega⟩, hl, hm, ?_⟩
    · by_cases hi : i < len
      · simp only [hi, if_true]
        exact (wf_i64 _ (hw _ (getD_mem zs i (by omega)))).1
      · simp [hi]
    · by_cases hi : i < len
      · simp only [hi, if_true]
        exact (wf_i64 _ (hw _ (getD_mem zs i (by omega)))).2
      · simp [hi]
    · by_cases h0 : len = 0
      · exact .inr (.inl ⟨x, rfl, h0⟩)
      · obtain ⟨b, off, spot⟩ := x
        have hc0 := hc 0 (by omega)
        have hs : spot = none := by simpa [Addr.add] using World.cell?_spot hc0
        subst hs
        refine .inr (.inr ⟨b, off, rfl, ?_, fun i hi => ?_⟩)
        · have := World.block_lt_of_cell? w _ hc0
          simpa [Addr.add] using this
        · have h := hc i (by omega)
          have e : (Addr.add ⟨b, off, none⟩ i) = ⟨b, off + i, none⟩ := by
            unfold Addr.add
            split <;> simp_all
          rw [e] at h
          simp only [hi, if_true]
          exact h

theorem infoInt : (Try.prog.info? 3).map (fun i => (i.zero, i.size, i.bytes)) = some (some (.int .i64 0), 1, 8) := by kernel_rfl

structure Made (W w' : World) (b len cap : Nat) (f : Nat → Int) : Prop where
  new : W.heap.size ≤ b
  old : b < w'.heap.size
  room : len ≤ cap
  most : cap ≤ maxLen
  cell : ∀ i, i < len → w'.cell? ⟨b, i, none⟩ = some (.int .i64 (f i))
  soft : ∀ i, w'.frozen? ⟨b, i, none⟩ = false

theorem copy_run (ty : TypeId) (W : World) (a : Option Addr) (len cap : Nat) (f : Nat → Int) (h : Row W a len cap f) (hs : len ≤ 1000000) :
    ∃ b C W', (Builtin.append_ #[62, 62] ty #[.slice (some ⟨W.heap.size, 0, none⟩) 0 0, .slice a len cap]).run Try.prog (W.alloc (.cells #[] 3)) = .ok (.slice (some ⟨b, 0, none⟩) len C) W' ∧
      Kept W W' ∧ Made W W' b len C f := by
  obtain ⟨i0, hi, hz0, hz1, hz2⟩ := info_parts infoInt
  obtain ⟨hn, hlc, hcm, h⟩ := h
  have k1 : Kept W (W.alloc (.cells #[] 3)) := (Kept.refl W).alloc _ _
  by_cases h0 : len = 0
  · subst h0
    have src : Src Try.prog i0.size 62 (.slice a 0 cap) 0 [] (W.alloc (.cells #[] 3)) := by
      cases a with
      | none => exact Src.ofNil _ Try.underlying62 cap
      | some x => exact Src.ofSlice _ Try.underlying62 x 0 cap [] (by simp) (fun j u hj => by simp at hj) (fun u hu => by cases hu)
    have hr := run_append_room_src (P := Try.prog) (W.alloc (.cells #[] 3)) 62 62 ty 3 i0 Try.underlying62 hi W.heap.size 0 0 0 (.slice a 0 cap) 0 [] src (Nat.le_refl _) (fun j hj => by simp at hj) (fun j hj => by simp at hj)
    refine ⟨W.heap.size, 0, _, hr, ?_, Nat.le_refl _, by simp [World.setCells], Nat.le_refl _, Nat.zero_le _, fun i hi => absurd hi (Nat.not_lt_zero i), fun i => ?_⟩
    · simpa [World.setCells] using k1
    · have e : ((W.alloc (.cells #[] 3)).setCells W.heap.size (0 + 0 * i0.size) []).frozen? ⟨W.heap.size, i, none⟩ = (W.alloc (.cells #[] 3)).frozen? ⟨W.heap.size, i, none⟩ := by simp [World.setCells]
      rw [e, frozen?_alloc_cells]
      simp [World.frozen?]
  · obtain ⟨b, off, rfl, hb, hc⟩ : ∃ b off, a = some ⟨b, off, none⟩ ∧ b < W.heap.size ∧ ∀ i, i < len → W.cell? ⟨b, off + i, none⟩ = some (.int .i64 (f i)) := by
      rcases h with ⟨_, h, _⟩ | ⟨_, _, h⟩ | h
      · omega
      · omega
      · exact h
    have src : Src Try.prog i0.size 62 (.slice (some ⟨b, off, none⟩) len cap) len ((List.range len).map fun i => Value.int .i64 (f i)) (W.alloc (.cells #[] 3)) := by
      refine Src.ofSlice _ Try.underlying62 _ len cap _ (by simp [hz1]) (fun j u hj => ?_) (fun u hu => by obtain ⟨i, _, rfl⟩ := List.mem_map.1 hu; rfl)
      have hjl : j < len := by have := (List.getElem?_eq_some_iff.1 hj).1; simpa using this
      have e : (Addr.add ⟨b, off, none⟩ j) = ⟨b, off + j, none⟩ := by unfold Addr.add; split <;> simp_all
      rw [e, World.cell?_alloc_past _ _ _ hb, hc j hjl]
      simpa [hjl] using hj
    have hold : (Builtin.firstCells i0.size 0 (.slice (some ⟨W.heap.size, 0, none⟩) 0 0)).run Try.prog (W.alloc (.cells #[] 3)).drew = .ok (([] : List Value).toArray) (W.alloc (.cells #[] 3)).drew := by
      exact run_firstCells_some _ i0.size 0 ⟨W.heap.size, 0, none⟩ 0 0 [] (by simp) (fun j u hj => by simp at hj)
    have hr := run_append_grow_src (P := Try.prog) (W.alloc (.cells #[] 3)) 62 62 ty 3 i0 (.int .i64 0) Try.underlying62 hi hz0 (some ⟨W.heap.size, 0, none⟩) 0 0 [] hold (.slice (some ⟨b, off, none⟩) len cap) len _ src (by omega) (by omega)
      (by rw [hz2]; have := growslice_fits (old := 0) (need := 0 + len) (bytes := 8) (by omega) (by omega); exact this)
    have hge := grownCap_ge (W.alloc (.cells #[] 3)) (0 + len) 0 3
    have hle := grownCap_le_maxLen (W.alloc (.cells #[] 3)) (0 + len) 0 3 (by unfold maxLen; omega)
    simp only [Nat.zero_add, List.nil_append, World.size_alloc] at hr hge hle
    refine ⟨_, _, _, hr, (k1.drew).alloc _ _, by omega, by simp [World.drew], hge, hle, fun i hi => ?_, fun i => ?_⟩
    · rw [cell_new _ _ _ (W.heap.size + 1) i (by simp), Array.getElem?_append_left (by simpa using hi)]
      simp [hi]
    · rw [frozen?_alloc_cells]
      simp [World.frozen?, World.drew]

theorem wpList_copy {ops : Array Oper} {rest : List Oper} {o : Oper} {A : Act} {Q : Exit → Act → World → Prop} (hg : o.guard = none) (s x : Operand)
    (ho : o.op = .call { callee := .builtin .append, args := #[s, x], argTypes := #[62, 62] })
    (W : World) (a : Option Addr) (len cap : Nat) (f : Nat → Int) (hr : Row W a len cap f) (hs : len ≤ 1000000) (e1 : A.eval s = .slice (some ⟨W.heap.size, 0, none⟩) 0 0) (e2 : A.eval x = .slice a len cap)
    (h : ∀ b C W', Kept W W' → Made W W' b len C f → wpList Try.prog ops Q rest (A.put o.dst (.slice (some ⟨b, 0, none⟩) len C)) W') :
    wpList Try.prog ops Q (o :: rest) A (W.alloc (.cells #[] 3)) := by
  refine wpList_plain hg fun K hK => ?_
  obtain ⟨b, C, W', hrun, hk, hm⟩ := copy_run o.type W a len cap f hr hs
  unfold Oper.wp execOp
  simp only [ho, resolve, invoke, builtin, Sem.run_bind, Sem.run_pure, Result.andThen_ok, List.map_toArray, List.map_cons, List.map_nil, e1, e2, hrun]
  exact hK _ _ (h b C W' hk hm)

def Reads (w : World) (a : Option Addr) (len : Nat) (f : Nat → Int) : Prop :=
  len = 0 ∨ ∃ b o, a = some ⟨b, o, none⟩ ∧ ∀ i, i < len → w.cell? ⟨b, o + i, none⟩ = some (.int .i64 (f i))
theorem Row.reads {w : World} {a : Option Addr} {len cap : Nat} {f : Nat → Int} (h : Row w a len cap f) : Reads w a len f := by
  rcases h.2.2.2 with h | ⟨_, _, h⟩ | ⟨b, o, h, _, hc⟩
  · exact .inl h.2.1
  · exact .inl h
  · exact .inr ⟨b, o, h, hc⟩
theorem Reads.kept {w w' : World} {a : Option Addr} {len : Nat} {f : Nat → Int} (h : Reads w a len f) (k : Kept w w') : Reads w' a len f := by
  rcases h with h | ⟨b, o, h, hc⟩
  · exact .inl h
  · exact .inr ⟨b, o, h, fun i hi => k.some (hc i hi)⟩
theorem Row.kept {w w' : World} {a : Option Addr} {len cap : Nat} {f : Nat → Int} (h : Row w a len cap f) (k : Kept w w') : Row w' a len cap f := by
  refine ⟨h.1, h.2.1, h.2.2.1, ?_⟩
  rcases h.2.2.2 with h | h | ⟨b, o, h, hb, hc⟩
  · exact .inl h
  · exact .inr (.inl h)
  · exact .inr (.inr ⟨b, o, h, Nat.lt_of_lt_of_le hb k.size, fun i hi => k.some (hc i hi)⟩)
theorem Made.reads {W w : World} {b len cap : Nat} {f : Nat → Int} (h : Made W w b len cap f) : Reads w (some ⟨b, 0, none⟩) len f :=
  .inr ⟨b, 0, rfl, fun i hi => by rw [Nat.zero_add]; exact h.cell i hi⟩
theorem Made.kept {W w w' : World} {b len cap : Nat} {f : Nat → Int} (h : Made W w b len cap f) (k : Kept w w') : Made W w' b len cap f :=
  ⟨h.new, Nat.lt_of_lt_of_le h.old k.size, h.room, h.most, fun i hi => k.some (h.cell i hi), fun i => k.soft h.old (h.soft i)⟩
theorem Made.row {W w : World} {b len cap : Nat} {f : Nat → Int} (h : Made W w b len cap f) (hn : Nums f len) : Row w (some ⟨b, 0, none⟩) len cap f :=
  ⟨hn, h.room, h.most, .inr (.inr ⟨b, 0, rfl, h.old, fun i hi => by rw [Nat.zero_add]; exact h.cell i hi⟩)⟩
end Go.Proofs.Ytmbdgaflmiacnaa

namespace Go.Proofs.Ytmbdgaflmiacnaa
open Go.RowKit

set_option maxHeartbeats 1000000 in
theorem sameInts_yes (a a' : Option Addr) (n c c' : Nat) (f : Nat → Int) (w : World) (hn : n ≤ 9223372036854775807) (h : Reads w a n f) (h' : Reads w a' n f) :
    Calls Try.prog 22 #[.slice a n c, .slice a' n c'] w fun e w' => e = .returned (.bool true) ∧ Kept w w' := by
  by_cases h0 : n = 0
  · subst h0
    clear h h' hn
    go_enter Try.func22, Try.ntmps22
    go_wp2
    go_loopw [5, 6] (fun s i wr => s = .bool true ∧ i = .int .i64 0 ∧ wr = w) (fun _ _ _ => 0)
    case atStart => exact ⟨rfl, rfl, rfl⟩
    case round =>
      obtain ⟨rfl, rfl, rfl⟩ := hrel
      go_wp2
      go_ret
      exact ⟨rfl, Kept.refl _⟩
  · obtain ⟨b, o, rfl, hc⟩ := h.resolve_left h0
    obtain ⟨b', o', rfl, hc'⟩ := h'.resolve_left h0
    have HC := Lib.hid hc
    have HC' := Lib.hid hc'
    clear hc hc' h h'
    go_enter Try.func22, Try.ntmps22
    go_wp2
    go_loopw [5, 6] (fun s i wr => ∃ k : Nat, k ≤ n ∧ s = .bool true ∧ i = .int .i64 k ∧ (∃ q, wr = w.drewN q)) (fun _ i _ => n - (intOf i).toNat)
    case atStart => exact ⟨0, Nat.zero_le _, rfl, rfl, 0, rfl⟩
    case round =>
      obtain ⟨k, hk, rfl, rfl, q, rfl⟩ := hrel
      by_cases hlt : k < n
      · have h1 := HC.out k hlt
        have h2 := HC'.out k hlt
        go_wp2
        go_quiet (fail)
        go_wp2
        go_roundw
        case rel => exact ⟨k + 1, by omega, rfl, by go_num, q + nq, rfl⟩
        case measure => simp [intOf]; omega
      · go_wp2
        go_ret
        exact ⟨rfl, (Kept.refl _).drewN _⟩

theorem tmod_up (x n : Int) (hn : 0 < n) (hn' : n ≤ 1000000) (h : x.tmod n < 0) : wrap64 (x.tmod n + n) = x % n := by
  have e := Int.tmod_eq_emod (a := x) (b := n)
  have h1 := Int.emod_nonneg x (show n ≠ 0 by omega)
  have h2 := Int.emod_lt_of_pos x hn
  unfold wrap64
  split at e <;> omega
theorem tmod_at (x n : Int) (hn : 0 < n) (h : 0 ≤ x.tmod n) : x.tmod n = x % n := by
  have e := Int.tmod_eq_emod (a := x) (b := n)
  have h1 := Int.emod_nonneg x (show n ≠ 0 by omega)
  have h2 := Int.emod_lt_of_pos x hn
  split at e <;> omega

set_option maxHeartbeats 400000 in
theorem pick_any (x n : Int) (hn : 1 ≤ n) (hn' : n ≤ 1000000) (w : World) :
    Calls Try.prog 27 #[.int .i64 x, .int .i64 n] w fun e w' => e = .returned (.int .i64 (x % n)) ∧ w = w' := by
  go_enter Try.func27, Try.ntmps27
  go_wp2
  · rename_i _ h
    go_ret
    exact ⟨by show Ending.returned (.int .i64 (wrap64 (x.tmod n + n))) = _; rw [tmod_up x n (by omega) hn' h], rfl⟩
  · rename_i _ h
    go_ret
    exact ⟨by show Ending.returned (.int .i64 (x.tmod n)) = _; rw [tmod_at x n (by omega) h], rfl⟩

theorem make_ints (n : Nat) (hn : n ≤ 1000000) : ∃ Z : Array Value, (∀ i, i < n → Z[i]? = some (.int .i64 0)) ∧
    ∀ w : World, (Instr.makeSlice 62 (.int .i64 (n : Int)) (.int .i64 (n : Int))).run Try.prog w = .ok (.slice (some ⟨w.heap.size, 0, none⟩) n n) (w.alloc (.cells Z 3)) := by
  obtain ⟨i0, hi, hz0, hz1, hz2⟩ := info_parts infoInt
  refine ⟨madeCells #[.int .i64 0] n, fun i h => ?_, fun w => ?_⟩
  · have e : (madeCells #[.int .i64 0] n)[i]? = (madeCells #[.int .i64 0] n).toList[i]? := by simp
    rw [e, toList_madeCells_one]
    simp [h]
  · have h := run_makeSlice (P := Try.prog) w 62 3 i0 (.int .i64 0) Try.underlying62 hi hz0 .i64 .i64 (n : Int) (n : Int) (by omega) (Int.le_refl _) (by rw [hz1]; omega) (by rw [hz2]; omega) (by omega)
    rw [h, hz1]
    simp [Value.cells]
end Go.Proofs.Ytmbdgaflmiacnaa

namespace Go.Proofs.Ytmbdgaflmiacnaa.Sk
set_option maxRecDepth 20000
open Go.RowKit
open Wo (St acc wordAt PMem RefIs)

def S3 : Stk := ⟨0, 1, 3⟩
def s0 : St := fillSt 4 S3 Wo.St.zero
def x1 : Op := popOp 4 S3 s0 Op.new
def s1 : St := popSt 4 S3 s0 Op.new
def x2 : Op := popOp 4 S3 s1 x1
def s2 : St := popSt 4 S3 s1 x1
def x3 : Op := popOp 4 S3 s2 x2
def s3 : St := popSt 4 S3 s2 x2
theorem ok3 : S3.Ok 4 := ⟨by decide, by decide, by decide, by decide, by decide, by decide, by decide, by decide, by decide⟩
theorem wd_zero (n : Nat) : Wd n Wo.St.zero := ⟨fun _ => by show (0 : Int) ≤ 0; decide, fun _ => by show (0 : Int) < 18446744073709551616; decide⟩
theorem wd0 : Wd 4 s0 := fillSt_wd (wd_zero 4) (by decide)
theorem pops1 : x1.line = 2 ∧ x2.line = 3 ∧ x3.line = 9 ∧ tookI S3 x3 = 0 ∧ tookE S3 x3 = 0 := by decide +kernel
theorem words0 : (List.range 4).map s0.ws = [1, 2, 3, 0] := by decide +kernel
theorem words3 : (List.range 4).map s3.ws = [65538, 2, 3, 0] := by decide +kernel
theorem chain0 : chn 4 s0.ws S3 = [0, 1, 2] := by decide +kernel
theorem cnts : s0.cnt = 4 ∧ s1.cnt = 5 ∧ s2.cnt = 6 ∧ s3.cnt = 7 := by decide +kernel
theorem wordsAt {f : Nat → Int} {l : List Int} {n : Nat} (h : (List.range n).map f = l) (i : Nat) (hi : i < n) : l.getD i 0 = f i := by
  subst h
  simp [hi]

theorem sameWords {b o c b' o' c' n : Nat} {f : Nat → Int} {w : World} (hn : n ≤ 4096)
    (hc : ∀ i, i < n → w.cell? ⟨b, o + i, none⟩ = some (.int .u64 (f i))) (hc' : ∀ i, i < n → w.cell? ⟨b', o' + i, none⟩ = some (.int .u64 (f i))) :
    Calls Try.prog 23 #[.slice (some ⟨b, o, none⟩) n c, .slice (some ⟨b', o', none⟩) n c'] w fun e w' => e = .returned (.bool true) ∧ Kept w w' :=
  (Wo.sameWords_yes b o c b' o' c' n f w (by omega) hc hc').mono fun _ _ ⟨x, k⟩ => ⟨x, kept_of k⟩
theorem ints_at (l : List Int) (j : Nat) (h : j < l.length) : (ints l)[j]? = some (.int .i64 (l.getD j 0)) := by
  simp [ints, h]
theorem reads_own {w : World} {base : Nat} {a : Option Addr} {l : List Int} {c : Nat} (h : w.ownsRow base 3 1 (.slice a l.length c) l.length (ints l)) : Reads w a l.length (fun i => l.getD i 0) := by
  rcases own_lies h with ⟨e, h0, _⟩ | ⟨g, o, c', e, _, _, hc⟩
  · exact .inl h0
  · cases e
    exact .inr ⟨g, o, rfl, fun i hi => hc i _ (ints_at l i hi)⟩

set_option maxHeartbeats 1000000 in
theorem three_any (w : World) : Calls Try.prog 21 #[] w fun e w' => e = .returned (.agg #[.int .i64 S3.T, .int .i64 S3.K, .int .i64 S3.N]) ∧ Kept w w' := by
  go_enter Try.func21, Try.ntmps21
  go_wp2
  refine bodyPost_ret (v := .agg #[.int .i64 0, .int .i64 1, .int .i64 3]) (by simp [results, Try.results21, go_sem]) rfl ⟨rfl, ?_⟩
  (go_light; repeat (first | (with_reducible exact Kept.refl _) | (with_reducible assumption) | (with_reducible refine Kept.alloc ?_ _ _) | (with_reducible refine Kept.drew ?_) | (with_reducible refine Kept.drewN ?_ _) | ((with_reducible refine Kept.setCell ?_ ?_ _); rotate_left; focus (first | (simp; done) | (simp; omega))) | refine Kept.trans ?_ (by assumption)))
theorem p_new4 (w : World) : Calls Try.prog 8 #[.int .i64 4] w
    fun e w' => e = .returned (.tuple #[.pointer (some ⟨w.heap.size + 1, 0, none⟩), .int .i64 0]) ∧ PMem w' (w.heap.size + 1) w.heap.size 4 Wo.St.zero ∧ w'.heap.size = w.heap.size + 2 ∧ Kept w w' := p_new 4 (by decide) (by decide) w
theorem cells4 {w : World} {g : Nat} {t : TypeId} {a b c d : Int} {f : Nat → Int} (hf : (List.range 4).map f = [a, b, c, d]) (hg : g = w.heap.size) (i : Nat) (hi : i < 4) :
    (w.alloc (.cells #[.int .u64 a, .int .u64 b, .int .u64 c, .int .u64 d] t)).cell? ⟨g, 0 + i, none⟩ = some (.int .u64 (f i)) := by
  have e := wordsAt hf i hi
  rw [Nat.zero_add, cell_new _ _ _ _ _ hg, ← e]
  have hc : i = 0 ∨ i = 1 ∨ i = 2 ∨ i = 3 := by omega
  rcases hc with rfl | rfl | rfl | rfl <;> rfl

def f3 (i : Nat) : Int := ([0, 1, 2] : List Int).getD i 0
def Told3 (w : World) (e : Ending) (w' : World) : Prop := ∃ a c, e = .returned (.slice a 3 c) ∧ Kept w w' ∧ Reads w' a 3 f3
theorem chain3 {w : World} {M B : Nat} (hm : PMem w M B 4 s0) : Calls Try.prog 19 #[.agg #[.int .i64 S3.T, .int .i64 S3.K, .int .i64 S3.N], .pointer (some ⟨M, 0, none⟩)] w (Told3 w) := by
  refine (p_chain S3 hm wd0 ok3).mono ?_
  rw [chain0]
  rintro e w' ⟨a, c, rfl, k, h⟩
  exact ⟨a, c, rfl, k, reads_own h⟩
theorem ints3 {w : World} {g : Nat} {t : TypeId} (hg : g = w.heap.size) : Reads (w.alloc (.cells #[.int .i64 0, .int .i64 1, .int .i64 2] t)) (some ⟨g, 0, none⟩) 3 f3 := by
  refine .inr ⟨g, 0, rfl, fun i hi => ?_⟩
  rw [Nat.zero_add, cell_new _ _ _ _ _ hg]
  have hc : i = 0 ∨ i = 1 ∨ i = 2 := by omega
  rcases hc with rfl | rfl | rfl <;> rfl

def Chap (s : St) (w : World) (e : Ending) (w' : World) : Prop := ∃ M B, e = .returned (.pointer (some ⟨M, 0, none⟩)) ∧ PMem w' M B 4 s ∧ Kept w w' ∧ w.heap.size ≤ M ∧ w.heap.size ≤ B

set_option maxHeartbeats 2000000 in
theorem filled_any (w : World) : Calls Try.prog 51 #[] w (Chap s0 w) := by
  go_enter Try.func51, Try.ntmps51
  go_wp2_with fail
  refine (p_new4 _).mono ?_
  rintro e w1 ⟨rfl, m1, z1, k1⟩
  have M1 := Lib.hid m1
  have K1 := Lib.hid k1
  have Z1 := Lib.hid z1
  clear m1 k1 z1
  go_wp2_with fail
  refine (three_any _).mono ?_
  rintro e w2 ⟨rfl, k2⟩
  have K2 := Lib.hid k2
  clear k2
  go_wp2_with fail
  refine (p_fill _ _ 4 S3 Wo.St.zero _ (pmem_kept M1.out K2.out) (by decide) (by decide) ok3).mono ?_
  rintro e w3 ⟨rfl, m3, b3⟩
  have M3 : Hid (PMem w3 (w.heap.size + 1) w.heap.size 4 s0) := Lib.hid m3
  have K3 : Hid (Kept w w3) := Lib.hid ((((K1.out.trans K2.out).but (fun k => k = w.heap.size)).trans b3 (fun _ _ h => h)).kept (fun k hk h => by omega))
  clear m3 b3
  go_wp2_with fail
  refine (p_words _ _ 4 s0 _ M3.out).mono ?_
  rintro e w4 ⟨b, c, rfl, hb1, hb2, hw, hf, k4⟩
  have HW := Lib.hid hw
  have K4 := Lib.hid k4
  clear hw hf k4 hb1
  go_wp2_with fail
  refine (sameWords (f := s0.ws) (by decide) (fun i hi => ?_) (fun i hi => cells4 words0 rfl i hi)).mono ?_
  · rw [Nat.zero_add]; exact ((Kept.refl _).alloc _ _).some (HW.out i hi)
  rintro e w5 ⟨rfl, k5⟩
  have K5 := Lib.hid (K4.out.trans (Kept.trans ((Kept.refl _).alloc _ _) k5))
  clear k5
  go_wp2_with fail
  refine (three_any _).mono ?_
  rintro e w6 ⟨rfl, k6⟩
  have K6 := Lib.hid (K5.out.trans k6)
  clear k6
  go_wp2_with fail
  refine (chain3 (pmem_kept M3.out K6.out)).mono ?_
  rintro e w7 ⟨a7, c7, rfl, k7, r7⟩
  have K7 := Lib.hid (K6.out.trans k7)
  have R7 := Lib.hid r7
  clear k7 r7
  go_wp2_with fail
  refine (sameInts_yes _ _ 3 _ _ f3 _ (by decide) (R7.out.kept ((Kept.refl _).alloc _ _)) (ints3 rfl)).mono ?_
  rintro e w8 ⟨rfl, k8⟩
  have K8 := Lib.hid (K7.out.trans (Kept.trans ((Kept.refl _).alloc _ _) k8))
  clear k8
  go_wp2
  go_ret
  exact ⟨w.heap.size + 1, w.heap.size, rfl, pmem_kept M3.out K8.out, K3.out.trans K8.out, by omega, by omega⟩

theorem good_new3 : Op.new.Good := ⟨by decide, by decide, by decide, by decide⟩
theorem inv1 : x1.Good ∧ lines x1 ∧ took S3 x1 := popOp_good good_new3 (.inl rfl) (fun h => absurd h (by decide)) wd0
theorem wd1 : Wd 4 s1 := popSt_wd wd0
theorem inv2 : x2.Good ∧ lines x2 ∧ took S3 x2 := popOp_good inv1.1 inv1.2.1 inv1.2.2 wd1
theorem wd2 : Wd 4 s2 := popSt_wd wd1
theorem inv3 : x3.Good ∧ lines x3 ∧ took S3 x3 := popOp_good inv2.1 inv2.2.1 inv2.2.2 wd2
theorem wd3 : Wd 4 s3 := popSt_wd wd2
theorem step1 {w : World} {P M B : Nat} (ho : PopAt w P 0 S3 Op.new) (hm : PMem w M B 4 s0) (hPM : P ≠ M) (hPB : P ≠ B) :
    Calls Try.prog 11 #[.pointer (some ⟨P, 0, none⟩), .pointer (some ⟨M, 0, none⟩)] w (Stepped (fun w' => PopAt w' P 0 S3 x1) M B 4 s1 P 0 false w) := by
  have h := pop_step P 0 M B 4 S3 s0 Op.new w ho hm (by decide +kernel) (by decide +kernel) hPM hPB good_new3 (.inl rfl) (fun h => absurd h (by decide)) ok3 wd0
  rw [show ((popOp 4 S3 s0 Op.new).line == 9) = false from by decide +kernel] at h
  exact h
theorem step2 {w : World} {P M B : Nat} (ho : PopAt w P 0 S3 x1) (hm : PMem w M B 4 s1) (hPM : P ≠ M) (hPB : P ≠ B) :
    Calls Try.prog 11 #[.pointer (some ⟨P, 0, none⟩), .pointer (some ⟨M, 0, none⟩)] w (Stepped (fun w' => PopAt w' P 0 S3 x2) M B 4 s2 P 0 false w) := by
  have h := pop_step P 0 M B 4 S3 s1 x1 w ho hm (by decide +kernel) (by decide +kernel) hPM hPB inv1.1 inv1.2.1 inv1.2.2 ok3 wd1
  rw [show ((popOp 4 S3 s1 x1).line == 9) = false from by decide +kernel] at h
  exact h
theorem step3 {w : World} {P M B : Nat} (ho : PopAt w P 0 S3 x2) (hm : PMem w M B 4 s2) (hPM : P ≠ M) (hPB : P ≠ B) :
    Calls Try.prog 11 #[.pointer (some ⟨P, 0, none⟩), .pointer (some ⟨M, 0, none⟩)] w (Stepped (fun w' => PopAt w' P 0 S3 x3) M B 4 s3 P 0 true w) := by
  have h := pop_step P 0 M B 4 S3 s2 x2 w ho hm (by decide +kernel) (by decide +kernel) hPM hPB inv2.1 inv2.2.1 inv2.2.2 ok3 wd2
  rw [show ((popOp 4 S3 s2 x2).line == 9) = true from by decide +kernel] at h
  exact h
theorem told3 {w : World} {P : Nat} (ho : PopAt w P 0 S3 x3) : Calls Try.prog 9 #[.pointer (some ⟨P, 0, none⟩)] w fun e w' => e = .returned (.tuple #[.int .i64 0, .int .i64 0]) ∧ Kept w w' := by
  have h := pop_told P 0 S3 x3 w ho inv3.1
  rw [pops1.2.2.2.1, pops1.2.2.2.2] at h
  exact h

set_option maxHeartbeats 2000000 in
theorem popped_any (w : World) : Calls Try.prog 20 #[] w (Chap s3 w) := by
  go_enter Try.func20, Try.ntmps20
  go_wp2_with fail
  refine (filled_any _).mono ?_
  rintro e w1 ⟨M, B, rfl, m1, k1, lM, lB⟩
  have M1 := Lib.hid m1
  have K1 := Lib.hid k1
  have LM := pmem_lt m1
  clear m1 k1
  go_wp2_with fail
  refine (three_any _).mono ?_
  rintro e w2 ⟨rfl, k2⟩
  have K2 := Lib.hid k2
  clear k2
  go_wp2_with fail
  refine (newPop_any S3 _).mono ?_
  rintro e w3 ⟨P, rfl, lP, gP, o3, k3⟩
  have hPM : P ≠ M := by have := K2.out.size; omega
  have hPB : P ≠ B := by have := K2.out.size; omega
  have O3 := Lib.hid o3
  have K3 := Lib.hid (K2.out.trans k3)
  have lP1 : w1.heap.size ≤ P := Nat.le_trans K2.out.size lP
  clear o3 k3 lP
  go_wp2_with fail
  refine (step1 O3.out (pmem_kept M1.out K3.out) hPM hPB).mono ?_
  rintro e w4 ⟨rfl, o4, m4, g4⟩
  have O4 := Lib.hid o4
  have M4 := Lib.hid m4
  have G4 := Lib.hid g4.but
  clear o4 m4 g4
  go_wp2_with fail
  refine (step2 O4.out M4.out hPM hPB).mono ?_
  rintro e w5 ⟨rfl, o5, m5, g5⟩
  have O5 := Lib.hid o5
  have M5 := Lib.hid m5
  have G5 := Lib.hid (G4.out.trans g5.but (fun _ _ h => h))
  clear o5 m5 g5
  go_wp2_with fail
  refine (step3 O5.out M5.out hPM hPB).mono ?_
  rintro e w6 ⟨rfl, o6, m6, g6⟩
  have O6 := Lib.hid o6
  have M6 := Lib.hid m6
  have G6 := Lib.hid (G5.out.trans g6.but (fun _ _ h => h))
  clear o6 m6 g6
  go_wp2_with fail
  refine (told3 O6.out).mono ?_
  rintro e w7 ⟨rfl, k7⟩
  have K7 := Lib.hid k7
  clear k7
  go_wp2_with fail
  refine (p_words _ _ 4 s3 _ (pmem_kept M6.out K7.out)).mono ?_
  rintro e w8 ⟨b, c, rfl, hb1, hb2, hw, hf, k8⟩
  have HW := Lib.hid hw
  have K8 := Lib.hid (K7.out.trans k8)
  clear hw hf k8 hb1
  go_wp2_with fail
  refine (sameWords (f := s3.ws) (by decide) (fun i hi => ?_) (fun i hi => cells4 words3 rfl i hi)).mono ?_
  · rw [Nat.zero_add]; exact ((Kept.refl _).alloc _ _).some (HW.out i hi)
  rintro e w9 ⟨rfl, k9⟩
  have K9 := Lib.hid (K8.out.trans (Kept.trans ((Kept.refl _).alloc _ _) k9))
  clear k9
  go_wp2
  go_ret
  refine ⟨M, B, rfl, pmem_kept M6.out K9.out, ?_, lM, lB⟩
  exact (((K1.out.trans K3.out).but (fun k => k = P ∨ k = B)).trans (G6.out.then K9.out) (fun _ _ h => h)).kept (fun k hk h => by have := K1.out.size; omega)

set_option maxHeartbeats 1000000 in
theorem fits4 (w : World) : Calls Try.prog 26 #[.agg #[.int .i64 S3.T, .int .i64 S3.K, .int .i64 S3.N], .int .i64 4] w fun e w' => e = .returned (.int .i64 0) ∧ Kept w w' := pfits_any S3 4 w
theorem fits3 (w : World) : Calls Try.prog 26 #[.agg #[.int .i64 S3.T, .int .i64 S3.K, .int .i64 S3.N], .int .i64 3] w fun e w' => e = .returned (.int .i64 2) ∧ Kept w w' := pfits_any S3 3 w
theorem awake_any (w : World) : Calls Try.prog 7 #[] w fun e w' => e = .returned (.bool true) ∧ Kept w w' := by
  go_enter Try.func7, Try.ntmps7
  go_wp2_with fail
  refine (popped_any _).mono ?_
  rintro e w1 ⟨M, B, rfl, m1, k1, _, _⟩
  clear m1
  go_wp2_with fail
  refine (three_any _).mono ?_
  rintro e w2 ⟨rfl, k2⟩
  go_wp2_with fail
  refine (fits4 _).mono ?_
  rintro e w3 ⟨rfl, k3⟩
  go_wp2_with fail
  refine (three_any _).mono ?_
  rintro e w4 ⟨rfl, k4⟩
  go_wp2_with fail
  refine (fits3 _).mono ?_
  rintro e w5 ⟨rfl, k5⟩
  go_wp2
  go_ret
  exact ⟨rfl, k1.trans (k2.trans (k3.trans (k4.trans k5)))⟩
end Go.Proofs.Ytmbdgaflmiacnaa.Sk
