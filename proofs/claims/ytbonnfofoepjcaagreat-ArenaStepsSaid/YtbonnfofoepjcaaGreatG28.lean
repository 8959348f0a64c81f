/- The cores' operations in the law's own list: pairs, four cells each, loaded and stored whole; and small laws for the walk. -/
import Derived.Test.YtbonnfofoepjcaaGreatG26
import Derived.Test.YtbonnfofoepjcaaGreatG27
import Derived.Deep.MidRow
import Derived.Test.YtbonnfofoepjcaaGreatProg
import Derived.Test.YtbonnfofoepjcaaGreatG00
import Derived.WalkLawsBesides
import Derived.Deep.AppendSrc
import Derived.ChangeSlices
import Derived.WalkKit
import Derived.ProofKit
import Derived.Lib.Hide
import Derived.Test.YtbonnfofoepjcaaGreatG03
import Derived.Test.YtbonnfofoepjcaaGreatG19
import Derived.Deep.RegionHeld3
import Derived.Deep.Light
import Derived.Test.YtbonnfofoepjcaaGreatG17
import Derived.Test.YtbonnfofoepjcaaGreatG18
set_option linter.unusedVariables false
set_option linter.unusedSimpArgs false

namespace Go.Proofs.YtbonnfofoepjcaaGreat.Sk
set_option maxRecDepth 20000
open Go.RowKit
open Wo (St acc wordAt PMem RefIs)

def ldA (p : Value) : Sem Value := Instr.loadAt 44 p
def stA (p v : Value) : Sem Unit := Instr.storeAt 44 p v
theorem ldA_named (p : Value) : Instr.loadAt 44 p = ldA p := rfl
theorem stA_named (p v : Value) : Instr.storeAt 44 p v = stA p v := rfl
theorem ainfoPair : (Tryz.prog.info? 44).map (fun i => (i.zero, i.size, i.bytes)) = some (some (.agg #[.pointer none, .pointer none, .pointer none, .pointer none]), 4, 32) := by kernel_rfl
theorem asizePair : (Tryz.prog.info? 44).map (·.size) = some 4 := by
  obtain ⟨i0, hi, hz0, hz1, hz2⟩ := info_parts ainfoPair
  rw [hi]; simp [hz1]
theorem ald_pair {w : World} {C o : Nat} {p : AP} (h : w.rangeAt C o p.cells) : (ldA (.pointer (some ⟨C, o, none⟩))).run Tryz.prog w = .ok (.agg p.cells.toArray) w :=
  run_loadAt_mid w C o _ p.cells _ h Tryz.underlying44 rfl (by rw [AP.cells_len]; exact asizePair)
theorem ast_pair {w : World} {C o : Nat} {p : AP} (h : w.there C o 4) : (stA (.pointer (some ⟨C, o, none⟩)) (.agg p.cells.toArray)).run Tryz.prog w = .ok () (w.setCells C o p.cells) :=
  run_storeAt_mid _ _ _ _ _ (by rw [List.size_toArray, AP.cells_len]; exact h) (by rw [List.size_toArray, AP.cells_len]; exact asizePair) (all_oneCell_toArray p.cells_one)

theorem abut_setCells {S : Nat → Prop} {C : Nat} {a : World} (hC : S C) : ∀ (vs : List Value) (o : Nat) (w : World), But S a w → But S a (w.setCells C o vs)
  | [], _, _, h => h
  | v :: r, o, w, h => abut_setCells hC r (o + 1) _ (h.setCell (p := ⟨C, o, none⟩) (.inl hC) v)
theorem aset_range {w : World} {C o : Nat} {p : AP} (h : w.there C o 4) : (w.setCells C o p.cells).rangeAt C o p.cells := World.rangeAt_setCells_same _ _ _ _ (by rw [AP.cells_len]; exact h)
theorem asetCells_off : ∀ (vs : List Value) (o : Nat) (w : World) (C x : Nat), (x < o ∨ o + vs.length ≤ x) → (w.setCells C o vs).cell? ⟨C, x, none⟩ = w.cell? ⟨C, x, none⟩
  | [], _, _, _, _, _ => rfl
  | v :: r, o, w, C, x, h => by
    show ((w.setCell ⟨C, o, none⟩ v).setCells C (o + 1) r).cell? ⟨C, x, none⟩ = _
    rw [asetCells_off r (o + 1) _ C x (by simp at h; omega), cell_set, if_neg (by simp at h; omega)]

structure ACores (w : World) (C : Nat) (st : Nat → AP) : Prop where
  at_ : ∀ c, c < 4 → w.rangeAt C (c * 4) (st c).cells
  f : ∀ i, w.frozen? ⟨C, i, none⟩ = false
  lt : C < w.heap.size
theorem arange_but {w w' : World} {C o : Nat} {cs : List Value} (h : w.rangeAt C o cs) {T : Nat → Prop} (hb : But T w w') (hC : ¬ T C) : w'.rangeAt C o cs := fun j v hv => hb.some (h j v hv) hC
theorem ACores.frame {w w' : World} {C : Nat} {st : Nat → AP} (h : ACores w C st) {T : Nat → Prop} (hb : But T w w') (hC : ¬ T C) : ACores w' C st :=
  ⟨fun c hc => arange_but (h.at_ c hc) hb hC, fun i => hb.soft h.lt (h.f i), Nat.lt_of_lt_of_le h.lt hb.size⟩
theorem ACores.kept {w w' : World} {C : Nat} {st : Nat → AP} (h : ACores w C st) (k : Kept w w') : ACores w' C st := h.frame (k.but (fun _ => False)) id
theorem ACores.there {w : World} {C : Nat} {st : Nat → AP} (h : ACores w C st) (c : Nat) (hc : c < 4) : w.there C (c * 4) 4 := by
  intro j hj
  have h1 := h.at_ c hc j
  have : j < (st c).cells.length := by rw [AP.cells_len]; exact hj
  refine ⟨?_, h.f _⟩
  have h2 := h1 _ (List.getElem?_eq_getElem this)
  rw [h2]; rfl
def aput (st : Nat → AP) (c : Nat) (p : AP) (k : Nat) : AP := if k = c then p else st k
theorem ACores.set {w : World} {C : Nat} {st : Nat → AP} (h : ACores w C st) {c : Nat} (hc : c < 4) (p : AP) : ACores (w.setCells C (c * 4) p.cells) C (aput st c p) := by
  have hb : But (fun k => k = C) w (w.setCells C (c * 4) p.cells) := abut_setCells (S := fun k => k = C) rfl _ _ _ (But.refl _ _)
  refine ⟨fun k hk => ?_, fun i => hb.soft h.lt (h.f i), Nat.lt_of_lt_of_le h.lt hb.size⟩
  unfold aput
  by_cases e : k = c
  · subst e
    rw [if_pos rfl]
    exact aset_range (h.there k hk)
  · rw [if_neg e]
    intro j v hv
    have hj : j < 4 := by
      have := (List.getElem?_eq_some_iff.1 hv).1
      rw [AP.cells_len] at this; exact this
    rw [asetCells_off _ _ _ _ _ (by rw [AP.cells_len]; omega)]
    exact h.at_ k hk j v hv

theorem astep_any (own : Nat → Nat) (c : Nat) (A : Arn) (M B M2 B2 n : Nat) (s : St) (p : AP) (w : World) (h : p.Is own c A w) (hd : TDuo own w M B M2 B2 n s) (hA : A.Ok n) (c1 : s.cnt ≤ 900000) :
    Calls Tryz.prog 16 #[.agg p.cells.toArray, .pointer (some ⟨M, 0, none⟩), .pointer (some ⟨M2, 0, none⟩)] w (TStep own c A M B M2 B2 n s p w) := by
  cases p with
  | idle => exact same_idle own c A M B M2 B2 n s w hd
  | al x P Q R => exact same_al own c A M B M2 B2 n s x P Q R w h hd hA c1
  | fr i x P Q R => exact same_fr own c A M B M2 B2 n s i x P Q R w h hd hA c1

theorem aaccess_same (k a o n : Int) (h : Bool) (w : World) : (binOp .neq 51 (.agg #[.int .i64 k, .int .i64 a, .int .u64 o, .int .u64 n, .bool h]) (.agg #[.int .i64 k, .int .i64 a, .int .u64 o, .int .u64 n, .bool h])).run Tryz.prog w = .ok (.bool false) w := by
  cases h <;> go_simp
theorem apick4 (co : Int) : ∃ c : Nat, c < 4 ∧ ∀ w, Hid (Calls Tryz.prog 15 #[.int .i64 co, .int .i64 4] w fun e w' => e = .returned (.int .i64 (c : Int)) ∧ w = w') := by
  refine ⟨(co % 4).toNat, by omega, fun w => Lib.hid ?_⟩
  have h := Wo.pick_any co 4 (by decide) (by decide) w
  rw [show (((co % 4).toNat : Nat) : Int) = co % 4 by omega]
  exact h
end Go.Proofs.YtbonnfofoepjcaaGreat.Sk

namespace Go.Proofs.YtbonnfofoepjcaaGreat
open Go.RowKit Go.ChangeShapes Go.WideShapes

structure Nums (f : Nat → Int) (len : Nat) : Prop where
  lo : ∀ i, -9223372036854775808 ≤ f i
  hi : ∀ i, f i ≤ 9223372036854775807
  zero : ∀ i, len ≤ i → f i = 0

def Row (w : World) (a : Option Addr) (len cap : Nat) (f : Nat → Int) : Prop :=
  Nums f len ∧ len ≤ cap ∧ cap ≤ maxLen ∧ ((a = none ∧ len = 0 ∧ cap = 0) ∨ (∃ x, a = some x ∧ len = 0) ∨
    ∃ b off, a = some ⟨b, off, none⟩ ∧ b < w.heap.size ∧ ∀ i, i < len → w.cell? ⟨b, off + i, none⟩ = some (.int .i64 (f i)))

theorem wf_i64 (x : Int) (h : (Lit.int .i64 x).wf = true) : -9223372036854775808 ≤ x ∧ x ≤ 9223372036854775807 := by
  have e : IntKind.i64.min = -9223372036854775808 := by decide
  simpa [Lit.wf, e] using h
theorem getD_mem (zs : List Int) (i : Nat) (h : i < zs.length) : zs.getD i 0 ∈ zs := by
  have e : zs.getD i 0 = zs[i]'h := by simp [h]
  rw [e]
  exact List.getElem_mem _

theorem open_row {H : Type} {enc : TypeId × Value → H} {w : World} {base : Nat} {spare : Nat → Bool} {held : Bool} {fuel : Nat} {a : Option Addr} {len cap : Nat} {x : DataW H × List MemPlace}
    (h : DataW.trod enc Tryz.prog w base spare held fuel 59 [.slice a len cap] = some x) : ∃ f, Row w a len cap f := by
  rcases open_ints Tryz.underlying59 Tryz.underlying3 (by kernel_rfl) h with h0 | ⟨x, len', cap', zs, hcs, _, hl, hm, hz, _, hc, hw⟩
  · obtain ⟨rfl, rfl, rfl⟩ : a = none ∧ len = 0 ∧ cap = 0 := by simpa using h0.1
    exact ⟨fun _ => 0, ⟨by intro i; omega, by intro i; omega, fun _ _ => rfl⟩, Nat.le_refl _, Nat.zero_le _, .inl ⟨rfl, rfl, rfl⟩⟩
  · obtain ⟨rfl, rfl, rfl⟩ : a = some x ∧ len = len' ∧ cap = cap' := by simpa using hcs
    have hle : len ≤ zs.length := by rw [hz]; split <;> omega
    refine ⟨fun i => if i < len then zs.getD i 0 else 0, ⟨fun i => ?_, fun i => ?_, fun i hi => by simp; omega⟩, hl, hm, ?_⟩
    · by_cases hi : i < len
      · simp only [hi, if_true]
        exact (wf_i64 _ (hw _ (getD_mem zs i (by omega)))).1
      · simp [hi]
    · by_cases hi : i < len
      · simp only [hi, if_true]
        exact (wf_i64 _ (hw _ (getD_mem zs i (by omega)))).2
      · simp [hi]
    · by_cases h0 : len = 0
      · exact .inr (.inl ⟨x, rfl, h0⟩)
      · obtain ⟨b, off, spot⟩ := x
        have hc0 := hc 0 (by omega)
        have hs : spot = none := by simpa [Addr.add] using World.cell?_spot hc0
        subst hs
        refine .inr (.inr ⟨b, off, rfl, ?_, fun i hi => ?_⟩)
        · have := World.block_lt_of_cell? w _ hc0
          simpa [Addr.add] using this
        · have h := hc i (by omega)
          have e : (Addr.add ⟨b, off, none⟩ i) = ⟨b, off + i, none⟩ := by
            unfold Addr.add
            split <;> simp_all
          rw [e] at h
          simp only [hi, if_true]
          exact h

theorem infoInt : (Tryz.prog.info? 3).map (fun i => (i.zero, i.size, i.bytes)) = some (some (.int .i64 0), 1, 8) := by kernel_rfl

structure Made (W w' : World) (b len cap : Nat) (f : Nat → Int) : Prop where
  new : W.heap.size ≤ b
  old : b < w'.heap.size
  room : len ≤ cap
  most : cap ≤ maxLen
  cell : ∀ i, i < len → w'.cell? ⟨b, i, none⟩ = some (.int .i64 (f i))
  soft : ∀ i, w'.frozen? ⟨b, i, none⟩ = false

theorem copy_run (ty : TypeId) (W : World) (a : Option Addr) (len cap : Nat) (f : Nat → Int) (h : Row W a len cap f) (hs : len ≤ 1000000) :
    ∃ b C W', (Builtin.append_ #[59, 59] ty #[.slice (some ⟨W.heap.size, 0, none⟩) 0 0, .slice a len cap]).run Tryz.prog (W.alloc (.cells #[] 3)) = .ok (.slice (some ⟨b, 0, none⟩) len C) W' ∧
      Kept W W' ∧ Made W W' b len C f := by
  obtain ⟨i0, hi, hz0, hz1, hz2⟩ := info_parts infoInt
  obtain ⟨hn, hlc, hcm, h⟩ := h
  have k1 : Kept W (W.alloc (.cells #[] 3)) := (Kept.refl W).alloc _ _
  by_cases h0 : len = 0
  · subst h0
    have src : Src Tryz.prog i0.size 59 (.slice a 0 cap) 0 [] (W.alloc (.cells #[] 3)) := by
      cases a with
      | none => exact Src.ofNil _ Tryz.underlying59 cap
      | some x => exact Src.ofSlice _ Tryz.underlying59 x 0 cap [] (by simp) (fun j u hj => by simp at hj) (fun u hu => by cases hu)
    have hr := run_append_room_src (P := Tryz.prog) (W.alloc (.cells #[] 3)) 59 59 ty 3 i0 Tryz.underlying59 hi W.heap.size 0 0 0 (.slice a 0 cap) 0 [] src (Nat.le_refl _) (fun j hj => by simp at hj) (fun j hj => by simp at hj)
    refine ⟨W.heap.size, 0, _, hr, ?_, Nat.le_refl _, by simp [World.setCells], Nat.le_refl _, Nat.zero_le _, fun i hi => absurd hi (Nat.not_lt_zero i), fun i => ?_⟩
    · simpa [World.setCells] using k1
    · have e : ((W.alloc (.cells #[] 3)).setCells W.heap.size (0 + 0 * i0.size) []).frozen? ⟨W.heap.size, i, none⟩ = (W.alloc (.cells #[] 3)).frozen? ⟨W.heap.size, i, none⟩ := by simp [World.setCells]
      rw [e, frozen?_alloc_cells]
      simp [World.frozen?]
  · obtain ⟨b, off, rfl, hb, hc⟩ : ∃ b off, a = some ⟨b, off, none⟩ ∧ b < W.heap.size ∧ ∀ i, i < len → W.cell? ⟨b, off + i, none⟩ = some (.int .i64 (f i)) := by
      rcases h with ⟨_, h, _⟩ | ⟨_, _, h⟩ | h
      · omega
      · omega
      · exact h
    have src : Src Tryz.prog i0.size 59 (.slice (some ⟨b, off, none⟩) len cap) len ((List.range len).map fun i => Value.int .i64 (f i)) (W.alloc (.cells #[] 3)) := by
      refine Src.ofSlice _ Tryz.underlying59 _ len cap _ (by simp [hz1]) (fun j u hj => ?_) (fun u hu => by obtain ⟨i, _, rfl⟩ := List.mem_map.1 hu; rfl)
      have hjl : j < len := by have := (List.getElem?_eq_some_iff.1 hj).1; simpa using this
      have e : (Addr.add ⟨b, off, none⟩ j) = ⟨b, off + j, none⟩ := by unfold Addr.add; split <;> simp_all
      rw [e, World.cell?_alloc_past _ _ _ hb, hc j hjl]
      simpa [hjl] using hj
    have hold : (Builtin.firstCells i0.size 0 (.slice (some ⟨W.heap.size, 0, none⟩) 0 0)).run Tryz.prog (W.alloc (.cells #[] 3)).drew = .ok (([] : List Value).toArray) (W.alloc (.cells #[] 3)).drew := by
      exact run_firstCells_some _ i0.size 0 ⟨W.heap.size, 0, none⟩ 0 0 [] (by simp) (fun j u hj => by simp at hj)
    have hr := run_append_grow_src (P := Tryz.prog) (W.alloc (.cells #[] 3)) 59 59 ty 3 i0 (.int .i64 0) Tryz.underlying59 hi hz0 (some ⟨W.heap.size, 0, none⟩) 0 0 [] hold (.slice (some ⟨b, off, none⟩) len cap) len _ src (by omega) (by omega)
      (by rw [hz2]; have := growslice_fits (old := 0) (need := 0 + len) (bytes := 8) (by omega) (by omega); exact this)
    have hge := grownCap_ge (W.alloc (.cells #[] 3)) (0 + len) 0 3
    have hle := grownCap_le_maxLen (W.alloc (.cells #[] 3)) (0 + len) 0 3 (by unfold maxLen; omega)
    simp only [Nat.zero_add, List.nil_append, World.size_alloc] at hr hge hle
    refine ⟨_, _, _, hr, (k1.drew).alloc _ _, by omega, by simp [World.drew], hge, hle, fun i hi => ?_, fun i => ?_⟩
    · rw [cell_new _ _ _ (W.heap.size + 1) i (by simp), Array.getElem?_append_left (by simpa using hi)]
      simp [hi]
    · rw [frozen?_alloc_cells]
      simp [World.frozen?, World.drew]

theorem wpList_copy {ops : Array Oper} {rest : List Oper} {o : Oper} {A : Act} {Q : Exit → Act → World → Prop} (hg : o.guard = none) (s x : Operand)
    (ho : o.op = .call { callee := .builtin .append, args := #[s, x], argTypes := #[59, 59] })
    (W : World) (a : Option Addr) (len cap : Nat) (f : Nat → Int) (hr : Row W a len cap f) (hs : len ≤ 1000000) (e1 : A.eval s = .slice (some ⟨W.heap.size, 0, none⟩) 0 0) (e2 : A.eval x = .slice a len cap)
    (h : ∀ b C W', Kept W W' → Made W W' b len C f → wpList Tryz.prog ops Q rest (A.put o.dst (.slice (some ⟨b, 0, none⟩) len C)) W') :
    wpList Tryz.prog ops Q (o :: rest) A (W.alloc (.cells #[] 3)) := by
  refine wpList_plain hg fun K hK => ?_
  obtain ⟨b, C, W', hrun, hk, hm⟩ := copy_run o.type W a len cap f hr hs
  unfold Oper.wp execOp
  simp only [ho, resolve, invoke, builtin, Sem.run_bind, Sem.run_pure, Result.andThen_ok, List.map_toArray, List.map_cons, List.map_nil, e1, e2, hrun]
  exact hK _ _ (h b C W' hk hm)

def Reads (w : World) (a : Option Addr) (len : Nat) (f : Nat → Int) : Prop :=
  len = 0 ∨ ∃ b o, a = some ⟨b, o, none⟩ ∧ ∀ i, i < len → w.cell? ⟨b, o + i, none⟩ = some (.int .i64 (f i))
theorem Row.reads {w : World} {a : Option Addr} {len cap : Nat} {f : Nat → Int} (h : Row w a len cap f) : Reads w a len f := by
  rcases h.2.2.2 with h | ⟨_, _, h⟩ | ⟨b, o, h, _, hc⟩
  · exact .inl h.2.1
  · exact .inl h
  · exact .inr ⟨b, o, h, hc⟩
theorem Reads.kept {w w' : World} {a : Option Addr} {len : Nat} {f : Nat → Int} (h : Reads w a len f) (k : Kept w w') : Reads w' a len f := by
  rcases h with h | ⟨b, o, h, hc⟩
  · exact .inl h
  · exact .inr ⟨b, o, h, fun i hi => k.some (hc i hi)⟩
theorem Row.kept {w w' : World} {a : Option Addr} {len cap : Nat} {f : Nat → Int} (h : Row w a len cap f) (k : Kept w w') : Row w' a len cap f := by
  refine ⟨h.1, h.2.1, h.2.2.1, ?_⟩
  rcases h.2.2.2 with h | h | ⟨b, o, h, hb, hc⟩
  · exact .inl h
  · exact .inr (.inl h)
  · exact .inr (.inr ⟨b, o, h, Nat.lt_of_lt_of_le hb k.size, fun i hi => k.some (hc i hi)⟩)
theorem Made.reads {W w : World} {b len cap : Nat} {f : Nat → Int} (h : Made W w b len cap f) : Reads w (some ⟨b, 0, none⟩) len f :=
  .inr ⟨b, 0, rfl, fun i hi => by rw [Nat.zero_add]; exact h.cell i hi⟩
theorem Made.kept {W w w' : World} {b len cap : Nat} {f : Nat → Int} (h : Made W w b len cap f) (k : Kept w w') : Made W w' b len cap f :=
  ⟨h.new, Nat.lt_of_lt_of_le h.old k.size, h.room, h.most, fun i hi => k.some (h.cell i hi), fun i => k.soft h.old (h.soft i)⟩
theorem Made.row {W w : World} {b len cap : Nat} {f : Nat → Int} (h : Made W w b len cap f) (hn : Nums f len) : Row w (some ⟨b, 0, none⟩) len cap f :=
  ⟨hn, h.room, h.most, .inr (.inr ⟨b, 0, rfl, h.old, fun i hi => by rw [Nat.zero_add]; exact h.cell i hi⟩)⟩
end Go.Proofs.YtbonnfofoepjcaaGreat

namespace Go.Proofs.YtbonnfofoepjcaaGreat.Sk
set_option maxRecDepth 20000
open Go.RowKit
open Wo (St acc wordAt PMem RefIs)

theorem infoW : (Tryz.prog.info? 49).map (fun i => (i.zero, i.size, i.bytes)) = some (some (.int .u64 0), 1, 8) := by kernel_rfl
theorem words_length (l : List Int) : (words l).length = l.length * 1 := by simp [words]
theorem words_one (l : List Int) : ∀ u ∈ words l, u.oneCell' = true := by
  intro u h
  obtain ⟨x, _, rfl⟩ := List.mem_map.1 h
  rfl
set_option maxHeartbeats 1000000 in
theorem copyWords_any {w : World} {v : Value} {l : List Int} (h : Lay w v l.length (words l)) (hl : l.length ≤ 100000) :
    Calls Tryz.prog 79 #[v] w fun e w' => ∃ a c, e = .returned (.slice a l.length c) ∧ Kept w w' ∧ w'.ownsRow w.heap.size 49 1 (.slice a l.length c) l.length (words l) := by
  obtain ⟨i0, hi0, hz0, hz1, hz2⟩ := info_parts infoW
  have L := Lib.hid h
  clear h
  go_enter Tryz.func79, Tryz.ntmps79
  go_wp2_with (at_builtin; refine wpList_append_lay _ rfl _ _ _ rfl w.heap.size 49 i0 _ 1 8 Tryz.underlying26 hi0 hz0 hz1 hz2 (by rfl) (by decide) (.slice (some ⟨w.heap.size, 0, none⟩) 0 0) 0 [] (by simp [Act.eval]) (World.ownsRow_made w #[] 0 (Nat.le_refl _) (by decide) rfl) _ l.length (words l) (by simp [Act.eval]) (words_length l) (L.out.kept ((Kept.refl w).alloc _ _)) (words_one _) (by unfold maxLen; omega) (by omega) (by simp) ?_; rintro a' c' w2 own2 but2 at2)
  go_ret
  refine ⟨a', c', by simp, ?_, ?_⟩
  · exact (((Kept.refl w).alloc _ _).but _).trans but2 (fun _ _ h => h) |>.kept (fun k hk e => by simp [Value.ownBlock] at e; omega)
  · simpa using own2
theorem words_of (f : Nat → Int) (n j : Nat) (u : Value) (h : (words ((List.range n).map f))[j]? = some u) : j < n ∧ u = .int .u64 (f j) := by
  have hj : j < n := by
    have := (List.getElem?_eq_some_iff.1 h).1
    simpa [words] using this
  refine ⟨hj, ?_⟩
  simp [words, hj] at h
  exact h.symm
set_option maxHeartbeats 1000000 in
theorem r_words (M B n : Nat) (s : St) (w : World) (hm : RefIs w M B n s) (n1 : 1 ≤ n) (n2 : n ≤ 4096) :
    Calls Tryz.prog 20 #[.pointer (some ⟨M, 0, none⟩)] w fun e w' => ∃ g o c, e = .returned (.slice (some ⟨g, o, none⟩) n c) ∧ (∀ i, i < n → w'.cell? ⟨g, o + i, none⟩ = some (.int .u64 (s.ws i))) ∧ Kept w w' := by
  have c0 := hm.c0
  have LL : ∀ W, Hid (Kept w W → Lay W (.slice (some ⟨B, 0, none⟩) n n) n (words ((List.range n).map s.ws))) := fun W => Lib.hid (fun k => .inl (.inr ⟨B, 0, n, rfl, Nat.le_refl _, by unfold maxLen; omega, fun j u hu => by
    obtain ⟨hj, rfl⟩ := words_of s.ws n j u hu
    rw [Nat.zero_add]
    exact k.some (hm.words j hj)⟩))
  have CW := Lib.hid (fun W (k : Kept w W) => by
    have h := copyWords_any (v := .slice (some ⟨B, 0, none⟩) n n) (l := (List.range n).map s.ws) (w := W) (by simpa using (LL W).out k) (by simp; omega)
    rw [List.length_map, List.length_range] at h
    exact h)
  clear hm LL
  go_enter Tryz.func20, Tryz.ntmps20
  go_wp2_with fail
  refine (CW.out _ (Kept.refl _)).mono ?_
  rintro e w1 ⟨a, c, rfl, k, own⟩
  have HO := Lib.hid own
  have HK := Lib.hid k
  clear own k
  go_wp2
  go_ret
  rcases own_lies HO.out with ⟨e, h0, _⟩ | ⟨g, o, c', e, _, _, hc⟩
  · omega
  · injection e with e1 e2 e3
    subst e1 e3
    exact ⟨g, o, _, rfl, fun i hi => hc i _ (by simp [words, hi]), HK.out⟩
set_option maxHeartbeats 1000000 in
theorem r_last (M B n : Nat) (s : St) (w : World) (hm : RefIs w M B n s) :
    Calls Tryz.prog 22 #[.pointer (some ⟨M, 0, none⟩)] w fun e w' => e = .returned (.agg #[.int .i64 s.kind, .int .i64 s.at_, .int .u64 s.old, .int .u64 s.new, .bool s.held]) ∧ Kept w w' := by
  obtain ⟨c0, c1, c2, c3, c4, c5, c6, _, _, _, _⟩ := hm
  have hl := lt_of_cell c0
  have ne1 : M ≠ w.heap.size := by omega
  have ne2 : w.heap.size ≠ M := by omega
  go_enter Tryz.func22, Tryz.ntmps22
  go_wp2
  refine bodyPost_ret (v := .agg #[.int .i64 s.kind, .int .i64 s.at_, .int .u64 s.old, .int .u64 s.new, .bool s.held]) (by simp [results, Tryz.results22, go_sem, cell_set]) rfl ⟨rfl, ?_⟩
  go_light
  exact (Kept.refl w).alloc _ _
set_option maxHeartbeats 1000000 in
theorem r_count (M B n : Nat) (s : St) (w : World) (hm : RefIs w M B n s) :
    Calls Tryz.prog 24 #[.pointer (some ⟨M, 0, none⟩)] w fun e w' => e = .returned (.int .i64 s.cnt) ∧ Kept w w' := by
  obtain ⟨c0, c1, c2, c3, c4, c5, c6, _, _, _, _⟩ := hm
  go_enter Tryz.func24, Tryz.ntmps24
  go_wp2
  go_ret
  exact ⟨rfl, by (go_light; repeat (first | (with_reducible exact Kept.refl _) | (with_reducible assumption) | (with_reducible refine Kept.alloc ?_ _ _) | (with_reducible refine Kept.drew ?_) | (with_reducible refine Kept.drewN ?_ _) | ((with_reducible refine Kept.setCell ?_ ?_ _); rotate_left; focus (first | (simp; done) | (simp; omega))) | refine Kept.trans ?_ (by assumption)))⟩
end Go.Proofs.YtbonnfofoepjcaaGreat.Sk

namespace Go.Proofs.YtbonnfofoepjcaaGreat.Sk
set_option maxRecDepth 20000
open Go.RowKit
open Wo (St acc wordAt PMem RefIs)

def amB (f : Nat → Int) : Nat → Int → Bool
  | 0, _ => false
  | k + 1, x => amB f k x || (f k == x)
def apB (f : Nat → Int) (n : Int) : Nat → Bool
  | 0 => true
  | k + 1 => apB f n k && (decide (0 ≤ f k) && decide (f k < n) && !amB f k (f k))
theorem amB_iff (f : Nat → Int) (x : Int) : ∀ k, amB f k x = true ↔ ∃ i, i < k ∧ f i = x
  | 0 => by simp [amB]
  | k + 1 => by
    unfold amB
    rw [Bool.or_eq_true, amB_iff f x k]
    constructor
    · rintro (⟨i, hi, h⟩ | h)
      · exact ⟨i, by omega, h⟩
      · exact ⟨k, by omega, by simpa using h⟩
    · rintro ⟨i, hi, h⟩
      by_cases hk : i = k
      · subst hk; exact Or.inr (by simpa using h)
      · exact Or.inl ⟨i, by omega, h⟩
theorem apB_iff (f : Nat → Int) (n : Int) : ∀ k, apB f n k = true ↔ (∀ i, i < k → 0 ≤ f i ∧ f i < n) ∧ (∀ i j, j < i → i < k → f j ≠ f i)
  | 0 => by simp [apB]
  | k + 1 => by
    unfold apB
    have ha := amB_iff f (f k) k
    rw [Bool.and_eq_true, apB_iff f n k, Bool.and_eq_true, Bool.and_eq_true, decide_eq_true_eq, decide_eq_true_eq, Bool.not_eq_true', ← Bool.not_eq_true, ha]
    constructor
    · rintro ⟨⟨h1, h2⟩, ⟨h3, h4⟩, h5⟩
      refine ⟨fun i hi => ?_, fun i j hj hi => ?_⟩
      · by_cases hk : i = k
        · subst hk; exact ⟨h3, h4⟩
        · exact h1 i (by omega)
      · by_cases hk : i = k
        · subst hk; exact fun e => h5 ⟨j, hj, e⟩
        · exact h2 i j hj (by omega)
    · rintro ⟨h1, h2⟩
      exact ⟨⟨fun i hi => h1 i (by omega), fun i j hj hi => h2 i j hj (by omega)⟩, h1 k (by omega), fun ⟨i, hi, e⟩ => h2 k i hi (by omega) e⟩

set_option maxHeartbeats 1000000 in
theorem amongAt (g o c k : Nat) (f : Nat → Int) (x : Int) (w : World) (hk : k ≤ 1000000) (hc : ∀ i, i < k → w.cell? ⟨g, o + i, none⟩ = some (.int .i64 (f i))) :
    Calls Tryz.prog 123 #[.slice (some ⟨g, o, none⟩) k c, .int .i64 x] w fun e w' => e = .returned (.bool (amB f k x)) ∧ w' = w := by
  have HC := Lib.hid hc
  clear hc
  go_enter Tryz.func123, Tryz.ntmps123
  go_wp2
  go_loopw [5] (fun i wr => ∃ j : Nat, j ≤ k ∧ i = .int .i64 j ∧ wr = w ∧ amB f j x = false) (fun i _ => k - (intOf i).toNat)
  case atStart => exact ⟨0, Nat.zero_le _, rfl, rfl, rfl⟩
  case round =>
    obtain ⟨j, hj, rfl, rfl, hno⟩ := hrel
    have NO := Lib.hid hno
    clear hno
    by_cases hlt : j < k
    · have x0 := HC.out j hlt
      cases hx : (f j == x)
      · go_wp2
        go_roundw
        case rel => exact ⟨j + 1, by omega, by go_num, trivial, by show (amB f j x || (f j == x)) = false; rw [NO.out, hx]; rfl⟩
        case measure => simp [intOf]; omega
      · have HX := Lib.hid hx
        have hy : f j = x := by simpa using hx
        clear hx
        go_wp2
        go_ret
        refine ⟨?_, rfl⟩
        have : amB f k x = true := (amB_iff f x k).2 ⟨j, hlt, hy⟩
        rw [this]
        rfl
    · have hjk : j = k := by omega
      have HK := Lib.hid hjk
      clear hjk
      go_wp2
      go_ret
      refine ⟨?_, rfl⟩
      have e1 := NO.out
      rw [HK.out] at e1
      rw [e1]
      rfl

set_option maxHeartbeats 600000 in
theorem apartAt (g c m : Nat) (f : Nat → Int) (n : Int) (w : World) (hm : m ≤ 100000) (hmc : m ≤ c) (hc : ∀ i, i < m → w.cell? ⟨g, i, none⟩ = some (.int .i64 (f i))) :
    Calls Tryz.prog 58 #[.slice (some ⟨g, 0, none⟩) m c, .int .i64 n] w fun e w' => e = .returned (.bool (apB f n m)) ∧ Kept w w' := by
  have HC := Lib.hid hc
  clear hc
  go_enter Tryz.func58, Tryz.ntmps58
  go_wp2_with fail
  go_loopw [5] (fun i wr => ∃ j : Nat, j ≤ m ∧ i = .int .i64 j ∧ Kept w wr ∧ apB f n j = true) (fun i _ => m - (intOf i).toNat)
  case atStart => exact ⟨0, Nat.zero_le _, rfl, Kept.refl _, rfl⟩
  case round =>
    obtain ⟨j, hj, rfl, kr, hno⟩ := hrel
    have NO := Lib.hid hno
    have KR := Lib.hid kr
    clear hno
    have HF : (0 ≤ f j ∧ f j < n ∧ amB f j (f j) = false → apB f n (j + 1) = true) ∧ (¬ (0 ≤ f j ∧ f j < n ∧ amB f j (f j) = false) → j < m → apB f n m = false) := by
      have e1 := NO.out
      refine ⟨fun ⟨a, b, d⟩ => by unfold apB; rw [e1, d]; simp [a, b], fun h hlt => ?_⟩
      rw [← Bool.not_eq_true, apB_iff]
      rintro ⟨h1, h2⟩
      refine h ⟨(h1 j hlt).1, (h1 j hlt).2, ?_⟩
      rw [← Bool.not_eq_true, amB_iff]
      rintro ⟨i, hi, e⟩
      exact h2 j i hi hlt e
    have HF' := Lib.hid HF
    clear HF
    by_cases hlt : j < m
    · have hjc : j ≤ c := by omega
      have hjc2 : (j : Int) ≤ c := by omega
      have c0 := kr.some (HC.out j hlt)
      have HM : ∀ W, Kept _ W → Hid (Calls Tryz.prog 123 #[.slice (some ⟨g, 0, none⟩) j c, .int .i64 (f j)] W fun e w' => e = .returned (.bool (amB f j (f j))) ∧ Kept W w') := fun W k => Lib.hid ((amongAt g 0 c j f (f j) W (by omega) (fun i hi => by rw [Nat.zero_add]; exact (KR.out.trans k).some (HC.out i (by omega)))).mono fun _ _ ⟨x, y⟩ => ⟨x, y ▸ Kept.refl _⟩)
      obtain ⟨x, hx⟩ : ∃ x, x = f j := ⟨_, rfl⟩
      rw [← hx] at c0 HM HF'
      have HX := Lib.hid hx
      generalize amB f j x = b at *
      clear hx kr
      by_cases x0 : x < 0
      · go_wp2_with fail
        go_quiet (fail)
        go_wp2
        go_ret
        go_light
        exact ⟨by rw [HF'.out.2 (by omega) hlt]; rfl, Kept.trans KR.out (by (go_light; repeat (first | (with_reducible exact Kept.refl _) | (with_reducible assumption) | (with_reducible refine Kept.alloc ?_ _ _) | (with_reducible refine Kept.drew ?_) | (with_reducible refine Kept.drewN ?_ _) | ((with_reducible refine Kept.setCell ?_ ?_ _); rotate_left; focus (first | (simp; done) | (simp; omega))) | refine Kept.trans ?_ (by assumption))))⟩
      · have x0' : 0 ≤ x := by omega
        by_cases x1 : n ≤ x
        · have hd0 : decide (x < 0) = false := by simpa using x0'
          have hd1 : decide (n ≤ x) = true := by simpa using x1
          go_wp2_with fail
          go_quiet (fail)
          go_wp2
          go_ret
          go_light
          exact ⟨by rw [HF'.out.2 (by omega) hlt]; rfl, Kept.trans KR.out (by (go_light; repeat (first | (with_reducible exact Kept.refl _) | (with_reducible assumption) | (with_reducible refine Kept.alloc ?_ _ _) | (with_reducible refine Kept.drew ?_) | (with_reducible refine Kept.drewN ?_ _) | ((with_reducible refine Kept.setCell ?_ ?_ _); rotate_left; focus (first | (simp; done) | (simp; omega))) | refine Kept.trans ?_ (by assumption))))⟩
        · have x1' : x < n := by omega
          have x2 : decide (n ≤ x) = false := by simpa using x1'
          have hd0 : decide (x < 0) = false := by simpa using x0'
          cases b
          · go_wp2_with fail
            go_region_held3 (fun w' => w'.cell? ⟨g, j, none⟩ = some (.int .i64 x)) (first | (with_reducible exact c0) | go_keep | (exact k1.some c0)) (first | (go_at_call 123; (with_reducible refine (HM _ (by first | exact Kept.refl _ | exact (Kept.refl _).drew | exact (Kept.refl _).drewN _)).out.mono ?_); rintro e u ⟨rfl, k1⟩))
            go_wp2
            go_roundw
            case rel => exact ⟨j + 1, by omega, by go_num, Kept.trans KR.out (by (go_light; repeat (first | (with_reducible exact Kept.refl _) | (with_reducible assumption) | (with_reducible refine Kept.alloc ?_ _ _) | (with_reducible refine Kept.drew ?_) | (with_reducible refine Kept.drewN ?_ _) | ((with_reducible refine Kept.setCell ?_ ?_ _); rotate_left; focus (first | (simp; done) | (simp; omega))) | refine Kept.trans ?_ (by assumption)))), HF'.out.1 ⟨x0', x1', by simp⟩⟩
            case measure => simp [intOf]; omega
          · go_wp2_with fail
            go_region_held3 (fun w' => w'.cell? ⟨g, j, none⟩ = some (.int .i64 x)) (first | (with_reducible exact c0) | go_keep | (exact k1.some c0)) (first | (go_at_call 123; (with_reducible refine (HM _ (by first | exact Kept.refl _ | exact (Kept.refl _).drew | exact (Kept.refl _).drewN _)).out.mono ?_); rintro e u ⟨rfl, k1⟩))
            go_wp2
            go_ret
            go_light
            exact ⟨by rw [HF'.out.2 (by simp) hlt]; rfl, Kept.trans KR.out (by (go_light; repeat (first | (with_reducible exact Kept.refl _) | (with_reducible assumption) | (with_reducible refine Kept.alloc ?_ _ _) | (with_reducible refine Kept.drew ?_) | (with_reducible refine Kept.drewN ?_ _) | ((with_reducible refine Kept.setCell ?_ ?_ _); rotate_left; focus (first | (simp; done) | (simp; omega))) | refine Kept.trans ?_ (by assumption))))⟩
    · have hjm : j = m := by omega
      have HJ := Lib.hid hjm
      clear hjm kr
      go_wp2
      go_ret
      refine ⟨?_, KR.out⟩
      have e1 := NO.out
      rw [HJ.out] at e1
      rw [e1]
      rfl
end Go.Proofs.YtbonnfofoepjcaaGreat.Sk
