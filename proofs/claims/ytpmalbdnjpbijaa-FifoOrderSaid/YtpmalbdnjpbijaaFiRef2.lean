/- The document's Answer, Next, Play. -/
import Derived.Test.YtpmalbdnjpbijaaFiRef
import Derived.Test.YtpmalbdnjpbijaaFiPlay
namespace Go.Proofs.Ytpmalbdnjpbijaa
open Go.RowKit
attribute [local go_sem ↓] app_named

set_option maxRecDepth 100000 in
set_option maxHeartbeats 2000000 in
theorem refAnswer_any {w : World} {a : Option Addr} {c : Nat} {q : List Int} (room : Int) (o : Opn) (hl : Lay w (.slice a q.length c) q.length (words q)) (hq : q.length ≤ 5000) :
    Calls Try.prog 11 #[.int .i64 room, .slice a q.length c, .agg #[.int .i64 o.k, .int .i64 o.a, .int .i64 o.b, .int .u64 o.u]] w
      fun e w' => e = .returned (.tuple #[.agg #[.int .i64 (tellI room q o).e, .int .i64 (tellI room q o).n, .int .u64 (tellI room q o).v], .bool (actI room q o).isSome]) ∧ Kept w w' := by
  obtain ⟨W0, hW0⟩ : ∃ W0, ((w.alloc (.cells #[.int .i64 o.k, .int .i64 o.a, .int .i64 o.b, .int .u64 o.u] 25)).alloc (.cells #[.int .i64 0, .int .i64 0, .int .u64 0] 28)) = W0 := ⟨_, rfl⟩
  have OB := Lib.hid (show OpBox W0 w.heap.size o by rw [← hW0]; exact (OpBox.new w o _ _ rfl).kept ((Kept.refl _).alloc _ _))
  have AB := Lib.hid (show AnBox W0 (w.heap.size + 1) noAnn by rw [← hW0]; exact AnBox.new _ noAnn _ _ (by simp))
  have K0 := Lib.hid (show Kept w W0 by rw [← hW0]; exact ((Kept.refl w).alloc _ _).alloc _ _)
  have HW := Lib.hid hW0
  have DO := Lib.hid (refDoes_any (o := o) (room := room) (hl.kept K0.out) hq)
  obtain ⟨p, hp⟩ : ∃ p, actI room q o = p := ⟨_, rfl⟩
  obtain ⟨t, ht⟩ : ∃ t, tellI room q o = t := ⟨_, rfl⟩
  have e1 : p.elim noAnn (·.1) = t := by rw [← ht, ← hp]; rfl
  rw [hp, ht]
  rw [hp, e1] at DO
  clear hp ht e1 hW0 hl
  obtain ⟨n, hn⟩ : ∃ n, n = q.length := ⟨_, rfl⟩
  rw [← hn] at DO ⊢
  clear hn hq
  obtain ⟨o0, o1, o2, o3⟩ := OB.out
  go_enter Try.func11, Try.ntmps11
  go_upto_region 1 with fail
  rw [HW.out]
  go_wp2_with fail
  refine DO.out.mono ?_
  rintro e w1 ⟨b, d, rfl, k1, L1, _⟩
  have K1 := Lib.hid (K0.out.trans k1)
  have A1 := Lib.hid (AB.out.kept k1)
  obtain ⟨a0, a1, a2, sA⟩ := A1.out
  have s0 := sA 0
  have s1 := sA 1
  have s2 := sA 2
  have l4 := lt_of_cell a0
  clear sA k1 L1
  go_wp2
  have A4 := (A1.out.put t).kept ((Kept.refl _).alloc #[.int .i64 t.e, .int .i64 t.n, .int .u64 t.v] 28)
  exact bodyPost_ret (ans_result Try.results11 rfl rfl A4) rfl ⟨rfl, ((((K1.out.setCell (p := ⟨w.heap.size + 1, 0, none⟩) (by simp) _).setCell (p := ⟨w.heap.size + 1, 1, none⟩) (by simp) _).setCell (p := ⟨w.heap.size + 1, 2, none⟩) (by simp) _).alloc _ _)⟩

/-- The queue behind it, and whether that may be: to be read. -/
def RetM (w : World) (p : Option (List Int)) (e : Ending) (w' : World) : Prop :=
  ∃ a c, e = .returned (.tuple #[.slice a (p.getD []).length c, .bool p.isSome]) ∧ Kept w w' ∧ Lay w' (.slice a (p.getD []).length c) (p.getD []).length (words (p.getD []))

set_option maxRecDepth 100000 in
set_option maxHeartbeats 2000000 in
theorem refNext_any {w : World} {a : Option Addr} {c : Nat} {q : List Int} (room : Int) (o : Opn) (x : Ann) (hl : Lay w (.slice a q.length c) q.length (words q)) (hq : q.length ≤ 5000) :
    Calls Try.prog 13 #[.int .i64 room, .slice a q.length c, .agg #[.int .i64 o.k, .int .i64 o.a, .int .i64 o.b, .int .u64 o.u], .agg #[.int .i64 x.e, .int .i64 x.n, .int .u64 x.v]] w (RetM w (nextI room q o x)) := by
  obtain ⟨W0, hW0⟩ : ∃ W0, ((w.alloc (.cells #[.int .i64 o.k, .int .i64 o.a, .int .i64 o.b, .int .u64 o.u] 25)).alloc (.cells #[.int .i64 x.e, .int .i64 x.n, .int .u64 x.v] 28)) = W0 := ⟨_, rfl⟩
  have OB := Lib.hid (show OpBox W0 w.heap.size o by rw [← hW0]; exact (OpBox.new w o _ _ rfl).kept ((Kept.refl _).alloc _ _))
  have AB := Lib.hid (show AnBox W0 (w.heap.size + 1) x by rw [← hW0]; exact AnBox.new _ x _ _ (by simp))
  have K0 := Lib.hid (show Kept w W0 by rw [← hW0]; exact ((Kept.refl w).alloc _ _).alloc _ _)
  have HW := Lib.hid hW0
  have DO := Lib.hid (refDoes_any (o := o) (room := room) (hl.kept K0.out) hq)
  have NX : nextI room q o x = (actI room q o).elim none (fun p => if x = p.1 then some p.2 else none) := rfl
  rw [NX]
  clear NX
  obtain ⟨n, hn⟩ : ∃ n, n = q.length := ⟨_, rfl⟩
  rw [← hn] at DO ⊢
  obtain ⟨o0, o1, o2, o3⟩ := OB.out
  cases hp : actI room q o with
  | none =>
    rw [hp] at DO
    clear hn hq hp hW0 hl
    go_enter Try.func13, Try.ntmps13
    go_upto_region 1 with fail
    rw [HW.out]
    go_wp2_with fail
    refine DO.out.mono ?_
    rintro e w1 ⟨b, d, rfl, k1, L1, _⟩
    have K1 := Lib.hid (K0.out.trans k1)
    clear k1 L1
    go_wp2
    exact bodyPost_ret (v := .tuple #[.slice none 0 0, .bool false]) (by simp [results, Try.results13, go_sem]) rfl ⟨none, 0, rfl, K1.out.alloc _ _, .inl (.inl ⟨rfl, rfl, rfl⟩)⟩
  | some p =>
    rw [hp] at DO
    have NE := ann_neq p.1 x
    by_cases hx : x = p.1
    · have e1 : (Option.elim (some p) none fun p => if x = p.1 then some p.2 else none) = some p.2 := if_pos hx
      rw [e1]
      rw [decide_eq_false (by simp [hx])] at NE
      clear hn hq hp hl e1 hx hW0
      go_enter Try.func13, Try.ntmps13
      go_upto_region 1 with fail
      rw [HW.out]
      go_wp2_with fail
      refine DO.out.mono ?_
      rintro e w1 ⟨b, d, rfl, k1, L1, _⟩
      have K1 := Lib.hid (K0.out.trans k1)
      obtain ⟨a0, a1, a2, _⟩ := AB.out.kept k1
      have l4 := lt_of_cell a0
      have LL := Lib.hid L1
      clear k1 L1
      go_wp2
      exact bodyPost_ret (v := .tuple #[.slice b p.2.length d, .bool true]) (by simp [results, Try.results13, go_sem]) rfl ⟨b, d, rfl, K1.out.alloc _ _, LL.out.kept ((Kept.refl _).alloc _ _)⟩
    · have e1 : (Option.elim (some p) none fun p => if x = p.1 then some p.2 else none) = none := if_neg hx
      rw [e1]
      rw [decide_eq_true (show p.1 ≠ x from fun h => hx h.symm)] at NE
      clear hn hq hp hl e1 hx hW0
      go_enter Try.func13, Try.ntmps13
      go_upto_region 1 with fail
      rw [HW.out]
      go_wp2_with fail
      refine DO.out.mono ?_
      rintro e w1 ⟨b, d, rfl, k1, L1, _⟩
      have K1 := Lib.hid (K0.out.trans k1)
      obtain ⟨a0, a1, a2, _⟩ := AB.out.kept k1
      have l4 := lt_of_cell a0
      clear k1 L1
      go_wp2
      exact bodyPost_ret (v := .tuple #[.slice none 0 0, .bool false]) (by simp [results, Try.results13, go_sem]) rfl ⟨none, 0, rfl, K1.out.alloc _ _, .inl (.inl ⟨rfl, rfl, rfl⟩)⟩
end Go.Proofs.Ytpmalbdnjpbijaa
