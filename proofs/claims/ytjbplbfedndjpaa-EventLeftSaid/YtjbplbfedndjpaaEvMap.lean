/- The program's map from IDs to calls, as a function; and a set of IDs. -/
import Derived.Test.YtjbplbfedndjpaaEvMem
import Derived.Maps.OwnSet
import Derived.Maps.Views
import Derived.Maps.OwnIn
namespace Go.Proofs.Ytjbplbfedndjpaa
open Go.RowKit Go.Maps

abbrev D1 := DataW Unit
def cd (a b : Int) : D1 := .agg [.lit (.int .i64 a), .lit (.int .i64 b)]
theorem cd_inj {a b a' b' : Int} (h : cd a b = cd a' b') : a = a' ∧ b = b' := by
  unfold cd at h
  injection h with h
  simp at h
  exact h
/-- How a call reads. -/
def callE : Value → Option (D1 × List MemPlace)
  | .agg cs => match cs.toList with
    | [.int .i64 a, .int .i64 b] => some (cd a b, [])
    | _ => none
  | _ => none
theorem callE_mk (a b : Int) : callE (.agg #[.int .i64 a, .int .i64 b]) = some (cd a b, []) := rfl
theorem callE_inv {v : Value} {z : D1 × List MemPlace} (h : callE v = some z) : ∃ a b, v = .agg #[.int .i64 a, .int .i64 b] ∧ z = (cd a b, []) := by
  unfold callE at h
  split at h
  · split at h
    · rename_i cs _ a b e
      have : cs = #[.int .i64 a, .int .i64 b] := by rw [← e]
      subst this
      exact ⟨a, b, rfl, by simpa using h.symm⟩
    · cases h
  · cases h

/-- Block b is the map m, of at most n entries. -/
def Seen (w : World) (b n : Nat) (m : Int → Option (Int × Int)) : Prop :=
  ∃ D : D1, w.ownsMap Try.prog 3 callE b n D ∧ ∀ k : Int, Maps.has D (.int .i64 k) = (m k).isSome ∧ D.atKey (.int .i64 k) (cd 0 0) = cd ((m k).getD (0, 0)).1 ((m k).getD (0, 0)).2
/-- Block b is the set P, of at most n entries. -/
def Asked (w : World) (b n : Nat) (P : Int → Bool) : Prop :=
  ∃ D : D1, w.ownsMap Try.prog 3 unitElem b n D ∧ ∀ k : Int, Maps.has D (.int .i64 k) = P k

theorem Kept.object {a w : World} (h : Kept a w) (o : Obj) : Kept a (w.alloc o) := ⟨h.below.alloc h.below.size _⟩
theorem owns_same {w w' : World} {k : TypeId} {R : Value → Option (D1 × List MemPlace)} {b n : Nat} {D : D1} (h : w.ownsMap Try.prog k R b n D) (hs : w'.heap[b]? = w.heap[b]?) : w'.ownsMap Try.prog k R b n D := by
  obtain ⟨es, clock, hb, r⟩ := h
  exact ⟨es, clock, hs.trans hb, r⟩
theorem Seen.lt {w : World} {b n : Nat} {m : Int → Option (Int × Int)} (h : Seen w b n m) : b < w.heap.size := by obtain ⟨D, h, _⟩ := h; exact h.lt
theorem Asked.lt {w : World} {b n : Nat} {P : Int → Bool} (h : Asked w b n P) : b < w.heap.size := by obtain ⟨D, h, _⟩ := h; exact h.lt
theorem Seen.same {w w' : World} {b n : Nat} {m : Int → Option (Int × Int)} (h : Seen w b n m) (hs : w'.heap[b]? = w.heap[b]?) : Seen w' b n m := by obtain ⟨D, h, r⟩ := h; exact ⟨D, owns_same h hs, r⟩
theorem Asked.same {w w' : World} {b n : Nat} {P : Int → Bool} (h : Asked w b n P) (hs : w'.heap[b]? = w.heap[b]?) : Asked w' b n P := by obtain ⟨D, h, r⟩ := h; exact ⟨D, owns_same h hs, r⟩
theorem Seen.kept {w w' : World} {b n : Nat} {m : Int → Option (Int × Int)} (h : Seen w b n m) (k : Kept w w') : Seen w' b n m := h.same (k.below.block b h.lt)
theorem Asked.kept {w w' : World} {b n : Nat} {P : Int → Bool} (h : Asked w b n P) (k : Kept w w') : Asked w' b n P := h.same (k.below.block b h.lt)
theorem Seen.but {S : Nat → Prop} {w w' : World} {b n : Nat} {m : Int → Option (Int × Int)} (h : Seen w b n m) (k : But S w w') (hS : ¬ S b) : Seen w' b n m := h.same (k.block b h.lt hS)
theorem Asked.but {S : Nat → Prop} {w w' : World} {b n : Nat} {P : Int → Bool} (h : Asked w b n P) (k : But S w w') (hS : ¬ S b) : Asked w' b n P := h.same (k.block b h.lt hS)
theorem Seen.mono {w : World} {b n n' : Nat} {m : Int → Option (Int × Int)} (h : Seen w b n m) (hn : n ≤ n') : Seen w b n' m := by obtain ⟨D, h, r⟩ := h; exact ⟨D, h.mono hn, r⟩

theorem Seen.made (w : World) : Seen (w.alloc (.map #[] 0)) w.heap.size 0 (fun _ => none) :=
  ⟨.map [], World.ownsMap_made w _ _ _, fun k => ⟨rfl, rfl⟩⟩
theorem Asked.made (w : World) : Asked (w.alloc (.map #[] 0)) w.heap.size 0 (fun _ => false) :=
  ⟨.map [], World.ownsMap_made w _ _ _, fun k => rfl⟩

theorem intKeyed : Keyed Try.prog 3 := int_keyed Try.underlying3
theorem zeroCall (w : World) : (zeroValue 69).run Try.prog w = .ok (.agg #[.int .i64 0, .int .i64 0]) w := by kernel_rfl
theorem zeroUnit (w : World) : (zeroValue 76).run Try.prog w = .ok (.agg #[]) w := by kernel_rfl

section
variable {w : World} {b n : Nat} {m : Int → Option (Int × Int)} {P : Int → Bool}
theorem Seen.look (h : Seen w b n m) {k : Int} (hk : (Lit.int .i64 k).wf = true) :
    (Instr.lookup 60 (.map (some b)) (.int .i64 k) false).run Try.prog w = .ok (.agg #[.int .i64 ((m k).getD (0, 0)).1, .int .i64 ((m k).getD (0, 0)).2]) w := by
  obtain ⟨D, h, r⟩ := h
  obtain ⟨v, ps, hrun, hv⟩ := h.lookup intKeyed Try.underlying60 (zeroCall w) (callE_mk 0 0) (keyOf_int_mk Try.underlying3 hk)
  obtain ⟨x, y, rfl, hz⟩ := callE_inv hv
  have := (r k).2
  rw [(Prod.mk.inj hz).1] at this
  obtain ⟨e1, e2⟩ := cd_inj this
  rw [hrun, e1, e2]
theorem Seen.look_ok (h : Seen w b n m) {k : Int} (hk : (Lit.int .i64 k).wf = true) :
    (Instr.lookup 60 (.map (some b)) (.int .i64 k) true).run Try.prog w = .ok (.tuple #[.agg #[.int .i64 ((m k).getD (0, 0)).1, .int .i64 ((m k).getD (0, 0)).2], .bool (m k).isSome]) w := by
  obtain ⟨D, h, r⟩ := h
  obtain ⟨v, ps, hrun, hv⟩ := h.look_ok intKeyed Try.underlying60 (zeroCall w) (callE_mk 0 0) (keyOf_int_mk Try.underlying3 hk)
  obtain ⟨x, y, rfl, hz⟩ := callE_inv hv
  have := (r k).2
  rw [(Prod.mk.inj hz).1] at this
  obtain ⟨e1, e2⟩ := cd_inj this
  rw [hrun, e1, e2, (r k).1]
theorem Asked.look_ok (h : Asked w b n P) {k : Int} (hk : (Lit.int .i64 k).wf = true) :
    (Instr.lookup 75 (.map (some b)) (.int .i64 k) true).run Try.prog w = .ok (.tuple #[.agg #[], .bool (P k)]) w := by
  obtain ⟨D, h, r⟩ := h
  obtain ⟨v, ps, hrun, hv⟩ := h.look_ok intKeyed Try.underlying75 (zeroUnit w) unitElem_mk (keyOf_int_mk Try.underlying3 hk)
  obtain ⟨rfl, _⟩ := unitElem_inv hv
  rw [hrun, r k]
theorem turned_but {w w' : World} {b : Nat} (h : w.mapTurned w' b) : But (fun k => k = b) w w' :=
  ⟨h.grown.os, h.grown.tape, h.grown.output, h.grown.size, fun k hk hS => h.grown.block k hk (fun e => hS (by cases e; rfl)), fun a _ => h.frozen a⟩
theorem isKey (k : Int) : WideAt.IsKeyLit (.int .i64 k) := by trivial
theorem lit_ne {k k' : Int} (h : k ≠ k') : (Lit.int .i64 k) ≠ (Lit.int .i64 k') := by intro e; injection e; contradiction
theorem Seen.put (h : Seen w b n m) (hn : n < maxLen) {k : Int} (hk : (Lit.int .i64 k).wf = true) (x y : Int) :
    ∃ w', (Instr.mapUpdate 60 (.map (some b)) (.int .i64 k) (.agg #[.int .i64 x, .int .i64 y])).run Try.prog w = .ok () w' ∧ Seen w' b (n + 1) (upd m k (x, y)) ∧ But (fun k => k = b) w w' := by
  obtain ⟨D, h, r⟩ := h
  obtain ⟨w', hrun, h', ht⟩ := h.store intKeyed Try.underlying60 hn (keyOf_int_mk Try.underlying3 hk) (callE_mk x y)
  refine ⟨w', hrun, ⟨_, h', fun k' => ?_⟩, turned_but ht⟩
  unfold upd
  by_cases e : k' = k
  · subst e
    rw [has_put_same h.isMap (isKey _), atKey_put_same h.isMap (isKey _)]
    simp
  · rw [has_put_other (lit_ne e), atKey_put_other (lit_ne e)]
    simpa [e] using r k'
theorem Asked.put (h : Asked w b n P) (hn : n < maxLen) {k : Int} (hk : (Lit.int .i64 k).wf = true) :
    ∃ w', (Instr.mapUpdate 75 (.map (some b)) (.int .i64 k) (.agg #[])).run Try.prog w = .ok () w' ∧ Asked w' b (n + 1) (fun x => P x || x == k) ∧ But (fun k => k = b) w w' := by
  obtain ⟨D, h, r⟩ := h
  obtain ⟨w', hrun, h', ht⟩ := h.store intKeyed Try.underlying75 hn (keyOf_int_mk Try.underlying3 hk) unitElem_mk
  refine ⟨w', hrun, ⟨_, h', fun k' => ?_⟩, turned_but ht⟩
  by_cases e : k' = k
  · subst e
    rw [has_put_same h.isMap (isKey _)]
    simp
  · rw [has_put_other (lit_ne e), r k']
    simp [e]
end

/-! ### at the operation -/
theorem wpList_put {ops : Array Oper} {rest : List Oper} {o : Oper} {a : Act} {Q : Exit → Act → World → Prop} {w : World} {b n : Nat} {m : Int → Option (Int × Int)}
    (hg : o.guard = none) (x y z : Operand) (hop : o.op = Op.mapUpdate 60 x y z) (h : Seen w b n m) (hn : n < maxLen) {k : Int} (hk : (Lit.int .i64 k).wf = true) (i j : Int)
    (hx : a.eval x = .map (some b)) (hy : a.eval y = .int .i64 k) (hz : a.eval z = .agg #[.int .i64 i, .int .i64 j])
    (hK : ∀ w', Seen w' b (n + 1) (upd m k (i, j)) → But (fun k => k = b) w w' → wpList Try.prog ops Q rest (a.put o.dst undef) w') : wpList Try.prog ops Q (o :: rest) a w := by
  refine wpList_plain hg fun K' hK' => ?_
  obtain ⟨w', hrun, r1, r2⟩ := h.put hn hk i j
  unfold Oper.wp
  simp [execOp, hop, hx, hy, hz, hrun, Result.andThen]
  exact hK' _ _ (hK w' r1 r2)
theorem wpList_ask {ops : Array Oper} {rest : List Oper} {o : Oper} {a : Act} {Q : Exit → Act → World → Prop} {w : World} {b n : Nat} {P : Int → Bool}
    (hg : o.guard = none) (x y z : Operand) (hop : o.op = Op.mapUpdate 75 x y z) (h : Asked w b n P) (hn : n < maxLen) {k : Int} (hk : (Lit.int .i64 k).wf = true)
    (hx : a.eval x = .map (some b)) (hy : a.eval y = .int .i64 k) (hz : a.eval z = .agg #[])
    (hK : ∀ w', Asked w' b (n + 1) (fun x => P x || x == k) → But (fun k => k = b) w w' → wpList Try.prog ops Q rest (a.put o.dst undef) w') : wpList Try.prog ops Q (o :: rest) a w := by
  refine wpList_plain hg fun K' hK' => ?_
  obtain ⟨w', hrun, r1, r2⟩ := h.put hn hk
  unfold Oper.wp
  simp [execOp, hop, hx, hy, hz, hrun, Result.andThen]
  exact hK' _ _ (hK w' r1 r2)
end Go.Proofs.Ytjbplbfedndjpaa
