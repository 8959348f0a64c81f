/- 'append' onto a slice that has no room to spare, wherever it comes from; append as one step whatever law says what it does; slices of slices as run equations. -/
import Derived.Test.YteomggjkdaddhaaHeMem
import Derived.Deep.AppendSrc
import Derived.Deep.RegionLaw
import Derived.Deep.RegionHeld3
import Derived.RegionTactic
import Derived.ChangeAlike
import Derived.WalkKit
import Derived.WalkLawsBesides
namespace Go.Proofs.Yteomggjkdaddhaa
open Go.RowKit

section
variable {P : Program} (w : World)
theorem src_of_lay {size : Nat} {tx e' : TypeId} (hk : P.underlying tx = some (.slice e')) {x : Value} {m : Nat} {news : List Value} (hl : news.length = m * size) (hx : Lay w x m news) (h1 : ∀ u ∈ news, u.oneCell' = true) : Src P size tx x m news w := by
  rcases hx with (⟨rfl, rfl, rfl⟩ | ⟨g, o, c, rfl, _, _, hc⟩) | ⟨y, c, rfl, rfl, rfl, _⟩
  · exact Src.ofNil w hk 0
  · exact Src.ofSlice w hk ⟨g, o, none⟩ m c news hl (fun j u hu => by rw [add_none]; exact hc j u hu) h1
  · exact Src.ofSlice w hk y 0 c [] (by simp) (by simp) h1
theorem append_full (t ty e : TypeId) (i : TypeInfo) (z : Value) (size bytes : Nat) (ht : P.underlying t = some (.slice e)) (hi : P.info? e = some i) (hz : i.zero = some z)
    (hsize : i.size = size) (hby : i.bytes = bytes) (hzs : z.cells.size = size)
    (a : Option Addr) (n c : Nat) (olds : List Value) (hlo : olds.length = n * size) (hold : Lay w (.slice a n c) n olds)
    (x : Value) (m : Nat) (news : List Value) (hl : news.length = m * size) (hx : Lay w x m news) (h1 : ∀ u ∈ news, u.oneCell' = true)
    (hg : c < n + m) (h63 : n + m ≤ maxLen) (hbytes : (n + m) * bytes ≤ 140737488355328) :
    ∃ cap w', (Builtin.append_ #[t, t] ty #[.slice a n c, x]).run P w = .ok (.slice (some ⟨w.heap.size, 0, none⟩) (n + m) cap) w' ∧ w'.ownsRow w.heap.size e size (.slice (some ⟨w.heap.size, 0, none⟩) (n + m) cap) (n + m) (olds ++ news) ∧ Kept w w' := by
  subst hsize
  subst hby
  have hf : (Builtin.firstCells i.size n (.slice a n c)).run P w.drew = .ok olds.toArray w.drew := by
    rcases hold with (⟨e, rfl, rfl⟩ | ⟨g, o, c', e, _, _, hc⟩) | ⟨y, c', e, rfl, rfl, _⟩
    · cases e
      exact run_firstCells_none w.drew i.size 0 0 0
    · cases e
      exact run_firstCells_some w.drew i.size n ⟨g, o, none⟩ n c olds hlo (fun j u hu => by rw [add_none]; exact hc j u hu)
    · cases e
      exact run_firstCells_some w.drew i.size 0 y 0 c [] (by simp) (by simp)
  have hr := run_append_grow_src (P := P) w t t ty e i z ht hi hz a n c olds hf x m news (src_of_lay w ht hl hx h1) hg (by unfold maxLen at h63; omega) (growslice_fits (by omega) hbytes)
  have hge := grownCap_ge w (n + m) c e
  have hcm : grownCap w (n + m) c e ≤ maxLen := grownCap_le_maxLen w (n + m) c e h63
  have hlen : (olds ++ news).length = (n + m) * i.size := by rw [List.length_append, hlo, hl, Nat.add_mul]
  refine ⟨_, _, hr, ⟨hlen, .inr ⟨w.heap.size, _, _, rfl, Nat.le_refl _, heap_alloc_new w.drew _, hge, hcm, ?_, ?_⟩⟩, ((Kept.refl w).drew).alloc _ _⟩
  · simp only [Array.size_append, List.size_toArray, size_zeroCells, hzs, hlen, ← Nat.add_mul]
    congr 1
    omega
  · simp only [Array.toList_append]
    rw [← hlen]
    exact List.take_left
/-- append as a step of a region that draws. -/
theorem step_append_run {ops : Array Oper} {o : Oper} {A : Act} {K : Act → World → Prop} {Q : Exit → Act → World → Prop} {E : Prop} (hgd : o.guard = none) (s x : Operand) (t : TypeId)
    (ho : o.op = .call { callee := .builtin .append, args := #[s, x], argTypes := #[t, t] }) {v y r : Value} {w' : World} (hr : (Builtin.append_ #[t, t] o.type #[v, y]).run P w = .ok r w') (hs : A.eval s = v) (hy : A.eval x = y)
    (h : K (A.put o.dst r) w') : if Region.wanted o (yielded ops A.tmps) = true then Oper.wp P o A w K Q else E := by
  have hw : Region.wanted o (yielded ops A.tmps) = true := by simp [Region.wanted, hgd]
  rw [if_pos hw]
  unfold Oper.wp execOp
  simp only [ho, resolve, invoke, builtin, Sem.run_bind, Sem.run_pure, Result.andThen_ok, List.map_toArray, List.map_cons, List.map_nil, hs, hy, hr]
  exact h
theorem step_append_full {ops : Array Oper} {o : Oper} {A : Act} {K : Act → World → Prop} {Q : Exit → Act → World → Prop} {E : Prop} (hgd : o.guard = none) (s y : Operand) (t : TypeId)
    (ho : o.op = .call { callee := .builtin .append, args := #[s, y], argTypes := #[t, t] })
    (e : TypeId) (i : TypeInfo) (z : Value) (size bytes : Nat) (ht : P.underlying t = some (.slice e)) (hi : P.info? e = some i) (hz : i.zero = some z)
    (hsize : i.size = size) (hby : i.bytes = bytes) (hzs : z.cells.size = size)
    (a : Option Addr) (n c : Nat) (olds : List Value) (hs : A.eval s = .slice a n c) (hlo : olds.length = n * size) (hold : Lay w (.slice a n c) n olds)
    (x : Value) (m : Nat) (news : List Value) (hy : A.eval y = x) (hl : news.length = m * size) (hx : Lay w x m news) (h1 : ∀ u ∈ news, u.oneCell' = true)
    (hg : c < n + m) (h63 : n + m ≤ maxLen) (hbytes : (n + m) * bytes ≤ 140737488355328)
    (h : ∀ b cap w', w'.ownsRow w.heap.size e size (.slice (some ⟨b, 0, none⟩) (n + m) cap) (n + m) (olds ++ news) → Kept w w' → K (A.put o.dst (.slice (some ⟨b, 0, none⟩) (n + m) cap)) w') :
    if Region.wanted o (yielded ops A.tmps) = true then Oper.wp P o A w K Q else E := by
  obtain ⟨cap, w', hr, h2, h3⟩ := append_full (P := P) w t o.type e i z size bytes ht hi hz hsize hby hzs a n c olds hlo hold x m news hl hx h1 hg h63 hbytes
  exact step_append_run w hgd s y t ho hr hs hy (h _ _ _ h2 h3)
theorem wpList_append_full {ops : Array Oper} {rest : List Oper} {o : Oper} {A : Act} {Q : Exit → Act → World → Prop} (hgd : o.guard = none) (s y : Operand) (t : TypeId)
    (ho : o.op = .call { callee := .builtin .append, args := #[s, y], argTypes := #[t, t] })
    (e : TypeId) (i : TypeInfo) (z : Value) (size bytes : Nat) (ht : P.underlying t = some (.slice e)) (hi : P.info? e = some i) (hz : i.zero = some z)
    (hsize : i.size = size) (hby : i.bytes = bytes) (hzs : z.cells.size = size)
    (a : Option Addr) (n c : Nat) (olds : List Value) (hs : A.eval s = .slice a n c) (hlo : olds.length = n * size) (hold : Lay w (.slice a n c) n olds)
    (x : Value) (m : Nat) (news : List Value) (hy : A.eval y = x) (hl : news.length = m * size) (hx : Lay w x m news) (h1 : ∀ u ∈ news, u.oneCell' = true)
    (hg : c < n + m) (h63 : n + m ≤ maxLen) (hbytes : (n + m) * bytes ≤ 140737488355328)
    (h : ∀ b cap w', w'.ownsRow w.heap.size e size (.slice (some ⟨b, 0, none⟩) (n + m) cap) (n + m) (olds ++ news) → Kept w w' → wpList P ops Q rest (A.put o.dst (.slice (some ⟨b, 0, none⟩) (n + m) cap)) w') : wpList P ops Q (o :: rest) A w := by
  obtain ⟨cap, w', hr, h2, h3⟩ := append_full (P := P) w t o.type e i z size bytes ht hi hz hsize hby hzs a n c olds hlo hold x m news hl hx h1 hg h63 hbytes
  refine wpList_plain hgd fun K hK => ?_
  unfold Oper.wp execOp
  simp only [ho, resolve, invoke, builtin, Sem.run_bind, Sem.run_pure, Result.andThen_ok, List.map_toArray, List.map_cons, List.map_nil, hs, hy, hr]
  exact hK _ _ (h _ _ _ h2 h3)
theorem step_append_lay {ops : Array Oper} {o : Oper} {A : Act} {K : Act → World → Prop} {Q : Exit → Act → World → Prop} {E : Prop} (hgd : o.guard = none) (s y : Operand) (t : TypeId)
    (ho : o.op = .call { callee := .builtin .append, args := #[s, y], argTypes := #[t, t] })
    (base : Nat) (e : TypeId) (i : TypeInfo) (z : Value) (size bytes : Nat) (ht : P.underlying t = some (.slice e)) (hi : P.info? e = some i) (hz : i.zero = some z)
    (hsize : i.size = size) (hby : i.bytes = bytes) (hzs : z.cells.size = size) (hsz : 0 < size)
    (v : Value) (n : Nat) (xs : List Value) (hs : A.eval s = v) (hown : w.ownsRow base e size v n xs)
    (x : Value) (m : Nat) (news : List Value) (hy : A.eval y = x) (hl : news.length = m * size) (hx : Lay w x m news) (h1 : ∀ u ∈ news, u.oneCell' = true)
    (h63 : n + m ≤ maxLen) (hbytes : (n + m) * bytes ≤ 140737488355328) (hbase : base ≤ w.heap.size)
    (h : ∀ a c w', w'.ownsRow base e size (.slice a (n + m) c) (n + m) (xs ++ news) → But (fun k => v.ownBlock = some k) w w' →
      ((Value.slice a (n + m) c).ownBlock = v.ownBlock ∨ (Value.slice a (n + m) c).ownBlock = some w.heap.size) → K (A.put o.dst (.slice a (n + m) c)) w') :
    if Region.wanted o (yielded ops A.tmps) = true then Oper.wp P o A w K Q else E := by
  have hw : Region.wanted o (yielded ops A.tmps) = true := by simp [Region.wanted, hgd]
  rw [if_pos hw]
  exact wp_append_lay w s y t ho base e i z size bytes ht hi hz hsize hby hzs hsz v n xs hs hown x m news hy hl hx h1 h63 hbytes hbase h
theorem wpList_append_run {ops : Array Oper} {rest : List Oper} {o : Oper} {A : Act} {Q : Exit → Act → World → Prop} (hgd : o.guard = none) (s x : Operand) (t : TypeId)
    (ho : o.op = .call { callee := .builtin .append, args := #[s, x], argTypes := #[t, t] }) {v y r : Value} {w' : World} (hr : (Builtin.append_ #[t, t] o.type #[v, y]).run P w = .ok r w') (hs : A.eval s = v) (hy : A.eval x = y)
    (h : wpList P ops Q rest (A.put o.dst r) w') : wpList P ops Q (o :: rest) A w :=
  wpList_plain hgd fun K hK => by
    unfold Oper.wp execOp
    simp only [ho, resolve, invoke, builtin, Sem.run_bind, Sem.run_pure, Result.andThen_ok, List.map_toArray, List.map_cons, List.map_nil, hs, hy, hr]
    exact hK _ _ h
end

theorem Kept.wrote {S : Nat → Prop} {w w1 w2 : World} (k : Kept w w1) (b : But S w1 w2) (h : ∀ j, S j → w.heap.size ≤ j) : Kept w w2 :=
  ((k.but S).trans b (fun _ _ h => h)).kept (fun j hj hS => by have := h j hS; omega)
theorem Kept.wrote1 {w w1 w2 : World} {n : Nat} (k : Kept w w1) (b : But (fun j => j = n) w1 w2) (h : w.heap.size ≤ n) : Kept w w2 := k.wrote b (fun j e => by subst e; exact h)

/-! ### slices of slices -/
section
variable (a : Option Addr) (n c m : Nat)
theorem elemI : Try.prog.elem 22 = 45 := by kernel_rfl
theorem run_head3 (hm : m ≤ c) (w : World) : (Instr.slice 22 (.slice a n c) none (some (.int .i64 m)) (some (.int .i64 m))).run Try.prog w = .ok (.slice a m m) w := by
  obtain ⟨i0, hi, hz0, hz1, hz2⟩ := info_parts infoI
  rw [run_slice_any (w := w) 22 a n c (by rw [elemI]; exact Try.underlying22)]
  by_cases h0 : m = 0
  · subst h0
    simp [Instr.sliceBounds, Instr.sliceBound, asIntOf, elemI, sizeOf, typeInfo, hi, sliced, Result.andThen]
  · simp [Instr.sliceBounds, Instr.sliceBound, asIntOf, hm, elemI, sizeOf, typeInfo, hi, sliced, Result.andThen, h0, Addr.add]
theorem run_head (hm : m ≤ c) (w : World) : (Instr.slice 22 (.slice a n c) none (some (.int .i64 m)) none).run Try.prog w = .ok (.slice a m c) w := by
  obtain ⟨i0, hi, hz0, hz1, hz2⟩ := info_parts infoI
  rw [run_slice_any (w := w) 22 a n c (by rw [elemI]; exact Try.underlying22)]
  by_cases h0 : c = 0
  · subst h0
    obtain rfl : m = 0 := by omega
    simp [Instr.sliceBounds, Instr.sliceBound, asIntOf, elemI, sizeOf, typeInfo, hi, sliced, Result.andThen]
  · simp [Instr.sliceBounds, Instr.sliceBound, asIntOf, hm, elemI, sizeOf, typeInfo, hi, sliced, Result.andThen, h0, Addr.add]
theorem run_tail (hm : m ≤ n) (w : World) : (Instr.slice 22 (.slice a n c) (some (.int .i64 m)) none none).run Try.prog w = .ok (.slice (if c = m then a else a.map (·.add (m * 2))) (n - m) (c - m)) w := by
  obtain ⟨i0, hi, hz0, hz1, hz2⟩ := info_parts infoI
  rw [run_slice_any (w := w) 22 a n c (by rw [elemI]; exact Try.underlying22)]
  simp [Instr.sliceBounds, Instr.sliceBound, asIntOf, hm, elemI, sizeOf, typeInfo, hi, hz1, sliced, Result.andThen]
theorem run_tail3 (hm : m ≤ n) (hn : n ≤ c) (w : World) : (Instr.slice 22 (.slice a n c) (some (.int .i64 m)) (some (.int .i64 n)) (some (.int .i64 n))).run Try.prog w = .ok (.slice (if n = m then a else a.map (·.add (m * 2))) (n - m) (n - m)) w := by
  obtain ⟨i0, hi, hz0, hz1, hz2⟩ := info_parts infoI
  rw [run_slice_any (w := w) 22 a n c (by rw [elemI]; exact Try.underlying22)]
  simp [Instr.sliceBounds, Instr.sliceBound, asIntOf, hm, hn, elemI, sizeOf, typeInfo, hi, hz1, sliced, Result.andThen]
end

/-- A new list of n items is told, whatever they are. -/
def RetL (w : World) (n : Nat) (l : List It) (ed : Ending) (w' : World) : Prop := ∃ a c, ed = .returned (.slice a n c) ∧ Kept w w' ∧ w'.ownsRow w.heap.size 45 2 (.slice a n c) n (flatI l)
/-- A new list is told: in memory of the call's own. -/
def RetI (w : World) (l : List It) (ed : Ending) (w' : World) : Prop := ∃ a c, ed = .returned (.slice a l.length c) ∧ Kept w w' ∧ OwnI w' w.heap.size (.slice a l.length c) l
theorem RetL.retI {w : World} {n : Nat} {l : List It} {ed : Ending} {w' : World} (hn : n = l.length) (h : RetL w n l ed w') : RetI w l ed w' := by subst hn; exact h
theorem RetI.retL {w : World} {n : Nat} {l : List It} {ed : Ending} {w' : World} (hn : n = l.length) (h : RetI w l ed w') : RetL w n l ed w' := by subst hn; exact h
end Go.Proofs.Yteomggjkdaddhaa
