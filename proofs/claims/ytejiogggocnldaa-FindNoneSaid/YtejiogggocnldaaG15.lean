/- What a reader sees of a slice, wherever it comes from: nil, empty with whatever address, or cells. 'append' of it onto a slice of the call's own. And cells of lists whose elements are of one width. -/
import Derived.Test.YtejiogggocnldaaG14
import Derived.Test.YtejiogggocnldaaG09
import Derived.Laws.OwnMore
import Derived.Deep.RegionLaw
import Derived.Deep.RegionHeld3
import Derived.Test.YtejiogggocnldaaG03
set_option linter.unusedVariables false
set_option linter.unusedSimpArgs false

namespace Go.Proofs.Ytejiogggocnldaa
open Go.RowKit

section
variable {α : Type} {m : Nat} {f : α → List Value}
theorem wide_length (hf : ∀ a, (f a).length = m) (l : List α) : (l.flatMap f).length = l.length * m := by
  induction l with
  | nil => simp
  | cons a l ih => simp only [List.flatMap_cons, List.length_append, hf, ih, List.length_cons, Nat.add_mul, Nat.one_mul]; omega
theorem wide_get (hf : ∀ a, (f a).length = m) (l : List α) : ∀ (i j : Nat) (a : α), l[i]? = some a → j < m → (l.flatMap f)[i * m + j]? = (f a)[j]? := by
  induction l with
  | nil => intro i j a h; simp at h
  | cons b l ih =>
    intro i j a h hj
    rw [List.flatMap_cons]
    cases i with
    | zero =>
      simp at h
      subst h
      rw [List.getElem?_append_left (by rw [hf]; omega)]
      simp
    | succ i =>
      rw [List.getElem?_append_right (by rw [hf, Nat.add_mul]; omega), hf, show (i + 1) * m + j - m = i * m + j by rw [Nat.add_mul]; omega]
      exact ih i j a (by simpa using h) hj
theorem wide_snoc (l : List α) (a : α) : (l ++ [a]).flatMap f = l.flatMap f ++ f a := by simp
theorem wide_one (h1 : ∀ a, ∀ u ∈ f a, u.oneCell' = true) (l : List α) : ∀ u ∈ l.flatMap f, u.oneCell' = true := by
  intro u h
  obtain ⟨a, _, ha⟩ := List.mem_flatMap.1 h
  exact h1 a u ha
end

def Lay (w : World) (v : Value) (n : Nat) (xs : List Value) : Prop := Lies w v n xs ∨ ∃ x c, v = .slice (some x) 0 c ∧ n = 0 ∧ xs = [] ∧ c ≤ maxLen
theorem Lies.lay {w : World} {v : Value} {n : Nat} {xs : List Value} (h : Lies w v n xs) : Lay w v n xs := .inl h
theorem Lay.form {w : World} {v : Value} {n : Nat} {xs : List Value} (h : Lay w v n xs) : ∃ a c, v = .slice a n c ∧ n ≤ c ∧ c ≤ maxLen := by
  rcases h with h | ⟨x, c, rfl, rfl, _, hc⟩
  · exact h.form
  · exact ⟨_, _, rfl, Nat.zero_le _, hc⟩
theorem Lay.kept {w w' : World} {v : Value} {n : Nat} {xs : List Value} (h : Lay w v n xs) (k : Kept w w') : Lay w' v n xs := h.imp (fun h => h.kept k) id
theorem Lay.but {S : Nat → Prop} {w w' : World} {v : Value} {n : Nat} {xs : List Value} (h : Lay w v n xs) (k : But S w w') (hS : ∀ g, v.ownBlock = some g → ¬ S g) : Lay w' v n xs := h.imp (fun h => h.but k hS) id
theorem Lay.at {w : World} {v : Value} {n : Nat} {xs : List Value} (h : Lay w v n xs) (hn : 0 < n) : ∃ g o c, v = .slice (some ⟨g, o, none⟩) n c ∧ n ≤ c ∧ c ≤ maxLen ∧ ∀ j u, xs[j]? = some u → w.cell? ⟨g, o + j, none⟩ = some u := by
  rcases h with (⟨_, h, _⟩ | h) | ⟨_, _, _, h, _⟩
  · omega
  · exact h
  · omega
theorem Lay.pre {w : World} {a : Option Addr} {n c m : Nat} {xs ys : List Value} (h : Lay w (.slice a n c) n xs) (hm : m ≤ n) (h0 : m = 0 → ys = []) (hx : ∀ (j : Nat) u, ys[j]? = some u → xs[j]? = some u) : Lay w (.slice a m c) m ys := by
  obtain ⟨a', c', e, hc1, hc2⟩ := h.form
  cases e
  by_cases hz : m = 0
  · subst hz
    rw [h0 rfl]
    cases a with
    | none =>
      rcases h with (⟨e, _, _⟩ | ⟨g, o, c', e, _⟩) | ⟨x, c', e, _⟩
      · cases e; exact .inl (.inl ⟨rfl, rfl, rfl⟩)
      · cases e
      · cases e
    | some x => exact .inr ⟨x, c, rfl, rfl, rfl, hc2⟩
  · obtain ⟨g, o, c', e, h1, h2, h3⟩ := h.at (by omega)
    cases e
    exact .inl (.inr ⟨g, o, c, rfl, by omega, h2, fun j u hu => h3 j u (hx j u hu)⟩)

section
variable {P : Program} (w : World)
theorem append_lay (base : Nat) (t ty e : TypeId) (i : TypeInfo) (z : Value) (size bytes : Nat) (ht : P.underlying t = some (.slice e)) (hi : P.info? e = some i) (hz : i.zero = some z)
    (hsize : i.size = size) (hby : i.bytes = bytes) (hzs : z.cells.size = size) (hsz : 0 < size)
    (v : Value) (n : Nat) (xs : List Value) (hown : w.ownsRow base e size v n xs)
    (x : Value) (m : Nat) (news : List Value) (hl : news.length = m * size) (hx : Lay w x m news) (h1 : ∀ u ∈ news, u.oneCell' = true)
    (h63 : n + m ≤ maxLen) (hbytes : (n + m) * bytes ≤ 140737488355328) (hbase : base ≤ w.heap.size) :
    ∃ a c w', (Builtin.append_ #[t, t] ty #[v, x]).run P w = .ok (.slice a (n + m) c) w' ∧ w'.ownsRow base e size (.slice a (n + m) c) (n + m) (xs ++ news) ∧ But (fun k => v.ownBlock = some k) w w' ∧
      ((Value.slice a (n + m) c).ownBlock = v.ownBlock ∨ (Value.slice a (n + m) c).ownBlock = some w.heap.size) := by
  rcases hx with hx | ⟨x, c, rfl, rfl, rfl, hc⟩
  · exact append_any w base t ty e i z size bytes ht hi hz hsize hby hzs hsz v n xs hown x m news hl hx h1 h63 hbytes hbase
  · obtain ⟨v', w', hr, h2, h3, _, h5⟩ := run_append_own_at (P := P) w base t ty e i z size bytes ht hi hz hsize hby hzs hsz v n xs hown x 0 c [] (by simp) (fun j u hu => by simp at hu) h1 h63 hbytes hbase
    obtain ⟨a, c', rfl⟩ := own_form h2
    refine ⟨a, c', w', hr, h2, but_of_grown h3 fun g hg _ k => ?_, h5⟩
    subst hsize
    rcases hown.2 with ⟨rfl, _⟩ | ⟨g2, cap, cur, rfl, _, hg2, hnc, hcm, hcs, htake⟩
    · cases hg
    · have e' : g2 = g := by simpa [Value.ownBlock] using hg
      subst e'
      have hr2 := run_append_room (P := P) w t ty e i ht hi g2 n cap cur hg2 x 0 c [] (by simp) (fun j u hu => by simp at hu) h1 (by omega) (by simp [hcs]; exact Nat.mul_le_mul_right _ hnc)
      rw [hr] at hr2
      injection hr2 with _ hw
      rw [hw, frozen_of_row _ g2 k _ e (setRow_heap w g2 cur _ e _ hg2), frozen_of_row _ g2 k _ e hg2]

theorem wp_append_lay {o : Oper} {A : Act} {K : Act → World → Prop} {Q : Exit → Act → World → Prop} (s x : Operand) (t : TypeId)
    (ho : o.op = .call { callee := .builtin .append, args := #[s, x], argTypes := #[t, t] })
    (base : Nat) (e : TypeId) (i : TypeInfo) (z : Value) (size bytes : Nat) (ht : P.underlying t = some (.slice e)) (hi : P.info? e = some i) (hz : i.zero = some z)
    (hsize : i.size = size) (hby : i.bytes = bytes) (hzs : z.cells.size = size) (hsz : 0 < size)
    (v : Value) (n : Nat) (xs : List Value) (hs : A.eval s = v) (hown : w.ownsRow base e size v n xs)
    (y : Value) (m : Nat) (news : List Value) (hy : A.eval x = y) (hl : news.length = m * size) (hx : Lay w y m news) (h1 : ∀ u ∈ news, u.oneCell' = true)
    (h63 : n + m ≤ maxLen) (hbytes : (n + m) * bytes ≤ 140737488355328) (hbase : base ≤ w.heap.size)
    (h : ∀ a c w', w'.ownsRow base e size (.slice a (n + m) c) (n + m) (xs ++ news) → But (fun k => v.ownBlock = some k) w w' →
      ((Value.slice a (n + m) c).ownBlock = v.ownBlock ∨ (Value.slice a (n + m) c).ownBlock = some w.heap.size) → K (A.put o.dst (.slice a (n + m) c)) w') : o.wp P A w K Q := by
  obtain ⟨a, c, w', hr, h2, h3, h4⟩ := append_lay (P := P) w base t o.type e i z size bytes ht hi hz hsize hby hzs hsz v n xs hown y m news hl hx h1 h63 hbytes hbase
  unfold Oper.wp execOp
  simp only [ho, resolve, invoke, builtin, Sem.run_bind, Sem.run_pure, Result.andThen_ok, List.map_toArray, List.map_cons, List.map_nil, hs, hy, hr]
  exact h a c w' h2 h3 h4
theorem wpList_append_lay {ops : Array Oper} {rest : List Oper} {o : Oper} {A : Act} {Q : Exit → Act → World → Prop} (hgd : o.guard = none) (s x : Operand) (t : TypeId)
    (ho : o.op = .call { callee := .builtin .append, args := #[s, x], argTypes := #[t, t] })
    (base : Nat) (e : TypeId) (i : TypeInfo) (z : Value) (size bytes : Nat) (ht : P.underlying t = some (.slice e)) (hi : P.info? e = some i) (hz : i.zero = some z)
    (hsize : i.size = size) (hby : i.bytes = bytes) (hzs : z.cells.size = size) (hsz : 0 < size)
    (v : Value) (n : Nat) (xs : List Value) (hs : A.eval s = v) (hown : w.ownsRow base e size v n xs)
    (y : Value) (m : Nat) (news : List Value) (hy : A.eval x = y) (hl : news.length = m * size) (hx : Lay w y m news) (h1 : ∀ u ∈ news, u.oneCell' = true)
    (h63 : n + m ≤ maxLen) (hbytes : (n + m) * bytes ≤ 140737488355328) (hbase : base ≤ w.heap.size)
    (h : ∀ a c w', w'.ownsRow base e size (.slice a (n + m) c) (n + m) (xs ++ news) → But (fun k => v.ownBlock = some k) w w' →
      ((Value.slice a (n + m) c).ownBlock = v.ownBlock ∨ (Value.slice a (n + m) c).ownBlock = some w.heap.size) → wpList P ops Q rest (A.put o.dst (.slice a (n + m) c)) w') : wpList P ops Q (o :: rest) A w :=
  wpList_plain hgd fun _ hK => wp_append_lay w s x t ho base e i z size bytes ht hi hz hsize hby hzs hsz v n xs hs hown y m news hy hl hx h1 h63 hbytes hbase fun a c w' h2 h3 h4 => hK _ _ (h a c w' h2 h3 h4)
end
end Go.Proofs.Ytejiogggocnldaa

namespace Go.Proofs.Ytejiogggocnldaa.Fd
set_option maxRecDepth 20000
open Go.RowKit
open Wo (St acc wordAt PMem RefIs)
open Sk (Stk Arn idx Wd)
open Tw (Twr TB towV atI nextI)

theorem fown_keep {w w' : World} {base : Nat} {e : TypeId} {size : Nat} {v : Value} {n : Nat} {xs : List Value} (h : w.ownsRow base e size v n xs) (k : Kept w w') : w'.ownsRow base e size v n xs := own_same h (fun g hg => k.below.block g (h.lt g hg).2)
theorem fown_but {w w' : World} {base : Nat} {e : TypeId} {size : Nat} {v : Value} {n : Nat} {xs : List Value} (h : w.ownsRow base e size v n xs) {T : Nat → Prop} (b : But T w w') (hT : ∀ g, v.ownBlock = some g → ¬ T g) : w'.ownsRow base e size v n xs :=
  own_same h fun g hg => b.block g (h.lt g hg).2 (hT g hg)
theorem flay_new {w : World} {g : Nat} {xs : List Value} {n : Nat} {t : TypeId} {fr : Nat × Nat} (h : w.heap[g]? = some (.cells xs.toArray t fr)) (hn : n ≤ 100000) : Lay w (.slice (some ⟨g, 0, none⟩) n n) n xs :=
  .inl (.inr ⟨g, 0, n, rfl, Nat.le_refl _, by unfold maxLen; omega, fun j u hu => by
    have := World.news_of_block h j u (by simpa using hu)
    rwa [add_none] at this⟩)
theorem fown_form2 {w : World} {base : Nat} {e : TypeId} {size : Nat} {v : Value} {n : Nat} {xs : List Value} (h : w.ownsRow base e size v n xs) : ∃ a c, v = .slice a n c := own_form h
def appSem (ts : Array TypeId) (ty : TypeId) (args : Array Value) : Sem Value := Builtin.append_ ts ty args
theorem app_named (ts : Array TypeId) (ty : TypeId) (args : Array Value) : Builtin.append_ ts ty args = appSem ts ty args := rfl
attribute [local go_sem ↓] app_named
def posL (f : Nat → Pos) (sel : Pos → Int) (k : Nat) : List Int := (List.range k).map fun j => sel (f j)
theorem posL_succ (f : Nat → Pos) (sel : Pos → Int) (k : Nat) : posL f sel (k + 1) = posL f sel k ++ [sel (f k)] := by simp [posL, List.range_succ]
theorem posL_len (f : Nat → Pos) (sel : Pos → Int) (k : Nat) : (posL f sel k).length = k := by simp [posL]
theorem infoI : (Try.prog.info? 3).map (fun i => (i.zero, i.size, i.bytes)) = some (some (.int .i64 0), 1, 8) := by kernel_rfl
def cellsI (l : List Int) : List Value := l.map (Value.int .i64)
theorem cellsI_append (l m : List Int) : cellsI (l ++ m) = cellsI l ++ cellsI m := by simp [cellsI]
def RetI (w : World) (l : List Int) (ed : Ending) (w' : World) : Prop := ∃ a c, ed = .returned (.slice a l.length c) ∧ Kept w w' ∧ w'.ownsRow w.heap.size 3 1 (.slice a l.length c) l.length (cellsI l)
theorem appI {W W5 : World} {N : Nat} {v : Value} {l : List Int} (hrow : W.ownsRow N 3 1 v l.length (cellsI l)) (k : Kept W W5) (hN : N ≤ W.heap.size) (hl : l.length ≤ 5000) (x : Int) :
    ∃ a c w1, (appSem #[22, 22] 22 #[v, .slice (some ⟨W5.heap.size, 0, none⟩) 1 1]).run Try.prog (W5.alloc (.cells #[.int .i64 x] 3)) = .ok (.slice a (l.length + 1) c) w1 ∧
      w1.ownsRow N 3 1 (.slice a (l.length + 1) c) (l ++ [x]).length (cellsI (l ++ [x])) ∧ But (fun j => v.ownBlock = some j) W w1 := by
  obtain ⟨i0, hi, hz0, hz1, hz2⟩ := info_parts infoI
  have kA : Kept W (W5.alloc (.cells #[.int .i64 x] 3)) := k.alloc _ _
  obtain ⟨a, c, w1, hr, own, but, at_⟩ := append_lay (P := Try.prog) (W5.alloc (.cells #[.int .i64 x] 3)) N 22 22 3 i0 _ 1 8 Try.underlying22 hi hz0 hz1 hz2 (by rfl) (by decide) v l.length (cellsI l) (fown_keep hrow kA) (.slice (some ⟨W5.heap.size, 0, none⟩) 1 1) 1 [.int .i64 x]
    rfl (flay_new (heap_alloc_new _ _) (by omega)) (by simp [Value.oneCell']) (by unfold maxLen; omega) (by omega) (by have := k.size; simp; omega)
  rw [app_named] at hr
  refine ⟨a, c, w1, hr, ?_, (kA.but _).trans but (fun _ _ h => h)⟩
  rw [List.length_append, cellsI_append]
  exact own
def FLoopI (wc : World) (g : Nat) (f : Nat → Pos) (sel : Pos → Int) (u x : Value) (wr : World) : Prop :=
  ∃ k : Nat, k ≤ g ∧ x = .int .i64 k ∧ wr.ownsRow wc.heap.size 3 1 u k (cellsI (posL f sel k)) ∧ Kept wc wr
theorem infoW : (Try.prog.info? 52).map (fun i => (i.zero, i.size, i.bytes)) = some (some (.int .u64 0), 1, 8) := by kernel_rfl
def cellsW (l : List Int) : List Value := l.map (Value.int .u64)
theorem cellsW_append (l m : List Int) : cellsW (l ++ m) = cellsW l ++ cellsW m := by simp [cellsW]
def RetW (w : World) (l : List Int) (ed : Ending) (w' : World) : Prop := ∃ a c, ed = .returned (.slice a l.length c) ∧ Kept w w' ∧ w'.ownsRow w.heap.size 52 1 (.slice a l.length c) l.length (cellsW l)
theorem appW {W W5 : World} {N : Nat} {v : Value} {l : List Int} (hrow : W.ownsRow N 52 1 v l.length (cellsW l)) (k : Kept W W5) (hN : N ≤ W.heap.size) (hl : l.length ≤ 5000) (x : Int) :
    ∃ a c w1, (appSem #[66, 66] 66 #[v, .slice (some ⟨W5.heap.size, 0, none⟩) 1 1]).run Try.prog (W5.alloc (.cells #[.int .u64 x] 52)) = .ok (.slice a (l.length + 1) c) w1 ∧
      w1.ownsRow N 52 1 (.slice a (l.length + 1) c) (l ++ [x]).length (cellsW (l ++ [x])) ∧ But (fun j => v.ownBlock = some j) W w1 := by
  obtain ⟨i0, hi, hz0, hz1, hz2⟩ := info_parts infoW
  have kA : Kept W (W5.alloc (.cells #[.int .u64 x] 52)) := k.alloc _ _
  obtain ⟨a, c, w1, hr, own, but, at_⟩ := append_lay (P := Try.prog) (W5.alloc (.cells #[.int .u64 x] 52)) N 66 66 52 i0 _ 1 8 Try.underlying66 hi hz0 hz1 hz2 (by rfl) (by decide) v l.length (cellsW l) (fown_keep hrow kA) (.slice (some ⟨W5.heap.size, 0, none⟩) 1 1) 1 [.int .u64 x]
    rfl (flay_new (heap_alloc_new _ _) (by omega)) (by simp [Value.oneCell']) (by unfold maxLen; omega) (by omega) (by have := k.size; simp; omega)
  rw [app_named] at hr
  refine ⟨a, c, w1, hr, ?_, (kA.but _).trans but (fun _ _ h => h)⟩
  rw [List.length_append, cellsW_append]
  exact own
def FLoopW (wc : World) (g : Nat) (f : Nat → Pos) (sel : Pos → Int) (u x : Value) (wr : World) : Prop :=
  ∃ k : Nat, k ≤ g ∧ x = .int .i64 k ∧ wr.ownsRow wc.heap.size 52 1 u k (cellsW (posL f sel k)) ∧ Kept wc wr
set_option maxHeartbeats 400000 in
theorem preds_one (q : Pos) (w : World) : Calls Try.prog 55 #[posV q] w fun e w' => e = .returned (.int .i64 q.p) ∧ Kept w w' := by
  go_enter Try.func55, Try.ntmps55
  go_wp2
  go_ret
  exact ⟨rfl, by (go_light; repeat (first | (with_reducible exact Kept.refl _) | (with_reducible assumption) | (with_reducible refine Kept.alloc ?_ _ _) | (with_reducible refine Kept.drew ?_) | (with_reducible refine Kept.drewN ?_ _) | ((with_reducible refine Kept.setCell ?_ ?_ _); rotate_left; focus (first | (simp; done) | (simp; omega))) | refine Kept.trans ?_ (by assumption)))⟩
set_option maxHeartbeats 2000000 in
theorem preds_found (F : Nat) (t : Twr) (key : Int) (o : FOp) (g : Nat) (hg : (g : Int) = t.G) (g4 : g ≤ 4) (w : World) (h : FdAt w F t key o) (he : o.er = 0) : Calls Try.prog 54 #[.pointer (some ⟨F, 0, none⟩), .func (.func 55) #[] #[]] w (RetI w (posL o.pos (fun q => q.p) g)) := by
  have H := Lib.hid h
  have ER := fun W (f : FdAt W F t key o) => Lib.hid (show Calls Try.prog 14 #[.pointer (some ⟨F, 0, none⟩)] W fun e w' => e = .returned (.int .i64 0) ∧ W = w' from by have := ferr_made F o.er W f.md f.er; rwa [he] at this)
  have c3 := h.tf.t2
  rw [← hg] at c3
  have lF := h.lt
  have HG := Lib.hid hg
  have g0 : (0 : Int) ≤ (g : Int) := by omega
  have g5 : (g : Int) ≤ 4 := by omega
  clear h he hg
  go_enter Try.func54, Try.ntmps54
  go_wp2_with fail
  refine (ER _ H.out).out.mono ?_
  rintro e _ ⟨rfl, rfl⟩
  go_wp2_with fail
  go_quiet (fail)
  go_wp2_with fail
  obtain ⟨wq, hwq⟩ : ∃ W, W = w.drewN nq := ⟨_, rfl⟩
  have KQ : Hid (Kept w wq) := Lib.hid (by rw [hwq]; exact (Kept.refl _).drewN _)
  have HZ : wq.heap.size = w.heap.size := by rw [hwq]; rfl
  rw [← hwq]
  clear hwq c3
  go_loopw [5, 21] (FLoopI wq g o.pos (fun q => q.p)) (fun _ x _ => g - (intOf x).toNat)
  case atStart => exact ⟨0, Nat.zero_le _, rfl, World.ownsRow_nil _ _ _ _, Kept.refl _⟩
  case round =>
    obtain ⟨k, hk, rfl, nr, br⟩ := hrel
    obtain ⟨au, cu, rfl⟩ := fown_form2 nr
    have BR := Lib.hid br
    have NR := Lib.hid nr
    have f := H.out.kept (KQ.out.trans br)
    have hNr : wq.heap.size ≤ wr.heap.size := br.size
    by_cases hlt : k < g
    · have hl : (k : Int) < (g : Int) := by omega
      have k0 : (0 : Int) ≤ (k : Int) := by omega
      have s0 := f.ps.p0 k (by omega)
      have s1 := f.ps.p1 k (by omega)
      have s2 := f.ps.p2 k (by omega)
      have s3 := f.ps.p3 k (by omega)
      have s4 := f.ps.p4 k (by omega)
      have lFr := f.lt
      have APP := Lib.hid (fun W5 (kk : Kept wr W5) => appI (W5 := W5) (l := posL o.pos (fun q => q.p) k) (by rw [posL_len]; exact NR.out) kk hNr (by rw [posL_len]; omega) (o.pos k).p)
      rw [posL_len] at APP
      have LS := Lib.hid (show posL o.pos (fun q => q.p) (k + 1) = posL o.pos (fun q => q.p) k ++ [(o.pos k).p] from posL_succ o.pos (fun q => q.p) k)
      have ON := fun W => Lib.hid (preds_one (o.pos k) W)
      clear f br nr
      go_wp2_with fail
      refine (ON _).out.mono ?_
      rintro e y ⟨rfl, ky⟩
      have KT : Kept wr y := Kept.trans (b := _) ((Kept.refl _).alloc _ _) ky
      obtain ⟨a', c', w7, hrun, own7, but7⟩ := APP.out y KT
      clear ky
      go_wp2
      rw [← LS.out, posL_len] at own7
      exact ⟨⟨k + 1, by omega, by go_num, own7, ((BR.out.but _).trans but7 (fun _ _ h => h)).kept (fun j hj e => by have := (NR.out.lt j e).1; omega)⟩, by simp [intOf]; omega⟩
    · have hl : (g : Int) ≤ (k : Int) := by omega
      have hkg : k = g := by omega
      subst hkg
      clear f br nr
      go_wp2
      go_ret
      refine ⟨au, cu, by rw [posL_len]; rfl, KQ.out.trans BR.out, ?_⟩
      rw [posL_len, ← HZ]
      exact NR.out
set_option maxHeartbeats 400000 in
theorem preds_ok (F : Nat) (t : Twr) (key : Int) (o : FOp) (g : Nat) (hg : (g : Int) = t.G) (g4 : g ≤ 4) (w : World) (h : FdAt w F t key o) (he : o.er = 0) : Calls Try.prog 15 #[.pointer (some ⟨F, 0, none⟩)] w (RetI w (posL o.pos (fun q => q.p) g)) := by
  have FO := Lib.hid (preds_found F t key o g hg g4 w h he)
  clear h he hg
  go_enter Try.func15, Try.ntmps15
  go_wp2_with fail
  refine FO.out.mono ?_
  rintro e w1 ⟨a, c, rfl, k1, own⟩
  go_wp2
  go_ret
  exact ⟨a, c, rfl, k1, own⟩
set_option maxHeartbeats 400000 in
theorem preds_bad (p : Option Addr) (w : World) (er : Int) (h0 : er ≠ 0) (hE : ∀ W, Kept w W → Calls Try.prog 14 #[.pointer p] W fun e w' => e = .returned (.int .i64 er) ∧ W = w') : Calls Try.prog 15 #[.pointer p] w fun e w' => e = .returned (.slice none 0 0) ∧ Kept w w' := by
  have hb : (er != 0) = true := by simpa using h0
  have FO := Lib.hid (show Calls Try.prog 54 #[.pointer p, .func (.func 55) #[] #[]] w fun e w' => e = .returned (.slice none 0 0) ∧ Kept w w' from by
    have HE := Lib.hid (hE w (Kept.refl _))
    clear hE h0
    go_enter Try.func54, Try.ntmps54
    go_wp2_with fail
    refine HE.out.mono ?_
    rintro e _ ⟨rfl, rfl⟩
    go_wp2
    go_ret
    exact ⟨rfl, Kept.refl _⟩)
  clear hE h0 hb
  go_enter Try.func15, Try.ntmps15
  go_wp2_with fail
  refine FO.out.mono ?_
  rintro e w1 ⟨rfl, k1⟩
  go_wp2
  go_ret
  exact ⟨rfl, k1⟩
set_option maxHeartbeats 400000 in
theorem succs_one (q : Pos) (w : World) : Calls Try.prog 57 #[posV q] w fun e w' => e = .returned (.int .u64 q.c) ∧ Kept w w' := by
  go_enter Try.func57, Try.ntmps57
  go_wp2
  go_ret
  exact ⟨rfl, by (go_light; repeat (first | (with_reducible exact Kept.refl _) | (with_reducible assumption) | (with_reducible refine Kept.alloc ?_ _ _) | (with_reducible refine Kept.drew ?_) | (with_reducible refine Kept.drewN ?_ _) | ((with_reducible refine Kept.setCell ?_ ?_ _); rotate_left; focus (first | (simp; done) | (simp; omega))) | refine Kept.trans ?_ (by assumption)))⟩
set_option maxHeartbeats 2000000 in
theorem succs_found (F : Nat) (t : Twr) (key : Int) (o : FOp) (g : Nat) (hg : (g : Int) = t.G) (g4 : g ≤ 4) (w : World) (h : FdAt w F t key o) (he : o.er = 0) : Calls Try.prog 56 #[.pointer (some ⟨F, 0, none⟩), .func (.func 57) #[] #[]] w (RetW w (posL o.pos (fun q => q.c) g)) := by
  have H := Lib.hid h
  have ER := fun W (f : FdAt W F t key o) => Lib.hid (show Calls Try.prog 14 #[.pointer (some ⟨F, 0, none⟩)] W fun e w' => e = .returned (.int .i64 0) ∧ W = w' from by have := ferr_made F o.er W f.md f.er; rwa [he] at this)
  have c3 := h.tf.t2
  rw [← hg] at c3
  have lF := h.lt
  have HG := Lib.hid hg
  have g0 : (0 : Int) ≤ (g : Int) := by omega
  have g5 : (g : Int) ≤ 4 := by omega
  clear h he hg
  go_enter Try.func56, Try.ntmps56
  go_wp2_with fail
  refine (ER _ H.out).out.mono ?_
  rintro e _ ⟨rfl, rfl⟩
  go_wp2_with fail
  go_quiet (fail)
  go_wp2_with fail
  obtain ⟨wq, hwq⟩ : ∃ W, W = w.drewN nq := ⟨_, rfl⟩
  have KQ : Hid (Kept w wq) := Lib.hid (by rw [hwq]; exact (Kept.refl _).drewN _)
  have HZ : wq.heap.size = w.heap.size := by rw [hwq]; rfl
  rw [← hwq]
  clear hwq c3
  go_loopw [5, 21] (FLoopW wq g o.pos (fun q => q.c)) (fun _ x _ => g - (intOf x).toNat)
  case atStart => exact ⟨0, Nat.zero_le _, rfl, World.ownsRow_nil _ _ _ _, Kept.refl _⟩
  case round =>
    obtain ⟨k, hk, rfl, nr, br⟩ := hrel
    obtain ⟨au, cu, rfl⟩ := fown_form2 nr
    have BR := Lib.hid br
    have NR := Lib.hid nr
    have f := H.out.kept (KQ.out.trans br)
    have hNr : wq.heap.size ≤ wr.heap.size := br.size
    by_cases hlt : k < g
    · have hl : (k : Int) < (g : Int) := by omega
      have k0 : (0 : Int) ≤ (k : Int) := by omega
      have s0 := f.ps.p0 k (by omega)
      have s1 := f.ps.p1 k (by omega)
      have s2 := f.ps.p2 k (by omega)
      have s3 := f.ps.p3 k (by omega)
      have s4 := f.ps.p4 k (by omega)
      have lFr := f.lt
      have APP := Lib.hid (fun W5 (kk : Kept wr W5) => appW (W5 := W5) (l := posL o.pos (fun q => q.c) k) (by rw [posL_len]; exact NR.out) kk hNr (by rw [posL_len]; omega) (o.pos k).c)
      rw [posL_len] at APP
      have LS := Lib.hid (show posL o.pos (fun q => q.c) (k + 1) = posL o.pos (fun q => q.c) k ++ [(o.pos k).c] from posL_succ o.pos (fun q => q.c) k)
      have ON := fun W => Lib.hid (succs_one (o.pos k) W)
      clear f br nr
      go_wp2_with fail
      refine (ON _).out.mono ?_
      rintro e y ⟨rfl, ky⟩
      have KT : Kept wr y := Kept.trans (b := _) ((Kept.refl _).alloc _ _) ky
      obtain ⟨a', c', w7, hrun, own7, but7⟩ := APP.out y KT
      clear ky
      go_wp2
      rw [← LS.out, posL_len] at own7
      exact ⟨⟨k + 1, by omega, by go_num, own7, ((BR.out.but _).trans but7 (fun _ _ h => h)).kept (fun j hj e => by have := (NR.out.lt j e).1; omega)⟩, by simp [intOf]; omega⟩
    · have hl : (g : Int) ≤ (k : Int) := by omega
      have hkg : k = g := by omega
      subst hkg
      clear f br nr
      go_wp2
      go_ret
      refine ⟨au, cu, by rw [posL_len]; rfl, KQ.out.trans BR.out, ?_⟩
      rw [posL_len, ← HZ]
      exact NR.out
set_option maxHeartbeats 400000 in
theorem succs_ok (F : Nat) (t : Twr) (key : Int) (o : FOp) (g : Nat) (hg : (g : Int) = t.G) (g4 : g ≤ 4) (w : World) (h : FdAt w F t key o) (he : o.er = 0) : Calls Try.prog 16 #[.pointer (some ⟨F, 0, none⟩)] w (RetW w (posL o.pos (fun q => q.c) g)) := by
  have FO := Lib.hid (succs_found F t key o g hg g4 w h he)
  clear h he hg
  go_enter Try.func16, Try.ntmps16
  go_wp2_with fail
  refine FO.out.mono ?_
  rintro e w1 ⟨a, c, rfl, k1, own⟩
  go_wp2
  go_ret
  exact ⟨a, c, rfl, k1, own⟩
set_option maxHeartbeats 400000 in
theorem succs_bad (p : Option Addr) (w : World) (er : Int) (h0 : er ≠ 0) (hE : ∀ W, Kept w W → Calls Try.prog 14 #[.pointer p] W fun e w' => e = .returned (.int .i64 er) ∧ W = w') : Calls Try.prog 16 #[.pointer p] w fun e w' => e = .returned (.slice none 0 0) ∧ Kept w w' := by
  have hb : (er != 0) = true := by simpa using h0
  have FO := Lib.hid (show Calls Try.prog 56 #[.pointer p, .func (.func 57) #[] #[]] w fun e w' => e = .returned (.slice none 0 0) ∧ Kept w w' from by
    have HE := Lib.hid (hE w (Kept.refl _))
    clear hE h0
    go_enter Try.func56, Try.ntmps56
    go_wp2_with fail
    refine HE.out.mono ?_
    rintro e _ ⟨rfl, rfl⟩
    go_wp2
    go_ret
    exact ⟨rfl, Kept.refl _⟩)
  clear hE h0 hb
  go_enter Try.func16, Try.ntmps16
  go_wp2_with fail
  refine FO.out.mono ?_
  rintro e w1 ⟨rfl, k1⟩
  go_wp2
  go_ret
  exact ⟨rfl, k1⟩
set_option maxHeartbeats 400000 in
theorem known_one (q : Pos) (w : World) : Calls Try.prog 58 #[posV q] w fun e w' => e = .returned (.int .u64 q.k) ∧ Kept w w' := by
  go_enter Try.func58, Try.ntmps58
  go_wp2
  go_ret
  exact ⟨rfl, by (go_light; repeat (first | (with_reducible exact Kept.refl _) | (with_reducible assumption) | (with_reducible refine Kept.alloc ?_ _ _) | (with_reducible refine Kept.drew ?_) | (with_reducible refine Kept.drewN ?_ _) | ((with_reducible refine Kept.setCell ?_ ?_ _); rotate_left; focus (first | (simp; done) | (simp; omega))) | refine Kept.trans ?_ (by assumption)))⟩
set_option maxHeartbeats 2000000 in
theorem known_found (F : Nat) (t : Twr) (key : Int) (o : FOp) (g : Nat) (hg : (g : Int) = t.G) (g4 : g ≤ 4) (w : World) (h : FdAt w F t key o) (he : o.er = 0) : Calls Try.prog 56 #[.pointer (some ⟨F, 0, none⟩), .func (.func 58) #[] #[]] w (RetW w (posL o.pos (fun q => q.k) g)) := by
  have H := Lib.hid h
  have ER := fun W (f : FdAt W F t key o) => Lib.hid (show Calls Try.prog 14 #[.pointer (some ⟨F, 0, none⟩)] W fun e w' => e = .returned (.int .i64 0) ∧ W = w' from by have := ferr_made F o.er W f.md f.er; rwa [he] at this)
  have c3 := h.tf.t2
  rw [← hg] at c3
  have lF := h.lt
  have HG := Lib.hid hg
  have g0 : (0 : Int) ≤ (g : Int) := by omega
  have g5 : (g : Int) ≤ 4 := by omega
  clear h he hg
  go_enter Try.func56, Try.ntmps56
  go_wp2_with fail
  refine (ER _ H.out).out.mono ?_
  rintro e _ ⟨rfl, rfl⟩
  go_wp2_with fail
  go_quiet (fail)
  go_wp2_with fail
  obtain ⟨wq, hwq⟩ : ∃ W, W = w.drewN nq := ⟨_, rfl⟩
  have KQ : Hid (Kept w wq) := Lib.hid (by rw [hwq]; exact (Kept.refl _).drewN _)
  have HZ : wq.heap.size = w.heap.size := by rw [hwq]; rfl
  rw [← hwq]
  clear hwq c3
  go_loopw [5, 21] (FLoopW wq g o.pos (fun q => q.k)) (fun _ x _ => g - (intOf x).toNat)
  case atStart => exact ⟨0, Nat.zero_le _, rfl, World.ownsRow_nil _ _ _ _, Kept.refl _⟩
  case round =>
    obtain ⟨k, hk, rfl, nr, br⟩ := hrel
    obtain ⟨au, cu, rfl⟩ := fown_form2 nr
    have BR := Lib.hid br
    have NR := Lib.hid nr
    have f := H.out.kept (KQ.out.trans br)
    have hNr : wq.heap.size ≤ wr.heap.size := br.size
    by_cases hlt : k < g
    · have hl : (k : Int) < (g : Int) := by omega
      have k0 : (0 : Int) ≤ (k : Int) := by omega
      have s0 := f.ps.p0 k (by omega)
      have s1 := f.ps.p1 k (by omega)
      have s2 := f.ps.p2 k (by omega)
      have s3 := f.ps.p3 k (by omega)
      have s4 := f.ps.p4 k (by omega)
      have lFr := f.lt
      have APP := Lib.hid (fun W5 (kk : Kept wr W5) => appW (W5 := W5) (l := posL o.pos (fun q => q.k) k) (by rw [posL_len]; exact NR.out) kk hNr (by rw [posL_len]; omega) (o.pos k).k)
      rw [posL_len] at APP
      have LS := Lib.hid (show posL o.pos (fun q => q.k) (k + 1) = posL o.pos (fun q => q.k) k ++ [(o.pos k).k] from posL_succ o.pos (fun q => q.k) k)
      have ON := fun W => Lib.hid (known_one (o.pos k) W)
      clear f br nr
      go_wp2_with fail
      refine (ON _).out.mono ?_
      rintro e y ⟨rfl, ky⟩
      have KT : Kept wr y := Kept.trans (b := _) ((Kept.refl _).alloc _ _) ky
      obtain ⟨a', c', w7, hrun, own7, but7⟩ := APP.out y KT
      clear ky
      go_wp2
      rw [← LS.out, posL_len] at own7
      exact ⟨⟨k + 1, by omega, by go_num, own7, ((BR.out.but _).trans but7 (fun _ _ h => h)).kept (fun j hj e => by have := (NR.out.lt j e).1; omega)⟩, by simp [intOf]; omega⟩
    · have hl : (g : Int) ≤ (k : Int) := by omega
      have hkg : k = g := by omega
      subst hkg
      clear f br nr
      go_wp2
      go_ret
      refine ⟨au, cu, by rw [posL_len]; rfl, KQ.out.trans BR.out, ?_⟩
      rw [posL_len, ← HZ]
      exact NR.out
set_option maxHeartbeats 400000 in
theorem known_ok (F : Nat) (t : Twr) (key : Int) (o : FOp) (g : Nat) (hg : (g : Int) = t.G) (g4 : g ≤ 4) (w : World) (h : FdAt w F t key o) (he : o.er = 0) : Calls Try.prog 17 #[.pointer (some ⟨F, 0, none⟩)] w (RetW w (posL o.pos (fun q => q.k) g)) := by
  have FO := Lib.hid (known_found F t key o g hg g4 w h he)
  clear h he hg
  go_enter Try.func17, Try.ntmps17
  go_wp2_with fail
  refine FO.out.mono ?_
  rintro e w1 ⟨a, c, rfl, k1, own⟩
  go_wp2
  go_ret
  exact ⟨a, c, rfl, k1, own⟩
set_option maxHeartbeats 400000 in
theorem known_bad (p : Option Addr) (w : World) (er : Int) (h0 : er ≠ 0) (hE : ∀ W, Kept w W → Calls Try.prog 14 #[.pointer p] W fun e w' => e = .returned (.int .i64 er) ∧ W = w') : Calls Try.prog 17 #[.pointer p] w fun e w' => e = .returned (.slice none 0 0) ∧ Kept w w' := by
  have hb : (er != 0) = true := by simpa using h0
  have FO := Lib.hid (show Calls Try.prog 56 #[.pointer p, .func (.func 58) #[] #[]] w fun e w' => e = .returned (.slice none 0 0) ∧ Kept w w' from by
    have HE := Lib.hid (hE w (Kept.refl _))
    clear hE h0
    go_enter Try.func56, Try.ntmps56
    go_wp2_with fail
    refine HE.out.mono ?_
    rintro e _ ⟨rfl, rfl⟩
    go_wp2
    go_ret
    exact ⟨rfl, Kept.refl _⟩)
  clear hE h0 hb
  go_enter Try.func17, Try.ntmps17
  go_wp2_with fail
  refine FO.out.mono ?_
  rintro e w1 ⟨rfl, k1⟩
  go_wp2
  go_ret
  exact ⟨rfl, k1⟩
end Go.Proofs.Ytejiogggocnldaa.Fd

namespace Go.Proofs.Ytejiogggocnldaa.Wo
set_option maxRecDepth 20000
open Go.RowKit

set_option maxHeartbeats 1000000 in
theorem valid_nil (w : World) : Calls Try.prog 60 #[.pointer none] w fun e w' => e = .returned (.bool false) ∧ w = w' := by
  go_enter Try.func60, Try.ntmps60
  go_wp2
  go_ret
  exact ⟨rfl, rfl⟩
set_option maxHeartbeats 1000000 in
theorem no_size_nil (w : World) : Calls Try.prog 95 #[.pointer none] w fun e w' => e = .returned (.int .i64 0) ∧ w = w' := by
  go_enter Try.func95, Try.ntmps95
  go_wp2_with fail
  refine (valid_nil _).mono ?_
  rintro e w' ⟨rfl, rfl⟩
  go_wp2
  go_ret
  exact ⟨rfl, rfl⟩
set_option maxHeartbeats 1000000 in
theorem no_count_nil (w : World) : Calls Try.prog 21 #[.pointer none] w fun e w' => e = .returned (.int .i64 0) ∧ w = w' := by
  go_enter Try.func21, Try.ntmps21
  go_wp2_with fail
  refine (valid_nil _).mono ?_
  rintro e w' ⟨rfl, rfl⟩
  go_wp2
  go_ret
  exact ⟨rfl, rfl⟩
set_option maxHeartbeats 1000000 in
theorem no_words_nil (w : World) : Calls Try.prog 48 #[.pointer none] w fun e w' => e = .returned (.slice none 0 0) ∧ w = w' := by
  go_enter Try.func48, Try.ntmps48
  go_wp2_with fail
  refine (valid_nil _).mono ?_
  rintro e w' ⟨rfl, rfl⟩
  go_wp2
  go_ret
  exact ⟨rfl, rfl⟩
set_option maxHeartbeats 1000000 in
theorem cell_nil (i : Int) (w : World) : Calls Try.prog 63 #[.pointer none, .int .i64 i] w fun e w' => e = .returned (.pointer none) ∧ w = w' := by
  by_cases h : i < 0
  · go_enter Try.func63, Try.ntmps63
    go_wp2
    go_ret
    exact ⟨rfl, rfl⟩
  · have h' : 0 ≤ i := by omega
    go_enter Try.func63, Try.ntmps63
    go_wp2_with fail
    refine (no_size_nil _).mono ?_
    rintro e w' ⟨rfl, rfl⟩
    go_wp2
    go_ret
    exact ⟨rfl, rfl⟩
set_option maxHeartbeats 1000000 in
theorem access_nil (k i : Int) (F : Value) (w : World) : Calls Try.prog 62 #[.pointer none, .int .i64 k, .int .i64 i, F] w fun e w' => e = .returned (.agg #[.int .i64 0, .int .i64 0, .int .u64 0, .int .u64 0, .bool false]) ∧ Kept w w' := by
  go_enter Try.func62, Try.ntmps62
  go_wp2_with fail
  refine (valid_nil _).mono ?_
  rintro e w' ⟨rfl, rfl⟩
  go_wp2
  refine bodyPost_ret (v := (.agg #[.int .i64 0, .int .i64 0, .int .u64 0, .int .u64 0, .bool false])) (by simp [results, Try.results62, go_sem]) rfl ⟨rfl, ?_⟩
  (go_light; repeat (first | (with_reducible exact Kept.refl _) | (with_reducible assumption) | (with_reducible refine Kept.alloc ?_ _ _) | (with_reducible refine Kept.drew ?_) | (with_reducible refine Kept.drewN ?_ _) | ((with_reducible refine Kept.setCell ?_ ?_ _); rotate_left; focus (first | (simp; done) | (simp; omega))) | refine Kept.trans ?_ (by assumption)))
set_option maxHeartbeats 1000000 in
theorem no_last_nil (w : World) : Calls Try.prog 106 #[.pointer none] w fun e w' => e = .returned (.agg #[.int .i64 0, .int .i64 0, .int .u64 0, .int .u64 0, .bool false]) ∧ Kept w w' := by
  go_enter Try.func106, Try.ntmps106
  go_wp2_with fail
  refine (valid_nil _).mono ?_
  rintro e w' ⟨rfl, rfl⟩
  go_wp2
  refine bodyPost_ret (v := (.agg #[.int .i64 0, .int .i64 0, .int .u64 0, .int .u64 0, .bool false])) (by simp [results, Try.results106, go_sem]) rfl ⟨rfl, ?_⟩
  (go_light; repeat (first | (with_reducible exact Kept.refl _) | (with_reducible assumption) | (with_reducible refine Kept.alloc ?_ _ _) | (with_reducible refine Kept.drew ?_) | (with_reducible refine Kept.drewN ?_ _) | ((with_reducible refine Kept.setCell ?_ ?_ _); rotate_left; focus (first | (simp; done) | (simp; omega))) | refine Kept.trans ?_ (by assumption)))
set_option maxHeartbeats 1000000 in
theorem no_load_nil (i : Int) (w : World) : Calls Try.prog 33 #[.pointer none, .int .i64 i] w fun e w' => e = .returned (.int .u64 0) ∧ Kept w w' := by
  have hfn := field_new
  have hfh := field_held
  go_enter Try.func33, Try.ntmps33
  go_wp2_with fail
  refine (cell_nil _ _).mono ?_
  rintro e w' ⟨rfl, rfl⟩
  go_wp2_with fail
  refine (access_nil _ _ _ _).mono ?_
  rintro e w' ⟨rfl, k⟩
  go_wp2
  go_ret
  exact ⟨rfl, k⟩
set_option maxHeartbeats 1000000 in
theorem no_store_nil (i x : Int) (w : World) : Calls Try.prog 26 #[.pointer none, .int .i64 i, .int .u64 x] w fun e w' => e = .returned (.tuple #[]) ∧ Kept w w' := by
  have hfn := field_new
  have hfh := field_held
  go_enter Try.func26, Try.ntmps26
  go_wp2_with fail
  refine (cell_nil _ _).mono ?_
  rintro e w' ⟨rfl, rfl⟩
  go_wp2_with fail
  refine (access_nil _ _ _ _).mono ?_
  rintro e w' ⟨rfl, k⟩
  go_wp2
  go_end0
  exact ⟨rfl, k⟩
set_option maxHeartbeats 1000000 in
theorem no_cas_nil (i x y : Int) (w : World) : Calls Try.prog 121 #[.pointer none, .int .i64 i, .int .u64 x, .int .u64 y] w fun e w' => e = .returned (.bool false) ∧ Kept w w' := by
  have hfn := field_new
  have hfh := field_held
  go_enter Try.func121, Try.ntmps121
  go_wp2_with fail
  refine (cell_nil _ _).mono ?_
  rintro e w' ⟨rfl, rfl⟩
  go_wp2_with fail
  refine (access_nil _ _ _ _).mono ?_
  rintro e w' ⟨rfl, k⟩
  go_wp2
  go_ret
  exact ⟨rfl, k⟩
end Go.Proofs.Ytejiogggocnldaa.Wo
