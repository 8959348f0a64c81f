/- What a reader sees of a slice, wherever it comes from: nil, empty with whatever address, or cells. 'append' of it onto a slice of the call's own. And cells of lists whose elements are of one width. -/
import Derived.Test.YtmfbjlaajcdbnaaG06
import Derived.Test.YtmfbjlaajcdbnaaG00
import Derived.WalkKit
import Derived.ProofKit
import Derived.Deep.Slices
import Derived.Deep.Fields
import Derived.Lib.SmallJoins
import Derived.Test.YtmfbjlaajcdbnaaG17
import Derived.Test.YtmfbjlaajcdbnaaG15
import Derived.Test.YtmfbjlaajcdbnaaG20
import Derived.Deep.RegionHeld3
set_option linter.unusedVariables false
set_option linter.unusedSimpArgs false

namespace Go.Proofs.Ytmfbjlaajcdbnaa
open Go.RowKit

section
variable {α : Type} {m : Nat} {f : α → List Value}
theorem wide_length (hf : ∀ a, (f a).length = m) (l : List α) : (l.flatMap f).length = l.length * m := by
  induction l with
  | nil => simp
  | cons a l ih => simp only [List.flatMap_cons, List.length_append, hf, ih, List.length_cons, Nat.add_mul, Nat.one_mul]; omega
theorem wide_get (hf : ∀ a, (f a).length = m) (l : List α) : ∀ (i j : Nat) (a : α), l[i]? = some a → j < m → (l.flatMap f)[i * m + j]? = (f a)[j]? := by
  induction l with
  | nil => intro i j a h; simp at h
  | cons b l ih =>
    intro i j a h hj
    rw [List.flatMap_cons]
    cases i with
    | zero =>
      simp at h
      subst h
      rw [List.getElem?_append_left (by rw [hf]; omega)]
      simp
    | succ i =>
      rw [List.getElem?_append_right (by rw [hf, Nat.add_mul]; omega), hf, show (i + 1) * m + j - m = i * m + j by rw [Nat.add_mul]; omega]
      exact ih i j a (by simpa using h) hj
theorem wide_snoc (l : List α) (a : α) : (l ++ [a]).flatMap f = l.flatMap f ++ f a := by simp
theorem wide_one (h1 : ∀ a, ∀ u ∈ f a, u.oneCell' = true) (l : List α) : ∀ u ∈ l.flatMap f, u.oneCell' = true := by
  intro u h
  obtain ⟨a, _, ha⟩ := List.mem_flatMap.1 h
  exact h1 a u ha
end

def Lay (w : World) (v : Value) (n : Nat) (xs : List Value) : Prop := Lies w v n xs ∨ ∃ x c, v = .slice (some x) 0 c ∧ n = 0 ∧ xs = [] ∧ c ≤ maxLen
theorem Lies.lay {w : World} {v : Value} {n : Nat} {xs : List Value} (h : Lies w v n xs) : Lay w v n xs := .inl h
theorem Lay.form {w : World} {v : Value} {n : Nat} {xs : List Value} (h : Lay w v n xs) : ∃ a c, v = .slice a n c ∧ n ≤ c ∧ c ≤ maxLen := by
  rcases h with h | ⟨x, c, rfl, rfl, _, hc⟩
  · exact h.form
  · exact ⟨_, _, rfl, Nat.zero_le _, hc⟩
theorem Lay.kept {w w' : World} {v : Value} {n : Nat} {xs : List Value} (h : Lay w v n xs) (k : Kept w w') : Lay w' v n xs := h.imp (fun h => h.kept k) id
theorem Lay.but {S : Nat → Prop} {w w' : World} {v : Value} {n : Nat} {xs : List Value} (h : Lay w v n xs) (k : But S w w') (hS : ∀ g, v.ownBlock = some g → ¬ S g) : Lay w' v n xs := h.imp (fun h => h.but k hS) id
theorem Lay.at {w : World} {v : Value} {n : Nat} {xs : List Value} (h : Lay w v n xs) (hn : 0 < n) : ∃ g o c, v = .slice (some ⟨g, o, none⟩) n c ∧ n ≤ c ∧ c ≤ maxLen ∧ ∀ j u, xs[j]? = some u → w.cell? ⟨g, o + j, none⟩ = some u := by
  rcases h with (⟨_, h, _⟩ | h) | ⟨_, _, _, h, _⟩
  · omega
  · exact h
  · omega
theorem Lay.pre {w : World} {a : Option Addr} {n c m : Nat} {xs ys : List Value} (h : Lay w (.slice a n c) n xs) (hm : m ≤ n) (h0 : m = 0 → ys = []) (hx : ∀ (j : Nat) u, ys[j]? = some u → xs[j]? = some u) : Lay w (.slice a m c) m ys := by
  obtain ⟨a', c', e, hc1, hc2⟩ := h.form
  cases e
  by_cases hz : m = 0
  · subst hz
    rw [h0 rfl]
    cases a with
    | none =>
      rcases h with (⟨e, _, _⟩ | ⟨g, o, c', e, _⟩) | ⟨x, c', e, _⟩
      · cases e; exact .inl (.inl ⟨rfl, rfl, rfl⟩)
      · cases e
      · cases e
    | some x => exact .inr ⟨x, c, rfl, rfl, rfl, hc2⟩
  · obtain ⟨g, o, c', e, h1, h2, h3⟩ := h.at (by omega)
    cases e
    exact .inl (.inr ⟨g, o, c, rfl, by omega, h2, fun j u hu => h3 j u (hx j u hu)⟩)

section
variable {P : Program} (w : World)
theorem append_lay (base : Nat) (t ty e : TypeId) (i : TypeInfo) (z : Value) (size bytes : Nat) (ht : P.underlying t = some (.slice e)) (hi : P.info? e = some i) (hz : i.zero = some z)
    (hsize : i.size = size) (hby : i.bytes = bytes) (hzs : z.cells.size = size) (hsz : 0 < size)
    (v : Value) (n : Nat) (xs : List Value) (hown : w.ownsRow base e size v n xs)
    (x : Value) (m : Nat) (news : List Value) (hl : news.length = m * size) (hx : Lay w x m news) (h1 : ∀ u ∈ news, u.oneCell' = true)
    (h63 : n + m ≤ maxLen) (hbytes : (n + m) * bytes ≤ 140737488355328) (hbase : base ≤ w.heap.size) :
    ∃ a c w', (Builtin.append_ #[t, t] ty #[v, x]).run P w = .ok (.slice a (n + m) c) w' ∧ w'.ownsRow base e size (.slice a (n + m) c) (n + m) (xs ++ news) ∧ But (fun k => v.ownBlock = some k) w w' ∧
      ((Value.slice a (n + m) c).ownBlock = v.ownBlock ∨ (Value.slice a (n + m) c).ownBlock = some w.heap.size) := by
  rcases hx with hx | ⟨x, c, rfl, rfl, rfl, hc⟩
  · exact append_any w base t ty e i z size bytes ht hi hz hsize hby hzs hsz v n xs hown x m news hl hx h1 h63 hbytes hbase
  · obtain ⟨v', w', hr, h2, h3, _, h5⟩ := run_append_own_at (P := P) w base t ty e i z size bytes ht hi hz hsize hby hzs hsz v n xs hown x 0 c [] (by simp) (fun j u hu => by simp at hu) h1 h63 hbytes hbase
    obtain ⟨a, c', rfl⟩ := own_form h2
    refine ⟨a, c', w', hr, h2, but_of_grown h3 fun g hg _ k => ?_, h5⟩
    subst hsize
    rcases hown.2 with ⟨rfl, _⟩ | ⟨g2, cap, cur, rfl, _, hg2, hnc, hcm, hcs, htake⟩
    · cases hg
    · have e' : g2 = g := by simpa [Value.ownBlock] using hg
      subst e'
      have hr2 := run_append_room (P := P) w t ty e i ht hi g2 n cap cur hg2 x 0 c [] (by simp) (fun j u hu => by simp at hu) h1 (by omega) (by simp [hcs]; exact Nat.mul_le_mul_right _ hnc)
      rw [hr] at hr2
      injection hr2 with _ hw
      rw [hw, frozen_of_row _ g2 k _ e (setRow_heap w g2 cur _ e _ hg2), frozen_of_row _ g2 k _ e hg2]

theorem wp_append_lay {o : Oper} {A : Act} {K : Act → World → Prop} {Q : Exit → Act → World → Prop} (s x : Operand) (t : TypeId)
    (ho : o.op = .call { callee := .builtin .append, args := #[s, x], argTypes := #[t, t] })
    (base : Nat) (e : TypeId) (i : TypeInfo) (z : Value) (size bytes : Nat) (ht : P.underlying t = some (.slice e)) (hi : P.info? e = some i) (hz : i.zero = some z)
    (hsize : i.size = size) (hby : i.bytes = bytes) (hzs : z.cells.size = size) (hsz : 0 < size)
    (v : Value) (n : Nat) (xs : List Value) (hs : A.eval s = v) (hown : w.ownsRow base e size v n xs)
    (y : Value) (m : Nat) (news : List Value) (hy : A.eval x = y) (hl : news.length = m * size) (hx : Lay w y m news) (h1 : ∀ u ∈ news, u.oneCell' = true)
    (h63 : n + m ≤ maxLen) (hbytes : (n + m) * bytes ≤ 140737488355328) (hbase : base ≤ w.heap.size)
    (h : ∀ a c w', w'.ownsRow base e size (.slice a (n + m) c) (n + m) (xs ++ news) → But (fun k => v.ownBlock = some k) w w' →
      ((Value.slice a (n + m) c).ownBlock = v.ownBlock ∨ (Value.slice a (n + m) c).ownBlock = some w.heap.size) → K (A.put o.dst (.slice a (n + m) c)) w') : o.wp P A w K Q := by
  obtain ⟨a, c, w', hr, h2, h3, h4⟩ := append_lay (P := P) w base t o.type e i z size bytes ht hi hz hsize hby hzs hsz v n xs hown y m news hl hx h1 h63 hbytes hbase
  unfold Oper.wp execOp
  simp only [ho, resolve, invoke, builtin, Sem.run_bind, Sem.run_pure, Result.andThen_ok, List.map_toArray, List.map_cons, List.map_nil, hs, hy, hr]
  exact h a c w' h2 h3 h4
theorem wpList_append_lay {ops : Array Oper} {rest : List Oper} {o : Oper} {A : Act} {Q : Exit → Act → World → Prop} (hgd : o.guard = none) (s x : Operand) (t : TypeId)
    (ho : o.op = .call { callee := .builtin .append, args := #[s, x], argTypes := #[t, t] })
    (base : Nat) (e : TypeId) (i : TypeInfo) (z : Value) (size bytes : Nat) (ht : P.underlying t = some (.slice e)) (hi : P.info? e = some i) (hz : i.zero = some z)
    (hsize : i.size = size) (hby : i.bytes = bytes) (hzs : z.cells.size = size) (hsz : 0 < size)
    (v : Value) (n : Nat) (xs : List Value) (hs : A.eval s = v) (hown : w.ownsRow base e size v n xs)
    (y : Value) (m : Nat) (news : List Value) (hy : A.eval x = y) (hl : news.length = m * size) (hx : Lay w y m news) (h1 : ∀ u ∈ news, u.oneCell' = true)
    (h63 : n + m ≤ maxLen) (hbytes : (n + m) * bytes ≤ 140737488355328) (hbase : base ≤ w.heap.size)
    (h : ∀ a c w', w'.ownsRow base e size (.slice a (n + m) c) (n + m) (xs ++ news) → But (fun k => v.ownBlock = some k) w w' →
      ((Value.slice a (n + m) c).ownBlock = v.ownBlock ∨ (Value.slice a (n + m) c).ownBlock = some w.heap.size) → wpList P ops Q rest (A.put o.dst (.slice a (n + m) c)) w') : wpList P ops Q (o :: rest) A w :=
  wpList_plain hgd fun _ hK => wp_append_lay w s x t ho base e i z size bytes ht hi hz hsize hby hzs hsz v n xs hs hown y m news hy hl hx h1 h63 hbytes hbase fun a c w' h2 h3 h4 => hK _ _ (h a c w' h2 h3 h4)
end
end Go.Proofs.Ytmfbjlaajcdbnaa

namespace Go.Proofs.Ytmfbjlaajcdbnaa.Ep
set_option maxRecDepth 20000
open Go.ChangeShapes Go.WideShapes Go.Deep Go.RowKit

def words (l : List Int) : List Value := l.map (Value.int .u64)
theorem words_flat (l : List Int) : words l = l.flatMap fun x => [Value.int .u64 x] := by simp [words, List.flatMap]; induction l <;> simp_all
theorem words_at (l : List Int) (j : Nat) (h : j < l.length) : (words l)[j]? = some (.int .u64 (l.getD j 0)) := by simp [words, h]
def actc (a : Int × Int × Int × Int) : List Value := [.int .i64 a.1, .int .i64 a.2.1, .int .i64 a.2.2.1, .int .i64 a.2.2.2]
theorem actc_length (a : Int × Int × Int × Int) : (actc a).length = 4 := rfl
theorem cellsAct : Try.prog.cellsOf 36 = 4 := by kernel_rfl
theorem cellsInt : Try.prog.cellsOf 3 = 1 := by kernel_rfl
theorem cellsU : Try.prog.cellsOf 55 = 1 := by kernel_rfl
section
variable {H : Type} {enc : TypeId × Value → H} {w : World} {base : Nat} {spare : Nat → Bool} {held : Bool}
theorem open_wideP {α : Type} {f : α → List Value} {R : α → Prop} {m : Nat} {e t : TypeId} (ht : Try.prog.underlying t = some (.slice e)) (hC : Try.prog.cellsOf e = m) (hm : 0 < m) (hf : ∀ a, (f a).length = m)
    (ho : ∀ (fuel : Nat) (cs : List Value) (x : DataW H × List MemPlace), DataW.trod enc Try.prog w base spare held fuel e cs = some x → ∃ a, cs = f a ∧ R a)
    {fuel : Nat} {a : Option Addr} {len cap : Nat} {x : DataW H × List MemPlace} (h : DataW.trod enc Try.prog w base spare held fuel t [.slice a len cap] = some x) :
    ∃ l : List α, l.length = len ∧ Lay w (.slice a len cap) len (l.flatMap f) ∧ ∀ a ∈ l, R a := by
  rcases open_slice ht h with h0 | ⟨y, len', cap', m', n, D, Pl, hcs, _, hl, hm', hmm, _, hi⟩
  · obtain ⟨rfl, rfl, rfl⟩ : a = none ∧ len = 0 ∧ cap = 0 := by simpa using h0.1
    exact ⟨[], rfl, .inl (.inl ⟨rfl, rfl, rfl⟩), by simp⟩
  · obtain ⟨rfl, rfl, rfl⟩ : a = some y ∧ len = len' ∧ cap = cap' := by simpa using hcs
    have hle : len ≤ m' := by rw [hmm]; split <;> omega
    rw [hC] at hi
    have each : ∀ i, i < len → ∃ e : α, (∀ j u, j < m → (f e)[j]? = some u → w.cell? (y.add (i * m + j)) = some u) ∧ R e := by
      intro i hil
      obtain ⟨cs', hc, ht⟩ := hi i (by omega)
      obtain ⟨e, rfl, we⟩ := ho _ _ _ ht
      obtain ⟨_, _, hat⟩ := World.cells?_some hc
      refine ⟨e, fun j u hj hu => ?_, we⟩
      have := hat j hj
      rw [add_add] at this
      exact this.trans hu
    by_cases h0 : len = 0
    · subst h0
      exact ⟨[], rfl, .inr ⟨y, cap, rfl, rfl, rfl, hm'⟩, by simp⟩
    · obtain ⟨b, off, spot⟩ := y
      have hs : spot = none := by
        obtain ⟨e, he, _⟩ := each 0 (by omega)
        have := he 0 _ hm (List.getElem?_eq_getElem (by rw [hf]; exact hm))
        simpa [Addr.add] using World.cell?_spot this
      subst hs
      have pick : ∀ n, n ≤ len → ∃ l : List α, l.length = n ∧ (∀ e ∈ l, R e) ∧ ∀ i e, l[i]? = some e → ∀ j u, j < m → (f e)[j]? = some u → w.cell? ⟨b, off + (i * m + j), none⟩ = some u := by
        intro n
        induction n with
        | zero => intro _; exact ⟨[], rfl, by simp, by simp⟩
        | succ n ih =>
          intro hn
          obtain ⟨l, hl1, hl2, hl3⟩ := ih (by omega)
          obtain ⟨e, he, we⟩ := each n (by omega)
          refine ⟨l ++ [e], by simp [hl1], fun f hf => ?_, fun i g hg j u hj hu => ?_⟩
          · rcases List.mem_append.1 hf with hf | hf
            · exact hl2 f hf
            · simp at hf; subst hf; exact we
          · by_cases hi' : i < l.length
            · rw [List.getElem?_append_left hi'] at hg
              exact hl3 i g hg j u hj hu
            · have h2 := (List.getElem?_eq_some_iff.1 hg).1
              have e1 : i = l.length := by simp at h2; omega
              subst e1
              have e2 : e = g := by simpa using hg
              subst e2
              have := he j u hj hu
              rw [add_none] at this
              rw [hl1]
              exact this
      obtain ⟨l, hl1, hl2, hl3⟩ := pick len (Nat.le_refl _)
      refine ⟨l, hl1, .inl (.inr ⟨b, off, cap, rfl, hl, hm', fun j u hu => ?_⟩), hl2⟩
      have hj : j < l.length * m := by rw [← wide_length hf]; exact (List.getElem?_eq_some_iff.1 hu).1
      have hr : j % m < m := Nat.mod_lt _ hm
      have hi2 : j / m < l.length := Nat.div_lt_of_lt_mul (by rw [Nat.mul_comm]; exact hj)
      have ej : j / m * m + j % m = j := by rw [Nat.mul_comm]; exact Nat.div_add_mod j m
      obtain ⟨e, he⟩ : ∃ e, l[j / m]? = some e := ⟨_, List.getElem?_eq_getElem hi2⟩
      have h3 := hl3 (j / m) e he (j % m) u hr (by rw [← wide_get hf l (j / m) (j % m) e he hr, ej]; exact hu)
      rw [ej] at h3
      exact h3

theorem wf_u64 (x : Int) (h : (Lit.int .u64 x).wf = true) : 0 ≤ x ∧ x < 18446744073709551616 := by
  have e : IntKind.u64.min = 0 := by decide
  have e' : IntKind.u64.max = 18446744073709551615 := by decide
  have := h
  simp [Lit.wf, e, e'] at this
  omega
theorem open_words {fuel : Nat} {a : Option Addr} {len cap : Nat} {x : DataW H × List MemPlace} (h : DataW.trod enc Try.prog w base spare held fuel 24 [.slice a len cap] = some x) :
    ∃ l : List Int, l.length = len ∧ Lay w (.slice a len cap) len (words l) ∧ ∀ x ∈ l, 0 ≤ x ∧ x < 18446744073709551616 := by
  obtain ⟨l, h1, h2, h3⟩ := open_wideP (f := fun x => [Value.int .u64 x]) (R := fun x => 0 ≤ x ∧ x < 18446744073709551616) Try.underlying24 cellsU (by decide) (fun _ => rfl) (fun fuel cs x h => by
    obtain ⟨q, h1, h2, hw⟩ := DataW.trod_int (cs := cs) Try.underlying55 h
    exact ⟨q, by simpa using h1, wf_u64 q hw⟩) h
  exact ⟨l, h1, by rw [words_flat]; exact h2, h3⟩
theorem open_act {fuel : Nat} {cs : List Value} {x : DataW H × List MemPlace} (h : DataW.trod enc Try.prog w base spare held fuel 36 cs = some x) : ∃ e : Int × Int × Int × Int, cs = actc e ∧ True := by
  obtain ⟨ys, n2, _, _, hl, hyl, hg⟩ := DataW.trod_struct Try.underlying36 h
  rw [cellsAct] at hl
  match cs, hl with
  | [v2, v3, v4, v5], _ =>
    match ys, hyl with
    | [y0, y1, y2, y3], _ =>
      have g0 : DataW.trod enc Try.prog w base spare held n2 3 (([v2, v3, v4, v5].drop 0).take (Try.prog.cellsOf 3)) = some y0 := hg 0 _ rfl
      have g1 : DataW.trod enc Try.prog w base spare held n2 3 (([v2, v3, v4, v5].drop 1).take (Try.prog.cellsOf 3)) = some y1 := hg 1 _ rfl
      have g2 : DataW.trod enc Try.prog w base spare held n2 3 (([v2, v3, v4, v5].drop 2).take (Try.prog.cellsOf 3)) = some y2 := hg 2 _ rfl
      have g3 : DataW.trod enc Try.prog w base spare held n2 3 (([v2, v3, v4, v5].drop 3).take (Try.prog.cellsOf 3)) = some y3 := hg 3 _ rfl
      simp only [cellsInt, List.drop_zero, List.drop_succ_cons, List.take_succ_cons, List.take_zero] at g0 g1 g2 g3
      obtain ⟨q2, e2, _, _⟩ := DataW.trod_int Try.underlying3 g0
      obtain ⟨q3, e3, _, _⟩ := DataW.trod_int Try.underlying3 g1
      obtain ⟨q4, e4, _, _⟩ := DataW.trod_int Try.underlying3 g2
      obtain ⟨q5, e5, _, _⟩ := DataW.trod_int Try.underlying3 g3
      simp at e2 e3 e4 e5
      subst e2; subst e3; subst e4; subst e5
      exact ⟨⟨q2, q3, q4, q5⟩, rfl, trivial⟩
theorem open_acts {fuel : Nat} {a : Option Addr} {len cap : Nat} {x : DataW H × List MemPlace} (h : DataW.trod enc Try.prog w base spare held fuel 25 [.slice a len cap] = some x) :
    ∃ l : List (Int × Int × Int × Int), l.length = len ∧ Lay w (.slice a len cap) len (l.flatMap actc) := by
  obtain ⟨l, h1, h2, _⟩ := open_wideP (f := actc) (R := fun _ => True) Try.underlying25 cellsAct (by decide) actc_length (fun fuel cs x h => open_act h) h
  exact ⟨l, h1, h2⟩
end
end Go.Proofs.Ytmfbjlaajcdbnaa.Ep

namespace Go.Proofs.Ytmfbjlaajcdbnaa.Ep
set_option maxRecDepth 20000
open Go.RowKit
open Wo (St acc wordAt PMem RefIs)
open Sk (Stk Wd r_load r_store r_cas r_at ref_frame ref_kept ref_lt)

set_option maxHeartbeats 2000000 in
theorem r_fill (M B n : Nat) (S : Stk) (s : St) (w : World) (hm : RefIs w M B n s) (h0 : 0 ≤ s.cnt) (h1 : s.cnt ≤ 900000) (n1 : 1 ≤ n) (n2 : n ≤ 4096) (N1 : 1 ≤ S.N) (N2 : S.N ≤ 64) (K0 : 0 ≤ S.K) (K1 : S.K ≤ 10000) :
    Calls Try.prog 52 #[.agg #[.int .i64 S.T, .int .i64 S.K, .int .i64 S.N], .pointer (some ⟨M, 0, none⟩)] w fun e w' => e = .returned (.tuple #[]) ∧ RefIs w' M B n (fillSt n S s) ∧ But (fun k => k = M ∨ k = B) w w' := by
  have hlt := ref_lt hm n1
  have hne : ¬ (w.heap.size = M ∨ w.heap.size = B) := by omega
  have HM := Lib.hid hm
  have NE := Lib.hid hne
  clear hm hne hlt
  go_enter Try.func52, Try.ntmps52
  go_wp2_with fail
  refine (many_yes _ _ N1 N2).mono ?_
  rintro e _ ⟨rfl, rfl⟩
  go_wp2_with fail
  refine (r_store M B n s S.T 0 _ (ref_kept HM.out n1 (by (go_light; repeat (first | (with_reducible exact Kept.refl _) | (with_reducible assumption) | (with_reducible refine Kept.alloc ?_ _ _) | (with_reducible refine Kept.drew ?_) | (with_reducible refine Kept.drewN ?_ _) | ((with_reducible refine Kept.setCell ?_ ?_ _); rotate_left; focus (first | (simp; done) | (simp; omega))) | refine Kept.trans ?_ (by assumption))))) h0 (by omega) n2).mono ?_
  rintro e w3 ⟨rfl, m3, b3⟩
  have M3 := Lib.hid m3
  have BW := Lib.hid ((((Kept.refl w).alloc #[.int .i64 S.T, .int .i64 S.K, .int .i64 S.N] 23).but (fun k => k = M ∨ k = B)).trans b3 (fun _ _ h => h))
  have D0 := Lib.hid (b3.some (cell_new w #[.int .i64 S.T, .int .i64 S.K, .int .i64 S.N] 23 w.heap.size 0 rfl) NE.out)
  have D1 := Lib.hid (b3.some (cell_new w #[.int .i64 S.T, .int .i64 S.K, .int .i64 S.N] 23 w.heap.size 1 rfl) NE.out)
  have D2 := Lib.hid (b3.some (cell_new w #[.int .i64 S.T, .int .i64 S.K, .int .i64 S.N] 23 w.heap.size 2 rfl) NE.out)
  obtain ⟨m, hmm⟩ : ∃ m : Nat, (m : Int) = S.N := ⟨S.N.toNat, by omega⟩
  have HMM := Lib.hid hmm
  clear m3 b3 hmm
  go_wp2_with fail
  go_loopw [4] (fun i wr => ∃ k : Nat, k ≤ m ∧ i = .int .i64 k ∧ RefIs wr M B n (fillTo n S s k) ∧ But (fun k => k = M ∨ k = B) w3 wr) (fun i _ => m - (intOf i).toNat)
  case atStart => exact ⟨0, Nat.zero_le _, rfl, M3.out, But.refl _ _⟩
  case round =>
    obtain ⟨k, hk, rfl, mr, br⟩ := hrel
    have e0 := br.some D0.out NE.out
    have e1 := br.some D1.out NE.out
    have e2 := br.some D2.out NE.out
    have hmm := HMM.out
    have MR := Lib.hid mr
    have BR := Lib.hid br
    have c0 : 0 ≤ (fillTo n S s k).cnt := by rw [fillTo_cnt]; omega
    have c1 : (fillTo n S s k).cnt ≤ 1000000 := by rw [fillTo_cnt]; omega
    clear mr br
    by_cases hlt : k < m
    · have hl : (k : Int) < S.N := by omega
      clear hmm
      go_wp2_with fail
      refine (r_store M B n _ (S.K + k) 0 _ MR.out c0 c1 n2).mono ?_
      rintro e w6 ⟨rfl, m6, b6⟩
      have M6 := Lib.hid m6
      have B6 := Lib.hid (BR.out.trans b6 (fun _ _ h => h))
      clear m6 b6
      go_wp2
      go_roundw
      case rel => exact ⟨k + 1, by omega, by go_num, M6.out, B6.out⟩
      case measure => simp [intOf]; omega
    · have hl : S.N ≤ (k : Int) := by omega
      have hkm : k = S.N.toNat := by omega
      have HKM := Lib.hid hkm
      clear hmm hkm
      go_wp2
      go_end0
      refine ⟨rfl, ?_, BW.out.trans BR.out (fun _ _ h => h)⟩
      have := MR.out
      rw [HKM.out] at this
      exact this
set_option maxHeartbeats 1000000 in
theorem rnow_any (M B n : Nat) (S : Stk) (s : St) (w : World) (hm : RefIs w M B n s) (hs : Wd n s) (n1 : 1 ≤ n) :
    Calls Try.prog 17 #[.agg #[.int .i64 S.T, .int .i64 S.K, .int .i64 S.N], .pointer (some ⟨M, 0, none⟩)] w fun e w' => e = .returned (.int .i64 (ep (wordAt n s S.T))) ∧ Kept w w' := by
  have wd := hs.word S.T
  have HM := Lib.hid hm
  clear hm hs
  go_enter Try.func17, Try.ntmps17
  go_wp2_with fail
  refine (r_at M B n s S.T _ (ref_kept HM.out n1 (by (go_light; repeat (first | (with_reducible exact Kept.refl _) | (with_reducible assumption) | (with_reducible refine Kept.alloc ?_ _ _) | (with_reducible refine Kept.drew ?_) | (with_reducible refine Kept.drewN ?_ _) | ((with_reducible refine Kept.setCell ?_ ?_ _); rotate_left; focus (first | (simp; done) | (simp; omega))) | refine Kept.trans ?_ (by assumption)))))).mono ?_
  rintro e _ ⟨rfl, rfl⟩
  go_wp2_with fail
  refine (rread_any _ _ wd.1 wd.2).mono ?_
  rintro e _ ⟨rfl, rfl⟩
  go_wp2
  go_ret
  exact ⟨rfl, by (go_light; repeat (first | (with_reducible exact Kept.refl _) | (with_reducible assumption) | (with_reducible refine Kept.alloc ?_ _ _) | (with_reducible refine Kept.drew ?_) | (with_reducible refine Kept.drewN ?_ _) | ((with_reducible refine Kept.setCell ?_ ?_ _); rotate_left; focus (first | (simp; done) | (simp; omega))) | refine Kept.trans ?_ (by assumption)))⟩
end Go.Proofs.Ytmfbjlaajcdbnaa.Ep

namespace Go.Proofs.Ytmfbjlaajcdbnaa.Ep
set_option maxRecDepth 20000
open Go.RowKit
open Wo (St acc wordAt PMem RefIs)
open Sk (Stk Wd pmem_kept pmem_lt pmem_frame ref_frame ref_kept ref_lt p_new r_new p_store r_store)

def firstOwn (M B M2 B2 : Nat) (k : Nat) : Nat := if k = M ∨ k = B then 0 else if k = M2 ∨ k = B2 then 1 else 2
def LaidPost (n : Nat) (w : World) (e : Ending) (w' : World) : Prop :=
  ∃ (M B M2 B2 : Nat) (s : St), e = .returned (.tuple #[.pointer (some ⟨M, 0, none⟩), .pointer (some ⟨M2, 0, none⟩)]) ∧ Duo (firstOwn M B M2 B2) w' M B M2 B2 n s ∧ s.cnt ≤ 10000 ∧ Kept w w' ∧
    w.heap.size ≤ M ∧ w.heap.size ≤ B ∧ w.heap.size ≤ M2 ∧ w.heap.size ≤ B2

set_option maxHeartbeats 4000000 in
theorem laid_any (S : Stk) (n : Nat) (hS : EOk S n) (l : List Int) (hl : l.length ≤ 90) (a : Option Addr) (c : Nat) (w : World) (hv : Lay w (.slice a l.length c) l.length (words l)) (hr : ∀ x ∈ l, 0 ≤ x ∧ x < 18446744073709551616) :
    Calls Try.prog 11 #[.agg #[.int .i64 S.T, .int .i64 S.K, .int .i64 S.N], .int .i64 n, .slice a l.length c] w (LaidPost n w) := by
  have n1 := hS.ok.n1
  have n2 := hS.ok.n2
  have N1 := hS.ok.N1
  have N2 := hS.N
  have K0' := hS.ok.K1
  have K1' : S.K ≤ 10000 := by have := hS.ok.K2; omega
  have HS := Lib.hid hS
  have HV := Lib.hid hv
  have HR := Lib.hid hr
  obtain ⟨m, hm⟩ : ∃ m, m = l.length := ⟨_, rfl⟩
  have HMl := Lib.hid hm
  rw [← hm] at hl ⊢
  clear hS hv hr hm
  go_enter Try.func11, Try.ntmps11
  go_wp2_with fail
  refine (p_new n n1 n2 _).mono ?_
  rintro e w1 ⟨rfl, m1, z1, k1⟩
  have M1 : Hid (PMem w1 (w.heap.size + 1 + 1) (w.heap.size + 1) n Wo.St.zero) := Lib.hid (by simpa using m1)
  have K1 : Hid (Kept w w1) := Lib.hid (Kept.trans ((Kept.refl w).alloc _ _) k1)
  have Z1 : Hid (w1.heap.size = w.heap.size + 3) := Lib.hid (by simpa using z1)
  have s0 := k1.some (cell_new w #[.int .i64 S.T, .int .i64 S.K, .int .i64 S.N] 23 w.heap.size 0 rfl)
  have s1 := k1.some (cell_new w #[.int .i64 S.T, .int .i64 S.K, .int .i64 S.N] 23 w.heap.size 1 rfl)
  have s2 := k1.some (cell_new w #[.int .i64 S.T, .int .i64 S.K, .int .i64 S.N] 23 w.heap.size 2 rfl)
  clear m1 k1 z1
  go_wp2_with fail
  refine (r_new n n1 n2 _).mono ?_
  rintro e w2 ⟨M2, B2, rfl, m2, l1, l2, g1, g2, k2⟩
  have q1 : w1.heap.size ≤ M2 ∧ w1.heap.size ≤ B2 := ⟨l1, l2⟩
  have zz := Z1.out
  have R2 := Lib.hid m2
  have K2 := Lib.hid k2
  have t0 := k2.some s0
  have t1 := k2.some s1
  have t2 := k2.some s2
  clear m2 k2 s0 s1 s2 l1 l2 g1 g2
  obtain ⟨q1, q2⟩ := q1
  go_wp2_with fail
  refine (p_fill _ _ n S Wo.St.zero _ (pmem_kept M1.out K2.out) (by decide) (by decide) N1 N2 K0' K1').mono ?_
  rintro e w3 ⟨rfl, m3, b3⟩
  have hsz : w.heap.size < w2.heap.size := by have := K2.out.size; omega
  have u0 := b3.some t0 (by omega)
  have u1 := b3.some t1 (by omega)
  have u2 := b3.some t2 (by omega)
  have M3 := Lib.hid m3
  have R3 := Lib.hid (ref_frame R2.out n1 b3 (by omega) (by omega))
  have K3 : Hid (Kept w w3) := Lib.hid ((((K1.out.trans K2.out).but (fun k => k = w.heap.size + 1)).trans b3 (fun _ _ h => h)).kept (fun k hk h => by omega))
  clear m3 b3 t0 t1 t2
  go_wp2_with fail
  refine (r_fill M2 B2 n S Wo.St.zero _ R3.out (by decide) (by decide) n1 n2 N1 N2 K0' K1').mono ?_
  rintro e w4 ⟨rfl, r4, b4⟩
  have M4 := Lib.hid (pmem_frame M3.out b4 (by omega) (by omega))
  have R4 := Lib.hid r4
  have K4 : Hid (Kept w w4) := Lib.hid (((K3.out.but (fun k => k = M2 ∨ k = B2)).trans b4 (fun _ _ h => h)).kept (fun k hk h => by omega))
  have WD : Hid (Wd n (fillSt n S Wo.St.zero)) := Lib.hid (fillTo_wd (wd_zero n) _)
  have CN : Hid ((fillSt n S Wo.St.zero).cnt = 0 + 1 + S.N) := Lib.hid (by unfold fillSt; rw [fillTo_cnt]; show (0 : Int) + 1 + _ = _; omega)
  clear r4 b4 u0 u1 u2
  go_wp2_with fail
  go_loopw [12] (fun i wr => ∃ (k : Nat) (s : St), k ≤ m ∧ i = .int .i64 k ∧ PMem wr (w.heap.size + 1 + 1) (w.heap.size + 1) n s ∧ RefIs wr M2 B2 n s ∧ Wd n s ∧ s.cnt = 1 + S.N + k ∧ Kept w wr) (fun i _ => m - (intOf i).toNat)
  case atStart => exact ⟨0, fillSt n S Wo.St.zero, Nat.zero_le _, rfl, M4.out, R4.out, WD.out, by rw [CN.out]; omega, K4.out⟩
  case round =>
    obtain ⟨k, s, hk, rfl, mr, rr, wr', hc, kr⟩ := hrel
    have MR := Lib.hid mr
    have RR := Lib.hid rr
    have WR := Lib.hid wr'
    have KR := Lib.hid kr
    have c0 : 0 ≤ s.cnt := by omega
    have c1 : s.cnt ≤ 1000000 := by omega
    have HC := Lib.hid hc
    clear mr rr wr' kr hc
    by_cases hlt : k < m
    · obtain ⟨g, o, c', e', h1, h2, hcell⟩ := HV.out.at (by have := HMl.out; omega)
      cases e'
      have hcw0 := hcell k _ (words_at l k (by have := HMl.out; omega))
      have hg := lt_of_cell hcw0
      have hcw := KR.out.some hcw0
      have hx := HR.out (l.getD k 0) (by
        have h3 : k < l.length := by have := HMl.out; omega
        simp [h3])
      clear hcell h1 h2 hcw0
      go_wp2_with fail
      refine (p_store _ _ n s k (l.getD k 0) _ MR.out c0 c1).mono ?_
      rintro e w5 ⟨rfl, m5, b5⟩
      have hcw5 := b5.some hcw (by omega)
      have M5 := Lib.hid m5
      have R5 := Lib.hid (ref_frame RR.out n1 b5 (by omega) (by omega))
      have K5 : Hid (Kept w w5) := Lib.hid (((KR.out.but (fun k => k = w.heap.size + 1)).trans b5 (fun _ _ h => h)).kept (fun k hk h => by omega))
      clear m5 b5 hcw
      go_wp2_with fail
      refine (r_store M2 B2 n s k (l.getD k 0) _ R5.out c0 c1 n2).mono ?_
      rintro e w6 ⟨rfl, r6, b6⟩
      have M6 := Lib.hid (pmem_frame M5.out b6 (by omega) (by omega))
      have R6 := Lib.hid r6
      have K6 : Hid (Kept w w6) := Lib.hid (((K5.out.but (fun k => k = M2 ∨ k = B2)).trans b6 (fun _ _ h => h)).kept (fun k hk h => by omega))
      clear r6 b6 hcw5
      go_wp2
      go_roundw
      case rel => exact ⟨k + 1, acc n s 2 k true (l.getD k 0), by omega, by go_num, M6.out, R6.out, WR.out.acc _ _ _ _ hx.1 hx.2, by rw [Sk.acc_cnt, HC.out]; omega, K6.out⟩
      case measure => simp [intOf]; omega
    · go_wp2
      go_ret2
      have hcc := HC.out
      refine ⟨w.heap.size + 1 + 1, w.heap.size + 1, M2, B2, s, rfl, ⟨MR.out, RR.out, WR.out, c0, ?_, ?_, ?_, ?_, n1, n2⟩, by omega, KR.out, by omega, by omega, by omega, by omega⟩
      · unfold firstOwn; rw [if_pos (.inl rfl)]
      · unfold firstOwn; rw [if_pos (.inr rfl)]
      · unfold firstOwn; rw [if_neg (by omega), if_pos (.inl rfl)]
      · unfold firstOwn; rw [if_neg (by omega), if_pos (.inr rfl)]
end Go.Proofs.Ytmfbjlaajcdbnaa.Ep

namespace Go.Proofs.Ytmfbjlaajcdbnaa.Sk
open Go.RowKit
theorem three {a b c : Bool} (h : (a && b && c) = true) : a = true ∧ b = true ∧ c = true := by
  cases a <;> cases b <;> cases c <;> simp_all
section
variable {P : Program} {ops : Array Oper} {Q : Exit → Act → World → Prop} {md : Region.Mode} {S : World → Prop}
theorem take_on {i : Nat} {oi : Oper} {v : Value} {fuel : Nat} {listed : Array Bool} {a : Act} {w : World} (hi : ops[i]? = some oi)
    (h3 : (Region.noSelect ops && Region.free md ops listed i && (Region.ready md ops listed).contains i) = true)
    (hw : Region.wanted oi (yielded ops a.tmps) = true) (hv : ∀ w, S w → (execOp a.eval oi).run P w = .ok (.value v) w)
    (hQ : ∀ c a w, Q (.panic c) (a.put oi.dst v) w → Q (.panic c) a w) (hS : S w)
    (h : wpAnyH P md ops Q S fuel (listed.setIfInBounds i true) (a.put oi.dst v) w) : wpAnyH P md ops Q S (fuel + 1) listed a w :=
  wpAnyH_take hi (three h3).1 (three h3).2.1 (three h3).2.2 hQ (Or.inl ⟨hw, hv⟩) hS h
theorem take_off {i : Nat} {oi : Oper} {fuel : Nat} {listed : Array Bool} {a : Act} {w : World} (hi : ops[i]? = some oi)
    (h3 : (Region.noSelect ops && Region.free md ops listed i && (Region.ready md ops listed).contains i) = true)
    (hw : Region.wanted oi (yielded ops a.tmps) = false)
    (hQ : ∀ c a w, Q (.panic c) (a.put oi.dst undef) w → Q (.panic c) a w) (hS : S w)
    (h : wpAnyH P md ops Q S fuel (listed.setIfInBounds i true) (a.put oi.dst undef) w) : wpAnyH P md ops Q S (fuel + 1) listed a w :=
  wpAnyH_take hi (three h3).1 (three h3).2.1 (three h3).2.2 hQ (Or.inr ⟨hw, rfl⟩) hS h
theorem held_mono {S' : World → Prop} (hS : ∀ w, S' w → S w) : ∀ (fuel : Nat) (listed : Array Bool) (a : Act) (w : World), wpAnyH P md ops Q S' fuel listed a w → wpAnyH P md ops Q S fuel listed a w
  | 0, _, _, _, h => h
  | fuel + 1, _, _, _, h => ⟨h.1, fun i hi => wpOp_mono (fun _ _ h' => ⟨hS _ h'.1, held_mono hS fuel _ _ _ h'.2⟩) (h.2 i hi)⟩
end
end Go.Proofs.Ytmfbjlaajcdbnaa.Sk
