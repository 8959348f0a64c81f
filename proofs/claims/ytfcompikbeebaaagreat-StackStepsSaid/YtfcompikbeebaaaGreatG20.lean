/- What the laws are handed: words, and acts. -/
import Derived.Test.YtfcompikbeebaaaGreatG19
import Derived.Test.YtfcompikbeebaaaGreatG00
import Derived.WalkKit
import Derived.ProofKit
import Derived.Deep.Slices
import Derived.Deep.Fields
import Derived.Lib.SmallJoins
import Derived.Deep.RegionHeld3
import Derived.Test.YtfcompikbeebaaaGreatG14
import Derived.Test.YtfcompikbeebaaaGreatG15
import Derived.Deep.MidRow
set_option linter.unusedVariables false
set_option linter.unusedSimpArgs false

namespace Go.Proofs.YtfcompikbeebaaaGreat.Sk
set_option maxRecDepth 20000
open Go.ChangeShapes Go.WideShapes Go.Deep Go.RowKit

def words (l : List Int) : List Value := l.map (Value.int .u64)
theorem words_flat (l : List Int) : words l = l.flatMap fun x => [Value.int .u64 x] := by simp [words, List.flatMap]; induction l <;> simp_all
theorem words_at (l : List Int) (j : Nat) (h : j < l.length) : (words l)[j]? = some (.int .u64 (l.getD j 0)) := by simp [words, h]
def actc (a : Int × Int × Int) : List Value := [.int .i64 a.1, .int .i64 a.2.1, .int .i64 a.2.2]
theorem actc_length (a : Int × Int × Int) : (actc a).length = 3 := rfl
theorem cellsAct : Tryz.prog.cellsOf 42 = 3 := by kernel_rfl
theorem cellsInt : Tryz.prog.cellsOf 3 = 1 := by kernel_rfl
theorem cellsU : Tryz.prog.cellsOf 34 = 1 := by kernel_rfl
section
variable {H : Type} {enc : TypeId × Value → H} {w : World} {base : Nat} {spare : Nat → Bool} {held : Bool}
theorem open_wideP {α : Type} {f : α → List Value} {R : α → Prop} {m : Nat} {e t : TypeId} (ht : Tryz.prog.underlying t = some (.slice e)) (hC : Tryz.prog.cellsOf e = m) (hm : 0 < m) (hf : ∀ a, (f a).length = m)
    (ho : ∀ (fuel : Nat) (cs : List Value) (x : DataW H × List MemPlace), DataW.trod enc Tryz.prog w base spare held fuel e cs = some x → ∃ a, cs = f a ∧ R a)
    {fuel : Nat} {a : Option Addr} {len cap : Nat} {x : DataW H × List MemPlace} (h : DataW.trod enc Tryz.prog w base spare held fuel t [.slice a len cap] = some x) :
    ∃ l : List α, l.length = len ∧ Lay w (.slice a len cap) len (l.flatMap f) ∧ ∀ a ∈ l, R a := by
  rcases open_slice ht h with h0 | ⟨y, len', cap', m', n, D, Pl, hcs, _, hl, hm', hmm, _, hi⟩
  · obtain ⟨rfl, rfl, rfl⟩ : a = none ∧ len = 0 ∧ cap = 0 := by simpa using h0.1
    exact ⟨[], rfl, .inl (.inl ⟨rfl, rfl, rfl⟩), by simp⟩
  · obtain ⟨rfl, rfl, rfl⟩ : a = some y ∧ len = len' ∧ cap = cap' := by simpa using hcs
    have hle : len ≤ m' := by rw [hmm]; split <;> omega
    rw [hC] at hi
    have each : ∀ i, i < len → ∃ e : α, (∀ j u, j < m → (f e)[j]? = some u → w.cell? (y.add (i * m + j)) = some u) ∧ R e := by
      intro i hil
      obtain ⟨cs', hc, ht⟩ := hi i (by omega)
      obtain ⟨e, rfl, we⟩ := ho _ _ _ ht
      obtain ⟨_, _, hat⟩ := World.cells?_some hc
      refine ⟨e, fun j u hj hu => ?_, we⟩
      have := hat j hj
      rw [add_add] at this
      exact this.trans hu
    by_cases h0 : len = 0
    · subst h0
      exact ⟨[], rfl, .inr ⟨y, cap, rfl, rfl, rfl, hm'⟩, by simp⟩
    · obtain ⟨b, off, spot⟩ := y
      have hs : spot = none := by
        obtain ⟨e, he, _⟩ := each 0 (by omega)
        have := he 0 _ hm (List.getElem?_eq_getElem (by rw [hf]; exact hm))
        simpa [Addr.add] using World.cell?_spot this
      subst hs
      have pick : ∀ n, n ≤ len → ∃ l : List α, l.length = n ∧ (∀ e ∈ l, R e) ∧ ∀ i e, l[i]? = some e → ∀ j u, j < m → (f e)[j]? = some u → w.cell? ⟨b, off + (i * m + j), none⟩ = some u := by
        intro n
        induction n with
        | zero => intro _; exact ⟨[], rfl, by simp, by simp⟩
        | succ n ih =>
          intro hn
          obtain ⟨l, hl1, hl2, hl3⟩ := ih (by omega)
          obtain ⟨e, he, we⟩ := each n (by omega)
          refine ⟨l ++ [e], by simp [hl1], fun f hf => ?_, fun i g hg j u hj hu => ?_⟩
          · rcases List.mem_append.1 hf with hf | hf
            · exact hl2 f hf
            · simp at hf; subst hf; exact we
          · by_cases hi' : i < l.length
            · rw [List.getElem?_append_left hi'] at hg
              exact hl3 i g hg j u hj hu
            · have h2 := (List.getElem?_eq_some_iff.1 hg).1
              have e1 : i = l.length := by simp at h2; omega
              subst e1
              have e2 : e = g := by simpa using hg
              subst e2
              have := he j u hj hu
              rw [add_none] at this
              rw [hl1]
              exact this
      obtain ⟨l, hl1, hl2, hl3⟩ := pick len (Nat.le_refl _)
      refine ⟨l, hl1, .inl (.inr ⟨b, off, cap, rfl, hl, hm', fun j u hu => ?_⟩), hl2⟩
      have hj : j < l.length * m := by rw [← wide_length hf]; exact (List.getElem?_eq_some_iff.1 hu).1
      have hr : j % m < m := Nat.mod_lt _ hm
      have hi2 : j / m < l.length := Nat.div_lt_of_lt_mul (by rw [Nat.mul_comm]; exact hj)
      have ej : j / m * m + j % m = j := by rw [Nat.mul_comm]; exact Nat.div_add_mod j m
      obtain ⟨e, he⟩ : ∃ e, l[j / m]? = some e := ⟨_, List.getElem?_eq_getElem hi2⟩
      have h3 := hl3 (j / m) e he (j % m) u hr (by rw [← wide_get hf l (j / m) (j % m) e he hr, ej]; exact hu)
      rw [ej] at h3
      exact h3

theorem wf_u64 (x : Int) (h : (Lit.int .u64 x).wf = true) : 0 ≤ x ∧ x < 18446744073709551616 := by
  have e : IntKind.u64.min = 0 := by decide
  have e' : IntKind.u64.max = 18446744073709551615 := by decide
  have := h
  simp [Lit.wf, e, e'] at this
  omega
theorem open_words {fuel : Nat} {a : Option Addr} {len cap : Nat} {x : DataW H × List MemPlace} (h : DataW.trod enc Tryz.prog w base spare held fuel 24 [.slice a len cap] = some x) :
    ∃ l : List Int, l.length = len ∧ Lay w (.slice a len cap) len (words l) ∧ ∀ x ∈ l, 0 ≤ x ∧ x < 18446744073709551616 := by
  obtain ⟨l, h1, h2, h3⟩ := open_wideP (f := fun x => [Value.int .u64 x]) (R := fun x => 0 ≤ x ∧ x < 18446744073709551616) Tryz.underlying24 cellsU (by decide) (fun _ => rfl) (fun fuel cs x h => by
    obtain ⟨q, h1, h2, hw⟩ := DataW.trod_int (cs := cs) Tryz.underlying34 h
    exact ⟨q, by simpa using h1, wf_u64 q hw⟩) h
  exact ⟨l, h1, by rw [words_flat]; exact h2, h3⟩
theorem open_act {fuel : Nat} {cs : List Value} {x : DataW H × List MemPlace} (h : DataW.trod enc Tryz.prog w base spare held fuel 42 cs = some x) : ∃ e : Int × Int × Int, cs = actc e ∧ True := by
  obtain ⟨ys, n2, _, _, hl, hyl, hg⟩ := DataW.trod_struct Tryz.underlying42 h
  rw [cellsAct] at hl
  match cs, hl with
  | [v2, v3, v4], _ =>
    match ys, hyl with
    | [y0, y1, y2], _ =>
      have g0 : DataW.trod enc Tryz.prog w base spare held n2 3 (([v2, v3, v4].drop 0).take (Tryz.prog.cellsOf 3)) = some y0 := hg 0 _ rfl
      have g1 : DataW.trod enc Tryz.prog w base spare held n2 3 (([v2, v3, v4].drop 1).take (Tryz.prog.cellsOf 3)) = some y1 := hg 1 _ rfl
      have g2 : DataW.trod enc Tryz.prog w base spare held n2 3 (([v2, v3, v4].drop 2).take (Tryz.prog.cellsOf 3)) = some y2 := hg 2 _ rfl
      simp only [cellsInt, List.drop_zero, List.drop_succ_cons, List.take_succ_cons, List.take_zero] at g0 g1 g2
      obtain ⟨q2, e2, _, _⟩ := DataW.trod_int Tryz.underlying3 g0
      obtain ⟨q3, e3, _, _⟩ := DataW.trod_int Tryz.underlying3 g1
      obtain ⟨q4, e4, _, _⟩ := DataW.trod_int Tryz.underlying3 g2
      simp at e2 e3 e4
      subst e2; subst e3; subst e4
      exact ⟨⟨q2, q3, q4⟩, rfl, trivial⟩
theorem open_acts {fuel : Nat} {a : Option Addr} {len cap : Nat} {x : DataW H × List MemPlace} (h : DataW.trod enc Tryz.prog w base spare held fuel 25 [.slice a len cap] = some x) :
    ∃ l : List (Int × Int × Int), l.length = len ∧ Lay w (.slice a len cap) len (l.flatMap actc) := by
  obtain ⟨l, h1, h2, _⟩ := open_wideP (f := actc) (R := fun _ => True) Tryz.underlying25 cellsAct (by decide) actc_length (fun fuel cs x h => open_act h) h
  exact ⟨l, h1, h2⟩
end
end Go.Proofs.YtfcompikbeebaaaGreat.Sk

namespace Go.Proofs.YtfcompikbeebaaaGreat.Sk
set_option maxRecDepth 20000
open Go.RowKit
open Wo (St acc wordAt PMem RefIs)

def firstOwn (M B M2 B2 : Nat) (k : Nat) : Nat := if k = M ∨ k = B then 0 else if k = M2 ∨ k = B2 then 1 else 2
def LaidPost (n : Nat) (w : World) (e : Ending) (w' : World) : Prop :=
  ∃ (M B M2 B2 : Nat) (s : St), e = .returned (.tuple #[.pointer (some ⟨M, 0, none⟩), .pointer (some ⟨M2, 0, none⟩)]) ∧ Duo (firstOwn M B M2 B2) w' M B M2 B2 n s ∧ s.cnt ≤ 10000 ∧ Kept w w' ∧
    w.heap.size ≤ M ∧ w.heap.size ≤ B ∧ w.heap.size ≤ M2 ∧ w.heap.size ≤ B2

set_option maxHeartbeats 4000000 in
theorem laid_any (S : Stk) (n : Nat) (hS : S.Ok n) (l : List Int) (hl : l.length ≤ 60) (a : Option Addr) (c : Nat) (w : World) (hv : Lay w (.slice a l.length c) l.length (words l)) (hr : ∀ x ∈ l, 0 ≤ x ∧ x < 18446744073709551616) :
    Calls Tryz.prog 7 #[.agg #[.int .i64 S.T, .int .i64 S.K, .int .i64 S.N], .int .i64 n, .slice a l.length c] w (LaidPost n w) := by
  have n1 := hS.n1
  have n2 := hS.n2
  have N1 := hS.N1
  have N2 := hS.N2
  have HS := Lib.hid hS
  have HV := Lib.hid hv
  have HR := Lib.hid hr
  obtain ⟨m, hm⟩ : ∃ m, m = l.length := ⟨_, rfl⟩
  have HMl := Lib.hid hm
  rw [← hm] at hl ⊢
  clear hS hv hr hm
  go_enter Tryz.func7, Tryz.ntmps7
  go_wp2_with fail
  refine (p_new n n1 n2 _).mono ?_
  rintro e w1 ⟨rfl, m1, z1, k1⟩
  have M1 : Hid (PMem w1 (w.heap.size + 1 + 1) (w.heap.size + 1) n Wo.St.zero) := Lib.hid (by simpa using m1)
  have K1 : Hid (Kept w w1) := Lib.hid (Kept.trans ((Kept.refl w).alloc _ _) k1)
  have Z1 : Hid (w1.heap.size = w.heap.size + 3) := Lib.hid (by simpa using z1)
  have s0 := k1.some (cell_new w #[.int .i64 S.T, .int .i64 S.K, .int .i64 S.N] 23 w.heap.size 0 rfl)
  have s1 := k1.some (cell_new w #[.int .i64 S.T, .int .i64 S.K, .int .i64 S.N] 23 w.heap.size 1 rfl)
  have s2 := k1.some (cell_new w #[.int .i64 S.T, .int .i64 S.K, .int .i64 S.N] 23 w.heap.size 2 rfl)
  clear m1 k1 z1
  go_wp2_with fail
  refine (r_new n n1 n2 _).mono ?_
  rintro e w2 ⟨M2, B2, rfl, m2, l1, l2, g1, g2, k2⟩
  have q1 : w1.heap.size ≤ M2 ∧ w1.heap.size ≤ B2 := ⟨l1, l2⟩
  have zz := Z1.out
  have R2 := Lib.hid m2
  have K2 := Lib.hid k2
  have t0 := k2.some s0
  have t1 := k2.some s1
  have t2 := k2.some s2
  clear m2 k2 s0 s1 s2 l1 l2 g1 g2
  obtain ⟨q1, q2⟩ := q1
  go_wp2_with fail
  refine (p_fill _ _ n S Wo.St.zero _ (pmem_kept M1.out K2.out) (by decide) (by decide) HS.out).mono ?_
  rintro e w3 ⟨rfl, m3, b3⟩
  have hsz : w.heap.size < w2.heap.size := by have := K2.out.size; omega
  have u0 := b3.some t0 (by omega)
  have u1 := b3.some t1 (by omega)
  have u2 := b3.some t2 (by omega)
  have M3 := Lib.hid m3
  have R3 := Lib.hid (ref_frame R2.out n1 b3 (by omega) (by omega))
  have K3 : Hid (Kept w w3) := Lib.hid ((((K1.out.trans K2.out).but (fun k => k = w.heap.size + 1)).trans b3 (fun _ _ h => h)).kept (fun k hk h => by omega))
  clear m3 b3 t0 t1 t2
  go_wp2_with fail
  refine (r_fill M2 B2 n S Wo.St.zero _ R3.out (by decide) (by decide) HS.out).mono ?_
  rintro e w4 ⟨rfl, r4, b4⟩
  have M4 := Lib.hid (pmem_frame M3.out b4 (by omega) (by omega))
  have R4 := Lib.hid r4
  have K4 : Hid (Kept w w4) := Lib.hid (((K3.out.but (fun k => k = M2 ∨ k = B2)).trans b4 (fun _ _ h => h)).kept (fun k hk h => by omega))
  have WD : Hid (Wd n (fillSt n S Wo.St.zero)) := Lib.hid (fillSt_wd (wd_zero n) N2)
  have CN : Hid ((fillSt n S Wo.St.zero).cnt = 0 + 1 + S.N) := Lib.hid (fillSt_cnt N1)
  clear r4 b4 u0 u1 u2
  go_wp2_with fail
  go_loopw [12] (fun i wr => ∃ (k : Nat) (s : St), k ≤ m ∧ i = .int .i64 k ∧ PMem wr (w.heap.size + 1 + 1) (w.heap.size + 1) n s ∧ RefIs wr M2 B2 n s ∧ Wd n s ∧ s.cnt = 1 + S.N + k ∧ Kept w wr) (fun i _ => m - (intOf i).toNat)
  case atStart => exact ⟨0, fillSt n S Wo.St.zero, Nat.zero_le _, rfl, M4.out, R4.out, WD.out, by rw [CN.out]; omega, K4.out⟩
  case round =>
    obtain ⟨k, s, hk, rfl, mr, rr, wr', hc, kr⟩ := hrel
    have MR := Lib.hid mr
    have RR := Lib.hid rr
    have WR := Lib.hid wr'
    have KR := Lib.hid kr
    have c0 : 0 ≤ s.cnt := by omega
    have c1 : s.cnt ≤ 1000000 := by omega
    have HC := Lib.hid hc
    clear mr rr wr' kr hc
    by_cases hlt : k < m
    · obtain ⟨g, o, c', e', h1, h2, hcell⟩ := HV.out.at (by have := HMl.out; omega)
      cases e'
      have hcw0 := hcell k _ (words_at l k (by have := HMl.out; omega))
      have hg := lt_of_cell hcw0
      have hcw := KR.out.some hcw0
      have hx := HR.out (l.getD k 0) (by
        have h3 : k < l.length := by have := HMl.out; omega
        simp [h3])
      clear hcell h1 h2 hcw0
      go_wp2_with fail
      refine (p_store _ _ n s k (l.getD k 0) _ MR.out c0 c1).mono ?_
      rintro e w5 ⟨rfl, m5, b5⟩
      have hcw5 := b5.some hcw (by omega)
      have M5 := Lib.hid m5
      have R5 := Lib.hid (ref_frame RR.out n1 b5 (by omega) (by omega))
      have K5 : Hid (Kept w w5) := Lib.hid (((KR.out.but (fun k => k = w.heap.size + 1)).trans b5 (fun _ _ h => h)).kept (fun k hk h => by omega))
      clear m5 b5 hcw
      go_wp2_with fail
      refine (r_store M2 B2 n s k (l.getD k 0) _ R5.out c0 c1 n2).mono ?_
      rintro e w6 ⟨rfl, r6, b6⟩
      have M6 := Lib.hid (pmem_frame M5.out b6 (by omega) (by omega))
      have R6 := Lib.hid r6
      have K6 : Hid (Kept w w6) := Lib.hid (((K5.out.but (fun k => k = M2 ∨ k = B2)).trans b6 (fun _ _ h => h)).kept (fun k hk h => by omega))
      clear r6 b6 hcw5
      go_wp2
      go_roundw
      case rel => exact ⟨k + 1, acc n s 2 k true (l.getD k 0), by omega, by go_num, M6.out, R6.out, WR.out.acc _ _ _ _ hx.1 hx.2, by rw [acc_cnt, HC.out]; omega, K6.out⟩
      case measure => simp [intOf]; omega
    · go_wp2
      go_ret2
      have hcc := HC.out
      refine ⟨w.heap.size + 1 + 1, w.heap.size + 1, M2, B2, s, rfl, ⟨MR.out, RR.out, WR.out, c0, ?_, ?_, ?_, ?_, n1, n2⟩, by omega, KR.out, by omega, by omega, by omega, by omega⟩
      · unfold firstOwn; rw [if_pos (.inl rfl)]
      · unfold firstOwn; rw [if_pos (.inr rfl)]
      · unfold firstOwn; rw [if_neg (by omega), if_pos (.inl rfl)]
      · unfold firstOwn; rw [if_neg (by omega), if_pos (.inr rfl)]
end Go.Proofs.YtfcompikbeebaaaGreat.Sk

namespace Go.Proofs.YtfcompikbeebaaaGreat.Sk
open Go.RowKit
theorem three {a b c : Bool} (h : (a && b && c) = true) : a = true ∧ b = true ∧ c = true := by
  cases a <;> cases b <;> cases c <;> simp_all
section
variable {P : Program} {ops : Array Oper} {Q : Exit → Act → World → Prop} {md : Region.Mode} {S : World → Prop}
theorem take_on {i : Nat} {oi : Oper} {v : Value} {fuel : Nat} {listed : Array Bool} {a : Act} {w : World} (hi : ops[i]? = some oi)
    (h3 : (Region.noSelect ops && Region.free md ops listed i && (Region.ready md ops listed).contains i) = true)
    (hw : Region.wanted oi (yielded ops a.tmps) = true) (hv : ∀ w, S w → (execOp a.eval oi).run P w = .ok (.value v) w)
    (hQ : ∀ c a w, Q (.panic c) (a.put oi.dst v) w → Q (.panic c) a w) (hS : S w)
    (h : wpAnyH P md ops Q S fuel (listed.setIfInBounds i true) (a.put oi.dst v) w) : wpAnyH P md ops Q S (fuel + 1) listed a w :=
  wpAnyH_take hi (three h3).1 (three h3).2.1 (three h3).2.2 hQ (Or.inl ⟨hw, hv⟩) hS h
theorem take_off {i : Nat} {oi : Oper} {fuel : Nat} {listed : Array Bool} {a : Act} {w : World} (hi : ops[i]? = some oi)
    (h3 : (Region.noSelect ops && Region.free md ops listed i && (Region.ready md ops listed).contains i) = true)
    (hw : Region.wanted oi (yielded ops a.tmps) = false)
    (hQ : ∀ c a w, Q (.panic c) (a.put oi.dst undef) w → Q (.panic c) a w) (hS : S w)
    (h : wpAnyH P md ops Q S fuel (listed.setIfInBounds i true) (a.put oi.dst undef) w) : wpAnyH P md ops Q S (fuel + 1) listed a w :=
  wpAnyH_take hi (three h3).1 (three h3).2.1 (three h3).2.2 hQ (Or.inr ⟨hw, rfl⟩) hS h
theorem held_mono {S' : World → Prop} (hS : ∀ w, S' w → S w) : ∀ (fuel : Nat) (listed : Array Bool) (a : Act) (w : World), wpAnyH P md ops Q S' fuel listed a w → wpAnyH P md ops Q S fuel listed a w
  | 0, _, _, _, h => h
  | fuel + 1, _, _, _, h => ⟨h.1, fun i hi => wpOp_mono (fun _ _ h' => ⟨hS _ h'.1, held_mono hS fuel _ _ _ h'.2⟩) (h.2 i hi)⟩
end
end Go.Proofs.YtfcompikbeebaaaGreat.Sk

namespace Go.Proofs.YtfcompikbeebaaaGreat.Sk
set_option maxRecDepth 20000
open Go.RowKit
open Wo (St acc wordAt PMem RefIs)

def ldP (p : Value) : Sem Value := Instr.loadAt 50 p
def stP (p v : Value) : Sem Unit := Instr.storeAt 50 p v
theorem ldP_named (p : Value) : Instr.loadAt 50 p = ldP p := rfl
theorem stP_named (p v : Value) : Instr.storeAt 50 p v = stP p v := rfl
theorem infoPair : (Tryz.prog.info? 50).map (fun i => (i.zero, i.size, i.bytes)) = some (some (.agg #[.pointer none, .pointer none, .pointer none, .pointer none, .pointer none, .pointer none]), 6, 48) := by kernel_rfl
theorem sizePair : (Tryz.prog.info? 50).map (·.size) = some 6 := by
  obtain ⟨i0, hi, hz0, hz1, hz2⟩ := info_parts infoPair
  rw [hi]; simp [hz1]
theorem ld_pair {w : World} {C o : Nat} {p : PS} (h : w.rangeAt C o p.cells) : (ldP (.pointer (some ⟨C, o, none⟩))).run Tryz.prog w = .ok (.agg p.cells.toArray) w :=
  run_loadAt_mid w C o _ p.cells _ h Tryz.underlying50 rfl (by rw [PS.cells_len]; exact sizePair)
theorem st_pair {w : World} {C o : Nat} {p : PS} (h : w.there C o 6) : (stP (.pointer (some ⟨C, o, none⟩)) (.agg p.cells.toArray)).run Tryz.prog w = .ok () (w.setCells C o p.cells) :=
  run_storeAt_mid _ _ _ _ _ (by rw [List.size_toArray, PS.cells_len]; exact h) (by rw [List.size_toArray, PS.cells_len]; exact sizePair) (all_oneCell_toArray p.cells_one)

theorem but_setCells {S : Nat → Prop} {C : Nat} {a : World} (hC : S C) : ∀ (vs : List Value) (o : Nat) (w : World), But S a w → But S a (w.setCells C o vs)
  | [], _, _, h => h
  | v :: r, o, w, h => but_setCells hC r (o + 1) _ (h.setCell (p := ⟨C, o, none⟩) (.inl hC) v)
theorem set_range {w : World} {C o : Nat} {p : PS} (h : w.there C o 6) : (w.setCells C o p.cells).rangeAt C o p.cells := World.rangeAt_setCells_same _ _ _ _ (by rw [PS.cells_len]; exact h)
theorem setCells_off : ∀ (vs : List Value) (o : Nat) (w : World) (C x : Nat), (x < o ∨ o + vs.length ≤ x) → (w.setCells C o vs).cell? ⟨C, x, none⟩ = w.cell? ⟨C, x, none⟩
  | [], _, _, _, _, _ => rfl
  | v :: r, o, w, C, x, h => by
    show ((w.setCell ⟨C, o, none⟩ v).setCells C (o + 1) r).cell? ⟨C, x, none⟩ = _
    rw [setCells_off r (o + 1) _ C x (by simp at h; omega), cell_set, if_neg (by simp at h; omega)]

structure Cores (w : World) (C : Nat) (st : Nat → PS) : Prop where
  at_ : ∀ c, c < 4 → w.rangeAt C (c * 6) (st c).cells
  f : ∀ i, w.frozen? ⟨C, i, none⟩ = false
  lt : C < w.heap.size
theorem range_but {w w' : World} {C o : Nat} {cs : List Value} (h : w.rangeAt C o cs) {T : Nat → Prop} (hb : But T w w') (hC : ¬ T C) : w'.rangeAt C o cs := fun j v hv => hb.some (h j v hv) hC
theorem Cores.frame {w w' : World} {C : Nat} {st : Nat → PS} (h : Cores w C st) {T : Nat → Prop} (hb : But T w w') (hC : ¬ T C) : Cores w' C st :=
  ⟨fun c hc => range_but (h.at_ c hc) hb hC, fun i => hb.soft h.lt (h.f i), Nat.lt_of_lt_of_le h.lt hb.size⟩
theorem Cores.kept {w w' : World} {C : Nat} {st : Nat → PS} (h : Cores w C st) (k : Kept w w') : Cores w' C st := h.frame (k.but (fun _ => False)) id
theorem Cores.there {w : World} {C : Nat} {st : Nat → PS} (h : Cores w C st) (c : Nat) (hc : c < 4) : w.there C (c * 6) 6 := by
  intro j hj
  have h1 := h.at_ c hc j
  have : j < (st c).cells.length := by rw [PS.cells_len]; exact hj
  refine ⟨?_, h.f _⟩
  have h2 := h1 _ (List.getElem?_eq_getElem this)
  rw [h2]; rfl
def put (st : Nat → PS) (c : Nat) (p : PS) (k : Nat) : PS := if k = c then p else st k
theorem Cores.set {w : World} {C : Nat} {st : Nat → PS} (h : Cores w C st) {c : Nat} (hc : c < 4) (p : PS) : Cores (w.setCells C (c * 6) p.cells) C (put st c p) := by
  have hb : But (fun k => k = C) w (w.setCells C (c * 6) p.cells) := but_setCells (S := fun k => k = C) rfl _ _ _ (But.refl _ _)
  refine ⟨fun k hk => ?_, fun i => hb.soft h.lt (h.f i), Nat.lt_of_lt_of_le h.lt hb.size⟩
  unfold put
  by_cases e : k = c
  · subst e
    rw [if_pos rfl]
    exact set_range (h.there k hk)
  · rw [if_neg e]
    intro j v hv
    have hj : j < 6 := by
      have := (List.getElem?_eq_some_iff.1 hv).1
      rw [PS.cells_len] at this; exact this
    rw [setCells_off _ _ _ _ _ (by rw [PS.cells_len]; omega)]
    exact h.at_ k hk j v hv

theorem told_idle (own : Nat → Nat) (c : Nat) (S : Stk) (M B M2 B2 n : Nat) (s : St) (b : Bool) (w : World) (hd : Duo own w M B M2 B2 n s) :
    Calls Tryz.prog 12 #[.agg #[.pointer none, .pointer none, .pointer none, .pointer none, .pointer none, .pointer none], .pointer (some ⟨M, 0, none⟩), .pointer (some ⟨M2, 0, none⟩), .bool b] w (ToldPost own c S M B M2 B2 n s .idle b w) := by
  have HD := Lib.hid hd
  clear hd
  go_enter Tryz.func12, Tryz.ntmps12
  go_wp2
  go_ret
  have k : Kept w (w.alloc (.cells #[.pointer none, .pointer none, .pointer none, .pointer none, .pointer none, .pointer none] 50)) := (Kept.refl w).alloc _ _
  exact ⟨rfl, .idle, s, rfl, fun _ => rfl, trivial, HD.out.kept k, by omega, k.but _⟩
theorem told_step_any (own : Nat → Nat) (c : Nat) (S : Stk) (M B M2 B2 n : Nat) (s : St) (p : PS) (w : World) (h : p.Is own c S w) (hd : Duo own w M B M2 B2 n s) (hS : S.Ok n) (c1 : s.cnt ≤ 900000) :
    Calls Tryz.prog 12 #[.agg p.cells.toArray, .pointer (some ⟨M, 0, none⟩), .pointer (some ⟨M2, 0, none⟩), .bool true] w (ToldPost own c S M B M2 B2 n s p true w) := by
  cases p with
  | idle => exact told_idle own c S M B M2 B2 n s true w hd
  | pop x P Q => exact told_pop_step own c S M B M2 B2 n s x P Q w h hd hS c1
  | push i i' e x P Q => exact told_push_step own c S M B M2 B2 n s i i' e x P Q w h hd hS c1
  | all x P Q => exact told_all_step own c S M B M2 B2 n s x P Q w h hd hS c1
theorem told_rest_any (own : Nat → Nat) (c : Nat) (S : Stk) (M B M2 B2 n : Nat) (s : St) (p : PS) (w : World) (h : p.Is own c S w) (hd : Duo own w M B M2 B2 n s) (hS : S.Ok n) (c1 : s.cnt ≤ 900000) :
    Calls Tryz.prog 12 #[.agg p.cells.toArray, .pointer (some ⟨M, 0, none⟩), .pointer (some ⟨M2, 0, none⟩), .bool false] w (ToldPost own c S M B M2 B2 n s p false w) := by
  cases p with
  | idle => exact told_idle own c S M B M2 B2 n s false w hd
  | pop x P Q => exact told_pop_rest own c S M B M2 B2 n s x P Q w h hd hS c1
  | push i i' e x P Q => exact told_push_rest own c S M B M2 B2 n s i i' e x P Q w h hd hS c1
  | all x P Q => exact told_all_rest own c S M B M2 B2 n s x P Q w h hd hS c1
theorem told_any (own : Nat → Nat) (c : Nat) (S : Stk) (M B M2 B2 n : Nat) (s : St) (p : PS) (b : Bool) (w : World) (h : p.Is own c S w) (hd : Duo own w M B M2 B2 n s) (hS : S.Ok n) (c1 : s.cnt ≤ 900000) :
    Calls Tryz.prog 12 #[.agg p.cells.toArray, .pointer (some ⟨M, 0, none⟩), .pointer (some ⟨M2, 0, none⟩), .bool b] w (ToldPost own c S M B M2 B2 n s p b w) := by
  cases b
  · exact told_rest_any own c S M B M2 B2 n s p w h hd hS c1
  · exact told_step_any own c S M B M2 B2 n s p w h hd hS c1

theorem begin_any (own : Nat → Nat) (c : Nat) (S : Stk) (co wh i : Int) (h1 : 1 ≤ wh) (h3 : wh ≤ 3) (hN : S.N ≤ 4096) (w : World) : Calls Tryz.prog 10 #[.agg #[.int .i64 S.T, .int .i64 S.K, .int .i64 S.N], .agg #[.int .i64 co, .int .i64 wh, .int .i64 i]] w (BegunPost own c S w) := by
  have hc : wh = 1 ∨ wh = 2 ∨ wh = 3 := by omega
  rcases hc with rfl | rfl | rfl
  · exact begin_pop own c S co i w
  · by_cases h : 0 ≤ i ∧ i < S.N
    · exact begin_in own c S co i h.1 h.2 hN w
    · exact begin_out own c S co i (by omega) w
  · exact begin_all own c S co i w

theorem access_same (k a o n : Int) (h : Bool) (w : World) : (binOp .neq 36 (.agg #[.int .i64 k, .int .i64 a, .int .u64 o, .int .u64 n, .bool h]) (.agg #[.int .i64 k, .int .i64 a, .int .u64 o, .int .u64 n, .bool h])).run Tryz.prog w = .ok (.bool false) w := by
  cases h <;> go_simp
theorem pick4 (co : Int) : ∃ c : Nat, c < 4 ∧ ∀ w, Hid (Calls Tryz.prog 9 #[.int .i64 co, .int .i64 4] w fun e w' => e = .returned (.int .i64 (c : Int)) ∧ w = w') := by
  refine ⟨(co % 4).toNat, by omega, fun w => Lib.hid ?_⟩
  have h := Wo.pick_any co 4 (by decide) (by decide) w
  rw [show (((co % 4).toNat : Nat) : Int) = co % 4 by omega]
  exact h
theorem overInts_own {w : World} {base : Nat} {a : Option Addr} {l : List Int} {c : Nat} (h : w.ownsRow base 3 1 (.slice a l.length c) l.length (ints l)) (hl : l.length ≤ 4096) :
    Calls Tryz.prog 18 #[.slice a l.length c] w fun e w' => e = .returned (.tuple #[]) ∧ But (fun k => base ≤ k) w w' := by
  rcases h.2 with ⟨e, h0⟩ | ⟨g, cap, cur, e, hb, hg, _⟩
  · injection e with e1 e2 e3
    subst e1 e3
    rw [h0]
    go_enter Tryz.func18, Tryz.ntmps18
    go_wp2
    go_loopw [2] (fun i wr => i = .int .i64 0 ∧ wr = w) (fun _ _ => 0)
    case atStart => exact ⟨rfl, rfl⟩
    case round =>
      obtain ⟨rfl, rfl⟩ := hrel
      go_wp2
      go_end0
      exact ⟨rfl, But.refl _ _⟩
  · have hs := own_soft h g (by rw [e]; rfl)
    injection e with e1 e2 e3
    subst e1 e3
    have hg2 := (h.lt g rfl).2
    rcases own_lies h with ⟨e, _⟩ | ⟨g', o, c', e, _, _, hc⟩
    · injection e with e1 _ _
      cases e1
    · injection e with e1 _ _
      injection e1 with e1
      injection e1 with e1 e2 _
      subst e1 e2
      refine (overInts_any _ c l.length (fun i => l.getD i 0) w (by omega) (fun i hi => ?_) hg2 hs).mono fun _ _ ⟨x, k⟩ => ⟨x, k.mono fun _ _ e => by rw [e]; exact hb⟩
      have := hc i _ (ints_at l i hi)
      rw [Nat.zero_add] at this
      exact this
end Go.Proofs.YtfcompikbeebaaaGreat.Sk
