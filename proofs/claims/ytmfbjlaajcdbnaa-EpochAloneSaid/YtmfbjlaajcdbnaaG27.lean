/- An Advance's step keeps the invariant; any core's step does. Plain mathematics. -/
import Derived.Test.YtmfbjlaajcdbnaaG26
import Derived.Test.YtmfbjlaajcdbnaaG15
set_option linter.unusedVariables false
set_option linter.unusedSimpArgs false

namespace Go.Proofs.Ytmfbjlaajcdbnaa.Ep
open Wo (St acc wordAt)
open Sk (Stk Wd)

theorem seek_three {S : Stk} {c W er i : Int} (h : ¬ skip c i < S.N) : (seekOp S c W er i).line = 3 := by
  unfold seekOp
  dsimp only
  rw [if_neg h]
theorem seek_two {S : Stk} {c W er i : Int} (h : skip c i < S.N) : (seekOp S c W er i).line = 2 := by
  unfold seekOp
  dsimp only
  rw [if_pos h]
theorem seek_no9 {S : Stk} {c W er i : Int} : (seekOp S c W er i).line ≠ 9 := by
  by_cases h : skip c i < S.N
  · rw [seek_two h]; decide
  · rw [seek_three h]; decide
theorem seek_asked {c d : Nat} {W er i : Int} (hd : d < 3) (hdc : d ≠ c) (h : (seekOp S3 (c : Int) W er i).line = 3 ∨ (d : Int) < (seekOp S3 (c : Int) W er i).L) : (d : Int) < i := by
  have hN : S3.N = 3 := rfl
  by_cases hs : skip (c : Int) i < S3.N
  · rcases h with h | h
    · rw [seek_two hs] at h; omega
    · have h : (d : Int) < skip (c : Int) i := h
      unfold skip at h
      split at h <;> omega
  · unfold skip at hs
    split at hs <;> omega
theorem step_adv {m : Md} {t : Int} (h : Inv m t) (ht : t < 1000000) {c : Nat} (hc : c < 3) {x : EOp} (e : m.k c = .adv x) :
    Went m (m.step c) c (m.on c) t ∧ ((advOp 4 S3 c (m.at_ c) m.s x).line = 9 → (advOp 4 S3 c (m.at_ c) m.s x).er = 0 ∨ (advOp 4 S3 c (m.at_ c) m.s x).er = 14) := by
  obtain ⟨a0, ok, an, l9, hh⟩ := (h.core c hc).adv e
  have e0 := h.e0
  have e1 := h.e1
  have t1 := h.t1
  have pc := h.pins c hc a0
  have H2 := h.more (t' := t + 1) (by omega) (by omega)
  have okp := adv_ok (S := S3) (c := (c : Int)) (p := m.at_ c) ok h.wd
  have anp := adv_at (n := 4) (s := m.s) (c := (c : Int)) (p := m.at_ c) an
  have wdp : Wd 4 (advSt 4 S3 m.s x) := adv_wd h.wd
  have hE : ep m.E = m.E := ep_small e0 (by omega)
  unfold Md.step Md.on
  rw [e]
  dsimp only
  -- it has ended with 14, and the memory's words are as they were
  have BUSY : ∀ y : EOp, y.line = 9 → y.er = 14 → (advSt 4 S3 m.s x).ws = m.s.ws → advOp 4 S3 c (m.at_ c) m.s x = y → Went m (if y.line = 9 then ⟨advSt 4 S3 m.s x, putf m.k c .idle, m.at_⟩ else ⟨advSt 4 S3 m.s x, putf m.k c (.adv y), m.at_⟩) c (y.line == 9 && y.er == 0) t ∧ (y.line = 9 → y.er = 0 ∨ y.er = 14) := by
    intro y hy her hws _
    rw [if_pos hy]
    have hb : (y.line == 9 && y.er == 0) = false := by rw [her]; simp
    rw [hb]
    refine ⟨⟨?_, fun h => absurd h (by decide), fun _ => congrFun hws 0⟩, fun _ => .inr her⟩
    rw [← put_at m.at_ c]
    refine inv_put H2 wdp (congrFun hws 0) (fun d _ _ => congrFun hws (d + 1)) (.inl rfl) (fun _ => ?_) ?_
    · rw [hws]; exact pc
    · unfold CoreOk
      show match putf m.k c .idle c with | .idle => _ | .pin x => _ | .unpin x => _ | .adv x => _
      rw [put_self]
      intro h
      have h : putf m.at_ c (m.at_ c) c < 0 := h
      rw [put_self] at h
      omega
  -- it goes on: a seek from i on
  have GOES : ∀ (W i : Int), W = m.at_ c → (advSt 4 S3 m.s x).ws = m.s.ws → (seekOp S3 c W x.er i).Ok → AOkN S3 (seekOp S3 c W x.er i) → (∀ d, d < 3 → d ≠ c → (d : Int) < i → W = m.E → 0 ≤ m.at_ d → m.at_ d = W) →
      Went m (if (seekOp S3 c W x.er i).line = 9 then ⟨advSt 4 S3 m.s x, putf m.k c .idle, m.at_⟩ else ⟨advSt 4 S3 m.s x, putf m.k c (.adv (seekOp S3 c W x.er i)), m.at_⟩) c ((seekOp S3 c W x.er i).line == 9 && (seekOp S3 c W x.er i).er == 0) t ∧ ((seekOp S3 c W x.er i).line = 9 → (seekOp S3 c W x.er i).er = 0 ∨ (seekOp S3 c W x.er i).er = 14) := by
    intro W i hW hws ok2 an2 hask
    have h9 : (seekOp S3 c W x.er i).line ≠ 9 := seek_no9
    rw [if_neg h9]
    have hb : ((seekOp S3 c W x.er i).line == 9 && (seekOp S3 c W x.er i).er == 0) = false := by
      have : ((seekOp S3 c W x.er i).line == 9) = false := by simpa using h9
      rw [this]; rfl
    rw [hb]
    refine ⟨⟨?_, fun h => absurd h (by decide), fun _ => congrFun hws 0⟩, fun h => absurd h h9⟩
    rw [← put_at m.at_ c]
    refine inv_put H2 wdp (congrFun hws 0) (fun d _ _ => congrFun hws (d + 1)) (.inl rfl) (fun _ => ?_) ?_
    · rw [hws]; exact pc
    · unfold CoreOk
      show match putf m.k c (.adv (seekOp S3 c W x.er i)) c with | .idle => _ | .pin x => _ | .unpin x => _ | .adv x => _
      rw [put_self]
      have pa : putf m.at_ c (m.at_ c) = m.at_ := put_at m.at_ c
      show 0 ≤ putf m.at_ c (m.at_ c) c ∧ (seekOp S3 c W x.er i).Ok ∧ AOkN S3 (seekOp S3 c W x.er i) ∧ (seekOp S3 c W x.er i).line ≠ 9 ∧ ((seekOp S3 c W x.er i).line ≠ 1 → (seekOp S3 c W x.er i).W = putf m.at_ c (m.at_ c) c ∧ ∀ d, d < 3 → d ≠ c → ((seekOp S3 c W x.er i).line = 3 ∨ (d : Int) < (seekOp S3 c W x.er i).L) → (seekOp S3 c W x.er i).W = (advSt 4 S3 m.s x).ws 0 → 0 ≤ putf m.at_ c (m.at_ c) d → putf m.at_ c (m.at_ c) d = (seekOp S3 c W x.er i).W)
      rw [pa, hws]
      exact ⟨a0, ok2, an2, h9, fun _ => ⟨hW, fun d hd hdc hl hw h0 => hask d hd hdc (seek_asked hd hdc hl) hw h0⟩⟩
  rcases ok.ln with l | l | l | l
  · have es : advSt 4 S3 m.s x = acc 4 m.s 1 S3.T false 0 := by unfold advSt; rw [if_pos l]
    have hws : (advSt 4 S3 m.s x).ws = m.s.ws := by rw [es]; exact E_load m.s S3.T
    by_cases hp : m.E = m.at_ c
    · have eo : advOp 4 S3 c (m.at_ c) m.s x = seekOp S3 c m.E x.er 0 := by
        unfold advOp
        rw [if_pos l, if_pos (by show ep m.E = m.at_ c; rw [hE, hp]), an.l1 l]
        rfl
      rw [eo] at okp anp ⊢
      exact GOES m.E 0 hp hws okp anp (fun d _ _ h => absurd h (by omega))
    · have eo : advOp 4 S3 c (m.at_ c) m.s x = ⟨9, m.E, x.L, 14⟩ := by
        unfold advOp
        rw [if_pos l, if_neg (by show ¬ ep m.E = m.at_ c; rw [hE]; exact hp)]
        rfl
      rw [eo]
      exact BUSY _ rfl rfl hws eo
  · have hW := (hh (by omega)).1
    have hask := (hh (by omega)).2
    have L2 := an.l2 l
    obtain ⟨L0, L1⟩ := L2
    have hN : S3.N = 3 := rfl
    obtain ⟨j, hj⟩ : ∃ j : Nat, x.L = j := ⟨x.L.toNat, by omega⟩
    have hj3 : j < 3 := by omega
    have es : advSt 4 S3 m.s x = acc 4 m.s 1 (S3.K + x.L) false 0 := by unfold advSt; rw [if_neg (by omega), if_pos l]
    have hws : (advSt 4 S3 m.s x).ws = m.s.ws := by rw [es]; exact E_load m.s (S3.K + x.L)
    have hwd : wordAt 4 m.s (S3.K + x.L) = m.pw j := by rw [hj]; exact wordc m.s j hj3
    have hepW : ep x.W = x.W := ep_small (by omega) (by omega)
    by_cases hb : m.pw j ≠ 0 ∧ m.pw j ≠ x.W + 1
    · have eo : advOp 4 S3 c (m.at_ c) m.s x = ⟨9, x.W, x.L, 14⟩ := by
        unfold advOp
        rw [if_neg (by omega), if_pos l, if_pos (by rw [hwd, hepW]; exact hb)]
      rw [eo]
      exact BUSY _ rfl rfl hws eo
    · have eo : advOp 4 S3 c (m.at_ c) m.s x = seekOp S3 c x.W x.er (x.L + 1) := by
        unfold advOp
        rw [if_neg (by omega), if_pos l, if_neg (by rw [hwd, hepW]; exact hb)]
      rw [eo] at okp anp ⊢
      refine GOES x.W (x.L + 1) hW hws okp anp (fun d hd hdc hl hw h0 => ?_)
      by_cases hdj : (d : Int) < x.L
      · exact hask d hd hdc (.inr hdj) hw h0
      · obtain rfl : d = j := by omega
        have pd := h.pins d hd h0
        by_cases hz : m.pw d = 0
        · omega
        · by_cases hy : m.pw d = x.W + 1
          · omega
          · exact absurd ⟨hz, hy⟩ hb
  · have hW := (hh (by omega)).1
    have hask := (hh (by omega)).2
    have hepW : ep x.W = x.W := ep_small (by omega) (by omega)
    have es : advSt 4 S3 m.s x = acc 4 m.s 3 S3.T (wordAt 4 m.s S3.T == x.W) (x.W + 1) := by unfold advSt; rw [if_neg (by omega), if_neg (by omega), if_pos l, hepW]
    by_cases hq : m.E = x.W
    · have hqb : (wordAt 4 m.s S3.T == x.W) = true := beq_iff_eq.2 hq
      have eo : advOp 4 S3 c (m.at_ c) m.s x = ⟨9, x.W, x.L, 0⟩ := by
        unfold advOp
        rw [if_neg (by omega), if_neg (by omega), if_pos l, if_pos (show wordAt 4 m.s S3.T = x.W from hq)]
      rw [hqb] at es
      have w0 : (advSt 4 S3 m.s x).ws 0 = m.E + 1 := by rw [es, cas_0, if_pos ⟨rfl, rfl⟩, hq]
      have wd1 : ∀ d, (advSt 4 S3 m.s x).ws (d + 1) = m.s.ws (d + 1) := fun d => by rw [es, cas_0, if_neg (by omega)]
      rw [eo]
      dsimp only
      rw [if_pos rfl]
      have hall : ∀ d, d < 3 → 0 ≤ m.at_ d → m.at_ d = m.E := fun d hd h0 => by
        by_cases hdc : d = c
        · subst hdc; omega
        · rw [hask d hd hdc (.inl l) hq.symm h0, hq]
      refine ⟨⟨⟨wdp, by show 0 ≤ (advSt 4 S3 m.s x).ws 0; rw [w0]; omega, by show (advSt 4 S3 m.s x).ws 0 ≤ t + 1; rw [w0]; omega, by omega, fun d hd h0 => ?_, fun d hd => ?_⟩, fun _ => ⟨w0, by omega⟩, fun h => absurd h (by decide)⟩, fun _ => .inl rfl⟩
      · have pd := h.pins d hd h0
        have ad := hall d hd h0
        show (advSt 4 S3 m.s x).ws (d + 1) = m.at_ d + 1 ∧ m.at_ d ≤ (advSt 4 S3 m.s x).ws 0 ∧ (advSt 4 S3 m.s x).ws 0 ≤ m.at_ d + 1
        rw [w0, wd1]
        exact ⟨pd.1, by omega, by omega⟩
      · by_cases hdc : d = c
        · subst hdc
          unfold CoreOk
          show match putf m.k d .idle d with | .idle => _ | .pin x => _ | .unpin x => _ | .adv x => _
          rw [put_self]
          intro h
          have h : m.at_ d < 0 := h
          omega
        · exact (h.core d hd).on hd (put_ne _ _ hdc) rfl (wd1 d) w0 (fun q hq' h0 => (h.pins q hq' h0).2.1)
    · have hqb : (wordAt 4 m.s S3.T == x.W) = false := by simpa using (show ¬ wordAt 4 m.s S3.T = x.W from hq)
      have eo : advOp 4 S3 c (m.at_ c) m.s x = ⟨9, x.W, x.L, 14⟩ := by
        unfold advOp
        rw [if_neg (by omega), if_neg (by omega), if_pos l, if_neg (show ¬ wordAt 4 m.s S3.T = x.W from hq)]
      rw [hqb] at es
      have hws : (advSt 4 S3 m.s x).ws = m.s.ws := by
        rw [es]; exact ws_keep m.s 3 S3.T (x.W + 1)
      rw [eo]
      exact BUSY _ rfl rfl hws eo
  · exact absurd l l9
end Go.Proofs.Ytmfbjlaajcdbnaa.Ep

namespace Go.Proofs.Ytmfbjlaajcdbnaa.Ep
set_option maxRecDepth 20000
open Go.RowKit
open Wo (St acc wordAt PMem RefIs)
open Sk (Stk Wd pmem_kept pmem_lt pmem_frame)

structure Fx (w0 : World) (L0 L M B P U A T X : Nat) : Prop where
  z : w0.heap.size ≤ M ∧ w0.heap.size ≤ B ∧ w0.heap.size ≤ L0
  m : M < L0 ∧ B < L0
  lo : L0 ≤ P ∧ L0 ≤ U ∧ L0 ≤ A ∧ L0 ≤ T ∧ L0 ≤ X
  hi : P < L ∧ U < L ∧ A < L ∧ T < L ∧ X < L
  ne : P ≠ U ∧ P ≠ A ∧ P ≠ T ∧ P ≠ X ∧ U ≠ A ∧ U ≠ T ∧ U ≠ X ∧ A ≠ T ∧ A ≠ X ∧ T ≠ X
def Kd.p : Kd → Nat → Option Addr
  | .pin _, b => some ⟨b, 0, none⟩
  | _, _ => none
def Kd.u : Kd → Nat → Option Addr
  | .unpin _, b => some ⟨b, 0, none⟩
  | _, _ => none
def Kd.a : Kd → Nat → Option Addr
  | .adv _, b => some ⟨b, 0, none⟩
  | _, _ => none
def OpIs (w : World) (b c : Nat) (a : Int) : Kd → Prop
  | .idle => True
  | .pin x => PinAt w b S3 c x
  | .unpin x => UnpinAt w b S3 c x
  | .adv x => AdvAt w b S3 c a x
theorem OpIs.but {w w' : World} {b c : Nat} {a : Int} {k : Kd} (h : OpIs w b c a k) {S : Nat → Prop} (g : But S w w') (hb : k ≠ .idle → ¬ S b) : OpIs w' b c a k := by
  cases k with
  | idle => trivial
  | pin x => exact PinAt.but h g (hb (by simp))
  | unpin x => exact UnpinAt.but h g (hb (by simp))
  | adv x => exact AdvAt.but h g (hb (by simp))
structure CM (w0 w : World) (L0 L M B P U A T X : Nat) (m : Md) (bl : Nat → Nat) : Prop where
  fx : Fx w0 L0 L M B P U A T X
  mem : In w0 M B m.s w
  x0 : w.cell? ⟨X, 0, none⟩ = some (.pointer (some ⟨M, 0, none⟩))
  x1 : w.cell? ⟨X, 1, none⟩ = some (.slice (some ⟨P, 0, none⟩) 3 3)
  x2 : w.cell? ⟨X, 2, none⟩ = some (.slice (some ⟨U, 0, none⟩) 3 3)
  x3 : w.cell? ⟨X, 3, none⟩ = some (.slice (some ⟨A, 0, none⟩) 3 3)
  x4 : w.cell? ⟨X, 4, none⟩ = some (.slice (some ⟨T, 0, none⟩) 3 3)
  cp : ∀ c, c < 3 → w.cell? ⟨P, c, none⟩ = some (.pointer ((m.k c).p (bl c)))
  cu : ∀ c, c < 3 → w.cell? ⟨U, c, none⟩ = some (.pointer ((m.k c).u (bl c)))
  ca : ∀ c, c < 3 → w.cell? ⟨A, c, none⟩ = some (.pointer ((m.k c).a (bl c)))
  ct : ∀ c, c < 3 → w.cell? ⟨T, c, none⟩ = some (.int .i64 (m.at_ c))
  fp : ∀ i, w.frozen? ⟨P, i, none⟩ = false
  fu : ∀ i, w.frozen? ⟨U, i, none⟩ = false
  fa : ∀ i, w.frozen? ⟨A, i, none⟩ = false
  ft : ∀ i, w.frozen? ⟨T, i, none⟩ = false
  op : ∀ c, c < 3 → OpIs w (bl c) c (m.at_ c) (m.k c)
  lo : ∀ c, c < 3 → m.k c ≠ .idle → L ≤ bl c ∧ bl c < w.heap.size
  top : L ≤ w.heap.size
  apart : ∀ c d, c < 3 → d < 3 → c ≠ d → m.k c ≠ .idle → m.k d ≠ .idle → bl c ≠ bl d
theorem In.frame {w0 w w' : World} {M B : Nat} {s : St} (h : In w0 M B s w) {S : Nat → Prop} (g : But S w w') (hM : ¬ S M) (hB : ¬ S B) (hS : ∀ k, S k → w0.heap.size ≤ k) : In w0 M B s w' :=
  ⟨pmem_frame h.mem g hM hB, ((h.kept.but S).trans g (fun _ _ h => h)).kept (fun k hk e => by have := hS k e; omega), h.lM, h.lB, Nat.lt_of_lt_of_le h.hM g.size, Nat.lt_of_lt_of_le h.hB g.size, h.wd, h.c0, h.c1⟩
section
variable {w0 w w' : World} {L0 L M B P U A T X : Nat} {m : Md} {bl : Nat → Nat}
theorem CM.size (h : CM w0 w L0 L M B P U A T X m bl) : X < w.heap.size ∧ P < w.heap.size ∧ U < w.heap.size ∧ A < w.heap.size ∧ T < w.heap.size :=
  ⟨lt_of_cell h.x0, lt_of_cell (h.cp 0 (by decide)), lt_of_cell (h.cu 0 (by decide)), lt_of_cell (h.ca 0 (by decide)), lt_of_cell (h.ct 0 (by decide))⟩
theorem CM.kept (h : CM w0 w L0 L M B P U A T X m bl) (k : Kept w w') : CM w0 w' L0 L M B P U A T X m bl := by
  obtain ⟨s1, s2, s3, s4, s5⟩ := h.size
  exact ⟨h.fx, h.mem.grow k, k.some h.x0, k.some h.x1, k.some h.x2, k.some h.x3, k.some h.x4, fun c hc => k.some (h.cp c hc), fun c hc => k.some (h.cu c hc), fun c hc => k.some (h.ca c hc), fun c hc => k.some (h.ct c hc),
    fun i => k.soft s2 (h.fp i), fun i => k.soft s3 (h.fu i), fun i => k.soft s4 (h.fa i), fun i => k.soft s5 (h.ft i), fun c hc => (h.op c hc).but (k.but (fun _ => False)) (fun _ => id), fun c hc hb => ⟨(h.lo c hc hb).1, Nat.lt_of_lt_of_le (h.lo c hc hb).2 k.size⟩, Nat.le_trans h.top k.size, h.apart⟩
theorem CM.went (h : CM w0 w L0 L M B P U A T X m bl) {c : Nat} (hc : c < 3) (hb : m.k c ≠ .idle) {s' : St} {q : Kd} (g : But (fun k => k = bl c ∨ k = B) w w') (i : In w0 M B s' w') (o : OpIs w' (bl c) c (m.at_ c) q)
    (qp : q.p (bl c) = (m.k c).p (bl c)) (qu : q.u (bl c) = (m.k c).u (bl c)) (qa : q.a (bl c) = (m.k c).a (bl c)) : CM w0 w' L0 L M B P U A T X ⟨s', putf m.k c q, m.at_⟩ bl := by
  obtain ⟨s1, s2, s3, s4, s5⟩ := h.size
  have lc := h.lo c hc hb
  have fm := h.fx.m
  have fl := h.fx.lo
  have fh := h.fx.hi
  have far : ∀ k, L0 ≤ k → k < L → ¬ (k = bl c ∨ k = B) := fun k h1 h2 e => by rcases e with e | e <;> omega
  have fX := far X fl.2.2.2.2 fh.2.2.2.2
  have fP := far P fl.1 fh.1
  have fU := far U fl.2.1 fh.2.1
  have fA := far A fl.2.2.1 fh.2.2.1
  have fT := far T fl.2.2.2.1 fh.2.2.2.1
  refine ⟨h.fx, i, g.some h.x0 fX, g.some h.x1 fX, g.some h.x2 fX, g.some h.x3 fX, g.some h.x4 fX, fun d hd => ?_, fun d hd => ?_, fun d hd => ?_, fun d hd => g.some (h.ct d hd) fT,
    fun j => g.soft s2 (h.fp j), fun j => g.soft s3 (h.fu j), fun j => g.soft s4 (h.fa j), fun j => g.soft s5 (h.ft j), fun d hd => ?_, fun d hd hbd => ?_, Nat.le_trans h.top g.size, fun d e hd he hde h1 h2 => ?_⟩
  · show w'.cell? ⟨P, d, none⟩ = some (.pointer ((putf m.k c q d).p (bl d)))
    by_cases e : d = c
    · subst e; rw [put_self, qp]; exact g.some (h.cp d hd) fP
    · rw [put_ne _ _ e]; exact g.some (h.cp d hd) fP
  · show w'.cell? ⟨U, d, none⟩ = some (.pointer ((putf m.k c q d).u (bl d)))
    by_cases e : d = c
    · subst e; rw [put_self, qu]; exact g.some (h.cu d hd) fU
    · rw [put_ne _ _ e]; exact g.some (h.cu d hd) fU
  · show w'.cell? ⟨A, d, none⟩ = some (.pointer ((putf m.k c q d).a (bl d)))
    by_cases e : d = c
    · subst e; rw [put_self, qa]; exact g.some (h.ca d hd) fA
    · rw [put_ne _ _ e]; exact g.some (h.ca d hd) fA
  · show OpIs w' (bl d) d (m.at_ d) (putf m.k c q d)
    by_cases e : d = c
    · subst e; rw [put_self]; exact o
    · rw [put_ne _ _ e]
      refine (h.op d hd).but g (fun hbd t => ?_)
      rcases t with t | t
      · exact h.apart d c hd hc e hbd hb t
      · have := (h.lo d hd hbd).1; omega
  · have hbd : putf m.k c q d ≠ .idle := hbd
    by_cases e : d = c
    · subst e; exact ⟨lc.1, Nat.lt_of_lt_of_le lc.2 g.size⟩
    · rw [put_ne _ _ e] at hbd; exact ⟨(h.lo d hd hbd).1, Nat.lt_of_lt_of_le (h.lo d hd hbd).2 g.size⟩
  · have h1 : putf m.k c q d ≠ .idle := h1
    have h2 : putf m.k c q e ≠ .idle := h2
    have b1 : m.k d ≠ .idle := by
      by_cases e1 : d = c
      · rw [e1]; exact hb
      · rw [put_ne _ _ e1] at h1; exact h1
    have b2 : m.k e ≠ .idle := by
      by_cases e1 : e = c
      · rw [e1]; exact hb
      · rw [put_ne _ _ e1] at h2; exact h2
    exact h.apart d e hd he hde b1 b2
theorem CM.stored (h : CM w0 w L0 L M B P U A T X m bl) {R o : Nat} {v : Value} (hR : R = P ∨ R = U ∨ R = A ∨ R = T) {m' : Md} {bl' : Nat → Nat} (hs : m'.s = m.s)
    (hp : ∀ d, d < 3 → (w.setCell ⟨R, o, none⟩ v).cell? ⟨P, d, none⟩ = some (.pointer ((m'.k d).p (bl' d)))) (hu : ∀ d, d < 3 → (w.setCell ⟨R, o, none⟩ v).cell? ⟨U, d, none⟩ = some (.pointer ((m'.k d).u (bl' d))))
    (ha : ∀ d, d < 3 → (w.setCell ⟨R, o, none⟩ v).cell? ⟨A, d, none⟩ = some (.pointer ((m'.k d).a (bl' d)))) (ht : ∀ d, d < 3 → (w.setCell ⟨R, o, none⟩ v).cell? ⟨T, d, none⟩ = some (.int .i64 (m'.at_ d)))
    (hop : ∀ d, d < 3 → OpIs w (bl' d) d (m'.at_ d) (m'.k d)) (hlo : ∀ d, d < 3 → m'.k d ≠ .idle → L ≤ bl' d ∧ bl' d < w.heap.size) (hap : ∀ c d, c < 3 → d < 3 → c ≠ d → m'.k c ≠ .idle → m'.k d ≠ .idle → bl' c ≠ bl' d) :
    CM w0 (w.setCell ⟨R, o, none⟩ v) L0 L M B P U A T X m' bl' := by
  have g : But (fun k => k = R) w (w.setCell ⟨R, o, none⟩ v) := But.here (But.refl _ _) _ _
  obtain ⟨s1, s2, s3, s4, s5⟩ := h.size
  obtain ⟨fz, fm, fl, fh, fn⟩ := h.fx
  have hX : X ≠ R := by rcases hR with e | e | e | e <;> omega
  have hRL : R < L := by rcases hR with e | e | e | e <;> omega
  have hR0 : L0 ≤ R := by rcases hR with e | e | e | e <;> omega
  refine ⟨h.fx, ?_, g.some h.x0 hX, g.some h.x1 hX, g.some h.x2 hX, g.some h.x3 hX, g.some h.x4 hX, hp, hu, ha, ht, fun j => g.soft s2 (h.fp j), fun j => g.soft s3 (h.fu j), fun j => g.soft s4 (h.fa j), fun j => g.soft s5 (h.ft j), fun d hd => (hop d hd).but g (fun hb e => ?_), fun d hd hb => ?_, Nat.le_trans h.top g.size, hap⟩
  · rw [hs]; exact h.mem.frame g (fun e => by omega) (fun e => by omega) (fun k e => by have e : k = R := e; omega)
  · have := (hlo d hd hb).1
    omega
  · exact ⟨(hlo d hd hb).1, Nat.lt_of_lt_of_le (hlo d hd hb).2 g.size⟩
theorem row_set {R o d : Nat} {v x : Value} (h : w.cell? ⟨R, d, none⟩ = some x) : (w.setCell ⟨R, o, none⟩ v).cell? ⟨R, d, none⟩ = some (if d = o then v else x) := by
  rw [cell_set, h]
  by_cases e : o = d
  · rw [if_pos e, if_pos e.symm]; rfl
  · rw [if_neg e, if_neg (fun h => e h.symm)]
theorem row_far {R R' o d : Nat} {v x : Value} (hne : R' ≠ R) (h : w.cell? ⟨R', d, none⟩ = some x) : (w.setCell ⟨R, o, none⟩ v).cell? ⟨R', d, none⟩ = some x :=
  (But.some (S := fun k => k = R) (But.here (But.refl _ _) _ _) h hne)
theorem op_put {c d : Nat} {q : Kd} (hq : ∀ d, d < 3 → OpIs w (bl d) d (m.at_ d) (m.k d)) (hd : d < 3) (h : d = c → OpIs w (bl d) d (m.at_ d) q) : OpIs w (bl d) d (m.at_ d) (putf m.k c q d) := by
  by_cases e : d = c
  · subst e; rw [put_self]; exact h rfl
  · rw [put_ne _ _ e]; exact hq d hd
theorem CM.bornP (h : CM w0 w L0 L M B P U A T X m bl) {c : Nat} (hc : c < 3) (hi : m.k c = .idle) {b : Nat} {x : EOp} (hb0 : L ≤ b) (hb1 : b < w.heap.size) (hf : ∀ d, d < 3 → m.k d ≠ .idle → bl d ≠ b) (o : PinAt w b S3 c x) :
    CM w0 (w.setCell ⟨P, c, none⟩ (.pointer (some ⟨b, 0, none⟩))) L0 L M B P U A T X ⟨m.s, putf m.k c (.pin x), m.at_⟩ (putf bl c b) := by
  obtain ⟨n1, n2, n3, n4, n5, n6, n7, n8, n9, n10⟩ := h.fx.ne
  refine h.stored (R := P) (.inl rfl) rfl (fun d hd => ?_) (fun d hd => ?_) (fun d hd => ?_) (fun d hd => ?_) (fun d hd => ?_) (fun d hd hbd => ?_) (fun d e hd he hde h1 h2 => ?_)
  · show (w.setCell ⟨P, c, none⟩ (.pointer (some ⟨b, 0, none⟩))).cell? ⟨P, d, none⟩ = some (.pointer ((putf m.k c (.pin x) d).p (putf bl c b d)))
    rw [row_set (h.cp d hd)]
    by_cases e : d = c
    · subst e; rw [if_pos rfl, put_self, put_self]; rfl
    · rw [if_neg e, put_ne _ _ e, put_ne _ _ e]
  · show (w.setCell ⟨P, c, none⟩ (.pointer (some ⟨b, 0, none⟩))).cell? ⟨U, d, none⟩ = some (.pointer ((putf m.k c (.pin x) d).u (putf bl c b d)))
    rw [row_far (by omega) (h.cu d hd)]
    by_cases e : d = c
    · subst e; rw [put_self, hi]; rfl
    · rw [put_ne _ _ e, put_ne _ _ e]
  · show (w.setCell ⟨P, c, none⟩ (.pointer (some ⟨b, 0, none⟩))).cell? ⟨A, d, none⟩ = some (.pointer ((putf m.k c (.pin x) d).a (putf bl c b d)))
    rw [row_far (by omega) (h.ca d hd)]
    by_cases e : d = c
    · subst e; rw [put_self, hi]; rfl
    · rw [put_ne _ _ e, put_ne _ _ e]
  · exact row_far (by omega) (h.ct d hd)
  · show OpIs w (putf bl c b d) d (m.at_ d) (putf m.k c (.pin x) d)
    by_cases e : d = c
    · subst e; rw [put_self, put_self]; exact o
    · rw [put_ne _ _ e, put_ne _ _ e]; exact h.op d hd
  · show L ≤ putf bl c b d ∧ putf bl c b d < w.heap.size
    have hbd : putf m.k c (.pin x) d ≠ .idle := hbd
    by_cases e : d = c
    · subst e; rw [put_self]; exact ⟨hb0, hb1⟩
    · rw [put_ne _ _ e] at hbd ⊢; exact h.lo d hd hbd
  · show putf bl c b d ≠ putf bl c b e
    have h1 : putf m.k c (.pin x) d ≠ .idle := h1
    have h2 : putf m.k c (.pin x) e ≠ .idle := h2
    by_cases e1 : d = c
    · by_cases e2 : e = c
      · omega
      · rw [e1, put_self, put_ne _ _ e2]
        rw [put_ne _ _ e2] at h2
        exact (hf e he h2).symm
    · by_cases e2 : e = c
      · rw [e2, put_self, put_ne _ _ e1]
        rw [put_ne _ _ e1] at h1
        exact hf d hd h1
      · rw [put_ne _ _ e1, put_ne _ _ e2]
        rw [put_ne _ _ e1] at h1
        rw [put_ne _ _ e2] at h2
        exact h.apart d e hd he hde h1 h2
theorem CM.dropP (h : CM w0 w L0 L M B P U A T X m bl) {c : Nat} (hc : c < 3) {x : EOp} (hk : m.k c = .pin x) :
    CM w0 (w.setCell ⟨P, c, none⟩ (.pointer none)) L0 L M B P U A T X ⟨m.s, putf m.k c .idle, m.at_⟩ bl := by
  obtain ⟨n1, n2, n3, n4, n5, n6, n7, n8, n9, n10⟩ := h.fx.ne
  refine h.stored (R := P) (.inl rfl) rfl (fun d hd => ?_) (fun d hd => ?_) (fun d hd => ?_) (fun d hd => ?_) (fun d hd => ?_) (fun d hd hbd => ?_) (fun d e hd he hde h1 h2 => ?_)
  · show (w.setCell ⟨P, c, none⟩ (.pointer none)).cell? ⟨P, d, none⟩ = some (.pointer ((putf m.k c .idle d).p (bl d)))
    rw [row_set (h.cp d hd)]
    by_cases e : d = c
    · subst e; rw [if_pos rfl, put_self]; rfl
    · rw [if_neg e, put_ne _ _ e]
  · show (w.setCell ⟨P, c, none⟩ (.pointer none)).cell? ⟨U, d, none⟩ = some (.pointer ((putf m.k c .idle d).u (bl d)))
    rw [row_far (by omega) (h.cu d hd)]
    by_cases e : d = c
    · subst e; rw [put_self, hk]; rfl
    · rw [put_ne _ _ e]
  · show (w.setCell ⟨P, c, none⟩ (.pointer none)).cell? ⟨A, d, none⟩ = some (.pointer ((putf m.k c .idle d).a (bl d)))
    rw [row_far (by omega) (h.ca d hd)]
    by_cases e : d = c
    · subst e; rw [put_self, hk]; rfl
    · rw [put_ne _ _ e]
  · exact row_far (by omega) (h.ct d hd)
  · exact op_put h.op hd (fun _ => trivial)
  · have hbd : putf m.k c .idle d ≠ .idle := hbd
    by_cases e : d = c
    · subst e; rw [put_self] at hbd; exact absurd rfl hbd
    · rw [put_ne _ _ e] at hbd; exact h.lo d hd hbd
  · have h1 : putf m.k c .idle d ≠ .idle := h1
    have h2 : putf m.k c .idle e ≠ .idle := h2
    by_cases e1 : d = c
    · rw [e1, put_self] at h1; exact absurd rfl h1
    · by_cases e2 : e = c
      · rw [e2, put_self] at h2; exact absurd rfl h2
      · rw [put_ne _ _ e1] at h1
        rw [put_ne _ _ e2] at h2
        exact h.apart d e hd he hde h1 h2
theorem CM.bornU (h : CM w0 w L0 L M B P U A T X m bl) {c : Nat} (hc : c < 3) (hi : m.k c = .idle) {b : Nat} {x : EOp} (hb0 : L ≤ b) (hb1 : b < w.heap.size) (hf : ∀ d, d < 3 → m.k d ≠ .idle → bl d ≠ b) (o : UnpinAt w b S3 c x) :
    CM w0 (w.setCell ⟨U, c, none⟩ (.pointer (some ⟨b, 0, none⟩))) L0 L M B P U A T X ⟨m.s, putf m.k c (.unpin x), m.at_⟩ (putf bl c b) := by
  obtain ⟨n1, n2, n3, n4, n5, n6, n7, n8, n9, n10⟩ := h.fx.ne
  refine h.stored (R := U) (.inr (.inl rfl)) rfl (fun d hd => ?_) (fun d hd => ?_) (fun d hd => ?_) (fun d hd => ?_) (fun d hd => ?_) (fun d hd hbd => ?_) (fun d e hd he hde h1 h2 => ?_)
  · show (w.setCell ⟨U, c, none⟩ (.pointer (some ⟨b, 0, none⟩))).cell? ⟨P, d, none⟩ = some (.pointer ((putf m.k c (.unpin x) d).p (putf bl c b d)))
    rw [row_far (by omega) (h.cp d hd)]
    by_cases e : d = c
    · subst e; rw [put_self, hi]; rfl
    · rw [put_ne _ _ e, put_ne _ _ e]
  · show (w.setCell ⟨U, c, none⟩ (.pointer (some ⟨b, 0, none⟩))).cell? ⟨U, d, none⟩ = some (.pointer ((putf m.k c (.unpin x) d).u (putf bl c b d)))
    rw [row_set (h.cu d hd)]
    by_cases e : d = c
    · subst e; rw [if_pos rfl, put_self, put_self]; rfl
    · rw [if_neg e, put_ne _ _ e, put_ne _ _ e]
  · show (w.setCell ⟨U, c, none⟩ (.pointer (some ⟨b, 0, none⟩))).cell? ⟨A, d, none⟩ = some (.pointer ((putf m.k c (.unpin x) d).a (putf bl c b d)))
    rw [row_far (by omega) (h.ca d hd)]
    by_cases e : d = c
    · subst e; rw [put_self, hi]; rfl
    · rw [put_ne _ _ e, put_ne _ _ e]
  · exact row_far (by omega) (h.ct d hd)
  · show OpIs w (putf bl c b d) d (m.at_ d) (putf m.k c (.unpin x) d)
    by_cases e : d = c
    · subst e; rw [put_self, put_self]; exact o
    · rw [put_ne _ _ e, put_ne _ _ e]; exact h.op d hd
  · show L ≤ putf bl c b d ∧ putf bl c b d < w.heap.size
    have hbd : putf m.k c (.unpin x) d ≠ .idle := hbd
    by_cases e : d = c
    · subst e; rw [put_self]; exact ⟨hb0, hb1⟩
    · rw [put_ne _ _ e] at hbd ⊢; exact h.lo d hd hbd
  · show putf bl c b d ≠ putf bl c b e
    have h1 : putf m.k c (.unpin x) d ≠ .idle := h1
    have h2 : putf m.k c (.unpin x) e ≠ .idle := h2
    by_cases e1 : d = c
    · by_cases e2 : e = c
      · omega
      · rw [e1, put_self, put_ne _ _ e2]
        rw [put_ne _ _ e2] at h2
        exact (hf e he h2).symm
    · by_cases e2 : e = c
      · rw [e2, put_self, put_ne _ _ e1]
        rw [put_ne _ _ e1] at h1
        exact hf d hd h1
      · rw [put_ne _ _ e1, put_ne _ _ e2]
        rw [put_ne _ _ e1] at h1
        rw [put_ne _ _ e2] at h2
        exact h.apart d e hd he hde h1 h2
theorem CM.dropU (h : CM w0 w L0 L M B P U A T X m bl) {c : Nat} (hc : c < 3) {x : EOp} (hk : m.k c = .unpin x) :
    CM w0 (w.setCell ⟨U, c, none⟩ (.pointer none)) L0 L M B P U A T X ⟨m.s, putf m.k c .idle, m.at_⟩ bl := by
  obtain ⟨n1, n2, n3, n4, n5, n6, n7, n8, n9, n10⟩ := h.fx.ne
  refine h.stored (R := U) (.inr (.inl rfl)) rfl (fun d hd => ?_) (fun d hd => ?_) (fun d hd => ?_) (fun d hd => ?_) (fun d hd => ?_) (fun d hd hbd => ?_) (fun d e hd he hde h1 h2 => ?_)
  · show (w.setCell ⟨U, c, none⟩ (.pointer none)).cell? ⟨P, d, none⟩ = some (.pointer ((putf m.k c .idle d).p (bl d)))
    rw [row_far (by omega) (h.cp d hd)]
    by_cases e : d = c
    · subst e; rw [put_self, hk]; rfl
    · rw [put_ne _ _ e]
  · show (w.setCell ⟨U, c, none⟩ (.pointer none)).cell? ⟨U, d, none⟩ = some (.pointer ((putf m.k c .idle d).u (bl d)))
    rw [row_set (h.cu d hd)]
    by_cases e : d = c
    · subst e; rw [if_pos rfl, put_self]; rfl
    · rw [if_neg e, put_ne _ _ e]
  · show (w.setCell ⟨U, c, none⟩ (.pointer none)).cell? ⟨A, d, none⟩ = some (.pointer ((putf m.k c .idle d).a (bl d)))
    rw [row_far (by omega) (h.ca d hd)]
    by_cases e : d = c
    · subst e; rw [put_self, hk]; rfl
    · rw [put_ne _ _ e]
  · exact row_far (by omega) (h.ct d hd)
  · exact op_put h.op hd (fun _ => trivial)
  · have hbd : putf m.k c .idle d ≠ .idle := hbd
    by_cases e : d = c
    · subst e; rw [put_self] at hbd; exact absurd rfl hbd
    · rw [put_ne _ _ e] at hbd; exact h.lo d hd hbd
  · have h1 : putf m.k c .idle d ≠ .idle := h1
    have h2 : putf m.k c .idle e ≠ .idle := h2
    by_cases e1 : d = c
    · rw [e1, put_self] at h1; exact absurd rfl h1
    · by_cases e2 : e = c
      · rw [e2, put_self] at h2; exact absurd rfl h2
      · rw [put_ne _ _ e1] at h1
        rw [put_ne _ _ e2] at h2
        exact h.apart d e hd he hde h1 h2
theorem CM.bornA (h : CM w0 w L0 L M B P U A T X m bl) {c : Nat} (hc : c < 3) (hi : m.k c = .idle) {b : Nat} {x : EOp} (hb0 : L ≤ b) (hb1 : b < w.heap.size) (hf : ∀ d, d < 3 → m.k d ≠ .idle → bl d ≠ b) (o : AdvAt w b S3 c (m.at_ c) x) :
    CM w0 (w.setCell ⟨A, c, none⟩ (.pointer (some ⟨b, 0, none⟩))) L0 L M B P U A T X ⟨m.s, putf m.k c (.adv x), m.at_⟩ (putf bl c b) := by
  obtain ⟨n1, n2, n3, n4, n5, n6, n7, n8, n9, n10⟩ := h.fx.ne
  refine h.stored (R := A) (.inr (.inr (.inl rfl))) rfl (fun d hd => ?_) (fun d hd => ?_) (fun d hd => ?_) (fun d hd => ?_) (fun d hd => ?_) (fun d hd hbd => ?_) (fun d e hd he hde h1 h2 => ?_)
  · show (w.setCell ⟨A, c, none⟩ (.pointer (some ⟨b, 0, none⟩))).cell? ⟨P, d, none⟩ = some (.pointer ((putf m.k c (.adv x) d).p (putf bl c b d)))
    rw [row_far (by omega) (h.cp d hd)]
    by_cases e : d = c
    · subst e; rw [put_self, hi]; rfl
    · rw [put_ne _ _ e, put_ne _ _ e]
  · show (w.setCell ⟨A, c, none⟩ (.pointer (some ⟨b, 0, none⟩))).cell? ⟨U, d, none⟩ = some (.pointer ((putf m.k c (.adv x) d).u (putf bl c b d)))
    rw [row_far (by omega) (h.cu d hd)]
    by_cases e : d = c
    · subst e; rw [put_self, hi]; rfl
    · rw [put_ne _ _ e, put_ne _ _ e]
  · show (w.setCell ⟨A, c, none⟩ (.pointer (some ⟨b, 0, none⟩))).cell? ⟨A, d, none⟩ = some (.pointer ((putf m.k c (.adv x) d).a (putf bl c b d)))
    rw [row_set (h.ca d hd)]
    by_cases e : d = c
    · subst e; rw [if_pos rfl, put_self, put_self]; rfl
    · rw [if_neg e, put_ne _ _ e, put_ne _ _ e]
  · exact row_far (by omega) (h.ct d hd)
  · show OpIs w (putf bl c b d) d (m.at_ d) (putf m.k c (.adv x) d)
    by_cases e : d = c
    · subst e; rw [put_self, put_self]; exact o
    · rw [put_ne _ _ e, put_ne _ _ e]; exact h.op d hd
  · show L ≤ putf bl c b d ∧ putf bl c b d < w.heap.size
    have hbd : putf m.k c (.adv x) d ≠ .idle := hbd
    by_cases e : d = c
    · subst e; rw [put_self]; exact ⟨hb0, hb1⟩
    · rw [put_ne _ _ e] at hbd ⊢; exact h.lo d hd hbd
  · show putf bl c b d ≠ putf bl c b e
    have h1 : putf m.k c (.adv x) d ≠ .idle := h1
    have h2 : putf m.k c (.adv x) e ≠ .idle := h2
    by_cases e1 : d = c
    · by_cases e2 : e = c
      · omega
      · rw [e1, put_self, put_ne _ _ e2]
        rw [put_ne _ _ e2] at h2
        exact (hf e he h2).symm
    · by_cases e2 : e = c
      · rw [e2, put_self, put_ne _ _ e1]
        rw [put_ne _ _ e1] at h1
        exact hf d hd h1
      · rw [put_ne _ _ e1, put_ne _ _ e2]
        rw [put_ne _ _ e1] at h1
        rw [put_ne _ _ e2] at h2
        exact h.apart d e hd he hde h1 h2
theorem CM.dropA (h : CM w0 w L0 L M B P U A T X m bl) {c : Nat} (hc : c < 3) {x : EOp} (hk : m.k c = .adv x) :
    CM w0 (w.setCell ⟨A, c, none⟩ (.pointer none)) L0 L M B P U A T X ⟨m.s, putf m.k c .idle, m.at_⟩ bl := by
  obtain ⟨n1, n2, n3, n4, n5, n6, n7, n8, n9, n10⟩ := h.fx.ne
  refine h.stored (R := A) (.inr (.inr (.inl rfl))) rfl (fun d hd => ?_) (fun d hd => ?_) (fun d hd => ?_) (fun d hd => ?_) (fun d hd => ?_) (fun d hd hbd => ?_) (fun d e hd he hde h1 h2 => ?_)
  · show (w.setCell ⟨A, c, none⟩ (.pointer none)).cell? ⟨P, d, none⟩ = some (.pointer ((putf m.k c .idle d).p (bl d)))
    rw [row_far (by omega) (h.cp d hd)]
    by_cases e : d = c
    · subst e; rw [put_self, hk]; rfl
    · rw [put_ne _ _ e]
  · show (w.setCell ⟨A, c, none⟩ (.pointer none)).cell? ⟨U, d, none⟩ = some (.pointer ((putf m.k c .idle d).u (bl d)))
    rw [row_far (by omega) (h.cu d hd)]
    by_cases e : d = c
    · subst e; rw [put_self, hk]; rfl
    · rw [put_ne _ _ e]
  · show (w.setCell ⟨A, c, none⟩ (.pointer none)).cell? ⟨A, d, none⟩ = some (.pointer ((putf m.k c .idle d).a (bl d)))
    rw [row_set (h.ca d hd)]
    by_cases e : d = c
    · subst e; rw [if_pos rfl, put_self]; rfl
    · rw [if_neg e, put_ne _ _ e]
  · exact row_far (by omega) (h.ct d hd)
  · exact op_put h.op hd (fun _ => trivial)
  · have hbd : putf m.k c .idle d ≠ .idle := hbd
    by_cases e : d = c
    · subst e; rw [put_self] at hbd; exact absurd rfl hbd
    · rw [put_ne _ _ e] at hbd; exact h.lo d hd hbd
  · have h1 : putf m.k c .idle d ≠ .idle := h1
    have h2 : putf m.k c .idle e ≠ .idle := h2
    by_cases e1 : d = c
    · rw [e1, put_self] at h1; exact absurd rfl h1
    · by_cases e2 : e = c
      · rw [e2, put_self] at h2; exact absurd rfl h2
      · rw [put_ne _ _ e1] at h1
        rw [put_ne _ _ e2] at h2
        exact h.apart d e hd he hde h1 h2
theorem CM.setAt (h : CM w0 w L0 L M B P U A T X m bl) {c : Nat} (a : Int) (hk : ∀ x, m.k c ≠ .adv x) :
    CM w0 (w.setCell ⟨T, c, none⟩ (.int .i64 a)) L0 L M B P U A T X ⟨m.s, m.k, putf m.at_ c a⟩ bl := by
  obtain ⟨n1, n2, n3, n4, n5, n6, n7, n8, n9, n10⟩ := h.fx.ne
  refine h.stored (R := T) (.inr (.inr (.inr rfl))) rfl (fun d hd => row_far (by omega) (h.cp d hd)) (fun d hd => row_far (by omega) (h.cu d hd)) (fun d hd => row_far (by omega) (h.ca d hd)) (fun d hd => ?_) (fun d hd => ?_) h.lo h.apart
  · show (w.setCell ⟨T, c, none⟩ (.int .i64 a)).cell? ⟨T, d, none⟩ = some (.int .i64 (putf m.at_ c a d))
    rw [row_set (h.ct d hd)]
    by_cases e : d = c
    · subst e; rw [if_pos rfl, put_self]
    · rw [if_neg e, put_ne _ _ e]
  · show OpIs w (bl d) d (putf m.at_ c a d) (m.k d)
    by_cases e : d = c
    · subst e
      have ho := h.op d hd
      cases hd' : m.k d with
      | idle => trivial
      | pin x => rw [hd'] at ho; exact ho
      | unpin x => rw [hd'] at ho; exact ho
      | adv x => exact absurd hd' (hk x)
    · rw [put_ne _ _ e]; exact h.op d hd
end
end Go.Proofs.Ytmfbjlaajcdbnaa.Ep
