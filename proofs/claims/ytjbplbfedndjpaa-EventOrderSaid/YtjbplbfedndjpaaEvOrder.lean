/- EventOrder. -/
import Derived.Test.YtjbplbfedndjpaaEvLeft
namespace Go.Proofs.Ytjbplbfedndjpaa
open Go.RowKit Go.Maps

theorem own_at {w : World} {base : Nat} {v : Value} {l : List Sp} (h : OwnS w base v l) (hp : 0 < l.length) : ∃ g c, v = .slice (some ⟨g, 0, none⟩) l.length c ∧ ∀ i s, l[i]? = some s → SpAt w g (i * 10) s := by
  obtain ⟨g, c, hv, H⟩ := own_sp h hp
  refine ⟨g, c, hv, fun i s hs => ⟨?_, H i s hs 1 _ (by decide) rfl, H i s hs 2 _ (by decide) rfl, H i s hs 3 _ (by decide) rfl, H i s hs 4 _ (by decide) rfl, H i s hs 5 _ (by decide) rfl, H i s hs 6 _ (by decide) rfl, H i s hs 7 _ (by decide) rfl, H i s hs 8 _ (by decide) rfl, H i s hs 9 _ (by decide) rfl⟩⟩
  exact H i s hs 0 _ (by decide) rfl
theorem all2 {w' : World} {g i0 i1 : Nat} {s0 s1 : Sp} (h0 : SpAt w' g (i0 * 10) s0) (h1 : SpAt w' g (i1 * 10) s1) : w'.cell? ⟨g, i0 * 10, none⟩ = some (.int .i64 s0.id) ∧ w'.cell? ⟨g, i0 * 10 + 1, none⟩ = some (.int .i64 s0.from_) ∧ w'.cell? ⟨g, i0 * 10 + 2, none⟩ = some (.int .i64 s0.to) ∧ w'.cell? ⟨g, i0 * 10 + 3, none⟩ = some (.int .i64 s0.k) ∧ w'.cell? ⟨g, i0 * 10 + 4, none⟩ = some (.int .i64 s0.x) ∧ w'.cell? ⟨g, i0 * 10 + 5, none⟩ = some (.int .i64 s0.y) ∧ w'.cell? ⟨g, i0 * 10 + 6, none⟩ = some (.int .u64 s0.u) ∧ w'.cell? ⟨g, i0 * 10 + 7, none⟩ = some (.int .i64 s0.er) ∧ w'.cell? ⟨g, i0 * 10 + 8, none⟩ = some (.int .i64 s0.n) ∧ w'.cell? ⟨g, i0 * 10 + 9, none⟩ = some (.int .u64 s0.v) ∧ w'.cell? ⟨g, i1 * 10, none⟩ = some (.int .i64 s1.id) ∧ w'.cell? ⟨g, i1 * 10 + 1, none⟩ = some (.int .i64 s1.from_) ∧ w'.cell? ⟨g, i1 * 10 + 2, none⟩ = some (.int .i64 s1.to) ∧ w'.cell? ⟨g, i1 * 10 + 3, none⟩ = some (.int .i64 s1.k) ∧ w'.cell? ⟨g, i1 * 10 + 4, none⟩ = some (.int .i64 s1.x) ∧ w'.cell? ⟨g, i1 * 10 + 5, none⟩ = some (.int .i64 s1.y) ∧ w'.cell? ⟨g, i1 * 10 + 6, none⟩ = some (.int .u64 s1.u) ∧ w'.cell? ⟨g, i1 * 10 + 7, none⟩ = some (.int .i64 s1.er) ∧ w'.cell? ⟨g, i1 * 10 + 8, none⟩ = some (.int .i64 s1.n) ∧ w'.cell? ⟨g, i1 * 10 + 9, none⟩ = some (.int .u64 s1.v) :=
  ⟨h0.c0, h0.c1, h0.c2, h0.c3, h0.c4, h0.c5, h0.c6, h0.c7, h0.c8, h0.c9, h1.c0, h1.c1, h1.c2, h1.c3, h1.c4, h1.c5, h1.c6, h1.c7, h1.c8, h1.c9⟩
theorem all3 {w' : World} {g i0 i1 i2 : Nat} {s0 s1 s2 : Sp} (h0 : SpAt w' g (i0 * 10) s0) (h1 : SpAt w' g (i1 * 10) s1) (h2 : SpAt w' g (i2 * 10) s2) : w'.cell? ⟨g, i0 * 10, none⟩ = some (.int .i64 s0.id) ∧ w'.cell? ⟨g, i0 * 10 + 1, none⟩ = some (.int .i64 s0.from_) ∧ w'.cell? ⟨g, i0 * 10 + 2, none⟩ = some (.int .i64 s0.to) ∧ w'.cell? ⟨g, i0 * 10 + 3, none⟩ = some (.int .i64 s0.k) ∧ w'.cell? ⟨g, i0 * 10 + 4, none⟩ = some (.int .i64 s0.x) ∧ w'.cell? ⟨g, i0 * 10 + 5, none⟩ = some (.int .i64 s0.y) ∧ w'.cell? ⟨g, i0 * 10 + 6, none⟩ = some (.int .u64 s0.u) ∧ w'.cell? ⟨g, i0 * 10 + 7, none⟩ = some (.int .i64 s0.er) ∧ w'.cell? ⟨g, i0 * 10 + 8, none⟩ = some (.int .i64 s0.n) ∧ w'.cell? ⟨g, i0 * 10 + 9, none⟩ = some (.int .u64 s0.v) ∧ w'.cell? ⟨g, i1 * 10, none⟩ = some (.int .i64 s1.id) ∧ w'.cell? ⟨g, i1 * 10 + 1, none⟩ = some (.int .i64 s1.from_) ∧ w'.cell? ⟨g, i1 * 10 + 2, none⟩ = some (.int .i64 s1.to) ∧ w'.cell? ⟨g, i1 * 10 + 3, none⟩ = some (.int .i64 s1.k) ∧ w'.cell? ⟨g, i1 * 10 + 4, none⟩ = some (.int .i64 s1.x) ∧ w'.cell? ⟨g, i1 * 10 + 5, none⟩ = some (.int .i64 s1.y) ∧ w'.cell? ⟨g, i1 * 10 + 6, none⟩ = some (.int .u64 s1.u) ∧ w'.cell? ⟨g, i1 * 10 + 7, none⟩ = some (.int .i64 s1.er) ∧ w'.cell? ⟨g, i1 * 10 + 8, none⟩ = some (.int .i64 s1.n) ∧ w'.cell? ⟨g, i1 * 10 + 9, none⟩ = some (.int .u64 s1.v) ∧ w'.cell? ⟨g, i2 * 10, none⟩ = some (.int .i64 s2.id) ∧ w'.cell? ⟨g, i2 * 10 + 1, none⟩ = some (.int .i64 s2.from_) ∧ w'.cell? ⟨g, i2 * 10 + 2, none⟩ = some (.int .i64 s2.to) ∧ w'.cell? ⟨g, i2 * 10 + 3, none⟩ = some (.int .i64 s2.k) ∧ w'.cell? ⟨g, i2 * 10 + 4, none⟩ = some (.int .i64 s2.x) ∧ w'.cell? ⟨g, i2 * 10 + 5, none⟩ = some (.int .i64 s2.y) ∧ w'.cell? ⟨g, i2 * 10 + 6, none⟩ = some (.int .u64 s2.u) ∧ w'.cell? ⟨g, i2 * 10 + 7, none⟩ = some (.int .i64 s2.er) ∧ w'.cell? ⟨g, i2 * 10 + 8, none⟩ = some (.int .i64 s2.n) ∧ w'.cell? ⟨g, i2 * 10 + 9, none⟩ = some (.int .u64 s2.v) :=
  ⟨h0.c0, h0.c1, h0.c2, h0.c3, h0.c4, h0.c5, h0.c6, h0.c7, h0.c8, h0.c9, h1.c0, h1.c1, h1.c2, h1.c3, h1.c4, h1.c5, h1.c6, h1.c7, h1.c8, h1.c9, h2.c0, h2.c1, h2.c2, h2.c3, h2.c4, h2.c5, h2.c6, h2.c7, h2.c8, h2.c9⟩
theorem all4 {w' : World} {g i0 i1 i2 i3 : Nat} {s0 s1 s2 s3 : Sp} (h0 : SpAt w' g (i0 * 10) s0) (h1 : SpAt w' g (i1 * 10) s1) (h2 : SpAt w' g (i2 * 10) s2) (h3 : SpAt w' g (i3 * 10) s3) : w'.cell? ⟨g, i0 * 10, none⟩ = some (.int .i64 s0.id) ∧ w'.cell? ⟨g, i0 * 10 + 1, none⟩ = some (.int .i64 s0.from_) ∧ w'.cell? ⟨g, i0 * 10 + 2, none⟩ = some (.int .i64 s0.to) ∧ w'.cell? ⟨g, i0 * 10 + 3, none⟩ = some (.int .i64 s0.k) ∧ w'.cell? ⟨g, i0 * 10 + 4, none⟩ = some (.int .i64 s0.x) ∧ w'.cell? ⟨g, i0 * 10 + 5, none⟩ = some (.int .i64 s0.y) ∧ w'.cell? ⟨g, i0 * 10 + 6, none⟩ = some (.int .u64 s0.u) ∧ w'.cell? ⟨g, i0 * 10 + 7, none⟩ = some (.int .i64 s0.er) ∧ w'.cell? ⟨g, i0 * 10 + 8, none⟩ = some (.int .i64 s0.n) ∧ w'.cell? ⟨g, i0 * 10 + 9, none⟩ = some (.int .u64 s0.v) ∧ w'.cell? ⟨g, i1 * 10, none⟩ = some (.int .i64 s1.id) ∧ w'.cell? ⟨g, i1 * 10 + 1, none⟩ = some (.int .i64 s1.from_) ∧ w'.cell? ⟨g, i1 * 10 + 2, none⟩ = some (.int .i64 s1.to) ∧ w'.cell? ⟨g, i1 * 10 + 3, none⟩ = some (.int .i64 s1.k) ∧ w'.cell? ⟨g, i1 * 10 + 4, none⟩ = some (.int .i64 s1.x) ∧ w'.cell? ⟨g, i1 * 10 + 5, none⟩ = some (.int .i64 s1.y) ∧ w'.cell? ⟨g, i1 * 10 + 6, none⟩ = some (.int .u64 s1.u) ∧ w'.cell? ⟨g, i1 * 10 + 7, none⟩ = some (.int .i64 s1.er) ∧ w'.cell? ⟨g, i1 * 10 + 8, none⟩ = some (.int .i64 s1.n) ∧ w'.cell? ⟨g, i1 * 10 + 9, none⟩ = some (.int .u64 s1.v) ∧ w'.cell? ⟨g, i2 * 10, none⟩ = some (.int .i64 s2.id) ∧ w'.cell? ⟨g, i2 * 10 + 1, none⟩ = some (.int .i64 s2.from_) ∧ w'.cell? ⟨g, i2 * 10 + 2, none⟩ = some (.int .i64 s2.to) ∧ w'.cell? ⟨g, i2 * 10 + 3, none⟩ = some (.int .i64 s2.k) ∧ w'.cell? ⟨g, i2 * 10 + 4, none⟩ = some (.int .i64 s2.x) ∧ w'.cell? ⟨g, i2 * 10 + 5, none⟩ = some (.int .i64 s2.y) ∧ w'.cell? ⟨g, i2 * 10 + 6, none⟩ = some (.int .u64 s2.u) ∧ w'.cell? ⟨g, i2 * 10 + 7, none⟩ = some (.int .i64 s2.er) ∧ w'.cell? ⟨g, i2 * 10 + 8, none⟩ = some (.int .i64 s2.n) ∧ w'.cell? ⟨g, i2 * 10 + 9, none⟩ = some (.int .u64 s2.v) ∧ w'.cell? ⟨g, i3 * 10, none⟩ = some (.int .i64 s3.id) ∧ w'.cell? ⟨g, i3 * 10 + 1, none⟩ = some (.int .i64 s3.from_) ∧ w'.cell? ⟨g, i3 * 10 + 2, none⟩ = some (.int .i64 s3.to) ∧ w'.cell? ⟨g, i3 * 10 + 3, none⟩ = some (.int .i64 s3.k) ∧ w'.cell? ⟨g, i3 * 10 + 4, none⟩ = some (.int .i64 s3.x) ∧ w'.cell? ⟨g, i3 * 10 + 5, none⟩ = some (.int .i64 s3.y) ∧ w'.cell? ⟨g, i3 * 10 + 6, none⟩ = some (.int .u64 s3.u) ∧ w'.cell? ⟨g, i3 * 10 + 7, none⟩ = some (.int .i64 s3.er) ∧ w'.cell? ⟨g, i3 * 10 + 8, none⟩ = some (.int .i64 s3.n) ∧ w'.cell? ⟨g, i3 * 10 + 9, none⟩ = some (.int .u64 s3.v) :=
  ⟨h0.c0, h0.c1, h0.c2, h0.c3, h0.c4, h0.c5, h0.c6, h0.c7, h0.c8, h0.c9, h1.c0, h1.c1, h1.c2, h1.c3, h1.c4, h1.c5, h1.c6, h1.c7, h1.c8, h1.c9, h2.c0, h2.c1, h2.c2, h2.c3, h2.c4, h2.c5, h2.c6, h2.c7, h2.c8, h2.c9, h3.c0, h3.c1, h3.c2, h3.c3, h3.c4, h3.c5, h3.c6, h3.c7, h3.c8, h3.c9⟩

section
variable {P : Program} {ops : Array Oper} {Q : Exit → Act → World → Prop} {md : Region.Mode} {S : World → Prop}
/-- Number 'i' is taken first: it is wanted, and yields 'v'. -/
theorem take_on {i : Nat} {oi : Oper} {v : Value} {fuel : Nat} {listed : Array Bool} {a : Act} {w : World} (hi : ops[i]? = some oi)
    (hs : Region.noSelect ops = true) (hf : Region.free md ops listed i = true) (hr : (Region.ready md ops listed).contains i = true)
    (hw : Region.wanted oi (yielded ops a.tmps) = true) (hv : ∀ w, S w → (execOp a.eval oi).run P w = .ok (.value v) w)
    (hQ : ∀ c a w, Q (.panic c) (a.put oi.dst v) w → Q (.panic c) a w) (hS : S w)
    (h : wpAnyH P md ops Q S fuel (listed.setIfInBounds i true) (a.put oi.dst v) w) : wpAnyH P md ops Q S (fuel + 1) listed a w :=
  wpAnyH_take hi hs hf hr hQ (Or.inl ⟨hw, hv⟩) hS h
/-- Number 'i' is taken first: its guard is off. -/
theorem take_off {i : Nat} {oi : Oper} {fuel : Nat} {listed : Array Bool} {a : Act} {w : World} (hi : ops[i]? = some oi)
    (hs : Region.noSelect ops = true) (hf : Region.free md ops listed i = true) (hr : (Region.ready md ops listed).contains i = true)
    (hw : Region.wanted oi (yielded ops a.tmps) = false)
    (hQ : ∀ c a w, Q (.panic c) (a.put oi.dst undef) w → Q (.panic c) a w) (hS : S w)
    (h : wpAnyH P md ops Q S fuel (listed.setIfInBounds i true) (a.put oi.dst undef) w) : wpAnyH P md ops Q S (fuel + 1) listed a w :=
  wpAnyH_take hi hs hf hr hQ (Or.inr ⟨hw, rfl⟩) hS h
end

/-- What is so of spans of a history. -/
def Ord (s : Sp) : Prop := 0 ≤ s.from_ ∧ (0 ≤ s.to → s.from_ < s.to)
theorem ahd_iff {s t : Sp} : ahd s t = true ↔ 0 ≤ s.to ∧ s.to < t.from_ := by unfold ahd; simp
theorem ahd_not {s t : Sp} : ahd s t = false ↔ ¬ (0 ≤ s.to ∧ s.to < t.from_) := by
  rw [← ahd_iff]; simp
theorem ord_self {s : Sp} (h : Ord s) : ahd s s = false := by rw [ahd_not]; rintro ⟨h1, h2⟩; have := h.2 h1; omega
theorem ord_anti {s t : Sp} (hs : Ord s) (ht : Ord t) (h : ahd s t = true) : ahd t s = false := by
  rw [ahd_iff] at h; rw [ahd_not]; rintro ⟨h1, h2⟩; have := hs.2 h.1; have := ht.2 h1; omega
theorem ord_trans {s t u : Sp} (ht : Ord t) (h : ahd s t = true) (k : ahd t u = true) : ahd s u = true := by
  rw [ahd_iff] at *; have := ht.2 k.1; exact ⟨h.1, by omega⟩
theorem ord_two {a b c d : Sp} (h : ahd a b = true) (k : ahd c d = true) (n : ahd a d = false) : ahd c b = true := by
  rw [ahd_iff] at *; rw [ahd_not] at n; exact ⟨k.1, by omega⟩

def RoundAt (W0 : World) (m : Nat) (i : Value) (W : World) : Prop := ∃ k : Nat, k ≤ m ∧ i = .int .i64 k ∧ Kept W0 W

set_option maxRecDepth 100000 in
set_option maxHeartbeats 16000000 in
theorem order_loops {w : World} {a : Option Addr} {c : Nat} {h : List Ev} (hE : Lay w (.slice a h.length c) h.length (flatE h)) (hw : ∀ e ∈ h, Wf e) (hl : h.length ≤ 40) (hv : chk h = 0) (hp : 0 < (spans h).length) :
    Calls Try.prog 7 #[.slice a h.length c] w fun e w' => e = .returned (.bool true) ∧ Kept w w' := by
  have HE := Lib.hid hE
  have C2 := Lib.hid (fun W (k : Kept w W) => calls_ok (HE.out.kept k) hw (by omega) hv)
  have sl := spans_le h
  have ORD := Lib.hid (fun (i : Nat) (s : Sp) (hs : (spans h)[i]? = some s) => (show Ord s from span_order (vd_of_chk hv) hs))
  obtain ⟨L, hL⟩ : ∃ L, L = spans h := ⟨_, rfl⟩
  rw [← hL] at C2 sl ORD hp
  clear hE hw hv hL
  go_enter Try.func7, Try.ntmps7
  go_wp2_with fail; refine (known_any _).mono ?_; rintro ed w1 ⟨rfl, k1⟩
  have K1 := Lib.hid k1
  clear k1
  go_wp2_with fail; refine (C2.out _ K1.out).mono ?_; rintro ed W0 ⟨a2, c2, rfl, k2, own2⟩
  obtain ⟨g, c3, e, hc⟩ := own_at own2 hp
  rw [e]
  have K2 := Lib.hid (K1.out.trans k2)
  have HC := Lib.hid hc
  obtain ⟨m, hm⟩ : ∃ m, m = L.length := ⟨_, rfl⟩
  have HM := Lib.hid hm
  rw [← hm] at sl ⊢
  clear k2 own2 hc e hm hp
  go_wp2
  go_loopw [6] (fun i wr => RoundAt W0 m i wr) (fun i _ => m - (intOf i).toNat)
  case atStart => exact ⟨0, Nat.zero_le _, rfl, Kept.refl _⟩
  case round =>
    obtain ⟨ia, hia, rfl, ka⟩ := hrel
    by_cases hla : ia < m
    · obtain ⟨sa, hsa⟩ : ∃ s, L[ia]? = some s := ⟨_, List.getElem?_eq_getElem (by rw [← HM.out]; exact hla)⟩
      have SA := Lib.hid (HC.out ia sa hsa)
      have OA := Lib.hid (ORD.out ia sa hsa)
      have HA := Lib.hid hsa
      have KA := Lib.hid ka
      clear hsa ka
      obtain ⟨wa, rfl⟩ : ∃ x : World, x = wr := ⟨_, rfl⟩
      go_wp2
      go_loopw [7] (fun i wr => RoundAt W0 m i wr) (fun i _ => m - (intOf i).toNat)
      case atStart => exact ⟨0, Nat.zero_le _, rfl, KA.out⟩
      case round =>
        obtain ⟨ib, hib, rfl, kb⟩ := hrel
        by_cases hlb : ib < m
        · obtain ⟨sb, hsb⟩ : ∃ s, L[ib]? = some s := ⟨_, List.getElem?_eq_getElem (by rw [← HM.out]; exact hlb)⟩
          have SB := Lib.hid (HC.out ib sb hsb)
          have OB := Lib.hid (ORD.out ib sb hsb)
          have HB := Lib.hid hsb
          clear hsb
          cases hq : ahd sa sb with
          | false =>
            have Q := Lib.hid hq
            clear hq
            have tk1 : True := trivial
            go_wp2_with fail
            go_region_held3 (fun w' => w'.cell? ⟨g, ia * 10, none⟩ = some (.int .i64 sa.id) ∧ w'.cell? ⟨g, ia * 10 + 1, none⟩ = some (.int .i64 sa.from_) ∧ w'.cell? ⟨g, ia * 10 + 2, none⟩ = some (.int .i64 sa.to) ∧ w'.cell? ⟨g, ia * 10 + 3, none⟩ = some (.int .i64 sa.k) ∧ w'.cell? ⟨g, ia * 10 + 4, none⟩ = some (.int .i64 sa.x) ∧ w'.cell? ⟨g, ia * 10 + 5, none⟩ = some (.int .i64 sa.y) ∧ w'.cell? ⟨g, ia * 10 + 6, none⟩ = some (.int .u64 sa.u) ∧ w'.cell? ⟨g, ia * 10 + 7, none⟩ = some (.int .i64 sa.er) ∧ w'.cell? ⟨g, ia * 10 + 8, none⟩ = some (.int .i64 sa.n) ∧ w'.cell? ⟨g, ia * 10 + 9, none⟩ = some (.int .u64 sa.v) ∧ w'.cell? ⟨g, ib * 10, none⟩ = some (.int .i64 sb.id) ∧ w'.cell? ⟨g, ib * 10 + 1, none⟩ = some (.int .i64 sb.from_) ∧ w'.cell? ⟨g, ib * 10 + 2, none⟩ = some (.int .i64 sb.to) ∧ w'.cell? ⟨g, ib * 10 + 3, none⟩ = some (.int .i64 sb.k) ∧ w'.cell? ⟨g, ib * 10 + 4, none⟩ = some (.int .i64 sb.x) ∧ w'.cell? ⟨g, ib * 10 + 5, none⟩ = some (.int .i64 sb.y) ∧ w'.cell? ⟨g, ib * 10 + 6, none⟩ = some (.int .u64 sb.u) ∧ w'.cell? ⟨g, ib * 10 + 7, none⟩ = some (.int .i64 sb.er) ∧ w'.cell? ⟨g, ib * 10 + 8, none⟩ = some (.int .i64 sb.n) ∧ w'.cell? ⟨g, ib * 10 + 9, none⟩ = some (.int .u64 sb.v))
              (first | exact all2 (SA.out.kept (by repeat (first | with_reducible exact J1 | with_reducible exact kb | with_reducible refine Kept.alloc ?_ _ _ | with_reducible refine Kept.drew ?_ | with_reducible refine Kept.drewN ?_ _))) (SB.out.kept (by repeat (first | with_reducible exact J1 | with_reducible exact kb | with_reducible refine Kept.alloc ?_ _ _ | with_reducible refine Kept.drew ?_ | with_reducible refine Kept.drewN ?_ _))))
              (first
                | (go_at_call 32; have _t := tk1; clear tk1; refine (ahead_at sa sb false Q.out _).mono ?_; rintro ed y1 ⟨rfl, j1⟩; have J1 : Kept W0 y1 := Kept.trans (by repeat (first | with_reducible exact kb | with_reducible refine Kept.alloc ?_ _ _ | with_reducible refine Kept.drew ?_ | with_reducible refine Kept.drewN ?_ _)) j1))
            go_wp2
            go_roundw
            case rel => exact ⟨ib + 1, by omega, by go_num, J1⟩
            case measure => simp [intOf]; omega
          | true =>
            have hne : ia ≠ ib := by
              rintro rfl
              have e : sa = sb := by have h1 := HA.out; rw [HB.out] at h1; exact (Option.some.inj h1).symm
              subst e
              rw [ord_self OA.out] at hq
              cases hq
            have bne : ((ia : Int) == (ib : Int)) = false := by simp; omega
            have bne2 : (ia == ib) = false := by simpa using hne
            have Q := Lib.hid hq
            have QB := Lib.hid (ord_anti OA.out OB.out hq)
            clear hq
            have tk1 : True := trivial
            go_wp2_with fail
            go_region_held3 (fun w' => w'.cell? ⟨g, ia * 10, none⟩ = some (.int .i64 sa.id) ∧ w'.cell? ⟨g, ia * 10 + 1, none⟩ = some (.int .i64 sa.from_) ∧ w'.cell? ⟨g, ia * 10 + 2, none⟩ = some (.int .i64 sa.to) ∧ w'.cell? ⟨g, ia * 10 + 3, none⟩ = some (.int .i64 sa.k) ∧ w'.cell? ⟨g, ia * 10 + 4, none⟩ = some (.int .i64 sa.x) ∧ w'.cell? ⟨g, ia * 10 + 5, none⟩ = some (.int .i64 sa.y) ∧ w'.cell? ⟨g, ia * 10 + 6, none⟩ = some (.int .u64 sa.u) ∧ w'.cell? ⟨g, ia * 10 + 7, none⟩ = some (.int .i64 sa.er) ∧ w'.cell? ⟨g, ia * 10 + 8, none⟩ = some (.int .i64 sa.n) ∧ w'.cell? ⟨g, ia * 10 + 9, none⟩ = some (.int .u64 sa.v) ∧ w'.cell? ⟨g, ib * 10, none⟩ = some (.int .i64 sb.id) ∧ w'.cell? ⟨g, ib * 10 + 1, none⟩ = some (.int .i64 sb.from_) ∧ w'.cell? ⟨g, ib * 10 + 2, none⟩ = some (.int .i64 sb.to) ∧ w'.cell? ⟨g, ib * 10 + 3, none⟩ = some (.int .i64 sb.k) ∧ w'.cell? ⟨g, ib * 10 + 4, none⟩ = some (.int .i64 sb.x) ∧ w'.cell? ⟨g, ib * 10 + 5, none⟩ = some (.int .i64 sb.y) ∧ w'.cell? ⟨g, ib * 10 + 6, none⟩ = some (.int .u64 sb.u) ∧ w'.cell? ⟨g, ib * 10 + 7, none⟩ = some (.int .i64 sb.er) ∧ w'.cell? ⟨g, ib * 10 + 8, none⟩ = some (.int .i64 sb.n) ∧ w'.cell? ⟨g, ib * 10 + 9, none⟩ = some (.int .u64 sb.v))
              (first | exact all2 (SA.out.kept (by repeat (first | with_reducible exact J1 | with_reducible exact kb | with_reducible refine Kept.alloc ?_ _ _ | with_reducible refine Kept.drew ?_ | with_reducible refine Kept.drewN ?_ _))) (SB.out.kept (by repeat (first | with_reducible exact J1 | with_reducible exact kb | with_reducible refine Kept.alloc ?_ _ _ | with_reducible refine Kept.drew ?_ | with_reducible refine Kept.drewN ?_ _))))
              (first
                | (go_at_call 32; have _t := tk1; clear tk1; refine (ahead_at sa sb true Q.out _).mono ?_; rintro ed y1 ⟨rfl, j1⟩; have J1 : Kept W0 y1 := Kept.trans (by repeat (first | with_reducible exact kb | with_reducible refine Kept.alloc ?_ _ _ | with_reducible refine Kept.drew ?_ | with_reducible refine Kept.drewN ?_ _)) j1))
            have kb2 := J1
            clear J1 j1
            have tk1 : True := trivial
            go_wp2_with fail
            go_region_held3 (fun w' => w'.cell? ⟨g, ia * 10, none⟩ = some (.int .i64 sa.id) ∧ w'.cell? ⟨g, ia * 10 + 1, none⟩ = some (.int .i64 sa.from_) ∧ w'.cell? ⟨g, ia * 10 + 2, none⟩ = some (.int .i64 sa.to) ∧ w'.cell? ⟨g, ia * 10 + 3, none⟩ = some (.int .i64 sa.k) ∧ w'.cell? ⟨g, ia * 10 + 4, none⟩ = some (.int .i64 sa.x) ∧ w'.cell? ⟨g, ia * 10 + 5, none⟩ = some (.int .i64 sa.y) ∧ w'.cell? ⟨g, ia * 10 + 6, none⟩ = some (.int .u64 sa.u) ∧ w'.cell? ⟨g, ia * 10 + 7, none⟩ = some (.int .i64 sa.er) ∧ w'.cell? ⟨g, ia * 10 + 8, none⟩ = some (.int .i64 sa.n) ∧ w'.cell? ⟨g, ia * 10 + 9, none⟩ = some (.int .u64 sa.v) ∧ w'.cell? ⟨g, ib * 10, none⟩ = some (.int .i64 sb.id) ∧ w'.cell? ⟨g, ib * 10 + 1, none⟩ = some (.int .i64 sb.from_) ∧ w'.cell? ⟨g, ib * 10 + 2, none⟩ = some (.int .i64 sb.to) ∧ w'.cell? ⟨g, ib * 10 + 3, none⟩ = some (.int .i64 sb.k) ∧ w'.cell? ⟨g, ib * 10 + 4, none⟩ = some (.int .i64 sb.x) ∧ w'.cell? ⟨g, ib * 10 + 5, none⟩ = some (.int .i64 sb.y) ∧ w'.cell? ⟨g, ib * 10 + 6, none⟩ = some (.int .u64 sb.u) ∧ w'.cell? ⟨g, ib * 10 + 7, none⟩ = some (.int .i64 sb.er) ∧ w'.cell? ⟨g, ib * 10 + 8, none⟩ = some (.int .i64 sb.n) ∧ w'.cell? ⟨g, ib * 10 + 9, none⟩ = some (.int .u64 sb.v))
              (first | exact all2 (SA.out.kept (by repeat (first | with_reducible exact J1 | with_reducible exact kb2 | with_reducible refine Kept.alloc ?_ _ _ | with_reducible refine Kept.drew ?_ | with_reducible refine Kept.drewN ?_ _))) (SB.out.kept (by repeat (first | with_reducible exact J1 | with_reducible exact kb2 | with_reducible refine Kept.alloc ?_ _ _ | with_reducible refine Kept.drew ?_ | with_reducible refine Kept.drewN ?_ _))))
              (first
                | (go_at_call 32; have _t := tk1; clear tk1; refine (ahead_at sb sa false QB.out _).mono ?_; rintro ed y1 ⟨rfl, j1⟩; have J1 : Kept W0 y1 := Kept.trans (by repeat (first | with_reducible exact kb2 | with_reducible refine Kept.alloc ?_ _ _ | with_reducible refine Kept.drew ?_ | with_reducible refine Kept.drewN ?_ _)) j1))
            have KB := Lib.hid J1
            clear J1 j1 kb2 kb
            go_wp2
            go_loopw [8] (fun i wr => RoundAt W0 m i wr) (fun i _ => m - (intOf i).toNat)
            case atStart => exact ⟨0, Nat.zero_le _, rfl, KB.out⟩
            case round =>
              obtain ⟨ic, hic, rfl, kc⟩ := hrel
              by_cases hlc : ic < m
              · obtain ⟨sc, hsc⟩ : ∃ s, L[ic]? = some s := ⟨_, List.getElem?_eq_getElem (by rw [← HM.out]; exact hlc)⟩
                have SC := Lib.hid (HC.out ic sc hsc)
                have OC := Lib.hid (ORD.out ic sc hsc)
                clear hsc
                cases hq2 : ahd sb sc with
                | false =>
                  have Q2 := Lib.hid hq2
                  clear hq2
                  have tk1 : True := trivial
                  go_wp2_with fail
                  refine wp_region_held_drew (S := (fun w' => w'.cell? ⟨g, ib * 10, none⟩ = some (.int .i64 sb.id) ∧ w'.cell? ⟨g, ib * 10 + 1, none⟩ = some (.int .i64 sb.from_) ∧ w'.cell? ⟨g, ib * 10 + 2, none⟩ = some (.int .i64 sb.to) ∧ w'.cell? ⟨g, ib * 10 + 3, none⟩ = some (.int .i64 sb.k) ∧ w'.cell? ⟨g, ib * 10 + 4, none⟩ = some (.int .i64 sb.x) ∧ w'.cell? ⟨g, ib * 10 + 5, none⟩ = some (.int .i64 sb.y) ∧ w'.cell? ⟨g, ib * 10 + 6, none⟩ = some (.int .u64 sb.u) ∧ w'.cell? ⟨g, ib * 10 + 7, none⟩ = some (.int .i64 sb.er) ∧ w'.cell? ⟨g, ib * 10 + 8, none⟩ = some (.int .i64 sb.n) ∧ w'.cell? ⟨g, ib * 10 + 9, none⟩ = some (.int .u64 sb.v) ∧ w'.cell? ⟨g, ic * 10, none⟩ = some (.int .i64 sc.id) ∧ w'.cell? ⟨g, ic * 10 + 1, none⟩ = some (.int .i64 sc.from_) ∧ w'.cell? ⟨g, ic * 10 + 2, none⟩ = some (.int .i64 sc.to) ∧ w'.cell? ⟨g, ic * 10 + 3, none⟩ = some (.int .i64 sc.k) ∧ w'.cell? ⟨g, ic * 10 + 4, none⟩ = some (.int .i64 sc.x) ∧ w'.cell? ⟨g, ic * 10 + 5, none⟩ = some (.int .i64 sc.y) ∧ w'.cell? ⟨g, ic * 10 + 6, none⟩ = some (.int .u64 sc.u) ∧ w'.cell? ⟨g, ic * 10 + 7, none⟩ = some (.int .i64 sc.er) ∧ w'.cell? ⟨g, ic * 10 + 8, none⟩ = some (.int .i64 sc.n) ∧ w'.cell? ⟨g, ic * 10 + 9, none⟩ = some (.int .u64 sc.v))) (by kernel_rfl) ?_ (fun hHeld => ?_)
                  · exact all2 (SB.out.kept (by repeat (first | with_reducible exact J1 | with_reducible exact kc | with_reducible refine Kept.alloc ?_ _ _ | with_reducible refine Kept.drew ?_ | with_reducible refine Kept.drewN ?_ _))) (SC.out.kept (by repeat (first | with_reducible exact J1 | with_reducible exact kc | with_reducible refine Kept.alloc ?_ _ _ | with_reducible refine Kept.drew ?_ | with_reducible refine Kept.drewN ?_ _)))
                  refine take_on (i := 0) (oi := ?_) (v := ?_) ?_ (by kernel_rfl) (by kernel_rfl) (by kernel_rfl) ?_ ?_ ?_ hHeld ?_
                  rotate_left 2
                  · simp only [List.getElem?_toArray, List.getElem?_cons_zero]; exact rfl
                  · rfl
                  · intro w hSw; (try dsimp only at hSw); go_simp <;> with_reducible rfl
                  · exact fun _ _ _ h => h
                  simp only [Act.put, List.setIfInBounds_toArray, List.set_cons_zero, List.set_cons_succ]
                  refine take_on (i := 1) (oi := ?_) (v := ?_) ?_ (by kernel_rfl) (by kernel_rfl) (by kernel_rfl) ?_ ?_ ?_ hHeld ?_
                  rotate_left 2
                  · simp only [List.getElem?_toArray, List.getElem?_cons_succ, List.getElem?_cons_zero]; exact rfl
                  · rfl
                  · intro w hSw; (try dsimp only at hSw); go_simp <;> with_reducible rfl
                  · exact fun _ _ _ h => h
                  simp only [Act.put, List.setIfInBounds_toArray, List.set_cons_zero, List.set_cons_succ]
                  refine take_on (i := 2) (oi := ?_) (v := ?_) ?_ (by kernel_rfl) (by kernel_rfl) (by kernel_rfl) ?_ ?_ ?_ hHeld ?_
                  rotate_left 2
                  · simp only [List.getElem?_toArray, List.getElem?_cons_succ, List.getElem?_cons_zero]; exact rfl
                  · rfl
                  · intro w hSw; (try dsimp only at hSw); go_simp <;> with_reducible rfl
                  · exact fun _ _ _ h => h
                  simp only [Act.put, List.setIfInBounds_toArray, List.set_cons_zero, List.set_cons_succ]
                  refine take_on (i := 3) (oi := ?_) (v := ?_) ?_ (by kernel_rfl) (by kernel_rfl) (by kernel_rfl) ?_ ?_ ?_ hHeld ?_
                  rotate_left 2
                  · simp only [List.getElem?_toArray, List.getElem?_cons_succ, List.getElem?_cons_zero]; exact rfl
                  · rfl
                  · intro w hSw; (try dsimp only at hSw); go_simp <;> with_reducible rfl
                  · exact fun _ _ _ h => h
                  simp only [Act.put, List.setIfInBounds_toArray, List.set_cons_zero, List.set_cons_succ]
                  refine take_on (i := 4) (oi := ?_) (v := ?_) ?_ (by kernel_rfl) (by kernel_rfl) (by kernel_rfl) ?_ ?_ ?_ hHeld ?_
                  rotate_left 2
                  · simp only [List.getElem?_toArray, List.getElem?_cons_succ, List.getElem?_cons_zero]; exact rfl
                  · rfl
                  · intro w hSw; (try dsimp only at hSw); go_simp <;> with_reducible rfl
                  · exact fun _ _ _ h => h
                  simp only [Act.put, List.setIfInBounds_toArray, List.set_cons_zero, List.set_cons_succ]
                  refine take_on (i := 5) (oi := ?_) (v := ?_) ?_ (by kernel_rfl) (by kernel_rfl) (by kernel_rfl) ?_ ?_ ?_ hHeld ?_
                  rotate_left 2
                  · simp only [List.getElem?_toArray, List.getElem?_cons_succ, List.getElem?_cons_zero]; exact rfl
                  · rfl
                  · intro w hSw; (try dsimp only at hSw); go_simp <;> with_reducible rfl
                  · exact fun _ _ _ h => h
                  simp only [Act.put, List.setIfInBounds_toArray, List.set_cons_zero, List.set_cons_succ]
                  refine take_on (i := 6) (oi := ?_) (v := ?_) ?_ (by kernel_rfl) (by kernel_rfl) (by kernel_rfl) ?_ ?_ ?_ hHeld ?_
                  rotate_left 2
                  · simp only [List.getElem?_toArray, List.getElem?_cons_succ, List.getElem?_cons_zero]; exact rfl
                  · rfl
                  · intro w hSw; (try dsimp only at hSw); go_simp <;> with_reducible rfl
                  · exact fun _ _ _ h => h
                  simp only [Act.put, List.setIfInBounds_toArray, List.set_cons_zero, List.set_cons_succ]
                  refine take_on (i := 7) (oi := ?_) (v := ?_) ?_ (by kernel_rfl) (by kernel_rfl) (by kernel_rfl) ?_ ?_ ?_ hHeld ?_
                  rotate_left 2
                  · simp only [List.getElem?_toArray, List.getElem?_cons_succ, List.getElem?_cons_zero]; exact rfl
                  · rfl
                  · intro w hSw; (try dsimp only at hSw); go_simp <;> with_reducible rfl
                  · exact fun _ _ _ h => h
                  simp only [Act.put, List.setIfInBounds_toArray, List.set_cons_zero, List.set_cons_succ]
                  refine wpAnyH_ready (rs := [8]) (by kernel_rfl) (by simp) ?_
                  refine AllReadyH.cons (o := ?_) ?_ ?_ AllReadyH.nil
                  rotate_left 1
                  · simp only [List.getElem?_toArray, List.getElem?_cons_succ, List.getElem?_cons_zero]; exact rfl
                  intro K hK
                  go_simp
                  go_at_call 32; have _t := tk1; clear tk1; refine (ahead_at sb sc false Q2.out _).mono ?_; rintro ed y1 ⟨rfl, j1⟩; have J1 : Kept W0 y1 := Kept.trans (by repeat (first | with_reducible exact kc | with_reducible refine Kept.alloc ?_ _ _ | with_reducible refine Kept.drew ?_ | with_reducible refine Kept.drewN ?_ _)) j1
                  go_wp2_with fail
                  clear hHeld
                  refine hK.out _ _ ?_ (fun hHeld => ?_)
                  · exact all2 (SB.out.kept (by repeat (first | with_reducible exact J1 | with_reducible exact kc | with_reducible refine Kept.alloc ?_ _ _ | with_reducible refine Kept.drew ?_ | with_reducible refine Kept.drewN ?_ _))) (SC.out.kept (by repeat (first | with_reducible exact J1 | with_reducible exact kc | with_reducible refine Kept.alloc ?_ _ _ | with_reducible refine Kept.drew ?_ | with_reducible refine Kept.drewN ?_ _)))
                  clear hK K
                  try simp only [Act.put, List.setIfInBounds_toArray, List.set_cons_zero, List.set_cons_succ]
                  refine take_on (i := 9) (oi := ?_) (v := ?_) ?_ (by kernel_rfl) (by kernel_rfl) (by kernel_rfl) ?_ ?_ ?_ hHeld ?_
                  rotate_left 2
                  · simp only [List.getElem?_toArray, List.getElem?_cons_succ, List.getElem?_cons_zero]; exact rfl
                  · rfl
                  · intro w hSw; (try dsimp only at hSw); go_simp <;> with_reducible rfl
                  · exact fun _ _ _ h => h
                  simp only [Act.put, List.setIfInBounds_toArray, List.set_cons_zero, List.set_cons_succ]
                  refine take_off (i := 10) (oi := ?_) ?_ (by kernel_rfl) (by kernel_rfl) (by kernel_rfl) ?_ ?_ hHeld ?_
                  rotate_left 1
                  · simp only [List.getElem?_toArray, List.getElem?_cons_succ, List.getElem?_cons_zero]; exact rfl
                  · rfl
                  · exact fun _ _ _ h => h
                  simp only [Act.put, List.setIfInBounds_toArray, List.set_cons_zero, List.set_cons_succ]
                  refine take_off (i := 11) (oi := ?_) ?_ (by kernel_rfl) (by kernel_rfl) (by kernel_rfl) ?_ ?_ hHeld ?_
                  rotate_left 1
                  · simp only [List.getElem?_toArray, List.getElem?_cons_succ, List.getElem?_cons_zero]; exact rfl
                  · rfl
                  · exact fun _ _ _ h => h
                  simp only [Act.put, List.setIfInBounds_toArray, List.set_cons_zero, List.set_cons_succ]
                  refine take_off (i := 12) (oi := ?_) ?_ (by kernel_rfl) (by kernel_rfl) (by kernel_rfl) ?_ ?_ hHeld ?_
                  rotate_left 1
                  · simp only [List.getElem?_toArray, List.getElem?_cons_succ, List.getElem?_cons_zero]; exact rfl
                  · rfl
                  · exact fun _ _ _ h => h
                  simp only [Act.put, List.setIfInBounds_toArray, List.set_cons_zero, List.set_cons_succ]
                  refine take_off (i := 13) (oi := ?_) ?_ (by kernel_rfl) (by kernel_rfl) (by kernel_rfl) ?_ ?_ hHeld ?_
                  rotate_left 1
                  · simp only [List.getElem?_toArray, List.getElem?_cons_succ, List.getElem?_cons_zero]; exact rfl
                  · rfl
                  · exact fun _ _ _ h => h
                  simp only [Act.put, List.setIfInBounds_toArray, List.set_cons_zero, List.set_cons_succ]
                  refine take_off (i := 14) (oi := ?_) ?_ (by kernel_rfl) (by kernel_rfl) (by kernel_rfl) ?_ ?_ hHeld ?_
                  rotate_left 1
                  · simp only [List.getElem?_toArray, List.getElem?_cons_succ, List.getElem?_cons_zero]; exact rfl
                  · rfl
                  · exact fun _ _ _ h => h
                  simp only [Act.put, List.setIfInBounds_toArray, List.set_cons_zero, List.set_cons_succ]
                  refine take_off (i := 15) (oi := ?_) ?_ (by kernel_rfl) (by kernel_rfl) (by kernel_rfl) ?_ ?_ hHeld ?_
                  rotate_left 1
                  · simp only [List.getElem?_toArray, List.getElem?_cons_succ, List.getElem?_cons_zero]; exact rfl
                  · rfl
                  · exact fun _ _ _ h => h
                  simp only [Act.put, List.setIfInBounds_toArray, List.set_cons_zero, List.set_cons_succ]
                  refine take_off (i := 16) (oi := ?_) ?_ (by kernel_rfl) (by kernel_rfl) (by kernel_rfl) ?_ ?_ hHeld ?_
                  rotate_left 1
                  · simp only [List.getElem?_toArray, List.getElem?_cons_succ, List.getElem?_cons_zero]; exact rfl
                  · rfl
                  · exact fun _ _ _ h => h
                  simp only [Act.put, List.setIfInBounds_toArray, List.set_cons_zero, List.set_cons_succ]
                  refine take_off (i := 17) (oi := ?_) ?_ (by kernel_rfl) (by kernel_rfl) (by kernel_rfl) ?_ ?_ hHeld ?_
                  rotate_left 1
                  · simp only [List.getElem?_toArray, List.getElem?_cons_succ, List.getElem?_cons_zero]; exact rfl
                  · rfl
                  · exact fun _ _ _ h => h
                  simp only [Act.put, List.setIfInBounds_toArray, List.set_cons_zero, List.set_cons_succ]
                  refine take_off (i := 18) (oi := ?_) ?_ (by kernel_rfl) (by kernel_rfl) (by kernel_rfl) ?_ ?_ hHeld ?_
                  rotate_left 1
                  · simp only [List.getElem?_toArray, List.getElem?_cons_succ, List.getElem?_cons_zero]; exact rfl
                  · rfl
                  · exact fun _ _ _ h => h
                  simp only [Act.put, List.setIfInBounds_toArray, List.set_cons_zero, List.set_cons_succ]
                  refine take_off (i := 19) (oi := ?_) ?_ (by kernel_rfl) (by kernel_rfl) (by kernel_rfl) ?_ ?_ hHeld ?_
                  rotate_left 1
                  · simp only [List.getElem?_toArray, List.getElem?_cons_succ, List.getElem?_cons_zero]; exact rfl
                  · rfl
                  · exact fun _ _ _ h => h
                  simp only [Act.put, List.setIfInBounds_toArray, List.set_cons_zero, List.set_cons_succ]
                  refine take_on (i := 20) (oi := ?_) (v := ?_) ?_ (by kernel_rfl) (by kernel_rfl) (by kernel_rfl) ?_ ?_ ?_ hHeld ?_
                  rotate_left 2
                  · simp only [List.getElem?_toArray, List.getElem?_cons_succ, List.getElem?_cons_zero]; exact rfl
                  · rfl
                  · intro w hSw; (try dsimp only at hSw); go_simp <;> with_reducible rfl
                  · exact fun _ _ _ h => h
                  simp only [Act.put, List.setIfInBounds_toArray, List.set_cons_zero, List.set_cons_succ]
                  refine wpAnyH_done (by kernel_rfl) ?_ _
                  have KC := Lib.hid J1
                  clear J1 j1 kc
                  go_wp2
                  go_loopw [9] (fun i wr => RoundAt W0 m i wr) (fun i _ => m - (intOf i).toNat)
                  case atStart => exact ⟨0, Nat.zero_le _, rfl, KC.out⟩
                  case round =>
                    obtain ⟨id, hid, rfl, kd⟩ := hrel
                    by_cases hld : id < m
                    · obtain ⟨sd, hsd⟩ : ∃ s, L[id]? = some s := ⟨_, List.getElem?_eq_getElem (by rw [← HM.out]; exact hld)⟩
                      have SD := Lib.hid (HC.out id sd hsd)
                      have OD := Lib.hid (ORD.out id sd hsd)
                      clear hsd
                      cases hq3 : ahd sc sd with
                      | false =>
                        have Q3 := Lib.hid hq3
                        clear hq3
                        have tk1 : True := trivial
                        go_wp2_with fail
                        refine wp_region_held_drew (S := (fun w' => w'.cell? ⟨g, ic * 10, none⟩ = some (.int .i64 sc.id) ∧ w'.cell? ⟨g, ic * 10 + 1, none⟩ = some (.int .i64 sc.from_) ∧ w'.cell? ⟨g, ic * 10 + 2, none⟩ = some (.int .i64 sc.to) ∧ w'.cell? ⟨g, ic * 10 + 3, none⟩ = some (.int .i64 sc.k) ∧ w'.cell? ⟨g, ic * 10 + 4, none⟩ = some (.int .i64 sc.x) ∧ w'.cell? ⟨g, ic * 10 + 5, none⟩ = some (.int .i64 sc.y) ∧ w'.cell? ⟨g, ic * 10 + 6, none⟩ = some (.int .u64 sc.u) ∧ w'.cell? ⟨g, ic * 10 + 7, none⟩ = some (.int .i64 sc.er) ∧ w'.cell? ⟨g, ic * 10 + 8, none⟩ = some (.int .i64 sc.n) ∧ w'.cell? ⟨g, ic * 10 + 9, none⟩ = some (.int .u64 sc.v) ∧ w'.cell? ⟨g, id * 10, none⟩ = some (.int .i64 sd.id) ∧ w'.cell? ⟨g, id * 10 + 1, none⟩ = some (.int .i64 sd.from_) ∧ w'.cell? ⟨g, id * 10 + 2, none⟩ = some (.int .i64 sd.to) ∧ w'.cell? ⟨g, id * 10 + 3, none⟩ = some (.int .i64 sd.k) ∧ w'.cell? ⟨g, id * 10 + 4, none⟩ = some (.int .i64 sd.x) ∧ w'.cell? ⟨g, id * 10 + 5, none⟩ = some (.int .i64 sd.y) ∧ w'.cell? ⟨g, id * 10 + 6, none⟩ = some (.int .u64 sd.u) ∧ w'.cell? ⟨g, id * 10 + 7, none⟩ = some (.int .i64 sd.er) ∧ w'.cell? ⟨g, id * 10 + 8, none⟩ = some (.int .i64 sd.n) ∧ w'.cell? ⟨g, id * 10 + 9, none⟩ = some (.int .u64 sd.v))) (by kernel_rfl) ?_ (fun hHeld => ?_)
                        · exact all2 (SC.out.kept (by repeat (first | with_reducible exact J1 | with_reducible exact kd | with_reducible refine Kept.alloc ?_ _ _ | with_reducible refine Kept.drew ?_ | with_reducible refine Kept.drewN ?_ _))) (SD.out.kept (by repeat (first | with_reducible exact J1 | with_reducible exact kd | with_reducible refine Kept.alloc ?_ _ _ | with_reducible refine Kept.drew ?_ | with_reducible refine Kept.drewN ?_ _)))
                        refine take_on (i := 0) (oi := ?_) (v := ?_) ?_ (by kernel_rfl) (by kernel_rfl) (by kernel_rfl) ?_ ?_ ?_ hHeld ?_
                        rotate_left 2
                        · simp only [List.getElem?_toArray, List.getElem?_cons_zero]; exact rfl
                        · rfl
                        · intro w hSw; (try dsimp only at hSw); go_simp <;> with_reducible rfl
                        · exact fun _ _ _ h => h
                        simp only [Act.put, List.setIfInBounds_toArray, List.set_cons_zero, List.set_cons_succ]
                        refine take_on (i := 1) (oi := ?_) (v := ?_) ?_ (by kernel_rfl) (by kernel_rfl) (by kernel_rfl) ?_ ?_ ?_ hHeld ?_
                        rotate_left 2
                        · simp only [List.getElem?_toArray, List.getElem?_cons_succ, List.getElem?_cons_zero]; exact rfl
                        · rfl
                        · intro w hSw; (try dsimp only at hSw); go_simp <;> with_reducible rfl
                        · exact fun _ _ _ h => h
                        simp only [Act.put, List.setIfInBounds_toArray, List.set_cons_zero, List.set_cons_succ]
                        refine take_on (i := 2) (oi := ?_) (v := ?_) ?_ (by kernel_rfl) (by kernel_rfl) (by kernel_rfl) ?_ ?_ ?_ hHeld ?_
                        rotate_left 2
                        · simp only [List.getElem?_toArray, List.getElem?_cons_succ, List.getElem?_cons_zero]; exact rfl
                        · rfl
                        · intro w hSw; (try dsimp only at hSw); go_simp <;> with_reducible rfl
                        · exact fun _ _ _ h => h
                        simp only [Act.put, List.setIfInBounds_toArray, List.set_cons_zero, List.set_cons_succ]
                        refine take_on (i := 3) (oi := ?_) (v := ?_) ?_ (by kernel_rfl) (by kernel_rfl) (by kernel_rfl) ?_ ?_ ?_ hHeld ?_
                        rotate_left 2
                        · simp only [List.getElem?_toArray, List.getElem?_cons_succ, List.getElem?_cons_zero]; exact rfl
                        · rfl
                        · intro w hSw; (try dsimp only at hSw); go_simp <;> with_reducible rfl
                        · exact fun _ _ _ h => h
                        simp only [Act.put, List.setIfInBounds_toArray, List.set_cons_zero, List.set_cons_succ]
                        refine take_on (i := 4) (oi := ?_) (v := ?_) ?_ (by kernel_rfl) (by kernel_rfl) (by kernel_rfl) ?_ ?_ ?_ hHeld ?_
                        rotate_left 2
                        · simp only [List.getElem?_toArray, List.getElem?_cons_succ, List.getElem?_cons_zero]; exact rfl
                        · rfl
                        · intro w hSw; (try dsimp only at hSw); go_simp <;> with_reducible rfl
                        · exact fun _ _ _ h => h
                        simp only [Act.put, List.setIfInBounds_toArray, List.set_cons_zero, List.set_cons_succ]
                        refine take_on (i := 5) (oi := ?_) (v := ?_) ?_ (by kernel_rfl) (by kernel_rfl) (by kernel_rfl) ?_ ?_ ?_ hHeld ?_
                        rotate_left 2
                        · simp only [List.getElem?_toArray, List.getElem?_cons_succ, List.getElem?_cons_zero]; exact rfl
                        · rfl
                        · intro w hSw; (try dsimp only at hSw); go_simp <;> with_reducible rfl
                        · exact fun _ _ _ h => h
                        simp only [Act.put, List.setIfInBounds_toArray, List.set_cons_zero, List.set_cons_succ]
                        refine take_on (i := 6) (oi := ?_) (v := ?_) ?_ (by kernel_rfl) (by kernel_rfl) (by kernel_rfl) ?_ ?_ ?_ hHeld ?_
                        rotate_left 2
                        · simp only [List.getElem?_toArray, List.getElem?_cons_succ, List.getElem?_cons_zero]; exact rfl
                        · rfl
                        · intro w hSw; (try dsimp only at hSw); go_simp <;> with_reducible rfl
                        · exact fun _ _ _ h => h
                        simp only [Act.put, List.setIfInBounds_toArray, List.set_cons_zero, List.set_cons_succ]
                        refine take_on (i := 7) (oi := ?_) (v := ?_) ?_ (by kernel_rfl) (by kernel_rfl) (by kernel_rfl) ?_ ?_ ?_ hHeld ?_
                        rotate_left 2
                        · simp only [List.getElem?_toArray, List.getElem?_cons_succ, List.getElem?_cons_zero]; exact rfl
                        · rfl
                        · intro w hSw; (try dsimp only at hSw); go_simp <;> with_reducible rfl
                        · exact fun _ _ _ h => h
                        simp only [Act.put, List.setIfInBounds_toArray, List.set_cons_zero, List.set_cons_succ]
                        refine wpAnyH_ready (rs := [8]) (by kernel_rfl) (by simp) ?_
                        refine AllReadyH.cons (o := ?_) ?_ ?_ AllReadyH.nil
                        rotate_left 1
                        · simp only [List.getElem?_toArray, List.getElem?_cons_succ, List.getElem?_cons_zero]; exact rfl
                        intro K hK
                        go_simp
                        go_at_call 32; have _t := tk1; clear tk1; refine (ahead_at sc sd false Q3.out _).mono ?_; rintro ed y1 ⟨rfl, j1⟩; have J1 : Kept W0 y1 := Kept.trans (by repeat (first | with_reducible exact kd | with_reducible refine Kept.alloc ?_ _ _ | with_reducible refine Kept.drew ?_ | with_reducible refine Kept.drewN ?_ _)) j1
                        go_wp2_with fail
                        clear hHeld
                        refine hK.out _ _ ?_ (fun hHeld => ?_)
                        · exact all2 (SC.out.kept (by repeat (first | with_reducible exact J1 | with_reducible exact kd | with_reducible refine Kept.alloc ?_ _ _ | with_reducible refine Kept.drew ?_ | with_reducible refine Kept.drewN ?_ _))) (SD.out.kept (by repeat (first | with_reducible exact J1 | with_reducible exact kd | with_reducible refine Kept.alloc ?_ _ _ | with_reducible refine Kept.drew ?_ | with_reducible refine Kept.drewN ?_ _)))
                        clear hK K
                        try simp only [Act.put, List.setIfInBounds_toArray, List.set_cons_zero, List.set_cons_succ]
                        refine take_on (i := 9) (oi := ?_) (v := ?_) ?_ (by kernel_rfl) (by kernel_rfl) (by kernel_rfl) ?_ ?_ ?_ hHeld ?_
                        rotate_left 2
                        · simp only [List.getElem?_toArray, List.getElem?_cons_succ, List.getElem?_cons_zero]; exact rfl
                        · rfl
                        · intro w hSw; (try dsimp only at hSw); go_simp <;> with_reducible rfl
                        · exact fun _ _ _ h => h
                        simp only [Act.put, List.setIfInBounds_toArray, List.set_cons_zero, List.set_cons_succ]
                        refine take_off (i := 10) (oi := ?_) ?_ (by kernel_rfl) (by kernel_rfl) (by kernel_rfl) ?_ ?_ hHeld ?_
                        rotate_left 1
                        · simp only [List.getElem?_toArray, List.getElem?_cons_succ, List.getElem?_cons_zero]; exact rfl
                        · rfl
                        · exact fun _ _ _ h => h
                        simp only [Act.put, List.setIfInBounds_toArray, List.set_cons_zero, List.set_cons_succ]
                        refine take_off (i := 11) (oi := ?_) ?_ (by kernel_rfl) (by kernel_rfl) (by kernel_rfl) ?_ ?_ hHeld ?_
                        rotate_left 1
                        · simp only [List.getElem?_toArray, List.getElem?_cons_succ, List.getElem?_cons_zero]; exact rfl
                        · rfl
                        · exact fun _ _ _ h => h
                        simp only [Act.put, List.setIfInBounds_toArray, List.set_cons_zero, List.set_cons_succ]
                        refine take_off (i := 12) (oi := ?_) ?_ (by kernel_rfl) (by kernel_rfl) (by kernel_rfl) ?_ ?_ hHeld ?_
                        rotate_left 1
                        · simp only [List.getElem?_toArray, List.getElem?_cons_succ, List.getElem?_cons_zero]; exact rfl
                        · rfl
                        · exact fun _ _ _ h => h
                        simp only [Act.put, List.setIfInBounds_toArray, List.set_cons_zero, List.set_cons_succ]
                        refine take_off (i := 13) (oi := ?_) ?_ (by kernel_rfl) (by kernel_rfl) (by kernel_rfl) ?_ ?_ hHeld ?_
                        rotate_left 1
                        · simp only [List.getElem?_toArray, List.getElem?_cons_succ, List.getElem?_cons_zero]; exact rfl
                        · rfl
                        · exact fun _ _ _ h => h
                        simp only [Act.put, List.setIfInBounds_toArray, List.set_cons_zero, List.set_cons_succ]
                        refine take_off (i := 14) (oi := ?_) ?_ (by kernel_rfl) (by kernel_rfl) (by kernel_rfl) ?_ ?_ hHeld ?_
                        rotate_left 1
                        · simp only [List.getElem?_toArray, List.getElem?_cons_succ, List.getElem?_cons_zero]; exact rfl
                        · rfl
                        · exact fun _ _ _ h => h
                        simp only [Act.put, List.setIfInBounds_toArray, List.set_cons_zero, List.set_cons_succ]
                        refine take_off (i := 15) (oi := ?_) ?_ (by kernel_rfl) (by kernel_rfl) (by kernel_rfl) ?_ ?_ hHeld ?_
                        rotate_left 1
                        · simp only [List.getElem?_toArray, List.getElem?_cons_succ, List.getElem?_cons_zero]; exact rfl
                        · rfl
                        · exact fun _ _ _ h => h
                        simp only [Act.put, List.setIfInBounds_toArray, List.set_cons_zero, List.set_cons_succ]
                        refine take_off (i := 16) (oi := ?_) ?_ (by kernel_rfl) (by kernel_rfl) (by kernel_rfl) ?_ ?_ hHeld ?_
                        rotate_left 1
                        · simp only [List.getElem?_toArray, List.getElem?_cons_succ, List.getElem?_cons_zero]; exact rfl
                        · rfl
                        · exact fun _ _ _ h => h
                        simp only [Act.put, List.setIfInBounds_toArray, List.set_cons_zero, List.set_cons_succ]
                        refine take_off (i := 17) (oi := ?_) ?_ (by kernel_rfl) (by kernel_rfl) (by kernel_rfl) ?_ ?_ hHeld ?_
                        rotate_left 1
                        · simp only [List.getElem?_toArray, List.getElem?_cons_succ, List.getElem?_cons_zero]; exact rfl
                        · rfl
                        · exact fun _ _ _ h => h
                        simp only [Act.put, List.setIfInBounds_toArray, List.set_cons_zero, List.set_cons_succ]
                        refine take_off (i := 18) (oi := ?_) ?_ (by kernel_rfl) (by kernel_rfl) (by kernel_rfl) ?_ ?_ hHeld ?_
                        rotate_left 1
                        · simp only [List.getElem?_toArray, List.getElem?_cons_succ, List.getElem?_cons_zero]; exact rfl
                        · rfl
                        · exact fun _ _ _ h => h
                        simp only [Act.put, List.setIfInBounds_toArray, List.set_cons_zero, List.set_cons_succ]
                        refine take_off (i := 19) (oi := ?_) ?_ (by kernel_rfl) (by kernel_rfl) (by kernel_rfl) ?_ ?_ hHeld ?_
                        rotate_left 1
                        · simp only [List.getElem?_toArray, List.getElem?_cons_succ, List.getElem?_cons_zero]; exact rfl
                        · rfl
                        · exact fun _ _ _ h => h
                        simp only [Act.put, List.setIfInBounds_toArray, List.set_cons_zero, List.set_cons_succ]
                        refine take_on (i := 20) (oi := ?_) (v := ?_) ?_ (by kernel_rfl) (by kernel_rfl) (by kernel_rfl) ?_ ?_ ?_ hHeld ?_
                        rotate_left 2
                        · simp only [List.getElem?_toArray, List.getElem?_cons_succ, List.getElem?_cons_zero]; exact rfl
                        · rfl
                        · intro w hSw; (try dsimp only at hSw); go_simp <;> with_reducible rfl
                        · exact fun _ _ _ h => h
                        simp only [Act.put, List.setIfInBounds_toArray, List.set_cons_zero, List.set_cons_succ]
                        refine take_on (i := 21) (oi := ?_) (v := ?_) ?_ (by kernel_rfl) (by kernel_rfl) (by kernel_rfl) ?_ ?_ ?_ hHeld ?_
                        rotate_left 2
                        · simp only [List.getElem?_toArray, List.getElem?_cons_succ, List.getElem?_cons_zero]; exact rfl
                        · rfl
                        · intro w hSw; (try dsimp only at hSw); go_simp <;> with_reducible rfl
                        · exact fun _ _ _ h => h
                        simp only [Act.put, List.setIfInBounds_toArray, List.set_cons_zero, List.set_cons_succ]
                        refine take_off (i := 22) (oi := ?_) ?_ (by kernel_rfl) (by kernel_rfl) (by kernel_rfl) ?_ ?_ hHeld ?_
                        rotate_left 1
                        · simp only [List.getElem?_toArray, List.getElem?_cons_succ, List.getElem?_cons_zero]; exact rfl
                        · rfl
                        · exact fun _ _ _ h => h
                        simp only [Act.put, List.setIfInBounds_toArray, List.set_cons_zero, List.set_cons_succ]
                        refine take_off (i := 23) (oi := ?_) ?_ (by kernel_rfl) (by kernel_rfl) (by kernel_rfl) ?_ ?_ hHeld ?_
                        rotate_left 1
                        · simp only [List.getElem?_toArray, List.getElem?_cons_succ, List.getElem?_cons_zero]; exact rfl
                        · rfl
                        · exact fun _ _ _ h => h
                        simp only [Act.put, List.setIfInBounds_toArray, List.set_cons_zero, List.set_cons_succ]
                        refine take_off (i := 24) (oi := ?_) ?_ (by kernel_rfl) (by kernel_rfl) (by kernel_rfl) ?_ ?_ hHeld ?_
                        rotate_left 1
                        · simp only [List.getElem?_toArray, List.getElem?_cons_succ, List.getElem?_cons_zero]; exact rfl
                        · rfl
                        · exact fun _ _ _ h => h
                        simp only [Act.put, List.setIfInBounds_toArray, List.set_cons_zero, List.set_cons_succ]
                        refine take_off (i := 25) (oi := ?_) ?_ (by kernel_rfl) (by kernel_rfl) (by kernel_rfl) ?_ ?_ hHeld ?_
                        rotate_left 1
                        · simp only [List.getElem?_toArray, List.getElem?_cons_succ, List.getElem?_cons_zero]; exact rfl
                        · rfl
                        · exact fun _ _ _ h => h
                        simp only [Act.put, List.setIfInBounds_toArray, List.set_cons_zero, List.set_cons_succ]
                        refine take_off (i := 26) (oi := ?_) ?_ (by kernel_rfl) (by kernel_rfl) (by kernel_rfl) ?_ ?_ hHeld ?_
                        rotate_left 1
                        · simp only [List.getElem?_toArray, List.getElem?_cons_succ, List.getElem?_cons_zero]; exact rfl
                        · rfl
                        · exact fun _ _ _ h => h
                        simp only [Act.put, List.setIfInBounds_toArray, List.set_cons_zero, List.set_cons_succ]
                        refine take_off (i := 27) (oi := ?_) ?_ (by kernel_rfl) (by kernel_rfl) (by kernel_rfl) ?_ ?_ hHeld ?_
                        rotate_left 1
                        · simp only [List.getElem?_toArray, List.getElem?_cons_succ, List.getElem?_cons_zero]; exact rfl
                        · rfl
                        · exact fun _ _ _ h => h
                        simp only [Act.put, List.setIfInBounds_toArray, List.set_cons_zero, List.set_cons_succ]
                        refine take_off (i := 28) (oi := ?_) ?_ (by kernel_rfl) (by kernel_rfl) (by kernel_rfl) ?_ ?_ hHeld ?_
                        rotate_left 1
                        · simp only [List.getElem?_toArray, List.getElem?_cons_succ, List.getElem?_cons_zero]; exact rfl
                        · rfl
                        · exact fun _ _ _ h => h
                        simp only [Act.put, List.setIfInBounds_toArray, List.set_cons_zero, List.set_cons_succ]
                        refine take_off (i := 29) (oi := ?_) ?_ (by kernel_rfl) (by kernel_rfl) (by kernel_rfl) ?_ ?_ hHeld ?_
                        rotate_left 1
                        · simp only [List.getElem?_toArray, List.getElem?_cons_succ, List.getElem?_cons_zero]; exact rfl
                        · rfl
                        · exact fun _ _ _ h => h
                        simp only [Act.put, List.setIfInBounds_toArray, List.set_cons_zero, List.set_cons_succ]
                        refine take_off (i := 30) (oi := ?_) ?_ (by kernel_rfl) (by kernel_rfl) (by kernel_rfl) ?_ ?_ hHeld ?_
                        rotate_left 1
                        · simp only [List.getElem?_toArray, List.getElem?_cons_succ, List.getElem?_cons_zero]; exact rfl
                        · rfl
                        · exact fun _ _ _ h => h
                        simp only [Act.put, List.setIfInBounds_toArray, List.set_cons_zero, List.set_cons_succ]
                        refine take_off (i := 31) (oi := ?_) ?_ (by kernel_rfl) (by kernel_rfl) (by kernel_rfl) ?_ ?_ hHeld ?_
                        rotate_left 1
                        · simp only [List.getElem?_toArray, List.getElem?_cons_succ, List.getElem?_cons_zero]; exact rfl
                        · rfl
                        · exact fun _ _ _ h => h
                        simp only [Act.put, List.setIfInBounds_toArray, List.set_cons_zero, List.set_cons_succ]
                        refine take_on (i := 32) (oi := ?_) (v := ?_) ?_ (by kernel_rfl) (by kernel_rfl) (by kernel_rfl) ?_ ?_ ?_ hHeld ?_
                        rotate_left 2
                        · simp only [List.getElem?_toArray, List.getElem?_cons_succ, List.getElem?_cons_zero]; exact rfl
                        · rfl
                        · intro w hSw; (try dsimp only at hSw); go_simp <;> with_reducible rfl
                        · exact fun _ _ _ h => h
                        simp only [Act.put, List.setIfInBounds_toArray, List.set_cons_zero, List.set_cons_succ]
                        refine wpAnyH_done (by kernel_rfl) ?_ _
                        go_wp2
                        go_roundw
                        case rel => exact ⟨id + 1, by omega, by go_num, J1⟩
                        case measure => simp [intOf]; omega
                      | true =>
                        cases hq4 : ahd sa sd with
                        | true =>
                          have Q3 := Lib.hid hq3
                          have Q4 := Lib.hid hq4
                          clear hq3 hq4
                          have tk1 : True := trivial
                          have tk2 : True := trivial
                          go_wp2_with fail
                          refine wp_region_held_drew (S := (fun w' => w'.cell? ⟨g, ic * 10, none⟩ = some (.int .i64 sc.id) ∧ w'.cell? ⟨g, ic * 10 + 1, none⟩ = some (.int .i64 sc.from_) ∧ w'.cell? ⟨g, ic * 10 + 2, none⟩ = some (.int .i64 sc.to) ∧ w'.cell? ⟨g, ic * 10 + 3, none⟩ = some (.int .i64 sc.k) ∧ w'.cell? ⟨g, ic * 10 + 4, none⟩ = some (.int .i64 sc.x) ∧ w'.cell? ⟨g, ic * 10 + 5, none⟩ = some (.int .i64 sc.y) ∧ w'.cell? ⟨g, ic * 10 + 6, none⟩ = some (.int .u64 sc.u) ∧ w'.cell? ⟨g, ic * 10 + 7, none⟩ = some (.int .i64 sc.er) ∧ w'.cell? ⟨g, ic * 10 + 8, none⟩ = some (.int .i64 sc.n) ∧ w'.cell? ⟨g, ic * 10 + 9, none⟩ = some (.int .u64 sc.v) ∧ w'.cell? ⟨g, id * 10, none⟩ = some (.int .i64 sd.id) ∧ w'.cell? ⟨g, id * 10 + 1, none⟩ = some (.int .i64 sd.from_) ∧ w'.cell? ⟨g, id * 10 + 2, none⟩ = some (.int .i64 sd.to) ∧ w'.cell? ⟨g, id * 10 + 3, none⟩ = some (.int .i64 sd.k) ∧ w'.cell? ⟨g, id * 10 + 4, none⟩ = some (.int .i64 sd.x) ∧ w'.cell? ⟨g, id * 10 + 5, none⟩ = some (.int .i64 sd.y) ∧ w'.cell? ⟨g, id * 10 + 6, none⟩ = some (.int .u64 sd.u) ∧ w'.cell? ⟨g, id * 10 + 7, none⟩ = some (.int .i64 sd.er) ∧ w'.cell? ⟨g, id * 10 + 8, none⟩ = some (.int .i64 sd.n) ∧ w'.cell? ⟨g, id * 10 + 9, none⟩ = some (.int .u64 sd.v) ∧ w'.cell? ⟨g, ia * 10, none⟩ = some (.int .i64 sa.id) ∧ w'.cell? ⟨g, ia * 10 + 1, none⟩ = some (.int .i64 sa.from_) ∧ w'.cell? ⟨g, ia * 10 + 2, none⟩ = some (.int .i64 sa.to) ∧ w'.cell? ⟨g, ia * 10 + 3, none⟩ = some (.int .i64 sa.k) ∧ w'.cell? ⟨g, ia * 10 + 4, none⟩ = some (.int .i64 sa.x) ∧ w'.cell? ⟨g, ia * 10 + 5, none⟩ = some (.int .i64 sa.y) ∧ w'.cell? ⟨g, ia * 10 + 6, none⟩ = some (.int .u64 sa.u) ∧ w'.cell? ⟨g, ia * 10 + 7, none⟩ = some (.int .i64 sa.er) ∧ w'.cell? ⟨g, ia * 10 + 8, none⟩ = some (.int .i64 sa.n) ∧ w'.cell? ⟨g, ia * 10 + 9, none⟩ = some (.int .u64 sa.v))) (by kernel_rfl) ?_ (fun hHeld => ?_)
                          · exact all3 (SC.out.kept (by repeat (first | with_reducible exact J2 | with_reducible exact J1 | with_reducible exact kd | with_reducible refine Kept.alloc ?_ _ _ | with_reducible refine Kept.drew ?_ | with_reducible refine Kept.drewN ?_ _))) (SD.out.kept (by repeat (first | with_reducible exact J2 | with_reducible exact J1 | with_reducible exact kd | with_reducible refine Kept.alloc ?_ _ _ | with_reducible refine Kept.drew ?_ | with_reducible refine Kept.drewN ?_ _))) (SA.out.kept (by repeat (first | with_reducible exact J2 | with_reducible exact J1 | with_reducible exact kd | with_reducible refine Kept.alloc ?_ _ _ | with_reducible refine Kept.drew ?_ | with_reducible refine Kept.drewN ?_ _)))
                          refine take_on (i := 0) (oi := ?_) (v := ?_) ?_ (by kernel_rfl) (by kernel_rfl) (by kernel_rfl) ?_ ?_ ?_ hHeld ?_
                          rotate_left 2
                          · simp only [List.getElem?_toArray, List.getElem?_cons_zero]; exact rfl
                          · rfl
                          · intro w hSw; (try dsimp only at hSw); go_simp <;> with_reducible rfl
                          · exact fun _ _ _ h => h
                          simp only [Act.put, List.setIfInBounds_toArray, List.set_cons_zero, List.set_cons_succ]
                          refine take_on (i := 1) (oi := ?_) (v := ?_) ?_ (by kernel_rfl) (by kernel_rfl) (by kernel_rfl) ?_ ?_ ?_ hHeld ?_
                          rotate_left 2
                          · simp only [List.getElem?_toArray, List.getElem?_cons_succ, List.getElem?_cons_zero]; exact rfl
                          · rfl
                          · intro w hSw; (try dsimp only at hSw); go_simp <;> with_reducible rfl
                          · exact fun _ _ _ h => h
                          simp only [Act.put, List.setIfInBounds_toArray, List.set_cons_zero, List.set_cons_succ]
                          refine take_on (i := 2) (oi := ?_) (v := ?_) ?_ (by kernel_rfl) (by kernel_rfl) (by kernel_rfl) ?_ ?_ ?_ hHeld ?_
                          rotate_left 2
                          · simp only [List.getElem?_toArray, List.getElem?_cons_succ, List.getElem?_cons_zero]; exact rfl
                          · rfl
                          · intro w hSw; (try dsimp only at hSw); go_simp <;> with_reducible rfl
                          · exact fun _ _ _ h => h
                          simp only [Act.put, List.setIfInBounds_toArray, List.set_cons_zero, List.set_cons_succ]
                          refine take_on (i := 3) (oi := ?_) (v := ?_) ?_ (by kernel_rfl) (by kernel_rfl) (by kernel_rfl) ?_ ?_ ?_ hHeld ?_
                          rotate_left 2
                          · simp only [List.getElem?_toArray, List.getElem?_cons_succ, List.getElem?_cons_zero]; exact rfl
                          · rfl
                          · intro w hSw; (try dsimp only at hSw); go_simp <;> with_reducible rfl
                          · exact fun _ _ _ h => h
                          simp only [Act.put, List.setIfInBounds_toArray, List.set_cons_zero, List.set_cons_succ]
                          refine take_on (i := 4) (oi := ?_) (v := ?_) ?_ (by kernel_rfl) (by kernel_rfl) (by kernel_rfl) ?_ ?_ ?_ hHeld ?_
                          rotate_left 2
                          · simp only [List.getElem?_toArray, List.getElem?_cons_succ, List.getElem?_cons_zero]; exact rfl
                          · rfl
                          · intro w hSw; (try dsimp only at hSw); go_simp <;> with_reducible rfl
                          · exact fun _ _ _ h => h
                          simp only [Act.put, List.setIfInBounds_toArray, List.set_cons_zero, List.set_cons_succ]
                          refine take_on (i := 5) (oi := ?_) (v := ?_) ?_ (by kernel_rfl) (by kernel_rfl) (by kernel_rfl) ?_ ?_ ?_ hHeld ?_
                          rotate_left 2
                          · simp only [List.getElem?_toArray, List.getElem?_cons_succ, List.getElem?_cons_zero]; exact rfl
                          · rfl
                          · intro w hSw; (try dsimp only at hSw); go_simp <;> with_reducible rfl
                          · exact fun _ _ _ h => h
                          simp only [Act.put, List.setIfInBounds_toArray, List.set_cons_zero, List.set_cons_succ]
                          refine take_on (i := 6) (oi := ?_) (v := ?_) ?_ (by kernel_rfl) (by kernel_rfl) (by kernel_rfl) ?_ ?_ ?_ hHeld ?_
                          rotate_left 2
                          · simp only [List.getElem?_toArray, List.getElem?_cons_succ, List.getElem?_cons_zero]; exact rfl
                          · rfl
                          · intro w hSw; (try dsimp only at hSw); go_simp <;> with_reducible rfl
                          · exact fun _ _ _ h => h
                          simp only [Act.put, List.setIfInBounds_toArray, List.set_cons_zero, List.set_cons_succ]
                          refine take_on (i := 7) (oi := ?_) (v := ?_) ?_ (by kernel_rfl) (by kernel_rfl) (by kernel_rfl) ?_ ?_ ?_ hHeld ?_
                          rotate_left 2
                          · simp only [List.getElem?_toArray, List.getElem?_cons_succ, List.getElem?_cons_zero]; exact rfl
                          · rfl
                          · intro w hSw; (try dsimp only at hSw); go_simp <;> with_reducible rfl
                          · exact fun _ _ _ h => h
                          simp only [Act.put, List.setIfInBounds_toArray, List.set_cons_zero, List.set_cons_succ]
                          refine wpAnyH_ready (rs := [8]) (by kernel_rfl) (by simp) ?_
                          refine AllReadyH.cons (o := ?_) ?_ ?_ AllReadyH.nil
                          rotate_left 1
                          · simp only [List.getElem?_toArray, List.getElem?_cons_succ, List.getElem?_cons_zero]; exact rfl
                          intro K hK
                          go_simp
                          go_at_call 32; have _t := tk1; clear tk1; refine (ahead_at sc sd true Q3.out _).mono ?_; rintro ed y1 ⟨rfl, j1⟩; have J1 : Kept W0 y1 := Kept.trans (by repeat (first | with_reducible exact kd | with_reducible refine Kept.alloc ?_ _ _ | with_reducible refine Kept.drew ?_ | with_reducible refine Kept.drewN ?_ _)) j1
                          go_wp2_with fail
                          clear hHeld
                          refine hK.out _ _ ?_ (fun hHeld => ?_)
                          · exact all3 (SC.out.kept (by repeat (first | with_reducible exact J2 | with_reducible exact J1 | with_reducible exact kd | with_reducible refine Kept.alloc ?_ _ _ | with_reducible refine Kept.drew ?_ | with_reducible refine Kept.drewN ?_ _))) (SD.out.kept (by repeat (first | with_reducible exact J2 | with_reducible exact J1 | with_reducible exact kd | with_reducible refine Kept.alloc ?_ _ _ | with_reducible refine Kept.drew ?_ | with_reducible refine Kept.drewN ?_ _))) (SA.out.kept (by repeat (first | with_reducible exact J2 | with_reducible exact J1 | with_reducible exact kd | with_reducible refine Kept.alloc ?_ _ _ | with_reducible refine Kept.drew ?_ | with_reducible refine Kept.drewN ?_ _)))
                          clear hK K
                          try simp only [Act.put, List.setIfInBounds_toArray, List.set_cons_zero, List.set_cons_succ]
                          refine take_on (i := 9) (oi := ?_) (v := ?_) ?_ (by kernel_rfl) (by kernel_rfl) (by kernel_rfl) ?_ ?_ ?_ hHeld ?_
                          rotate_left 2
                          · simp only [List.getElem?_toArray, List.getElem?_cons_succ, List.getElem?_cons_zero]; exact rfl
                          · rfl
                          · intro w hSw; (try dsimp only at hSw); go_simp <;> with_reducible rfl
                          · exact fun _ _ _ h => h
                          simp only [Act.put, List.setIfInBounds_toArray, List.set_cons_zero, List.set_cons_succ]
                          refine take_on (i := 10) (oi := ?_) (v := ?_) ?_ (by kernel_rfl) (by kernel_rfl) (by kernel_rfl) ?_ ?_ ?_ hHeld ?_
                          rotate_left 2
                          · simp only [List.getElem?_toArray, List.getElem?_cons_succ, List.getElem?_cons_zero]; exact rfl
                          · rfl
                          · intro w hSw; (try dsimp only at hSw); go_simp <;> with_reducible rfl
                          · exact fun _ _ _ h => h
                          simp only [Act.put, List.setIfInBounds_toArray, List.set_cons_zero, List.set_cons_succ]
                          refine take_on (i := 11) (oi := ?_) (v := ?_) ?_ (by kernel_rfl) (by kernel_rfl) (by kernel_rfl) ?_ ?_ ?_ hHeld ?_
                          rotate_left 2
                          · simp only [List.getElem?_toArray, List.getElem?_cons_succ, List.getElem?_cons_zero]; exact rfl
                          · rfl
                          · intro w hSw; (try dsimp only at hSw); go_simp <;> with_reducible rfl
                          · exact fun _ _ _ h => h
                          simp only [Act.put, List.setIfInBounds_toArray, List.set_cons_zero, List.set_cons_succ]
                          refine take_on (i := 12) (oi := ?_) (v := ?_) ?_ (by kernel_rfl) (by kernel_rfl) (by kernel_rfl) ?_ ?_ ?_ hHeld ?_
                          rotate_left 2
                          · simp only [List.getElem?_toArray, List.getElem?_cons_succ, List.getElem?_cons_zero]; exact rfl
                          · rfl
                          · intro w hSw; (try dsimp only at hSw); go_simp <;> with_reducible rfl
                          · exact fun _ _ _ h => h
                          simp only [Act.put, List.setIfInBounds_toArray, List.set_cons_zero, List.set_cons_succ]
                          refine take_on (i := 13) (oi := ?_) (v := ?_) ?_ (by kernel_rfl) (by kernel_rfl) (by kernel_rfl) ?_ ?_ ?_ hHeld ?_
                          rotate_left 2
                          · simp only [List.getElem?_toArray, List.getElem?_cons_succ, List.getElem?_cons_zero]; exact rfl
                          · rfl
                          · intro w hSw; (try dsimp only at hSw); go_simp <;> with_reducible rfl
                          · exact fun _ _ _ h => h
                          simp only [Act.put, List.setIfInBounds_toArray, List.set_cons_zero, List.set_cons_succ]
                          refine take_on (i := 14) (oi := ?_) (v := ?_) ?_ (by kernel_rfl) (by kernel_rfl) (by kernel_rfl) ?_ ?_ ?_ hHeld ?_
                          rotate_left 2
                          · simp only [List.getElem?_toArray, List.getElem?_cons_succ, List.getElem?_cons_zero]; exact rfl
                          · rfl
                          · intro w hSw; (try dsimp only at hSw); go_simp <;> with_reducible rfl
                          · exact fun _ _ _ h => h
                          simp only [Act.put, List.setIfInBounds_toArray, List.set_cons_zero, List.set_cons_succ]
                          refine take_on (i := 15) (oi := ?_) (v := ?_) ?_ (by kernel_rfl) (by kernel_rfl) (by kernel_rfl) ?_ ?_ ?_ hHeld ?_
                          rotate_left 2
                          · simp only [List.getElem?_toArray, List.getElem?_cons_succ, List.getElem?_cons_zero]; exact rfl
                          · rfl
                          · intro w hSw; (try dsimp only at hSw); go_simp <;> with_reducible rfl
                          · exact fun _ _ _ h => h
                          simp only [Act.put, List.setIfInBounds_toArray, List.set_cons_zero, List.set_cons_succ]
                          refine take_on (i := 16) (oi := ?_) (v := ?_) ?_ (by kernel_rfl) (by kernel_rfl) (by kernel_rfl) ?_ ?_ ?_ hHeld ?_
                          rotate_left 2
                          · simp only [List.getElem?_toArray, List.getElem?_cons_succ, List.getElem?_cons_zero]; exact rfl
                          · rfl
                          · intro w hSw; (try dsimp only at hSw); go_simp <;> with_reducible rfl
                          · exact fun _ _ _ h => h
                          simp only [Act.put, List.setIfInBounds_toArray, List.set_cons_zero, List.set_cons_succ]
                          refine take_on (i := 17) (oi := ?_) (v := ?_) ?_ (by kernel_rfl) (by kernel_rfl) (by kernel_rfl) ?_ ?_ ?_ hHeld ?_
                          rotate_left 2
                          · simp only [List.getElem?_toArray, List.getElem?_cons_succ, List.getElem?_cons_zero]; exact rfl
                          · rfl
                          · intro w hSw; (try dsimp only at hSw); go_simp <;> with_reducible rfl
                          · exact fun _ _ _ h => h
                          simp only [Act.put, List.setIfInBounds_toArray, List.set_cons_zero, List.set_cons_succ]
                          refine wpAnyH_ready (rs := [18]) (by kernel_rfl) (by simp) ?_
                          refine AllReadyH.cons (o := ?_) ?_ ?_ AllReadyH.nil
                          rotate_left 1
                          · simp only [List.getElem?_toArray, List.getElem?_cons_succ, List.getElem?_cons_zero]; exact rfl
                          intro K hK
                          go_simp
                          go_at_call 32; have _t := tk2; clear tk2; refine (ahead_at sa sd true Q4.out _).mono ?_; rintro ed y2 ⟨rfl, j2⟩; have J2 : Kept W0 y2 := Kept.trans (by repeat (first | with_reducible exact J1 | with_reducible exact kd | with_reducible refine Kept.alloc ?_ _ _ | with_reducible refine Kept.drew ?_ | with_reducible refine Kept.drewN ?_ _)) j2
                          go_wp2_with fail
                          clear hHeld
                          refine hK.out _ _ ?_ (fun hHeld => ?_)
                          · exact all3 (SC.out.kept (by repeat (first | with_reducible exact J2 | with_reducible exact J1 | with_reducible exact kd | with_reducible refine Kept.alloc ?_ _ _ | with_reducible refine Kept.drew ?_ | with_reducible refine Kept.drewN ?_ _))) (SD.out.kept (by repeat (first | with_reducible exact J2 | with_reducible exact J1 | with_reducible exact kd | with_reducible refine Kept.alloc ?_ _ _ | with_reducible refine Kept.drew ?_ | with_reducible refine Kept.drewN ?_ _))) (SA.out.kept (by repeat (first | with_reducible exact J2 | with_reducible exact J1 | with_reducible exact kd | with_reducible refine Kept.alloc ?_ _ _ | with_reducible refine Kept.drew ?_ | with_reducible refine Kept.drewN ?_ _)))
                          clear hK K
                          try simp only [Act.put, List.setIfInBounds_toArray, List.set_cons_zero, List.set_cons_succ]
                          refine take_on (i := 19) (oi := ?_) (v := ?_) ?_ (by kernel_rfl) (by kernel_rfl) (by kernel_rfl) ?_ ?_ ?_ hHeld ?_
                          rotate_left 2
                          · simp only [List.getElem?_toArray, List.getElem?_cons_succ, List.getElem?_cons_zero]; exact rfl
                          · rfl
                          · intro w hSw; (try dsimp only at hSw); go_simp <;> with_reducible rfl
                          · exact fun _ _ _ h => h
                          simp only [Act.put, List.setIfInBounds_toArray, List.set_cons_zero, List.set_cons_succ]
                          refine take_on (i := 20) (oi := ?_) (v := ?_) ?_ (by kernel_rfl) (by kernel_rfl) (by kernel_rfl) ?_ ?_ ?_ hHeld ?_
                          rotate_left 2
                          · simp only [List.getElem?_toArray, List.getElem?_cons_succ, List.getElem?_cons_zero]; exact rfl
                          · rfl
                          · intro w hSw; (try dsimp only at hSw); go_simp <;> with_reducible rfl
                          · exact fun _ _ _ h => h
                          simp only [Act.put, List.setIfInBounds_toArray, List.set_cons_zero, List.set_cons_succ]
                          refine take_on (i := 21) (oi := ?_) (v := ?_) ?_ (by kernel_rfl) (by kernel_rfl) (by kernel_rfl) ?_ ?_ ?_ hHeld ?_
                          rotate_left 2
                          · simp only [List.getElem?_toArray, List.getElem?_cons_succ, List.getElem?_cons_zero]; exact rfl
                          · rfl
                          · intro w hSw; (try dsimp only at hSw); go_simp <;> with_reducible rfl
                          · exact fun _ _ _ h => h
                          simp only [Act.put, List.setIfInBounds_toArray, List.set_cons_zero, List.set_cons_succ]
                          refine take_off (i := 22) (oi := ?_) ?_ (by kernel_rfl) (by kernel_rfl) (by kernel_rfl) ?_ ?_ hHeld ?_
                          rotate_left 1
                          · simp only [List.getElem?_toArray, List.getElem?_cons_succ, List.getElem?_cons_zero]; exact rfl
                          · rfl
                          · exact fun _ _ _ h => h
                          simp only [Act.put, List.setIfInBounds_toArray, List.set_cons_zero, List.set_cons_succ]
                          refine take_off (i := 23) (oi := ?_) ?_ (by kernel_rfl) (by kernel_rfl) (by kernel_rfl) ?_ ?_ hHeld ?_
                          rotate_left 1
                          · simp only [List.getElem?_toArray, List.getElem?_cons_succ, List.getElem?_cons_zero]; exact rfl
                          · rfl
                          · exact fun _ _ _ h => h
                          simp only [Act.put, List.setIfInBounds_toArray, List.set_cons_zero, List.set_cons_succ]
                          refine take_off (i := 24) (oi := ?_) ?_ (by kernel_rfl) (by kernel_rfl) (by kernel_rfl) ?_ ?_ hHeld ?_
                          rotate_left 1
                          · simp only [List.getElem?_toArray, List.getElem?_cons_succ, List.getElem?_cons_zero]; exact rfl
                          · rfl
                          · exact fun _ _ _ h => h
                          simp only [Act.put, List.setIfInBounds_toArray, List.set_cons_zero, List.set_cons_succ]
                          refine take_off (i := 25) (oi := ?_) ?_ (by kernel_rfl) (by kernel_rfl) (by kernel_rfl) ?_ ?_ hHeld ?_
                          rotate_left 1
                          · simp only [List.getElem?_toArray, List.getElem?_cons_succ, List.getElem?_cons_zero]; exact rfl
                          · rfl
                          · exact fun _ _ _ h => h
                          simp only [Act.put, List.setIfInBounds_toArray, List.set_cons_zero, List.set_cons_succ]
                          refine take_off (i := 26) (oi := ?_) ?_ (by kernel_rfl) (by kernel_rfl) (by kernel_rfl) ?_ ?_ hHeld ?_
                          rotate_left 1
                          · simp only [List.getElem?_toArray, List.getElem?_cons_succ, List.getElem?_cons_zero]; exact rfl
                          · rfl
                          · exact fun _ _ _ h => h
                          simp only [Act.put, List.setIfInBounds_toArray, List.set_cons_zero, List.set_cons_succ]
                          refine take_off (i := 27) (oi := ?_) ?_ (by kernel_rfl) (by kernel_rfl) (by kernel_rfl) ?_ ?_ hHeld ?_
                          rotate_left 1
                          · simp only [List.getElem?_toArray, List.getElem?_cons_succ, List.getElem?_cons_zero]; exact rfl
                          · rfl
                          · exact fun _ _ _ h => h
                          simp only [Act.put, List.setIfInBounds_toArray, List.set_cons_zero, List.set_cons_succ]
                          refine take_off (i := 28) (oi := ?_) ?_ (by kernel_rfl) (by kernel_rfl) (by kernel_rfl) ?_ ?_ hHeld ?_
                          rotate_left 1
                          · simp only [List.getElem?_toArray, List.getElem?_cons_succ, List.getElem?_cons_zero]; exact rfl
                          · rfl
                          · exact fun _ _ _ h => h
                          simp only [Act.put, List.setIfInBounds_toArray, List.set_cons_zero, List.set_cons_succ]
                          refine take_off (i := 29) (oi := ?_) ?_ (by kernel_rfl) (by kernel_rfl) (by kernel_rfl) ?_ ?_ hHeld ?_
                          rotate_left 1
                          · simp only [List.getElem?_toArray, List.getElem?_cons_succ, List.getElem?_cons_zero]; exact rfl
                          · rfl
                          · exact fun _ _ _ h => h
                          simp only [Act.put, List.setIfInBounds_toArray, List.set_cons_zero, List.set_cons_succ]
                          refine take_off (i := 30) (oi := ?_) ?_ (by kernel_rfl) (by kernel_rfl) (by kernel_rfl) ?_ ?_ hHeld ?_
                          rotate_left 1
                          · simp only [List.getElem?_toArray, List.getElem?_cons_succ, List.getElem?_cons_zero]; exact rfl
                          · rfl
                          · exact fun _ _ _ h => h
                          simp only [Act.put, List.setIfInBounds_toArray, List.set_cons_zero, List.set_cons_succ]
                          refine take_off (i := 31) (oi := ?_) ?_ (by kernel_rfl) (by kernel_rfl) (by kernel_rfl) ?_ ?_ hHeld ?_
                          rotate_left 1
                          · simp only [List.getElem?_toArray, List.getElem?_cons_succ, List.getElem?_cons_zero]; exact rfl
                          · rfl
                          · exact fun _ _ _ h => h
                          simp only [Act.put, List.setIfInBounds_toArray, List.set_cons_zero, List.set_cons_succ]
                          refine take_on (i := 32) (oi := ?_) (v := ?_) ?_ (by kernel_rfl) (by kernel_rfl) (by kernel_rfl) ?_ ?_ ?_ hHeld ?_
                          rotate_left 2
                          · simp only [List.getElem?_toArray, List.getElem?_cons_succ, List.getElem?_cons_zero]; exact rfl
                          · rfl
                          · intro w hSw; (try dsimp only at hSw); go_simp <;> with_reducible rfl
                          · exact fun _ _ _ h => h
                          simp only [Act.put, List.setIfInBounds_toArray, List.set_cons_zero, List.set_cons_succ]
                          refine wpAnyH_done (by kernel_rfl) ?_ _
                          go_wp2
                          go_roundw
                          case rel => exact ⟨id + 1, by omega, by go_num, J2⟩
                          case measure => simp [intOf]; omega
                        | false =>
                          have Q5 := Lib.hid (ord_two Q.out hq3 hq4)
                          have Q3 := Lib.hid hq3
                          have Q4 := Lib.hid hq4
                          clear hq3 hq4
                          have tk1 : True := trivial
                          have tk2 : True := trivial
                          have tk3 : True := trivial
                          go_wp2_with fail
                          go_region_held3 (fun w' => w'.cell? ⟨g, ic * 10, none⟩ = some (.int .i64 sc.id) ∧ w'.cell? ⟨g, ic * 10 + 1, none⟩ = some (.int .i64 sc.from_) ∧ w'.cell? ⟨g, ic * 10 + 2, none⟩ = some (.int .i64 sc.to) ∧ w'.cell? ⟨g, ic * 10 + 3, none⟩ = some (.int .i64 sc.k) ∧ w'.cell? ⟨g, ic * 10 + 4, none⟩ = some (.int .i64 sc.x) ∧ w'.cell? ⟨g, ic * 10 + 5, none⟩ = some (.int .i64 sc.y) ∧ w'.cell? ⟨g, ic * 10 + 6, none⟩ = some (.int .u64 sc.u) ∧ w'.cell? ⟨g, ic * 10 + 7, none⟩ = some (.int .i64 sc.er) ∧ w'.cell? ⟨g, ic * 10 + 8, none⟩ = some (.int .i64 sc.n) ∧ w'.cell? ⟨g, ic * 10 + 9, none⟩ = some (.int .u64 sc.v) ∧ w'.cell? ⟨g, id * 10, none⟩ = some (.int .i64 sd.id) ∧ w'.cell? ⟨g, id * 10 + 1, none⟩ = some (.int .i64 sd.from_) ∧ w'.cell? ⟨g, id * 10 + 2, none⟩ = some (.int .i64 sd.to) ∧ w'.cell? ⟨g, id * 10 + 3, none⟩ = some (.int .i64 sd.k) ∧ w'.cell? ⟨g, id * 10 + 4, none⟩ = some (.int .i64 sd.x) ∧ w'.cell? ⟨g, id * 10 + 5, none⟩ = some (.int .i64 sd.y) ∧ w'.cell? ⟨g, id * 10 + 6, none⟩ = some (.int .u64 sd.u) ∧ w'.cell? ⟨g, id * 10 + 7, none⟩ = some (.int .i64 sd.er) ∧ w'.cell? ⟨g, id * 10 + 8, none⟩ = some (.int .i64 sd.n) ∧ w'.cell? ⟨g, id * 10 + 9, none⟩ = some (.int .u64 sd.v) ∧ w'.cell? ⟨g, ia * 10, none⟩ = some (.int .i64 sa.id) ∧ w'.cell? ⟨g, ia * 10 + 1, none⟩ = some (.int .i64 sa.from_) ∧ w'.cell? ⟨g, ia * 10 + 2, none⟩ = some (.int .i64 sa.to) ∧ w'.cell? ⟨g, ia * 10 + 3, none⟩ = some (.int .i64 sa.k) ∧ w'.cell? ⟨g, ia * 10 + 4, none⟩ = some (.int .i64 sa.x) ∧ w'.cell? ⟨g, ia * 10 + 5, none⟩ = some (.int .i64 sa.y) ∧ w'.cell? ⟨g, ia * 10 + 6, none⟩ = some (.int .u64 sa.u) ∧ w'.cell? ⟨g, ia * 10 + 7, none⟩ = some (.int .i64 sa.er) ∧ w'.cell? ⟨g, ia * 10 + 8, none⟩ = some (.int .i64 sa.n) ∧ w'.cell? ⟨g, ia * 10 + 9, none⟩ = some (.int .u64 sa.v) ∧ w'.cell? ⟨g, ib * 10, none⟩ = some (.int .i64 sb.id) ∧ w'.cell? ⟨g, ib * 10 + 1, none⟩ = some (.int .i64 sb.from_) ∧ w'.cell? ⟨g, ib * 10 + 2, none⟩ = some (.int .i64 sb.to) ∧ w'.cell? ⟨g, ib * 10 + 3, none⟩ = some (.int .i64 sb.k) ∧ w'.cell? ⟨g, ib * 10 + 4, none⟩ = some (.int .i64 sb.x) ∧ w'.cell? ⟨g, ib * 10 + 5, none⟩ = some (.int .i64 sb.y) ∧ w'.cell? ⟨g, ib * 10 + 6, none⟩ = some (.int .u64 sb.u) ∧ w'.cell? ⟨g, ib * 10 + 7, none⟩ = some (.int .i64 sb.er) ∧ w'.cell? ⟨g, ib * 10 + 8, none⟩ = some (.int .i64 sb.n) ∧ w'.cell? ⟨g, ib * 10 + 9, none⟩ = some (.int .u64 sb.v))
                            (first | exact all4 (SC.out.kept (by repeat (first | with_reducible exact J3 | with_reducible exact J2 | with_reducible exact J1 | with_reducible exact kd | with_reducible refine Kept.alloc ?_ _ _ | with_reducible refine Kept.drew ?_ | with_reducible refine Kept.drewN ?_ _))) (SD.out.kept (by repeat (first | with_reducible exact J3 | with_reducible exact J2 | with_reducible exact J1 | with_reducible exact kd | with_reducible refine Kept.alloc ?_ _ _ | with_reducible refine Kept.drew ?_ | with_reducible refine Kept.drewN ?_ _))) (SA.out.kept (by repeat (first | with_reducible exact J3 | with_reducible exact J2 | with_reducible exact J1 | with_reducible exact kd | with_reducible refine Kept.alloc ?_ _ _ | with_reducible refine Kept.drew ?_ | with_reducible refine Kept.drewN ?_ _))) (SB.out.kept (by repeat (first | with_reducible exact J3 | with_reducible exact J2 | with_reducible exact J1 | with_reducible exact kd | with_reducible refine Kept.alloc ?_ _ _ | with_reducible refine Kept.drew ?_ | with_reducible refine Kept.drewN ?_ _))))
                            (first
                              | (go_at_call 32; have _t := tk1; clear tk1; refine (ahead_at sc sd true Q3.out _).mono ?_; rintro ed y1 ⟨rfl, j1⟩; have J1 : Kept W0 y1 := Kept.trans (by repeat (first | with_reducible exact kd | with_reducible refine Kept.alloc ?_ _ _ | with_reducible refine Kept.drew ?_ | with_reducible refine Kept.drewN ?_ _)) j1)
                              | (go_at_call 32; have _t := tk2; clear tk2; refine (ahead_at sa sd false Q4.out _).mono ?_; rintro ed y2 ⟨rfl, j2⟩; have J2 : Kept W0 y2 := Kept.trans (by repeat (first | with_reducible exact J1 | with_reducible exact kd | with_reducible refine Kept.alloc ?_ _ _ | with_reducible refine Kept.drew ?_ | with_reducible refine Kept.drewN ?_ _)) j2)
                              | (go_at_call 32; have _t := tk3; clear tk3; refine (ahead_at sc sb true Q5.out _).mono ?_; rintro ed y3 ⟨rfl, j3⟩; have J3 : Kept W0 y3 := Kept.trans (by repeat (first | with_reducible exact J2 | with_reducible exact J1 | with_reducible exact kd | with_reducible refine Kept.alloc ?_ _ _ | with_reducible refine Kept.drew ?_ | with_reducible refine Kept.drewN ?_ _)) j3))
                          go_wp2
                          go_roundw
                          case rel => exact ⟨id + 1, by omega, by go_num, J3⟩
                          case measure => simp [intOf]; omega
                    · go_wp2
                      go_roundw
                      case rel => exact ⟨ic + 1, by omega, by go_num, kd⟩
                      case measure => simp [intOf]; omega
                | true =>
                  have QA := Lib.hid (ord_trans OB.out Q.out hq2)
                  have Q2 := Lib.hid hq2
                  clear hq2
                  have tk1 : True := trivial
                  have tk2 : True := trivial
                  go_wp2_with fail
                  go_region_held3 (fun w' => w'.cell? ⟨g, ib * 10, none⟩ = some (.int .i64 sb.id) ∧ w'.cell? ⟨g, ib * 10 + 1, none⟩ = some (.int .i64 sb.from_) ∧ w'.cell? ⟨g, ib * 10 + 2, none⟩ = some (.int .i64 sb.to) ∧ w'.cell? ⟨g, ib * 10 + 3, none⟩ = some (.int .i64 sb.k) ∧ w'.cell? ⟨g, ib * 10 + 4, none⟩ = some (.int .i64 sb.x) ∧ w'.cell? ⟨g, ib * 10 + 5, none⟩ = some (.int .i64 sb.y) ∧ w'.cell? ⟨g, ib * 10 + 6, none⟩ = some (.int .u64 sb.u) ∧ w'.cell? ⟨g, ib * 10 + 7, none⟩ = some (.int .i64 sb.er) ∧ w'.cell? ⟨g, ib * 10 + 8, none⟩ = some (.int .i64 sb.n) ∧ w'.cell? ⟨g, ib * 10 + 9, none⟩ = some (.int .u64 sb.v) ∧ w'.cell? ⟨g, ic * 10, none⟩ = some (.int .i64 sc.id) ∧ w'.cell? ⟨g, ic * 10 + 1, none⟩ = some (.int .i64 sc.from_) ∧ w'.cell? ⟨g, ic * 10 + 2, none⟩ = some (.int .i64 sc.to) ∧ w'.cell? ⟨g, ic * 10 + 3, none⟩ = some (.int .i64 sc.k) ∧ w'.cell? ⟨g, ic * 10 + 4, none⟩ = some (.int .i64 sc.x) ∧ w'.cell? ⟨g, ic * 10 + 5, none⟩ = some (.int .i64 sc.y) ∧ w'.cell? ⟨g, ic * 10 + 6, none⟩ = some (.int .u64 sc.u) ∧ w'.cell? ⟨g, ic * 10 + 7, none⟩ = some (.int .i64 sc.er) ∧ w'.cell? ⟨g, ic * 10 + 8, none⟩ = some (.int .i64 sc.n) ∧ w'.cell? ⟨g, ic * 10 + 9, none⟩ = some (.int .u64 sc.v) ∧ w'.cell? ⟨g, ia * 10, none⟩ = some (.int .i64 sa.id) ∧ w'.cell? ⟨g, ia * 10 + 1, none⟩ = some (.int .i64 sa.from_) ∧ w'.cell? ⟨g, ia * 10 + 2, none⟩ = some (.int .i64 sa.to) ∧ w'.cell? ⟨g, ia * 10 + 3, none⟩ = some (.int .i64 sa.k) ∧ w'.cell? ⟨g, ia * 10 + 4, none⟩ = some (.int .i64 sa.x) ∧ w'.cell? ⟨g, ia * 10 + 5, none⟩ = some (.int .i64 sa.y) ∧ w'.cell? ⟨g, ia * 10 + 6, none⟩ = some (.int .u64 sa.u) ∧ w'.cell? ⟨g, ia * 10 + 7, none⟩ = some (.int .i64 sa.er) ∧ w'.cell? ⟨g, ia * 10 + 8, none⟩ = some (.int .i64 sa.n) ∧ w'.cell? ⟨g, ia * 10 + 9, none⟩ = some (.int .u64 sa.v))
                    (first | exact all3 (SB.out.kept (by repeat (first | with_reducible exact J2 | with_reducible exact J1 | with_reducible exact kc | with_reducible refine Kept.alloc ?_ _ _ | with_reducible refine Kept.drew ?_ | with_reducible refine Kept.drewN ?_ _))) (SC.out.kept (by repeat (first | with_reducible exact J2 | with_reducible exact J1 | with_reducible exact kc | with_reducible refine Kept.alloc ?_ _ _ | with_reducible refine Kept.drew ?_ | with_reducible refine Kept.drewN ?_ _))) (SA.out.kept (by repeat (first | with_reducible exact J2 | with_reducible exact J1 | with_reducible exact kc | with_reducible refine Kept.alloc ?_ _ _ | with_reducible refine Kept.drew ?_ | with_reducible refine Kept.drewN ?_ _))))
                    (first
                      | (go_at_call 32; have _t := tk1; clear tk1; refine (ahead_at sb sc true Q2.out _).mono ?_; rintro ed y1 ⟨rfl, j1⟩; have J1 : Kept W0 y1 := Kept.trans (by repeat (first | with_reducible exact kc | with_reducible refine Kept.alloc ?_ _ _ | with_reducible refine Kept.drew ?_ | with_reducible refine Kept.drewN ?_ _)) j1)
                      | (go_at_call 32; have _t := tk2; clear tk2; refine (ahead_at sa sc true QA.out _).mono ?_; rintro ed y2 ⟨rfl, j2⟩; have J2 : Kept W0 y2 := Kept.trans (by repeat (first | with_reducible exact J1 | with_reducible exact kc | with_reducible refine Kept.alloc ?_ _ _ | with_reducible refine Kept.drew ?_ | with_reducible refine Kept.drewN ?_ _)) j2))
                  have KC := Lib.hid J2
                  clear J1 j1 J2 j2 kc
                  go_wp2
                  go_loopw [9] (fun i wr => RoundAt W0 m i wr) (fun i _ => m - (intOf i).toNat)
                  case atStart => exact ⟨0, Nat.zero_le _, rfl, KC.out⟩
                  case round =>
                    obtain ⟨id, hid, rfl, kd⟩ := hrel
                    by_cases hld : id < m
                    · obtain ⟨sd, hsd⟩ : ∃ s, L[id]? = some s := ⟨_, List.getElem?_eq_getElem (by rw [← HM.out]; exact hld)⟩
                      have SD := Lib.hid (HC.out id sd hsd)
                      have OD := Lib.hid (ORD.out id sd hsd)
                      clear hsd
                      cases hq3 : ahd sc sd with
                      | false =>
                        have Q3 := Lib.hid hq3
                        clear hq3
                        have tk1 : True := trivial
                        go_wp2_with fail
                        refine wp_region_held_drew (S := (fun w' => w'.cell? ⟨g, ic * 10, none⟩ = some (.int .i64 sc.id) ∧ w'.cell? ⟨g, ic * 10 + 1, none⟩ = some (.int .i64 sc.from_) ∧ w'.cell? ⟨g, ic * 10 + 2, none⟩ = some (.int .i64 sc.to) ∧ w'.cell? ⟨g, ic * 10 + 3, none⟩ = some (.int .i64 sc.k) ∧ w'.cell? ⟨g, ic * 10 + 4, none⟩ = some (.int .i64 sc.x) ∧ w'.cell? ⟨g, ic * 10 + 5, none⟩ = some (.int .i64 sc.y) ∧ w'.cell? ⟨g, ic * 10 + 6, none⟩ = some (.int .u64 sc.u) ∧ w'.cell? ⟨g, ic * 10 + 7, none⟩ = some (.int .i64 sc.er) ∧ w'.cell? ⟨g, ic * 10 + 8, none⟩ = some (.int .i64 sc.n) ∧ w'.cell? ⟨g, ic * 10 + 9, none⟩ = some (.int .u64 sc.v) ∧ w'.cell? ⟨g, id * 10, none⟩ = some (.int .i64 sd.id) ∧ w'.cell? ⟨g, id * 10 + 1, none⟩ = some (.int .i64 sd.from_) ∧ w'.cell? ⟨g, id * 10 + 2, none⟩ = some (.int .i64 sd.to) ∧ w'.cell? ⟨g, id * 10 + 3, none⟩ = some (.int .i64 sd.k) ∧ w'.cell? ⟨g, id * 10 + 4, none⟩ = some (.int .i64 sd.x) ∧ w'.cell? ⟨g, id * 10 + 5, none⟩ = some (.int .i64 sd.y) ∧ w'.cell? ⟨g, id * 10 + 6, none⟩ = some (.int .u64 sd.u) ∧ w'.cell? ⟨g, id * 10 + 7, none⟩ = some (.int .i64 sd.er) ∧ w'.cell? ⟨g, id * 10 + 8, none⟩ = some (.int .i64 sd.n) ∧ w'.cell? ⟨g, id * 10 + 9, none⟩ = some (.int .u64 sd.v))) (by kernel_rfl) ?_ (fun hHeld => ?_)
                        · exact all2 (SC.out.kept (by repeat (first | with_reducible exact J1 | with_reducible exact kd | with_reducible refine Kept.alloc ?_ _ _ | with_reducible refine Kept.drew ?_ | with_reducible refine Kept.drewN ?_ _))) (SD.out.kept (by repeat (first | with_reducible exact J1 | with_reducible exact kd | with_reducible refine Kept.alloc ?_ _ _ | with_reducible refine Kept.drew ?_ | with_reducible refine Kept.drewN ?_ _)))
                        refine take_on (i := 0) (oi := ?_) (v := ?_) ?_ (by kernel_rfl) (by kernel_rfl) (by kernel_rfl) ?_ ?_ ?_ hHeld ?_
                        rotate_left 2
                        · simp only [List.getElem?_toArray, List.getElem?_cons_zero]; exact rfl
                        · rfl
                        · intro w hSw; (try dsimp only at hSw); go_simp <;> with_reducible rfl
                        · exact fun _ _ _ h => h
                        simp only [Act.put, List.setIfInBounds_toArray, List.set_cons_zero, List.set_cons_succ]
                        refine take_on (i := 1) (oi := ?_) (v := ?_) ?_ (by kernel_rfl) (by kernel_rfl) (by kernel_rfl) ?_ ?_ ?_ hHeld ?_
                        rotate_left 2
                        · simp only [List.getElem?_toArray, List.getElem?_cons_succ, List.getElem?_cons_zero]; exact rfl
                        · rfl
                        · intro w hSw; (try dsimp only at hSw); go_simp <;> with_reducible rfl
                        · exact fun _ _ _ h => h
                        simp only [Act.put, List.setIfInBounds_toArray, List.set_cons_zero, List.set_cons_succ]
                        refine take_on (i := 2) (oi := ?_) (v := ?_) ?_ (by kernel_rfl) (by kernel_rfl) (by kernel_rfl) ?_ ?_ ?_ hHeld ?_
                        rotate_left 2
                        · simp only [List.getElem?_toArray, List.getElem?_cons_succ, List.getElem?_cons_zero]; exact rfl
                        · rfl
                        · intro w hSw; (try dsimp only at hSw); go_simp <;> with_reducible rfl
                        · exact fun _ _ _ h => h
                        simp only [Act.put, List.setIfInBounds_toArray, List.set_cons_zero, List.set_cons_succ]
                        refine take_on (i := 3) (oi := ?_) (v := ?_) ?_ (by kernel_rfl) (by kernel_rfl) (by kernel_rfl) ?_ ?_ ?_ hHeld ?_
                        rotate_left 2
                        · simp only [List.getElem?_toArray, List.getElem?_cons_succ, List.getElem?_cons_zero]; exact rfl
                        · rfl
                        · intro w hSw; (try dsimp only at hSw); go_simp <;> with_reducible rfl
                        · exact fun _ _ _ h => h
                        simp only [Act.put, List.setIfInBounds_toArray, List.set_cons_zero, List.set_cons_succ]
                        refine take_on (i := 4) (oi := ?_) (v := ?_) ?_ (by kernel_rfl) (by kernel_rfl) (by kernel_rfl) ?_ ?_ ?_ hHeld ?_
                        rotate_left 2
                        · simp only [List.getElem?_toArray, List.getElem?_cons_succ, List.getElem?_cons_zero]; exact rfl
                        · rfl
                        · intro w hSw; (try dsimp only at hSw); go_simp <;> with_reducible rfl
                        · exact fun _ _ _ h => h
                        simp only [Act.put, List.setIfInBounds_toArray, List.set_cons_zero, List.set_cons_succ]
                        refine take_on (i := 5) (oi := ?_) (v := ?_) ?_ (by kernel_rfl) (by kernel_rfl) (by kernel_rfl) ?_ ?_ ?_ hHeld ?_
                        rotate_left 2
                        · simp only [List.getElem?_toArray, List.getElem?_cons_succ, List.getElem?_cons_zero]; exact rfl
                        · rfl
                        · intro w hSw; (try dsimp only at hSw); go_simp <;> with_reducible rfl
                        · exact fun _ _ _ h => h
                        simp only [Act.put, List.setIfInBounds_toArray, List.set_cons_zero, List.set_cons_succ]
                        refine take_on (i := 6) (oi := ?_) (v := ?_) ?_ (by kernel_rfl) (by kernel_rfl) (by kernel_rfl) ?_ ?_ ?_ hHeld ?_
                        rotate_left 2
                        · simp only [List.getElem?_toArray, List.getElem?_cons_succ, List.getElem?_cons_zero]; exact rfl
                        · rfl
                        · intro w hSw; (try dsimp only at hSw); go_simp <;> with_reducible rfl
                        · exact fun _ _ _ h => h
                        simp only [Act.put, List.setIfInBounds_toArray, List.set_cons_zero, List.set_cons_succ]
                        refine take_on (i := 7) (oi := ?_) (v := ?_) ?_ (by kernel_rfl) (by kernel_rfl) (by kernel_rfl) ?_ ?_ ?_ hHeld ?_
                        rotate_left 2
                        · simp only [List.getElem?_toArray, List.getElem?_cons_succ, List.getElem?_cons_zero]; exact rfl
                        · rfl
                        · intro w hSw; (try dsimp only at hSw); go_simp <;> with_reducible rfl
                        · exact fun _ _ _ h => h
                        simp only [Act.put, List.setIfInBounds_toArray, List.set_cons_zero, List.set_cons_succ]
                        refine wpAnyH_ready (rs := [8]) (by kernel_rfl) (by simp) ?_
                        refine AllReadyH.cons (o := ?_) ?_ ?_ AllReadyH.nil
                        rotate_left 1
                        · simp only [List.getElem?_toArray, List.getElem?_cons_succ, List.getElem?_cons_zero]; exact rfl
                        intro K hK
                        go_simp
                        go_at_call 32; have _t := tk1; clear tk1; refine (ahead_at sc sd false Q3.out _).mono ?_; rintro ed y1 ⟨rfl, j1⟩; have J1 : Kept W0 y1 := Kept.trans (by repeat (first | with_reducible exact kd | with_reducible refine Kept.alloc ?_ _ _ | with_reducible refine Kept.drew ?_ | with_reducible refine Kept.drewN ?_ _)) j1
                        go_wp2_with fail
                        clear hHeld
                        refine hK.out _ _ ?_ (fun hHeld => ?_)
                        · exact all2 (SC.out.kept (by repeat (first | with_reducible exact J1 | with_reducible exact kd | with_reducible refine Kept.alloc ?_ _ _ | with_reducible refine Kept.drew ?_ | with_reducible refine Kept.drewN ?_ _))) (SD.out.kept (by repeat (first | with_reducible exact J1 | with_reducible exact kd | with_reducible refine Kept.alloc ?_ _ _ | with_reducible refine Kept.drew ?_ | with_reducible refine Kept.drewN ?_ _)))
                        clear hK K
                        try simp only [Act.put, List.setIfInBounds_toArray, List.set_cons_zero, List.set_cons_succ]
                        refine take_on (i := 9) (oi := ?_) (v := ?_) ?_ (by kernel_rfl) (by kernel_rfl) (by kernel_rfl) ?_ ?_ ?_ hHeld ?_
                        rotate_left 2
                        · simp only [List.getElem?_toArray, List.getElem?_cons_succ, List.getElem?_cons_zero]; exact rfl
                        · rfl
                        · intro w hSw; (try dsimp only at hSw); go_simp <;> with_reducible rfl
                        · exact fun _ _ _ h => h
                        simp only [Act.put, List.setIfInBounds_toArray, List.set_cons_zero, List.set_cons_succ]
                        refine take_off (i := 10) (oi := ?_) ?_ (by kernel_rfl) (by kernel_rfl) (by kernel_rfl) ?_ ?_ hHeld ?_
                        rotate_left 1
                        · simp only [List.getElem?_toArray, List.getElem?_cons_succ, List.getElem?_cons_zero]; exact rfl
                        · rfl
                        · exact fun _ _ _ h => h
                        simp only [Act.put, List.setIfInBounds_toArray, List.set_cons_zero, List.set_cons_succ]
                        refine take_off (i := 11) (oi := ?_) ?_ (by kernel_rfl) (by kernel_rfl) (by kernel_rfl) ?_ ?_ hHeld ?_
                        rotate_left 1
                        · simp only [List.getElem?_toArray, List.getElem?_cons_succ, List.getElem?_cons_zero]; exact rfl
                        · rfl
                        · exact fun _ _ _ h => h
                        simp only [Act.put, List.setIfInBounds_toArray, List.set_cons_zero, List.set_cons_succ]
                        refine take_off (i := 12) (oi := ?_) ?_ (by kernel_rfl) (by kernel_rfl) (by kernel_rfl) ?_ ?_ hHeld ?_
                        rotate_left 1
                        · simp only [List.getElem?_toArray, List.getElem?_cons_succ, List.getElem?_cons_zero]; exact rfl
                        · rfl
                        · exact fun _ _ _ h => h
                        simp only [Act.put, List.setIfInBounds_toArray, List.set_cons_zero, List.set_cons_succ]
                        refine take_off (i := 13) (oi := ?_) ?_ (by kernel_rfl) (by kernel_rfl) (by kernel_rfl) ?_ ?_ hHeld ?_
                        rotate_left 1
                        · simp only [List.getElem?_toArray, List.getElem?_cons_succ, List.getElem?_cons_zero]; exact rfl
                        · rfl
                        · exact fun _ _ _ h => h
                        simp only [Act.put, List.setIfInBounds_toArray, List.set_cons_zero, List.set_cons_succ]
                        refine take_off (i := 14) (oi := ?_) ?_ (by kernel_rfl) (by kernel_rfl) (by kernel_rfl) ?_ ?_ hHeld ?_
                        rotate_left 1
                        · simp only [List.getElem?_toArray, List.getElem?_cons_succ, List.getElem?_cons_zero]; exact rfl
                        · rfl
                        · exact fun _ _ _ h => h
                        simp only [Act.put, List.setIfInBounds_toArray, List.set_cons_zero, List.set_cons_succ]
                        refine take_off (i := 15) (oi := ?_) ?_ (by kernel_rfl) (by kernel_rfl) (by kernel_rfl) ?_ ?_ hHeld ?_
                        rotate_left 1
                        · simp only [List.getElem?_toArray, List.getElem?_cons_succ, List.getElem?_cons_zero]; exact rfl
                        · rfl
                        · exact fun _ _ _ h => h
                        simp only [Act.put, List.setIfInBounds_toArray, List.set_cons_zero, List.set_cons_succ]
                        refine take_off (i := 16) (oi := ?_) ?_ (by kernel_rfl) (by kernel_rfl) (by kernel_rfl) ?_ ?_ hHeld ?_
                        rotate_left 1
                        · simp only [List.getElem?_toArray, List.getElem?_cons_succ, List.getElem?_cons_zero]; exact rfl
                        · rfl
                        · exact fun _ _ _ h => h
                        simp only [Act.put, List.setIfInBounds_toArray, List.set_cons_zero, List.set_cons_succ]
                        refine take_off (i := 17) (oi := ?_) ?_ (by kernel_rfl) (by kernel_rfl) (by kernel_rfl) ?_ ?_ hHeld ?_
                        rotate_left 1
                        · simp only [List.getElem?_toArray, List.getElem?_cons_succ, List.getElem?_cons_zero]; exact rfl
                        · rfl
                        · exact fun _ _ _ h => h
                        simp only [Act.put, List.setIfInBounds_toArray, List.set_cons_zero, List.set_cons_succ]
                        refine take_off (i := 18) (oi := ?_) ?_ (by kernel_rfl) (by kernel_rfl) (by kernel_rfl) ?_ ?_ hHeld ?_
                        rotate_left 1
                        · simp only [List.getElem?_toArray, List.getElem?_cons_succ, List.getElem?_cons_zero]; exact rfl
                        · rfl
                        · exact fun _ _ _ h => h
                        simp only [Act.put, List.setIfInBounds_toArray, List.set_cons_zero, List.set_cons_succ]
                        refine take_off (i := 19) (oi := ?_) ?_ (by kernel_rfl) (by kernel_rfl) (by kernel_rfl) ?_ ?_ hHeld ?_
                        rotate_left 1
                        · simp only [List.getElem?_toArray, List.getElem?_cons_succ, List.getElem?_cons_zero]; exact rfl
                        · rfl
                        · exact fun _ _ _ h => h
                        simp only [Act.put, List.setIfInBounds_toArray, List.set_cons_zero, List.set_cons_succ]
                        refine take_on (i := 20) (oi := ?_) (v := ?_) ?_ (by kernel_rfl) (by kernel_rfl) (by kernel_rfl) ?_ ?_ ?_ hHeld ?_
                        rotate_left 2
                        · simp only [List.getElem?_toArray, List.getElem?_cons_succ, List.getElem?_cons_zero]; exact rfl
                        · rfl
                        · intro w hSw; (try dsimp only at hSw); go_simp <;> with_reducible rfl
                        · exact fun _ _ _ h => h
                        simp only [Act.put, List.setIfInBounds_toArray, List.set_cons_zero, List.set_cons_succ]
                        refine take_on (i := 21) (oi := ?_) (v := ?_) ?_ (by kernel_rfl) (by kernel_rfl) (by kernel_rfl) ?_ ?_ ?_ hHeld ?_
                        rotate_left 2
                        · simp only [List.getElem?_toArray, List.getElem?_cons_succ, List.getElem?_cons_zero]; exact rfl
                        · rfl
                        · intro w hSw; (try dsimp only at hSw); go_simp <;> with_reducible rfl
                        · exact fun _ _ _ h => h
                        simp only [Act.put, List.setIfInBounds_toArray, List.set_cons_zero, List.set_cons_succ]
                        refine take_off (i := 22) (oi := ?_) ?_ (by kernel_rfl) (by kernel_rfl) (by kernel_rfl) ?_ ?_ hHeld ?_
                        rotate_left 1
                        · simp only [List.getElem?_toArray, List.getElem?_cons_succ, List.getElem?_cons_zero]; exact rfl
                        · rfl
                        · exact fun _ _ _ h => h
                        simp only [Act.put, List.setIfInBounds_toArray, List.set_cons_zero, List.set_cons_succ]
                        refine take_off (i := 23) (oi := ?_) ?_ (by kernel_rfl) (by kernel_rfl) (by kernel_rfl) ?_ ?_ hHeld ?_
                        rotate_left 1
                        · simp only [List.getElem?_toArray, List.getElem?_cons_succ, List.getElem?_cons_zero]; exact rfl
                        · rfl
                        · exact fun _ _ _ h => h
                        simp only [Act.put, List.setIfInBounds_toArray, List.set_cons_zero, List.set_cons_succ]
                        refine take_off (i := 24) (oi := ?_) ?_ (by kernel_rfl) (by kernel_rfl) (by kernel_rfl) ?_ ?_ hHeld ?_
                        rotate_left 1
                        · simp only [List.getElem?_toArray, List.getElem?_cons_succ, List.getElem?_cons_zero]; exact rfl
                        · rfl
                        · exact fun _ _ _ h => h
                        simp only [Act.put, List.setIfInBounds_toArray, List.set_cons_zero, List.set_cons_succ]
                        refine take_off (i := 25) (oi := ?_) ?_ (by kernel_rfl) (by kernel_rfl) (by kernel_rfl) ?_ ?_ hHeld ?_
                        rotate_left 1
                        · simp only [List.getElem?_toArray, List.getElem?_cons_succ, List.getElem?_cons_zero]; exact rfl
                        · rfl
                        · exact fun _ _ _ h => h
                        simp only [Act.put, List.setIfInBounds_toArray, List.set_cons_zero, List.set_cons_succ]
                        refine take_off (i := 26) (oi := ?_) ?_ (by kernel_rfl) (by kernel_rfl) (by kernel_rfl) ?_ ?_ hHeld ?_
                        rotate_left 1
                        · simp only [List.getElem?_toArray, List.getElem?_cons_succ, List.getElem?_cons_zero]; exact rfl
                        · rfl
                        · exact fun _ _ _ h => h
                        simp only [Act.put, List.setIfInBounds_toArray, List.set_cons_zero, List.set_cons_succ]
                        refine take_off (i := 27) (oi := ?_) ?_ (by kernel_rfl) (by kernel_rfl) (by kernel_rfl) ?_ ?_ hHeld ?_
                        rotate_left 1
                        · simp only [List.getElem?_toArray, List.getElem?_cons_succ, List.getElem?_cons_zero]; exact rfl
                        · rfl
                        · exact fun _ _ _ h => h
                        simp only [Act.put, List.setIfInBounds_toArray, List.set_cons_zero, List.set_cons_succ]
                        refine take_off (i := 28) (oi := ?_) ?_ (by kernel_rfl) (by kernel_rfl) (by kernel_rfl) ?_ ?_ hHeld ?_
                        rotate_left 1
                        · simp only [List.getElem?_toArray, List.getElem?_cons_succ, List.getElem?_cons_zero]; exact rfl
                        · rfl
                        · exact fun _ _ _ h => h
                        simp only [Act.put, List.setIfInBounds_toArray, List.set_cons_zero, List.set_cons_succ]
                        refine take_off (i := 29) (oi := ?_) ?_ (by kernel_rfl) (by kernel_rfl) (by kernel_rfl) ?_ ?_ hHeld ?_
                        rotate_left 1
                        · simp only [List.getElem?_toArray, List.getElem?_cons_succ, List.getElem?_cons_zero]; exact rfl
                        · rfl
                        · exact fun _ _ _ h => h
                        simp only [Act.put, List.setIfInBounds_toArray, List.set_cons_zero, List.set_cons_succ]
                        refine take_off (i := 30) (oi := ?_) ?_ (by kernel_rfl) (by kernel_rfl) (by kernel_rfl) ?_ ?_ hHeld ?_
                        rotate_left 1
                        · simp only [List.getElem?_toArray, List.getElem?_cons_succ, List.getElem?_cons_zero]; exact rfl
                        · rfl
                        · exact fun _ _ _ h => h
                        simp only [Act.put, List.setIfInBounds_toArray, List.set_cons_zero, List.set_cons_succ]
                        refine take_off (i := 31) (oi := ?_) ?_ (by kernel_rfl) (by kernel_rfl) (by kernel_rfl) ?_ ?_ hHeld ?_
                        rotate_left 1
                        · simp only [List.getElem?_toArray, List.getElem?_cons_succ, List.getElem?_cons_zero]; exact rfl
                        · rfl
                        · exact fun _ _ _ h => h
                        simp only [Act.put, List.setIfInBounds_toArray, List.set_cons_zero, List.set_cons_succ]
                        refine take_on (i := 32) (oi := ?_) (v := ?_) ?_ (by kernel_rfl) (by kernel_rfl) (by kernel_rfl) ?_ ?_ ?_ hHeld ?_
                        rotate_left 2
                        · simp only [List.getElem?_toArray, List.getElem?_cons_succ, List.getElem?_cons_zero]; exact rfl
                        · rfl
                        · intro w hSw; (try dsimp only at hSw); go_simp <;> with_reducible rfl
                        · exact fun _ _ _ h => h
                        simp only [Act.put, List.setIfInBounds_toArray, List.set_cons_zero, List.set_cons_succ]
                        refine wpAnyH_done (by kernel_rfl) ?_ _
                        go_wp2
                        go_roundw
                        case rel => exact ⟨id + 1, by omega, by go_num, J1⟩
                        case measure => simp [intOf]; omega
                      | true =>
                        cases hq4 : ahd sa sd with
                        | true =>
                          have Q3 := Lib.hid hq3
                          have Q4 := Lib.hid hq4
                          clear hq3 hq4
                          have tk1 : True := trivial
                          have tk2 : True := trivial
                          go_wp2_with fail
                          refine wp_region_held_drew (S := (fun w' => w'.cell? ⟨g, ic * 10, none⟩ = some (.int .i64 sc.id) ∧ w'.cell? ⟨g, ic * 10 + 1, none⟩ = some (.int .i64 sc.from_) ∧ w'.cell? ⟨g, ic * 10 + 2, none⟩ = some (.int .i64 sc.to) ∧ w'.cell? ⟨g, ic * 10 + 3, none⟩ = some (.int .i64 sc.k) ∧ w'.cell? ⟨g, ic * 10 + 4, none⟩ = some (.int .i64 sc.x) ∧ w'.cell? ⟨g, ic * 10 + 5, none⟩ = some (.int .i64 sc.y) ∧ w'.cell? ⟨g, ic * 10 + 6, none⟩ = some (.int .u64 sc.u) ∧ w'.cell? ⟨g, ic * 10 + 7, none⟩ = some (.int .i64 sc.er) ∧ w'.cell? ⟨g, ic * 10 + 8, none⟩ = some (.int .i64 sc.n) ∧ w'.cell? ⟨g, ic * 10 + 9, none⟩ = some (.int .u64 sc.v) ∧ w'.cell? ⟨g, id * 10, none⟩ = some (.int .i64 sd.id) ∧ w'.cell? ⟨g, id * 10 + 1, none⟩ = some (.int .i64 sd.from_) ∧ w'.cell? ⟨g, id * 10 + 2, none⟩ = some (.int .i64 sd.to) ∧ w'.cell? ⟨g, id * 10 + 3, none⟩ = some (.int .i64 sd.k) ∧ w'.cell? ⟨g, id * 10 + 4, none⟩ = some (.int .i64 sd.x) ∧ w'.cell? ⟨g, id * 10 + 5, none⟩ = some (.int .i64 sd.y) ∧ w'.cell? ⟨g, id * 10 + 6, none⟩ = some (.int .u64 sd.u) ∧ w'.cell? ⟨g, id * 10 + 7, none⟩ = some (.int .i64 sd.er) ∧ w'.cell? ⟨g, id * 10 + 8, none⟩ = some (.int .i64 sd.n) ∧ w'.cell? ⟨g, id * 10 + 9, none⟩ = some (.int .u64 sd.v) ∧ w'.cell? ⟨g, ia * 10, none⟩ = some (.int .i64 sa.id) ∧ w'.cell? ⟨g, ia * 10 + 1, none⟩ = some (.int .i64 sa.from_) ∧ w'.cell? ⟨g, ia * 10 + 2, none⟩ = some (.int .i64 sa.to) ∧ w'.cell? ⟨g, ia * 10 + 3, none⟩ = some (.int .i64 sa.k) ∧ w'.cell? ⟨g, ia * 10 + 4, none⟩ = some (.int .i64 sa.x) ∧ w'.cell? ⟨g, ia * 10 + 5, none⟩ = some (.int .i64 sa.y) ∧ w'.cell? ⟨g, ia * 10 + 6, none⟩ = some (.int .u64 sa.u) ∧ w'.cell? ⟨g, ia * 10 + 7, none⟩ = some (.int .i64 sa.er) ∧ w'.cell? ⟨g, ia * 10 + 8, none⟩ = some (.int .i64 sa.n) ∧ w'.cell? ⟨g, ia * 10 + 9, none⟩ = some (.int .u64 sa.v))) (by kernel_rfl) ?_ (fun hHeld => ?_)
                          · exact all3 (SC.out.kept (by repeat (first | with_reducible exact J2 | with_reducible exact J1 | with_reducible exact kd | with_reducible refine Kept.alloc ?_ _ _ | with_reducible refine Kept.drew ?_ | with_reducible refine Kept.drewN ?_ _))) (SD.out.kept (by repeat (first | with_reducible exact J2 | with_reducible exact J1 | with_reducible exact kd | with_reducible refine Kept.alloc ?_ _ _ | with_reducible refine Kept.drew ?_ | with_reducible refine Kept.drewN ?_ _))) (SA.out.kept (by repeat (first | with_reducible exact J2 | with_reducible exact J1 | with_reducible exact kd | with_reducible refine Kept.alloc ?_ _ _ | with_reducible refine Kept.drew ?_ | with_reducible refine Kept.drewN ?_ _)))
                          refine take_on (i := 0) (oi := ?_) (v := ?_) ?_ (by kernel_rfl) (by kernel_rfl) (by kernel_rfl) ?_ ?_ ?_ hHeld ?_
                          rotate_left 2
                          · simp only [List.getElem?_toArray, List.getElem?_cons_zero]; exact rfl
                          · rfl
                          · intro w hSw; (try dsimp only at hSw); go_simp <;> with_reducible rfl
                          · exact fun _ _ _ h => h
                          simp only [Act.put, List.setIfInBounds_toArray, List.set_cons_zero, List.set_cons_succ]
                          refine take_on (i := 1) (oi := ?_) (v := ?_) ?_ (by kernel_rfl) (by kernel_rfl) (by kernel_rfl) ?_ ?_ ?_ hHeld ?_
                          rotate_left 2
                          · simp only [List.getElem?_toArray, List.getElem?_cons_succ, List.getElem?_cons_zero]; exact rfl
                          · rfl
                          · intro w hSw; (try dsimp only at hSw); go_simp <;> with_reducible rfl
                          · exact fun _ _ _ h => h
                          simp only [Act.put, List.setIfInBounds_toArray, List.set_cons_zero, List.set_cons_succ]
                          refine take_on (i := 2) (oi := ?_) (v := ?_) ?_ (by kernel_rfl) (by kernel_rfl) (by kernel_rfl) ?_ ?_ ?_ hHeld ?_
                          rotate_left 2
                          · simp only [List.getElem?_toArray, List.getElem?_cons_succ, List.getElem?_cons_zero]; exact rfl
                          · rfl
                          · intro w hSw; (try dsimp only at hSw); go_simp <;> with_reducible rfl
                          · exact fun _ _ _ h => h
                          simp only [Act.put, List.setIfInBounds_toArray, List.set_cons_zero, List.set_cons_succ]
                          refine take_on (i := 3) (oi := ?_) (v := ?_) ?_ (by kernel_rfl) (by kernel_rfl) (by kernel_rfl) ?_ ?_ ?_ hHeld ?_
                          rotate_left 2
                          · simp only [List.getElem?_toArray, List.getElem?_cons_succ, List.getElem?_cons_zero]; exact rfl
                          · rfl
                          · intro w hSw; (try dsimp only at hSw); go_simp <;> with_reducible rfl
                          · exact fun _ _ _ h => h
                          simp only [Act.put, List.setIfInBounds_toArray, List.set_cons_zero, List.set_cons_succ]
                          refine take_on (i := 4) (oi := ?_) (v := ?_) ?_ (by kernel_rfl) (by kernel_rfl) (by kernel_rfl) ?_ ?_ ?_ hHeld ?_
                          rotate_left 2
                          · simp only [List.getElem?_toArray, List.getElem?_cons_succ, List.getElem?_cons_zero]; exact rfl
                          · rfl
                          · intro w hSw; (try dsimp only at hSw); go_simp <;> with_reducible rfl
                          · exact fun _ _ _ h => h
                          simp only [Act.put, List.setIfInBounds_toArray, List.set_cons_zero, List.set_cons_succ]
                          refine take_on (i := 5) (oi := ?_) (v := ?_) ?_ (by kernel_rfl) (by kernel_rfl) (by kernel_rfl) ?_ ?_ ?_ hHeld ?_
                          rotate_left 2
                          · simp only [List.getElem?_toArray, List.getElem?_cons_succ, List.getElem?_cons_zero]; exact rfl
                          · rfl
                          · intro w hSw; (try dsimp only at hSw); go_simp <;> with_reducible rfl
                          · exact fun _ _ _ h => h
                          simp only [Act.put, List.setIfInBounds_toArray, List.set_cons_zero, List.set_cons_succ]
                          refine take_on (i := 6) (oi := ?_) (v := ?_) ?_ (by kernel_rfl) (by kernel_rfl) (by kernel_rfl) ?_ ?_ ?_ hHeld ?_
                          rotate_left 2
                          · simp only [List.getElem?_toArray, List.getElem?_cons_succ, List.getElem?_cons_zero]; exact rfl
                          · rfl
                          · intro w hSw; (try dsimp only at hSw); go_simp <;> with_reducible rfl
                          · exact fun _ _ _ h => h
                          simp only [Act.put, List.setIfInBounds_toArray, List.set_cons_zero, List.set_cons_succ]
                          refine take_on (i := 7) (oi := ?_) (v := ?_) ?_ (by kernel_rfl) (by kernel_rfl) (by kernel_rfl) ?_ ?_ ?_ hHeld ?_
                          rotate_left 2
                          · simp only [List.getElem?_toArray, List.getElem?_cons_succ, List.getElem?_cons_zero]; exact rfl
                          · rfl
                          · intro w hSw; (try dsimp only at hSw); go_simp <;> with_reducible rfl
                          · exact fun _ _ _ h => h
                          simp only [Act.put, List.setIfInBounds_toArray, List.set_cons_zero, List.set_cons_succ]
                          refine wpAnyH_ready (rs := [8]) (by kernel_rfl) (by simp) ?_
                          refine AllReadyH.cons (o := ?_) ?_ ?_ AllReadyH.nil
                          rotate_left 1
                          · simp only [List.getElem?_toArray, List.getElem?_cons_succ, List.getElem?_cons_zero]; exact rfl
                          intro K hK
                          go_simp
                          go_at_call 32; have _t := tk1; clear tk1; refine (ahead_at sc sd true Q3.out _).mono ?_; rintro ed y1 ⟨rfl, j1⟩; have J1 : Kept W0 y1 := Kept.trans (by repeat (first | with_reducible exact kd | with_reducible refine Kept.alloc ?_ _ _ | with_reducible refine Kept.drew ?_ | with_reducible refine Kept.drewN ?_ _)) j1
                          go_wp2_with fail
                          clear hHeld
                          refine hK.out _ _ ?_ (fun hHeld => ?_)
                          · exact all3 (SC.out.kept (by repeat (first | with_reducible exact J2 | with_reducible exact J1 | with_reducible exact kd | with_reducible refine Kept.alloc ?_ _ _ | with_reducible refine Kept.drew ?_ | with_reducible refine Kept.drewN ?_ _))) (SD.out.kept (by repeat (first | with_reducible exact J2 | with_reducible exact J1 | with_reducible exact kd | with_reducible refine Kept.alloc ?_ _ _ | with_reducible refine Kept.drew ?_ | with_reducible refine Kept.drewN ?_ _))) (SA.out.kept (by repeat (first | with_reducible exact J2 | with_reducible exact J1 | with_reducible exact kd | with_reducible refine Kept.alloc ?_ _ _ | with_reducible refine Kept.drew ?_ | with_reducible refine Kept.drewN ?_ _)))
                          clear hK K
                          try simp only [Act.put, List.setIfInBounds_toArray, List.set_cons_zero, List.set_cons_succ]
                          refine take_on (i := 9) (oi := ?_) (v := ?_) ?_ (by kernel_rfl) (by kernel_rfl) (by kernel_rfl) ?_ ?_ ?_ hHeld ?_
                          rotate_left 2
                          · simp only [List.getElem?_toArray, List.getElem?_cons_succ, List.getElem?_cons_zero]; exact rfl
                          · rfl
                          · intro w hSw; (try dsimp only at hSw); go_simp <;> with_reducible rfl
                          · exact fun _ _ _ h => h
                          simp only [Act.put, List.setIfInBounds_toArray, List.set_cons_zero, List.set_cons_succ]
                          refine take_on (i := 10) (oi := ?_) (v := ?_) ?_ (by kernel_rfl) (by kernel_rfl) (by kernel_rfl) ?_ ?_ ?_ hHeld ?_
                          rotate_left 2
                          · simp only [List.getElem?_toArray, List.getElem?_cons_succ, List.getElem?_cons_zero]; exact rfl
                          · rfl
                          · intro w hSw; (try dsimp only at hSw); go_simp <;> with_reducible rfl
                          · exact fun _ _ _ h => h
                          simp only [Act.put, List.setIfInBounds_toArray, List.set_cons_zero, List.set_cons_succ]
                          refine take_on (i := 11) (oi := ?_) (v := ?_) ?_ (by kernel_rfl) (by kernel_rfl) (by kernel_rfl) ?_ ?_ ?_ hHeld ?_
                          rotate_left 2
                          · simp only [List.getElem?_toArray, List.getElem?_cons_succ, List.getElem?_cons_zero]; exact rfl
                          · rfl
                          · intro w hSw; (try dsimp only at hSw); go_simp <;> with_reducible rfl
                          · exact fun _ _ _ h => h
                          simp only [Act.put, List.setIfInBounds_toArray, List.set_cons_zero, List.set_cons_succ]
                          refine take_on (i := 12) (oi := ?_) (v := ?_) ?_ (by kernel_rfl) (by kernel_rfl) (by kernel_rfl) ?_ ?_ ?_ hHeld ?_
                          rotate_left 2
                          · simp only [List.getElem?_toArray, List.getElem?_cons_succ, List.getElem?_cons_zero]; exact rfl
                          · rfl
                          · intro w hSw; (try dsimp only at hSw); go_simp <;> with_reducible rfl
                          · exact fun _ _ _ h => h
                          simp only [Act.put, List.setIfInBounds_toArray, List.set_cons_zero, List.set_cons_succ]
                          refine take_on (i := 13) (oi := ?_) (v := ?_) ?_ (by kernel_rfl) (by kernel_rfl) (by kernel_rfl) ?_ ?_ ?_ hHeld ?_
                          rotate_left 2
                          · simp only [List.getElem?_toArray, List.getElem?_cons_succ, List.getElem?_cons_zero]; exact rfl
                          · rfl
                          · intro w hSw; (try dsimp only at hSw); go_simp <;> with_reducible rfl
                          · exact fun _ _ _ h => h
                          simp only [Act.put, List.setIfInBounds_toArray, List.set_cons_zero, List.set_cons_succ]
                          refine take_on (i := 14) (oi := ?_) (v := ?_) ?_ (by kernel_rfl) (by kernel_rfl) (by kernel_rfl) ?_ ?_ ?_ hHeld ?_
                          rotate_left 2
                          · simp only [List.getElem?_toArray, List.getElem?_cons_succ, List.getElem?_cons_zero]; exact rfl
                          · rfl
                          · intro w hSw; (try dsimp only at hSw); go_simp <;> with_reducible rfl
                          · exact fun _ _ _ h => h
                          simp only [Act.put, List.setIfInBounds_toArray, List.set_cons_zero, List.set_cons_succ]
                          refine take_on (i := 15) (oi := ?_) (v := ?_) ?_ (by kernel_rfl) (by kernel_rfl) (by kernel_rfl) ?_ ?_ ?_ hHeld ?_
                          rotate_left 2
                          · simp only [List.getElem?_toArray, List.getElem?_cons_succ, List.getElem?_cons_zero]; exact rfl
                          · rfl
                          · intro w hSw; (try dsimp only at hSw); go_simp <;> with_reducible rfl
                          · exact fun _ _ _ h => h
                          simp only [Act.put, List.setIfInBounds_toArray, List.set_cons_zero, List.set_cons_succ]
                          refine take_on (i := 16) (oi := ?_) (v := ?_) ?_ (by kernel_rfl) (by kernel_rfl) (by kernel_rfl) ?_ ?_ ?_ hHeld ?_
                          rotate_left 2
                          · simp only [List.getElem?_toArray, List.getElem?_cons_succ, List.getElem?_cons_zero]; exact rfl
                          · rfl
                          · intro w hSw; (try dsimp only at hSw); go_simp <;> with_reducible rfl
                          · exact fun _ _ _ h => h
                          simp only [Act.put, List.setIfInBounds_toArray, List.set_cons_zero, List.set_cons_succ]
                          refine take_on (i := 17) (oi := ?_) (v := ?_) ?_ (by kernel_rfl) (by kernel_rfl) (by kernel_rfl) ?_ ?_ ?_ hHeld ?_
                          rotate_left 2
                          · simp only [List.getElem?_toArray, List.getElem?_cons_succ, List.getElem?_cons_zero]; exact rfl
                          · rfl
                          · intro w hSw; (try dsimp only at hSw); go_simp <;> with_reducible rfl
                          · exact fun _ _ _ h => h
                          simp only [Act.put, List.setIfInBounds_toArray, List.set_cons_zero, List.set_cons_succ]
                          refine wpAnyH_ready (rs := [18]) (by kernel_rfl) (by simp) ?_
                          refine AllReadyH.cons (o := ?_) ?_ ?_ AllReadyH.nil
                          rotate_left 1
                          · simp only [List.getElem?_toArray, List.getElem?_cons_succ, List.getElem?_cons_zero]; exact rfl
                          intro K hK
                          go_simp
                          go_at_call 32; have _t := tk2; clear tk2; refine (ahead_at sa sd true Q4.out _).mono ?_; rintro ed y2 ⟨rfl, j2⟩; have J2 : Kept W0 y2 := Kept.trans (by repeat (first | with_reducible exact J1 | with_reducible exact kd | with_reducible refine Kept.alloc ?_ _ _ | with_reducible refine Kept.drew ?_ | with_reducible refine Kept.drewN ?_ _)) j2
                          go_wp2_with fail
                          clear hHeld
                          refine hK.out _ _ ?_ (fun hHeld => ?_)
                          · exact all3 (SC.out.kept (by repeat (first | with_reducible exact J2 | with_reducible exact J1 | with_reducible exact kd | with_reducible refine Kept.alloc ?_ _ _ | with_reducible refine Kept.drew ?_ | with_reducible refine Kept.drewN ?_ _))) (SD.out.kept (by repeat (first | with_reducible exact J2 | with_reducible exact J1 | with_reducible exact kd | with_reducible refine Kept.alloc ?_ _ _ | with_reducible refine Kept.drew ?_ | with_reducible refine Kept.drewN ?_ _))) (SA.out.kept (by repeat (first | with_reducible exact J2 | with_reducible exact J1 | with_reducible exact kd | with_reducible refine Kept.alloc ?_ _ _ | with_reducible refine Kept.drew ?_ | with_reducible refine Kept.drewN ?_ _)))
                          clear hK K
                          try simp only [Act.put, List.setIfInBounds_toArray, List.set_cons_zero, List.set_cons_succ]
                          refine take_on (i := 19) (oi := ?_) (v := ?_) ?_ (by kernel_rfl) (by kernel_rfl) (by kernel_rfl) ?_ ?_ ?_ hHeld ?_
                          rotate_left 2
                          · simp only [List.getElem?_toArray, List.getElem?_cons_succ, List.getElem?_cons_zero]; exact rfl
                          · rfl
                          · intro w hSw; (try dsimp only at hSw); go_simp <;> with_reducible rfl
                          · exact fun _ _ _ h => h
                          simp only [Act.put, List.setIfInBounds_toArray, List.set_cons_zero, List.set_cons_succ]
                          refine take_on (i := 20) (oi := ?_) (v := ?_) ?_ (by kernel_rfl) (by kernel_rfl) (by kernel_rfl) ?_ ?_ ?_ hHeld ?_
                          rotate_left 2
                          · simp only [List.getElem?_toArray, List.getElem?_cons_succ, List.getElem?_cons_zero]; exact rfl
                          · rfl
                          · intro w hSw; (try dsimp only at hSw); go_simp <;> with_reducible rfl
                          · exact fun _ _ _ h => h
                          simp only [Act.put, List.setIfInBounds_toArray, List.set_cons_zero, List.set_cons_succ]
                          refine take_on (i := 21) (oi := ?_) (v := ?_) ?_ (by kernel_rfl) (by kernel_rfl) (by kernel_rfl) ?_ ?_ ?_ hHeld ?_
                          rotate_left 2
                          · simp only [List.getElem?_toArray, List.getElem?_cons_succ, List.getElem?_cons_zero]; exact rfl
                          · rfl
                          · intro w hSw; (try dsimp only at hSw); go_simp <;> with_reducible rfl
                          · exact fun _ _ _ h => h
                          simp only [Act.put, List.setIfInBounds_toArray, List.set_cons_zero, List.set_cons_succ]
                          refine take_off (i := 22) (oi := ?_) ?_ (by kernel_rfl) (by kernel_rfl) (by kernel_rfl) ?_ ?_ hHeld ?_
                          rotate_left 1
                          · simp only [List.getElem?_toArray, List.getElem?_cons_succ, List.getElem?_cons_zero]; exact rfl
                          · rfl
                          · exact fun _ _ _ h => h
                          simp only [Act.put, List.setIfInBounds_toArray, List.set_cons_zero, List.set_cons_succ]
                          refine take_off (i := 23) (oi := ?_) ?_ (by kernel_rfl) (by kernel_rfl) (by kernel_rfl) ?_ ?_ hHeld ?_
                          rotate_left 1
                          · simp only [List.getElem?_toArray, List.getElem?_cons_succ, List.getElem?_cons_zero]; exact rfl
                          · rfl
                          · exact fun _ _ _ h => h
                          simp only [Act.put, List.setIfInBounds_toArray, List.set_cons_zero, List.set_cons_succ]
                          refine take_off (i := 24) (oi := ?_) ?_ (by kernel_rfl) (by kernel_rfl) (by kernel_rfl) ?_ ?_ hHeld ?_
                          rotate_left 1
                          · simp only [List.getElem?_toArray, List.getElem?_cons_succ, List.getElem?_cons_zero]; exact rfl
                          · rfl
                          · exact fun _ _ _ h => h
                          simp only [Act.put, List.setIfInBounds_toArray, List.set_cons_zero, List.set_cons_succ]
                          refine take_off (i := 25) (oi := ?_) ?_ (by kernel_rfl) (by kernel_rfl) (by kernel_rfl) ?_ ?_ hHeld ?_
                          rotate_left 1
                          · simp only [List.getElem?_toArray, List.getElem?_cons_succ, List.getElem?_cons_zero]; exact rfl
                          · rfl
                          · exact fun _ _ _ h => h
                          simp only [Act.put, List.setIfInBounds_toArray, List.set_cons_zero, List.set_cons_succ]
                          refine take_off (i := 26) (oi := ?_) ?_ (by kernel_rfl) (by kernel_rfl) (by kernel_rfl) ?_ ?_ hHeld ?_
                          rotate_left 1
                          · simp only [List.getElem?_toArray, List.getElem?_cons_succ, List.getElem?_cons_zero]; exact rfl
                          · rfl
                          · exact fun _ _ _ h => h
                          simp only [Act.put, List.setIfInBounds_toArray, List.set_cons_zero, List.set_cons_succ]
                          refine take_off (i := 27) (oi := ?_) ?_ (by kernel_rfl) (by kernel_rfl) (by kernel_rfl) ?_ ?_ hHeld ?_
                          rotate_left 1
                          · simp only [List.getElem?_toArray, List.getElem?_cons_succ, List.getElem?_cons_zero]; exact rfl
                          · rfl
                          · exact fun _ _ _ h => h
                          simp only [Act.put, List.setIfInBounds_toArray, List.set_cons_zero, List.set_cons_succ]
                          refine take_off (i := 28) (oi := ?_) ?_ (by kernel_rfl) (by kernel_rfl) (by kernel_rfl) ?_ ?_ hHeld ?_
                          rotate_left 1
                          · simp only [List.getElem?_toArray, List.getElem?_cons_succ, List.getElem?_cons_zero]; exact rfl
                          · rfl
                          · exact fun _ _ _ h => h
                          simp only [Act.put, List.setIfInBounds_toArray, List.set_cons_zero, List.set_cons_succ]
                          refine take_off (i := 29) (oi := ?_) ?_ (by kernel_rfl) (by kernel_rfl) (by kernel_rfl) ?_ ?_ hHeld ?_
                          rotate_left 1
                          · simp only [List.getElem?_toArray, List.getElem?_cons_succ, List.getElem?_cons_zero]; exact rfl
                          · rfl
                          · exact fun _ _ _ h => h
                          simp only [Act.put, List.setIfInBounds_toArray, List.set_cons_zero, List.set_cons_succ]
                          refine take_off (i := 30) (oi := ?_) ?_ (by kernel_rfl) (by kernel_rfl) (by kernel_rfl) ?_ ?_ hHeld ?_
                          rotate_left 1
                          · simp only [List.getElem?_toArray, List.getElem?_cons_succ, List.getElem?_cons_zero]; exact rfl
                          · rfl
                          · exact fun _ _ _ h => h
                          simp only [Act.put, List.setIfInBounds_toArray, List.set_cons_zero, List.set_cons_succ]
                          refine take_off (i := 31) (oi := ?_) ?_ (by kernel_rfl) (by kernel_rfl) (by kernel_rfl) ?_ ?_ hHeld ?_
                          rotate_left 1
                          · simp only [List.getElem?_toArray, List.getElem?_cons_succ, List.getElem?_cons_zero]; exact rfl
                          · rfl
                          · exact fun _ _ _ h => h
                          simp only [Act.put, List.setIfInBounds_toArray, List.set_cons_zero, List.set_cons_succ]
                          refine take_on (i := 32) (oi := ?_) (v := ?_) ?_ (by kernel_rfl) (by kernel_rfl) (by kernel_rfl) ?_ ?_ ?_ hHeld ?_
                          rotate_left 2
                          · simp only [List.getElem?_toArray, List.getElem?_cons_succ, List.getElem?_cons_zero]; exact rfl
                          · rfl
                          · intro w hSw; (try dsimp only at hSw); go_simp <;> with_reducible rfl
                          · exact fun _ _ _ h => h
                          simp only [Act.put, List.setIfInBounds_toArray, List.set_cons_zero, List.set_cons_succ]
                          refine wpAnyH_done (by kernel_rfl) ?_ _
                          go_wp2
                          go_roundw
                          case rel => exact ⟨id + 1, by omega, by go_num, J2⟩
                          case measure => simp [intOf]; omega
                        | false =>
                          have Q5 := Lib.hid (ord_two Q.out hq3 hq4)
                          have Q3 := Lib.hid hq3
                          have Q4 := Lib.hid hq4
                          clear hq3 hq4
                          have tk1 : True := trivial
                          have tk2 : True := trivial
                          have tk3 : True := trivial
                          go_wp2_with fail
                          go_region_held3 (fun w' => w'.cell? ⟨g, ic * 10, none⟩ = some (.int .i64 sc.id) ∧ w'.cell? ⟨g, ic * 10 + 1, none⟩ = some (.int .i64 sc.from_) ∧ w'.cell? ⟨g, ic * 10 + 2, none⟩ = some (.int .i64 sc.to) ∧ w'.cell? ⟨g, ic * 10 + 3, none⟩ = some (.int .i64 sc.k) ∧ w'.cell? ⟨g, ic * 10 + 4, none⟩ = some (.int .i64 sc.x) ∧ w'.cell? ⟨g, ic * 10 + 5, none⟩ = some (.int .i64 sc.y) ∧ w'.cell? ⟨g, ic * 10 + 6, none⟩ = some (.int .u64 sc.u) ∧ w'.cell? ⟨g, ic * 10 + 7, none⟩ = some (.int .i64 sc.er) ∧ w'.cell? ⟨g, ic * 10 + 8, none⟩ = some (.int .i64 sc.n) ∧ w'.cell? ⟨g, ic * 10 + 9, none⟩ = some (.int .u64 sc.v) ∧ w'.cell? ⟨g, id * 10, none⟩ = some (.int .i64 sd.id) ∧ w'.cell? ⟨g, id * 10 + 1, none⟩ = some (.int .i64 sd.from_) ∧ w'.cell? ⟨g, id * 10 + 2, none⟩ = some (.int .i64 sd.to) ∧ w'.cell? ⟨g, id * 10 + 3, none⟩ = some (.int .i64 sd.k) ∧ w'.cell? ⟨g, id * 10 + 4, none⟩ = some (.int .i64 sd.x) ∧ w'.cell? ⟨g, id * 10 + 5, none⟩ = some (.int .i64 sd.y) ∧ w'.cell? ⟨g, id * 10 + 6, none⟩ = some (.int .u64 sd.u) ∧ w'.cell? ⟨g, id * 10 + 7, none⟩ = some (.int .i64 sd.er) ∧ w'.cell? ⟨g, id * 10 + 8, none⟩ = some (.int .i64 sd.n) ∧ w'.cell? ⟨g, id * 10 + 9, none⟩ = some (.int .u64 sd.v) ∧ w'.cell? ⟨g, ia * 10, none⟩ = some (.int .i64 sa.id) ∧ w'.cell? ⟨g, ia * 10 + 1, none⟩ = some (.int .i64 sa.from_) ∧ w'.cell? ⟨g, ia * 10 + 2, none⟩ = some (.int .i64 sa.to) ∧ w'.cell? ⟨g, ia * 10 + 3, none⟩ = some (.int .i64 sa.k) ∧ w'.cell? ⟨g, ia * 10 + 4, none⟩ = some (.int .i64 sa.x) ∧ w'.cell? ⟨g, ia * 10 + 5, none⟩ = some (.int .i64 sa.y) ∧ w'.cell? ⟨g, ia * 10 + 6, none⟩ = some (.int .u64 sa.u) ∧ w'.cell? ⟨g, ia * 10 + 7, none⟩ = some (.int .i64 sa.er) ∧ w'.cell? ⟨g, ia * 10 + 8, none⟩ = some (.int .i64 sa.n) ∧ w'.cell? ⟨g, ia * 10 + 9, none⟩ = some (.int .u64 sa.v) ∧ w'.cell? ⟨g, ib * 10, none⟩ = some (.int .i64 sb.id) ∧ w'.cell? ⟨g, ib * 10 + 1, none⟩ = some (.int .i64 sb.from_) ∧ w'.cell? ⟨g, ib * 10 + 2, none⟩ = some (.int .i64 sb.to) ∧ w'.cell? ⟨g, ib * 10 + 3, none⟩ = some (.int .i64 sb.k) ∧ w'.cell? ⟨g, ib * 10 + 4, none⟩ = some (.int .i64 sb.x) ∧ w'.cell? ⟨g, ib * 10 + 5, none⟩ = some (.int .i64 sb.y) ∧ w'.cell? ⟨g, ib * 10 + 6, none⟩ = some (.int .u64 sb.u) ∧ w'.cell? ⟨g, ib * 10 + 7, none⟩ = some (.int .i64 sb.er) ∧ w'.cell? ⟨g, ib * 10 + 8, none⟩ = some (.int .i64 sb.n) ∧ w'.cell? ⟨g, ib * 10 + 9, none⟩ = some (.int .u64 sb.v))
                            (first | exact all4 (SC.out.kept (by repeat (first | with_reducible exact J3 | with_reducible exact J2 | with_reducible exact J1 | with_reducible exact kd | with_reducible refine Kept.alloc ?_ _ _ | with_reducible refine Kept.drew ?_ | with_reducible refine Kept.drewN ?_ _))) (SD.out.kept (by repeat (first | with_reducible exact J3 | with_reducible exact J2 | with_reducible exact J1 | with_reducible exact kd | with_reducible refine Kept.alloc ?_ _ _ | with_reducible refine Kept.drew ?_ | with_reducible refine Kept.drewN ?_ _))) (SA.out.kept (by repeat (first | with_reducible exact J3 | with_reducible exact J2 | with_reducible exact J1 | with_reducible exact kd | with_reducible refine Kept.alloc ?_ _ _ | with_reducible refine Kept.drew ?_ | with_reducible refine Kept.drewN ?_ _))) (SB.out.kept (by repeat (first | with_reducible exact J3 | with_reducible exact J2 | with_reducible exact J1 | with_reducible exact kd | with_reducible refine Kept.alloc ?_ _ _ | with_reducible refine Kept.drew ?_ | with_reducible refine Kept.drewN ?_ _))))
                            (first
                              | (go_at_call 32; have _t := tk1; clear tk1; refine (ahead_at sc sd true Q3.out _).mono ?_; rintro ed y1 ⟨rfl, j1⟩; have J1 : Kept W0 y1 := Kept.trans (by repeat (first | with_reducible exact kd | with_reducible refine Kept.alloc ?_ _ _ | with_reducible refine Kept.drew ?_ | with_reducible refine Kept.drewN ?_ _)) j1)
                              | (go_at_call 32; have _t := tk2; clear tk2; refine (ahead_at sa sd false Q4.out _).mono ?_; rintro ed y2 ⟨rfl, j2⟩; have J2 : Kept W0 y2 := Kept.trans (by repeat (first | with_reducible exact J1 | with_reducible exact kd | with_reducible refine Kept.alloc ?_ _ _ | with_reducible refine Kept.drew ?_ | with_reducible refine Kept.drewN ?_ _)) j2)
                              | (go_at_call 32; have _t := tk3; clear tk3; refine (ahead_at sc sb true Q5.out _).mono ?_; rintro ed y3 ⟨rfl, j3⟩; have J3 : Kept W0 y3 := Kept.trans (by repeat (first | with_reducible exact J2 | with_reducible exact J1 | with_reducible exact kd | with_reducible refine Kept.alloc ?_ _ _ | with_reducible refine Kept.drew ?_ | with_reducible refine Kept.drewN ?_ _)) j3))
                          go_wp2
                          go_roundw
                          case rel => exact ⟨id + 1, by omega, by go_num, J3⟩
                          case measure => simp [intOf]; omega
                    · go_wp2
                      go_roundw
                      case rel => exact ⟨ic + 1, by omega, by go_num, kd⟩
                      case measure => simp [intOf]; omega
              · go_wp2
                go_roundw
                case rel => exact ⟨ib + 1, by omega, by go_num, kc⟩
                case measure => simp [intOf]; omega
        · go_wp2
          go_roundw
          case rel => exact ⟨ia + 1, by omega, by go_num, kb⟩
          case measure => simp [intOf]; omega
    · go_wp2
      go_ret
      exact ⟨rfl, K2.out.trans ka⟩

set_option maxRecDepth 100000 in
set_option maxHeartbeats 8000000 in
theorem eventOrder_any {w : World} {a : Option Addr} {n c : Nat} (hh : ∃ h : List Ev, h.length = n ∧ Lay w (.slice a n c) n (flatE h) ∧ ∀ e ∈ h, Wf e) :
    Calls Try.prog 7 #[.slice a n c] w fun e w' => e = .returned (.bool true) ∧ Kept w w' := by
  obtain ⟨h, rfl, hE, hw⟩ := hh
  by_cases hl : 40 < h.length
  · obtain ⟨n, hn⟩ : ∃ n, n = h.length := ⟨_, rfl⟩
    rw [← hn] at hl ⊢
    clear hE hw hn
    go_enter Try.func7, Try.ntmps7
    go_wp2_with fail; refine (known_any _).mono ?_; rintro ed w1 ⟨rfl, k1⟩
    go_wp2
    go_ret
    exact ⟨rfl, k1⟩
  · have HE := Lib.hid hE
    by_cases hv : chk h = 0
    · by_cases hp : 0 < (spans h).length
      · exact order_loops hE hw (by omega) hv hp
      · have h0 : spans h = [] := List.eq_nil_of_length_eq_zero (by omega)
        have C2 := Lib.hid (fun W (k : Kept w W) => h0 ▸ calls_ok (HE.out.kept k) hw (by omega) hv)
        clear hE hw hv hp h0
        go_enter Try.func7, Try.ntmps7
        go_wp2_with fail; refine (known_any _).mono ?_; rintro ed w1 ⟨rfl, k1⟩
        have K1 := Lib.hid k1
        clear k1
        go_wp2_with fail; refine (C2.out _ K1.out).mono ?_; rintro ed w2 ⟨a2, c2, rfl, k2, own2⟩
        have K2 := Lib.hid (K1.out.trans k2)
        clear k2 own2
        go_wp2
        go_loopw [6] (fun i wr => i = .int .i64 0 ∧ wr = w2) (fun _ _ => 0)
        case atStart => exact ⟨rfl, rfl⟩
        case round =>
          obtain ⟨rfl, rfl⟩ := hrel
          go_wp2
          go_ret
          exact ⟨rfl, K2.out⟩
    · obtain ⟨v, hv2⟩ : ∃ v, v = chk h := ⟨_, rfl⟩
      have hz : v ≠ 0 := by rw [hv2]; exact hv
      have b1 : (v != 0) = true := by simpa using hz
      have C2 := Lib.hid (fun W (k : Kept w W) => calls_bad (HE.out.kept k) hw (by omega) v hv2.symm hz)
      have C3 := Lib.hid (fun W (k : Kept w W) => check_at (HE.out.kept k) hw (by omega) v hv2.symm)
      clear hE hw hv hv2 hz
      go_enter Try.func7, Try.ntmps7
      go_wp2_with fail; refine (known_any _).mono ?_; rintro ed w1 ⟨rfl, k1⟩
      have K1 := Lib.hid k1
      clear k1
      go_wp2_with fail; refine (C2.out _ K1.out).mono ?_; rintro ed w2 ⟨a2, c2, rfl, k2, own2⟩
      have K2 := Lib.hid (K1.out.trans k2)
      clear k2 own2
      go_wp2_with fail; refine (C3.out _ K2.out).mono ?_; rintro ed w3 ⟨rfl, k3⟩
      go_wp2
      go_ret
      exact ⟨rfl, K2.out.trans k3⟩
end Go.Proofs.Ytjbplbfedndjpaa
