/- The search is made (searchOf): who is ahead of whom, who was answered. At elements of type int. -/
import Derived.Test.YtbfmmndpboagdaaGreatDoorGN2
import Derived.Test.YtbfmmndpboagdaaGreatDoorGL
import Derived.RangeFuncNested
import Derived.RangeFuncBound
import Derived.RangeFuncCalls
import Derived.RangeFuncLeaves
import Derived.Shelf.Abstract
import Derived.Shelf.RegionOpen
import Derived.OwnWalkIn
import Derived.TacticsInMore
import Derived.LoopNIn
import Derived.LoopIn
namespace Go.Proofs.YtbfmmndpboagdaaGreatDoor.SN
open Go.RowKit
attribute [local go_sem ↓] ldM_named stM_named ldX_named stX_named lvX_named bdX_named ldS_named
attribute [local go_sem] Kept.refl Kept.drew Kept.drewN Kept.alloc

theorem ldS_box {w : World} {b : Nat} {s : Sp} (h : SpBox w b s) : (ldS (.pointer (some ⟨b, 0, none⟩))).run Tryz.prog w = .ok (.agg #[.int .i64 s.id, .int .i64 s.from_, .int .i64 s.to, .int .i64 s.k, .int .i64 s.x, .int .i64 s.y, .int .u64 s.u, .int .i64 s.er, .int .i64 s.n, .int .u64 s.v]) w :=
  ldS_run ⟨h.c0, by simpa using h.c1, by simpa using h.c2, by simpa using h.c3, by simpa using h.c4, by simpa using h.c5, by simpa using h.c6, by simpa using h.c7, by simpa using h.c8, by simpa using h.c9⟩
def maskTo (p : Nat → Bool) : Nat → Nat
  | 0 => 0
  | n + 1 => if p n then maskTo p n ||| 2 ^ n else maskTo p n
theorem mask_bit (p : Nat → Bool) (n j : Nat) : (maskTo p n).testBit j = (decide (j < n) && p j) := by
  induction n with
  | zero => simp [maskTo]
  | succ n ih =>
    unfold maskTo
    by_cases hp : p n = true
    · rw [if_pos hp, bit_or, ih]
      by_cases e : n = j
      · subst e; simp [hp]
      · have : (decide (j < n + 1)) = decide (j < n) := by congr 1; exact propext ⟨fun h => by omega, fun h => by omega⟩
        rw [this]
        simp [e]
    · rw [if_neg hp, ih]
      by_cases e : n = j
      · subst e; simp [hp]
      · have : (decide (j < n + 1)) = decide (j < n) := by congr 1; exact propext ⟨fun h => by omega, fun h => by omega⟩
        rw [this]
theorem mask_lt (p : Nat → Bool) : ∀ n, n ≤ 16 → maskTo p n < 65536 := by
  intro n
  induction n with
  | zero => intro _; show (0 : Nat) < 65536; decide
  | succ n ih =>
    intro h
    unfold maskTo
    split
    · exact or16 (ih (by omega)) (by omega)
    · exact ih (by omega)
def pA (l : List Sp) (i j : Nat) : Bool := (l[i]?).elim false fun c => (l[j]?).elim false fun s => j != i && ahd s c
def pM (l : List Sp) (j : Nat) : Bool := (l[j]?).elim false fun s => !pend s
def aO (l : List Sp) (k : Nat) : Nat → Nat := fun i => if i < k then maskTo (pA l i) l.length else 0
def aI (l : List Sp) (k j : Nat) : Nat → Nat := fun i => if i < k then maskTo (pA l i) l.length else if i = k then maskTo (pA l k) j else 0
theorem aI_zero (l : List Sp) (k : Nat) : aI l k 0 = aO l k := by
  funext i
  unfold aI aO
  split
  · rfl
  · split <;> rfl
theorem aI_all (l : List Sp) (k : Nat) : aI l k l.length = aO l (k + 1) := by
  funext i
  unfold aI aO
  by_cases h : i < k
  · rw [if_pos h, if_pos (by omega)]
  · rw [if_neg h]
    by_cases e : i = k
    · subst e; rw [if_pos rfl, if_pos (by omega)]
    · rw [if_neg e, if_neg (by omega)]
theorem aI_set (l : List Sp) (k j x : Nat) (hx : maskTo (pA l k) (j + 1) = x) : (fun i => if i = k then x else aI l k j i) = aI l k (j + 1) := by
  funext i
  by_cases e : i = k
  · subst e
    rw [if_pos rfl]
    unfold aI
    rw [if_neg (by omega), if_pos rfl, hx]
  · rw [if_neg e]
    unfold aI
    by_cases h : i < k
    · rw [if_pos h, if_pos h]
    · rw [if_neg h, if_neg h, if_neg e, if_neg e]

structure XBox (w : World) (b : Nat) (R : List Value) (F S : Value) (A : Nat → Nat) (m : Nat) : Prop where
  all : w.rangeAt b 0 (srchL R F S A m)
  soft : ∀ i, w.frozen? ⟨b, i, none⟩ = false
section
variable {w w' : World} {b : Nat} {R : List Value} {F S : Value} {A : Nat → Nat} {m : Nat}
theorem XBox.lt (h : XBox w b R F S A m) (hR : R.length = 11) : b < w.heap.size := lt_of_cell (h.all (11 + 12) (.int .u16 m) (by unfold srchL; rw [List.getElem?_append_right (by omega), hR]; rfl))
theorem XBox.kept (h : XBox w b R F S A m) (hR : R.length = 11) (k : Kept w w') : XBox w' b R F S A m := ⟨range_kept h.all k, fun i => k.soft (h.lt hR) (h.soft i)⟩
theorem range_set {cs : List Value} {p : Nat} {x : Value} (h : w.rangeAt b 0 cs) (hp : p < cs.length) : (w.setCell ⟨b, p, none⟩ x).rangeAt b 0 (cs.set p x) := fun j v hv => by
  rw [Nat.zero_add, cell_set]
  by_cases e : p = j
  · subst e
    rw [List.getElem?_set_self hp] at hv
    cases hv
    have := h p _ (List.getElem?_eq_getElem hp)
    rw [Nat.zero_add] at this
    rw [if_pos rfl, this]
    rfl
  · rw [List.getElem?_set_ne e] at hv
    rw [if_neg e]
    have := h j v hv
    rwa [Nat.zero_add] at this
theorem XBox.setD (h : XBox w b R F S A m) (hR : R.length = 11) (x : Nat) : XBox (w.setCell ⟨b, 23, none⟩ (.int .u16 x)) b R F S A x := by
  refine ⟨?_, fun i => by rw [World.frozen?_setCell]; exact h.soft i⟩
  have := range_set (p := 23) (x := .int .u16 x) h.all (by rw [srchL_length hR]; decide)
  have e : (srchL R F S A m).set 23 (.int .u16 x) = srchL R F S A x := by
    unfold srchL
    rw [List.set_append_right _ _ (by omega), hR]
    rfl
  rwa [e] at this
theorem XBox.setA (h : XBox w b R F S A m) (hR : R.length = 11) (i : Nat) (hi : i < 10) (x : Nat) : XBox (w.setCell ⟨b, 13 + i, none⟩ (.int .u16 x)) b R F S (fun j => if j = i then x else A j) m := by
  refine ⟨?_, fun i => by rw [World.frozen?_setCell]; exact h.soft i⟩
  have := range_set (p := 13 + i) (x := .int .u16 x) h.all (by rw [srchL_length hR]; omega)
  have e : (srchL R F S A m).set (13 + i) (.int .u16 x) = srchL R F S (fun j => if j = i then x else A j) m := by
    unfold srchL
    rw [List.set_append_right _ _ (by omega), hR, show 13 + i - 11 = 2 + i by omega]
    match i, hi with
    | 0, _ => rfl
    | 1, _ => rfl
    | 2, _ => rfl
    | 3, _ => rfl
    | 4, _ => rfl
    | 5, _ => rfl
    | 6, _ => rfl
    | 7, _ => rfl
    | 8, _ => rfl
    | 9, _ => rfl
  rwa [e] at this
theorem XBox.done (h : XBox w b R F S A m) (hR : R.length = 11) : w.cell? ⟨b, 23, none⟩ = some (.int .u16 m) := by
  have := h.all 23 (.int .u16 m) (by unfold srchL; rw [List.getElem?_append_right (by omega), hR]; rfl)
  rwa [Nat.zero_add] at this
theorem XBox.ahead (h : XBox w b R F S A m) (hR : R.length = 11) (i : Nat) (hi : i < 10) : w.cell? ⟨b, 13 + i, none⟩ = some (.int .u16 (A i)) := by
  have := h.all (13 + i) (.int .u16 (A i)) (by
    unfold srchL
    rw [List.getElem?_append_right (by omega), hR, show 13 + i - 11 = 2 + i by omega]
    match i, hi with
    | 0, _ => rfl
    | 1, _ => rfl
    | 2, _ => rfl
    | 3, _ => rfl
    | 4, _ => rfl
    | 5, _ => rfl
    | 6, _ => rfl
    | 7, _ => rfl
    | 8, _ => rfl
    | 9, _ => rfl)
  rwa [Nat.zero_add] at this
end
theorem search_result {fn : Func} {tmps : Array Value} {n b : Nat} {w : World} {R : List Value} {F S : Value} {A : Nat → Nat} {m : Nat} (hr : fn.results = #[.cell n 108]) (ht : tmps.getD n undef = .pointer (some ⟨b, 0, none⟩)) (hR : R.length = 11) (h : w.rangeAt b 0 (srchL R F S A m)) :
    (results fn tmps).run Tryz.prog w = .ok (.agg (srchA R F S A m)) w := by
  have hv := lvX_run hR h
  unfold lvX at hv
  have ht' : tmps[n]?.getD undef = .pointer (some ⟨b, 0, none⟩) := by simpa using ht
  unfold results
  rw [hr]
  simp [ht', asAddr, hv]
theorem ahead_any (s t : Sp) (w : World) : Calls Tryz.prog 19 #[.agg #[.int .i64 s.id, .int .i64 s.from_, .int .i64 s.to, .int .i64 s.k, .int .i64 s.x, .int .i64 s.y, .int .u64 s.u, .int .i64 s.er, .int .i64 s.n, .int .u64 s.v], .agg #[.int .i64 t.id, .int .i64 t.from_, .int .i64 t.to, .int .i64 t.k, .int .i64 t.x, .int .i64 t.y, .int .u64 t.u, .int .i64 t.er, .int .i64 t.n, .int .u64 t.v]] w fun e w' => e = .returned (.bool (ahd s t)) ∧ Kept w w' := by
  unfold ahd
  by_cases h1 : 0 ≤ s.to
  · by_cases h2 : s.to < t.from_
    · go_enter Tryz.func19, Tryz.ntmps19
      go_wp2
      go_ret
      exact ⟨by simp [h1, h2], ((Kept.refl w).alloc _ _).alloc _ _⟩
    · go_enter Tryz.func19, Tryz.ntmps19
      go_wp2
      go_ret
      exact ⟨by simp [h2], ((Kept.refl w).alloc _ _).alloc _ _⟩
  · go_enter Tryz.func19, Tryz.ntmps19
    go_wp2
    go_ret
    exact ⟨by rw [show decide (0 ≤ s.to) = false by simpa using h1]; rfl, ((Kept.refl w).alloc _ _).alloc _ _⟩

def MkRel (W1 : World) (b : Nat) (q0 : List El) (F S : Value) (l : List Sp) (n : Nat) (i : Value) (wr : World) : Prop :=
  ∃ k : Nat, k ≤ n ∧ i = .int .i64 k ∧ But (fun x => x = b) W1 wr ∧ XBox wr b (enc q0) F S (aO l k) (maskTo (pM l) k)
def MkRel2 (W1 : World) (b : Nat) (q0 : List El) (F S : Value) (l : List Sp) (n k : Nat) (j : Value) (wr : World) : Prop :=
  ∃ p : Nat, p ≤ n ∧ j = .int .i64 p ∧ But (fun x => x = b) W1 wr ∧ XBox wr b (enc q0) F S (aI l k p) (maskTo (pM l) (k + 1))

set_option maxRecDepth 100000 in
set_option maxHeartbeats 8000000 in
theorem searchOf_any {w : World} (bM bA : Nat) {l : List Sp} {sa : Option Addr} {sn sc : Nat} {q0 : List El} (hq : Okq q0) (hl : Lay w (.slice sa sn sc) sn (flatS l)) (hn : sn = l.length) (h10 : sn ≤ 10) :
    Calls Tryz.prog 38 #[.agg (modA (enc q0) (fnN bM bA)), .slice sa sn sc] w fun e w' => e = .returned (.agg (sV q0 bM bA sa sn sc (aO l l.length) (maskTo (pM l) l.length))) ∧ Kept w w' := by
  have ML := fun (W : World) b (hb : b = W.heap.size) X => ldM_run (w := (W.alloc (.cells (modA (enc q0) (fnN bM bA)) 106)).alloc X) (b := b) (o := 0) (R := enc q0) (F := fnN bM bA) (enc_len q0) (range_kept (by have := range_new W (modA (enc q0) (fnN bM bA)) 106 b hb; simpa [modA] using this) ⟨(Below.refl _ _).alloc (Nat.le_refl _) _⟩)
  have BX := fun W => bdX_run hq.1 91 #[] #[.pointer (some ⟨bM, 0, none⟩), .pointer (some ⟨bA, 0, none⟩)] sa sn sc W
  have SX := fun (W : World) b (Z : Array Value) t (hb : b = W.heap.size) (hZ : Z.size = 24) => stX_new (w := W) (b := b) (R := enc q0) (F := fnN bM bA) (S := .slice sa sn sc) (A := fun _ => 0) (m := 0) (enc_len q0) (srch_one (enc_one q0) rfl rfl _ _) Z t hb hZ
  have CE := Lib.hid (fun W (k : Kept w W) i y hy => sp_one (hl.kept k) hn i y hy)
  have HN := Lib.hid hn
  clear hl hn
  go_enter Tryz.func38, Tryz.ntmps38
  go_wp2
  obtain ⟨W1, hW1⟩ : ∃ W1, ((w.alloc (.cells (modA (enc q0) (fnN bM bA)) 106)).alloc (.cells #[.int .i64 0, .int .i64 0, .int .i64 0, .int .i64 0, .int .i64 0, .int .i64 0, .int .i64 0, .int .i64 0, .int .i64 0, .int .i64 0, .int .i64 0, .nilFunc, .slice none 0 0, .int .u16 0, .int .u16 0, .int .u16 0, .int .u16 0, .int .u16 0, .int .u16 0, .int .u16 0, .int .u16 0, .int .u16 0, .int .u16 0, .int .u16 0] 108)).alloc (.cells (sV q0 bM bA sa sn sc (fun _ => 0) 0) 108) = W1 := ⟨_, rfl⟩
  have K1 := Lib.hid (show Kept w W1 by rw [← hW1]; exact (((Kept.refl w).alloc _ _).alloc _ _).alloc _ _)
  have Z1 := Lib.hid (show W1.heap.size = w.heap.size + 3 by rw [← hW1]; simp)
  have XB0 := Lib.hid (show XBox W1 (w.heap.size + 1 + 1) (enc q0) (fnN bM bA) (.slice sa sn sc) (fun _ => 0) 0 by
    rw [← hW1]
    refine ⟨?_, fun i => soft_new _ _ _ _ _ (by simp)⟩
    have := range_new ((w.alloc (.cells (modA (enc q0) (fnN bM bA)) 106)).alloc (.cells #[.int .i64 0, .int .i64 0, .int .i64 0, .int .i64 0, .int .i64 0, .int .i64 0, .int .i64 0, .int .i64 0, .int .i64 0, .int .i64 0, .int .i64 0, .nilFunc, .slice none 0 0, .int .u16 0, .int .u16 0, .int .u16 0, .int .u16 0, .int .u16 0, .int .u16 0, .int .u16 0, .int .u16 0, .int .u16 0, .int .u16 0, .int .u16 0] 108)) (sV q0 bM bA sa sn sc (fun _ => 0) 0) 108 (w.heap.size + 1 + 1) (by simp)
    simpa [srchA] using this)
  have TH := Lib.hid (show W1.there (w.heap.size + 1) 0 24 by
    intro j hj
    have e1 : w.heap.size + 1 = (w.alloc (.cells (modA (enc q0) (fnN bM bA)) 106)).heap.size := by simp
    have k2 : Kept ((w.alloc (.cells (modA (enc q0) (fnN bM bA)) 106)).alloc (.cells #[.int .i64 0, .int .i64 0, .int .i64 0, .int .i64 0, .int .i64 0, .int .i64 0, .int .i64 0, .int .i64 0, .int .i64 0, .int .i64 0, .int .i64 0, .nilFunc, .slice none 0 0, .int .u16 0, .int .u16 0, .int .u16 0, .int .u16 0, .int .u16 0, .int .u16 0, .int .u16 0, .int .u16 0, .int .u16 0, .int .u16 0, .int .u16 0] 108)) W1 := by rw [← hW1]; exact (Kept.refl _).alloc _ _
    obtain ⟨v, hv⟩ : ∃ v, (#[.int .i64 0, .int .i64 0, .int .i64 0, .int .i64 0, .int .i64 0, .int .i64 0, .int .i64 0, .int .i64 0, .int .i64 0, .int .i64 0, .int .i64 0, .nilFunc, .slice none 0 0, .int .u16 0, .int .u16 0, .int .u16 0, .int .u16 0, .int .u16 0, .int .u16 0, .int .u16 0, .int .u16 0, .int .u16 0, .int .u16 0, .int .u16 0] : Array Value)[j]? = some v := ⟨_, Array.getElem?_eq_getElem (by simpa using hj)⟩
    have c := cell_new (w.alloc (.cells (modA (enc q0) (fnN bM bA)) 106)) #[.int .i64 0, .int .i64 0, .int .i64 0, .int .i64 0, .int .i64 0, .int .i64 0, .int .i64 0, .int .i64 0, .int .i64 0, .int .i64 0, .int .i64 0, .nilFunc, .slice none 0 0, .int .u16 0, .int .u16 0, .int .u16 0, .int .u16 0, .int .u16 0, .int .u16 0, .int .u16 0, .int .u16 0, .int .u16 0, .int .u16 0, .int .u16 0] 108 (w.heap.size + 1) j e1
    rw [hv] at c
    rw [Nat.zero_add]
    exact ⟨by rw [k2.some c]; rfl, k2.soft (by simp) (soft_new _ _ _ _ _ e1)⟩)
  rw [hW1]
  have HE := Lib.hid (fun (s t : Sp) W => ahead_any s t W)
  have HP := Lib.hid (fun (s : Sp) W => pend_any s W)
  clear hW1 ML BX SX
  go_loopw [15] (MkRel W1 (w.heap.size + 1 + 1) q0 (fnN bM bA) (.slice sa sn sc) l sn) (fun i _ => sn - (intOf i).toNat)
  case atStart => exact ⟨0, Nat.zero_le _, rfl, But.refl _ _, by have := XB0.out; have e : aO l 0 = fun _ => 0 := by { funext i; unfold aO; rw [if_neg (by omega)] }; rw [e]; exact this⟩
  case round =>
    obtain ⟨k, hkn, rfl, hbu, hx⟩ := hrel
    have BU := Lib.hid hbu
    have XB := Lib.hid hx
    clear hbu hx
    by_cases hlt : k < sn
    · obtain ⟨c, hc⟩ : ∃ c, l[k]? = some c := ⟨_, List.getElem?_eq_getElem (by rw [← HN.out]; exact hlt)⟩
      have kW : Kept w wr := K1.out.put1 BU.out (by omega)
      obtain ⟨g, o, hgo, hsp⟩ := CE.out _ kW k c hc
      cases hgo
      have L0 := ldS_run hsp
      have XBa := Lib.hid (XB.out.kept (enc_len q0) ((Kept.refl _).alloc #[.int .i64 c.id, .int .i64 c.from_, .int .i64 c.to, .int .i64 c.k, .int .i64 c.x, .int .i64 c.y, .int .u64 c.u, .int .i64 c.er, .int .i64 c.n, .int .u64 c.v] 29))
      have BUa := Lib.hid (show But (fun x => x = w.heap.size + 1 + 1) W1 (wr.alloc (.cells #[.int .i64 c.id, .int .i64 c.from_, .int .i64 c.to, .int .i64 c.k, .int .i64 c.x, .int .i64 c.y, .int .u64 c.u, .int .i64 c.er, .int .i64 c.n, .int .u64 c.v] 29)) from BU.out.alloc _ _)
      have wsz := Lib.hid (show w.heap.size + 3 ≤ wr.heap.size by have := BU.out.size; have := Z1.out; omega)
      have BC := Lib.hid (SpBox.at wr c 29 wr.heap.size rfl)
      obtain ⟨Wa, hWa⟩ : ∃ Wa, wr.alloc (.cells #[.int .i64 c.id, .int .i64 c.from_, .int .i64 c.to, .int .i64 c.k, .int .i64 c.x, .int .i64 c.y, .int .u64 c.u, .int .i64 c.er, .int .i64 c.n, .int .u64 c.v] 29) = Wa := ⟨_, rfl⟩
      rw [hWa] at XBa BUa BC
      have HWa := Lib.hid hWa
      have HC := Lib.hid hc
      have bl := Lib.hid (fun (W : World) (B : But (fun x => x = w.heap.size + 1 + 1) Wa W) => ldS_box (BC.out.but B (by have := wsz.out; omega)))
      have LC := bl.out Wa (But.refl _ Wa)
      have DN := XBa.out.done (enc_len q0)
      have sD := XBa.out.soft 23
      have lX0 := XBa.out.lt (enc_len q0)
      have PC := Lib.hid (fun W => HP.out c W)
      have MM := Lib.hid (mask_lt (pM l) k (by have := HN.out; omega))
      have WD := Lib.hid (fun W => with_set (maskTo (pM l) k) k MM.out (by omega) W)
      have HM := Lib.hid (show maskTo (pM l) (k + 1) = if !pend c then maskTo (pM l) k ||| 2 ^ k else maskTo (pM l) k by
        have : pM l k = !pend c := by unfold pM; rw [hc]; rfl
        rw [← this]; rfl)
      clear hc kW hWa hsp
      go_upto_region 5 with fail
      rw [HWa.out]
      cases hp : pend c with
      | true =>
        have HM2 := Lib.hid (show maskTo (pM l) (k + 1) = maskTo (pM l) k by rw [HM.out, hp]; rfl)
        rw [hp] at PC
        clear hp
        go_wp2_with fail; refine (PC.out _).mono ?_; rintro e v1 ⟨rfl, k1⟩
        have START := Lib.hid (show But (fun x => x = w.heap.size + 1 + 1) Wa v1 ∧ XBox v1 (w.heap.size + 1 + 1) (enc q0) (fnN bM bA) (.slice (some ⟨g, o, none⟩) sn sc) (aO l k) (maskTo (pM l) (k + 1)) by
          rw [HM2.out]; exact ⟨k1.but _, XBa.out.kept (enc_len q0) k1⟩)
        clear k1 DN sD lX0 LC
        go_wp2

        have LC2 := Lib.hid (fun W (B : But (fun x => x = w.heap.size + 1 + 1) Wa W) => bl.out W B)
        go_loopw [30] (MkRel2 Wa (w.heap.size + 1 + 1) q0 (fnN bM bA) (.slice (some ⟨g, o, none⟩) sn sc) l sn k) (fun i _ => sn - (intOf i).toNat)
        case atStart => exact ⟨0, Nat.zero_le _, rfl, START.out.1, by rw [aI_zero]; exact START.out.2⟩
        case round =>
          obtain ⟨p, hpn, rfl, hbu2, hx2⟩ := hrel
          have BU2 := Lib.hid hbu2
          have XB2 := Lib.hid hx2
          clear hbu2 hx2
          by_cases hltp : p < sn
          · obtain ⟨s, hs⟩ : ∃ s, l[p]? = some s := ⟨_, List.getElem?_eq_getElem (by rw [← HN.out]; exact hltp)⟩
            have kW2 : Kept w wr := K1.out.put1 (BUa.out.trans BU2.out fun _ _ h => h) (by omega)
            obtain ⟨g2, o2, hgo2, hsp2⟩ := CE.out _ kW2 p s hs
            cases hgo2
            have L02 := ldS_run hsp2
            obtain ⟨Wb, hWb⟩ : ∃ Wb, wr.alloc (.cells #[.int .i64 s.id, .int .i64 s.from_, .int .i64 s.to, .int .i64 s.k, .int .i64 s.x, .int .i64 s.y, .int .u64 s.u, .int .i64 s.er, .int .i64 s.n, .int .u64 s.v] 29) = Wb := ⟨_, rfl⟩
            have kb : Kept wr Wb := by rw [← hWb]; exact (Kept.refl _).alloc _ _
            have XBb := Lib.hid (XB2.out.kept (enc_len q0) kb)
            have BUb := Lib.hid (BU2.out.then kb)
            have BS := Lib.hid (show SpBox Wb wr.heap.size s by rw [← hWb]; exact SpBox.at wr s _ _ rfl)
            have HWb := Lib.hid hWb
            have LCb := fun W (K : Kept Wb W) => LC2.out W (BUb.out.then K)
            have LSb := fun W (K : Kept Wb W) => ldS_box (BS.out.kept K)
            have HPA := Lib.hid (show pA l k p = (p != k && ahd s c) by unfold pA; rw [HC.out, hs]; rfl)
            have HMS := Lib.hid (show maskTo (pA l k) (p + 1) = if pA l k p then maskTo (pA l k) p ||| 2 ^ p else maskTo (pA l k) p from rfl)
            have XF := XBb.out.ahead (enc_len q0) k (by omega)
            have XA : aI l k p k = maskTo (pA l k) p := by unfold aI; rw [if_neg (by omega), if_pos rfl]
            rw [XA] at XF
            have hk10 : (k : Int) < 10 := by omega
            have MB := Lib.hid (mask_lt (pA l k) p (by have := HN.out; omega))
            have WI := Lib.hid (fun W => with_set (maskTo (pA l k) p) p MB.out (by omega) W)
            have sX := XBb.out.soft (13 + k)
            have lX := XBb.out.lt (enc_len q0)
            clear hs kW2 hsp2 hWb kb XA
            go_upto_region 10 with fail
            rw [HWb.out]
            by_cases hpk : p = k
            · have HZ := Lib.hid (show aI l k (p + 1) = aI l k p by
                rw [← aI_set l k p _ rfl, HMS.out, HPA.out, if_neg (by simp [hpk])]
                funext i
                by_cases e : i = k
                · subst e; rw [if_pos rfl]; unfold aI; rw [if_neg (by omega), if_pos rfl]
                · rw [if_neg e])
              have e1 : (p : Int) = (k : Int) := by omega
              have n1 : ((p : Int) != (k : Int)) = false := by simp [hpk]
              clear hpk e1
              go_wp2
              go_roundw
              case rel => exact ⟨p + 1, by omega, by go_num, BUb.out, by rw [HZ.out]; exact XBb.out⟩
              case measure => simp [intOf]; omega
            · have n1 : ((p : Int) != (k : Int)) = true := by simp; omega
              have HPK := Lib.hid hpk
              have AH := Lib.hid (fun W => HE.out s c W)
              clear hpk
              cases ha : ahd s c with
              | false =>
                have HZ := Lib.hid (show aI l k (p + 1) = aI l k p by
                  rw [← aI_set l k p _ rfl, HMS.out, HPA.out, if_neg (by simp [ha])]
                  funext i
                  by_cases e : i = k
                  · subst e; rw [if_pos rfl]; unfold aI; rw [if_neg (by omega), if_pos rfl]
                  · rw [if_neg e])
                rw [ha] at AH
                clear ha
                go_wp2_with fail; refine (AH.out _).mono ?_; rintro e v1 ⟨rfl, k1⟩
                go_wp2
                go_roundw
                case rel => exact ⟨p + 1, by omega, by go_num, BUb.out.then k1, by rw [HZ.out]; exact XBb.out.kept (enc_len q0) k1⟩
                case measure => simp [intOf]; omega
              | true =>
                have HZ := Lib.hid (show maskTo (pA l k) (p + 1) = maskTo (pA l k) p ||| 2 ^ p by rw [HMS.out, HPA.out, if_pos (by simp [ha, HPK.out])])
                rw [ha] at AH
                clear ha
                go_wp2_with fail; refine (AH.out _).mono ?_; rintro e v1 ⟨rfl, k1⟩
                have XBc := Lib.hid (XBb.out.kept (enc_len q0) k1)
                have XG := k1.some XF
                have sG := XBc.out.soft (13 + k)
                have K1v := Lib.hid k1
                clear k1
                go_wp2_with fail; refine (WI.out _).mono ?_; rintro e v2 ⟨rfl, rfl⟩
                go_wp2
                go_roundw
                case rel => exact ⟨p + 1, by omega, by go_num, But.setCell (S := fun x => x = w.heap.size + 1 + 1) (BUb.out.then K1v.out) (p := ⟨w.heap.size + 1 + 1, 13 + k, none⟩) (.inl rfl) _, by
                  have := XBc.out.setA (enc_len q0) k (by omega) (maskTo (pA l k) p ||| 2 ^ p)
                  rw [aI_set l k p _ HZ.out] at this
                  exact this⟩
                case measure => simp [intOf]; omega
          · obtain rfl : p = sn := by omega
            go_wp2
            go_roundw
            case rel => exact ⟨k + 1, by omega, by go_num, BUa.out.trans BU2.out (fun _ _ h => h), by have e : aI l k p = aO l (k + 1) := (by rw [HN.out]; exact aI_all l k); rw [← e]; exact XB2.out⟩
            case measure => simp [intOf]; omega
      | false =>
        have HM2 := Lib.hid (show maskTo (pM l) (k + 1) = maskTo (pM l) k ||| 2 ^ k by rw [HM.out, hp]; rfl)
        rw [hp] at PC
        clear hp
        go_wp2_with fail; refine (PC.out _).mono ?_; rintro e v1 ⟨rfl, k1⟩
        have DN1 := k1.some DN
        have XBv := Lib.hid (XBa.out.kept (enc_len q0) k1)
        have sD1 := XBv.out.soft 23
        have K1v := Lib.hid k1
        clear k1 DN sD lX0 LC
        go_wp2_with fail; refine (WD.out _).mono ?_; rintro e v2 ⟨rfl, rfl⟩
        obtain ⟨V2, hV2⟩ : ∃ V2, V2 = v1.setCell ⟨w.heap.size + 1 + 1, 23, none⟩ (.int .u16 ((maskTo (pM l) k ||| 2 ^ k : Nat) : Int)) := ⟨_, rfl⟩
        have START := Lib.hid (show But (fun x => x = w.heap.size + 1 + 1) Wa V2 ∧ XBox V2 (w.heap.size + 1 + 1) (enc q0) (fnN bM bA) (.slice (some ⟨g, o, none⟩) sn sc) (aO l k) (maskTo (pM l) (k + 1)) by
          rw [HM2.out, hV2]; exact ⟨(K1v.out.but (fun x => x = w.heap.size + 1 + 1)).setCell (p := ⟨w.heap.size + 1 + 1, 23, none⟩) (.inl rfl) _, XBv.out.setD (enc_len q0) _⟩)
        have HV2 := Lib.hid hV2
        clear hV2
        go_upto_region 7 with fail
        rw [← HV2.out]
        clear DN1 sD1
        go_wp2

        have LC2 := Lib.hid (fun W (B : But (fun x => x = w.heap.size + 1 + 1) Wa W) => bl.out W B)
        go_loopw [30] (MkRel2 Wa (w.heap.size + 1 + 1) q0 (fnN bM bA) (.slice (some ⟨g, o, none⟩) sn sc) l sn k) (fun i _ => sn - (intOf i).toNat)
        case atStart => exact ⟨0, Nat.zero_le _, rfl, START.out.1, by rw [aI_zero]; exact START.out.2⟩
        case round =>
          obtain ⟨p, hpn, rfl, hbu2, hx2⟩ := hrel
          have BU2 := Lib.hid hbu2
          have XB2 := Lib.hid hx2
          clear hbu2 hx2
          by_cases hltp : p < sn
          · obtain ⟨s, hs⟩ : ∃ s, l[p]? = some s := ⟨_, List.getElem?_eq_getElem (by rw [← HN.out]; exact hltp)⟩
            have kW2 : Kept w wr := K1.out.put1 (BUa.out.trans BU2.out fun _ _ h => h) (by omega)
            obtain ⟨g2, o2, hgo2, hsp2⟩ := CE.out _ kW2 p s hs
            cases hgo2
            have L02 := ldS_run hsp2
            obtain ⟨Wb, hWb⟩ : ∃ Wb, wr.alloc (.cells #[.int .i64 s.id, .int .i64 s.from_, .int .i64 s.to, .int .i64 s.k, .int .i64 s.x, .int .i64 s.y, .int .u64 s.u, .int .i64 s.er, .int .i64 s.n, .int .u64 s.v] 29) = Wb := ⟨_, rfl⟩
            have kb : Kept wr Wb := by rw [← hWb]; exact (Kept.refl _).alloc _ _
            have XBb := Lib.hid (XB2.out.kept (enc_len q0) kb)
            have BUb := Lib.hid (BU2.out.then kb)
            have BS := Lib.hid (show SpBox Wb wr.heap.size s by rw [← hWb]; exact SpBox.at wr s _ _ rfl)
            have HWb := Lib.hid hWb
            have LCb := fun W (K : Kept Wb W) => LC2.out W (BUb.out.then K)
            have LSb := fun W (K : Kept Wb W) => ldS_box (BS.out.kept K)
            have HPA := Lib.hid (show pA l k p = (p != k && ahd s c) by unfold pA; rw [HC.out, hs]; rfl)
            have HMS := Lib.hid (show maskTo (pA l k) (p + 1) = if pA l k p then maskTo (pA l k) p ||| 2 ^ p else maskTo (pA l k) p from rfl)
            have XF := XBb.out.ahead (enc_len q0) k (by omega)
            have XA : aI l k p k = maskTo (pA l k) p := by unfold aI; rw [if_neg (by omega), if_pos rfl]
            rw [XA] at XF
            have hk10 : (k : Int) < 10 := by omega
            have MB := Lib.hid (mask_lt (pA l k) p (by have := HN.out; omega))
            have WI := Lib.hid (fun W => with_set (maskTo (pA l k) p) p MB.out (by omega) W)
            have sX := XBb.out.soft (13 + k)
            have lX := XBb.out.lt (enc_len q0)
            clear hs kW2 hsp2 hWb kb XA
            go_upto_region 10 with fail
            rw [HWb.out]
            by_cases hpk : p = k
            · have HZ := Lib.hid (show aI l k (p + 1) = aI l k p by
                rw [← aI_set l k p _ rfl, HMS.out, HPA.out, if_neg (by simp [hpk])]
                funext i
                by_cases e : i = k
                · subst e; rw [if_pos rfl]; unfold aI; rw [if_neg (by omega), if_pos rfl]
                · rw [if_neg e])
              have e1 : (p : Int) = (k : Int) := by omega
              have n1 : ((p : Int) != (k : Int)) = false := by simp [hpk]
              clear hpk e1
              go_wp2
              go_roundw
              case rel => exact ⟨p + 1, by omega, by go_num, BUb.out, by rw [HZ.out]; exact XBb.out⟩
              case measure => simp [intOf]; omega
            · have n1 : ((p : Int) != (k : Int)) = true := by simp; omega
              have HPK := Lib.hid hpk
              have AH := Lib.hid (fun W => HE.out s c W)
              clear hpk
              cases ha : ahd s c with
              | false =>
                have HZ := Lib.hid (show aI l k (p + 1) = aI l k p by
                  rw [← aI_set l k p _ rfl, HMS.out, HPA.out, if_neg (by simp [ha])]
                  funext i
                  by_cases e : i = k
                  · subst e; rw [if_pos rfl]; unfold aI; rw [if_neg (by omega), if_pos rfl]
                  · rw [if_neg e])
                rw [ha] at AH
                clear ha
                go_wp2_with fail; refine (AH.out _).mono ?_; rintro e v1 ⟨rfl, k1⟩
                go_wp2
                go_roundw
                case rel => exact ⟨p + 1, by omega, by go_num, BUb.out.then k1, by rw [HZ.out]; exact XBb.out.kept (enc_len q0) k1⟩
                case measure => simp [intOf]; omega
              | true =>
                have HZ := Lib.hid (show maskTo (pA l k) (p + 1) = maskTo (pA l k) p ||| 2 ^ p by rw [HMS.out, HPA.out, if_pos (by simp [ha, HPK.out])])
                rw [ha] at AH
                clear ha
                go_wp2_with fail; refine (AH.out _).mono ?_; rintro e v1 ⟨rfl, k1⟩
                have XBc := Lib.hid (XBb.out.kept (enc_len q0) k1)
                have XG := k1.some XF
                have sG := XBc.out.soft (13 + k)
                have K1v := Lib.hid k1
                clear k1
                go_wp2_with fail; refine (WI.out _).mono ?_; rintro e v2 ⟨rfl, rfl⟩
                go_wp2
                go_roundw
                case rel => exact ⟨p + 1, by omega, by go_num, But.setCell (S := fun x => x = w.heap.size + 1 + 1) (BUb.out.then K1v.out) (p := ⟨w.heap.size + 1 + 1, 13 + k, none⟩) (.inl rfl) _, by
                  have := XBc.out.setA (enc_len q0) k (by omega) (maskTo (pA l k) p ||| 2 ^ p)
                  rw [aI_set l k p _ HZ.out] at this
                  exact this⟩
                case measure => simp [intOf]; omega
          · obtain rfl : p = sn := by omega
            go_wp2
            go_roundw
            case rel => exact ⟨k + 1, by omega, by go_num, BUa.out.trans BU2.out (fun _ _ h => h), by have e : aI l k p = aO l (k + 1) := (by rw [HN.out]; exact aI_all l k); rw [← e]; exact XB2.out⟩
            case measure => simp [intOf]; omega
    · obtain rfl : k = sn := by omega
      have LX := ldX_run (enc_len q0) XB.out.all
      have wsz : w.heap.size + 1 < W1.heap.size := by have := Z1.out; omega
      have TH2 : wr.there (w.heap.size + 1) 0 24 := fun j hj => by
        obtain ⟨h1, h2⟩ := TH.out j hj
        obtain ⟨v, hv⟩ := Option.isSome_iff_exists.1 h1
        exact ⟨by rw [BU.out.some hv (by omega)]; rfl, BU.out.soft wsz h2⟩
      have SZ : (srchA (enc q0) (fnN bM bA) (.slice sa k sc) (aO l k) (maskTo (pM l) k)).size = 24 := by simp [srchA, srchL_length (enc_len q0)]
      have SX := storeMid_any (w := wr) (b := w.heap.size + 1) (o := 0) (T := 108) (R := srchA (enc q0) (fnN bM bA) (.slice sa k sc) (aO l k) (maskTo (pM l) k)) (by rw [SZ]; exact TH2) (by rw [SZ]; exact sizeX) (by simpa [srchA] using srch_one (enc_one q0) rfl rfl _ _)
      rw [stX_named] at SX
      have RG := Lib.hid (show (wr.setCells (w.heap.size + 1) 0 (srchA (enc q0) (fnN bM bA) (.slice sa k sc) (aO l k) (maskTo (pM l) k)).toList).rangeAt (w.heap.size + 1) 0 (srchL (enc q0) (fnN bM bA) (.slice sa k sc) (aO l k) (maskTo (pM l) k)) by
        have := World.rangeAt_setCells_same wr (w.heap.size + 1) 0 (srchA (enc q0) (fnN bM bA) (.slice sa k sc) (aO l k) (maskTo (pM l) k)).toList (by rw [Array.length_toList, SZ]; exact TH2)
        simpa [srchA] using this)
      have KF := Lib.hid (show Kept w (wr.setCells (w.heap.size + 1) 0 (srchA (enc q0) (fnN bM bA) (.slice sa k sc) (aO l k) (maskTo (pM l) k)).toList) from (K1.out.put1 BU.out (by omega)).put1 (but_setCells _ _ _ (But.refl _ _)) (by omega))
      clear TH2 SZ
      go_wp2
      exact bodyPost_ret (search_result Tryz.results38 rfl (enc_len q0) RG.out) rfl ⟨by rw [HN.out], KF.out⟩
end Go.Proofs.YtbfmmndpboagdaaGreatDoor.SN

namespace Go.Proofs.YtbfmmndpboagdaaGreatDoor.SN
open Go.RowKit Go.Shelf
attribute [local go_sem] Oper.semAt_some
attribute [local go_sem ↓] ldQ_named stQ_named bsQ_named bdK_named ldX_named
attribute [local go_sem] Kept.refl Kept.drew Kept.drewN Kept.alloc

theorem Fail.ask {R : Nat → List El → Prop} {w : World} {b n : Nat} (h : Fail R w b n) {D : Nat} (hD : D < 65536) :
    ∃ d : List El → Bool, (∀ q, Okq q → d q = true → R D q) ∧ ∀ W q, W.heap[b]? = w.heap[b]? → Okq q →
      (Instr.lookup 230 (.map (some b)) (.agg (.int .u16 (D : Nat) :: enc q).toArray) true).run Tryz.prog W = .ok (.tuple #[.agg #[], .bool (d q)]) W := by
  obtain ⟨Dt, h, hr⟩ := h
  refine ⟨fun q => match keyOf Tryz.prog 234 (.agg (trc D q).toArray) with | some s => Maps.has Dt s | none => false, fun q hq hh => ?_, fun W q hW hq => ?_⟩
  · obtain ⟨s, hs⟩ := key_of hD hq
    simp only [hs] at hh
    exact hr D q s hD hq hs hh
  · obtain ⟨s, hs⟩ := key_of hD hq
    simp only [hs]
    obtain ⟨v, ps, hrun, hv⟩ := (owns_as h hW).look_ok keyed Tryz.underlying230 (zeroUn W) Go.unitElem_mk hs
    obtain ⟨rfl, _⟩ := Go.unitElem_inv hv
    exact hrun

set_option maxRecDepth 100000 in
set_option maxHeartbeats 2000000 in
theorem del_any {w : World} {bF bT mb : Nat} {D : Nat} {d : List El → Bool} {q : List El} (hq : Okq q) (cF : w.cell? ⟨bF, 0, none⟩ = some (.map (some mb))) (cT : w.cell? ⟨bT, 0, none⟩ = some (.int .u16 (D : Nat)))
    (hL : ∀ W, W.heap[mb]? = w.heap[mb]? → (Instr.lookup 230 (.map (some mb)) (.agg (.int .u16 (D : Nat) :: enc q).toArray) true).run Tryz.prog W = .ok (.tuple #[.agg #[], .bool (d q)]) W) (hm : mb < w.heap.size) :
    Calls Tryz.prog 162 #[.agg (enc q).toArray, .pointer (some ⟨bF, 0, none⟩), .pointer (some ⟨bT, 0, none⟩)] w fun e w' => e = .returned (.bool (d q)) ∧ Kept w w' := by
  obtain ⟨W0, hW0⟩ : ∃ W0, w.alloc (.cells (enc q).toArray 103) = W0 := ⟨_, rfl⟩
  have k0 : Kept w W0 := by rw [← hW0]; exact (Kept.refl w).alloc _ _
  have L := ldQ_ok (w := W0) (b := w.heap.size) (o := 0) hq (by rw [← hW0]; have := range_new w (enc q).toArray 103 w.heap.size rfl; simpa using this)
  have B := fun W => bdK_run hq.1 (D : Int) W
  have c1 := k0.some cF
  have c2 := k0.some cT
  have LK := hL W0 (k0.below.block _ hm)
  have HW := Lib.hid hW0
  have K0 := Lib.hid k0
  clear hL hW0 k0 cF cT hm
  go_enter Tryz.func162, Tryz.ntmps162
  go_upto_region 1 with fail
  rw [HW.out]
  go_wp2
  go_ret
  exact ⟨rfl, K0.out.alloc _ _⟩

def cost : Nat → Nat
  | 0 => 1024
  | f + 1 => 10 * cost f + 1024
theorem firstOf_at {α : Type} {f : Nat → Option α} {x : α} : ∀ {m i k : Nat}, k < m → f (i + k) = some x → (∀ j, j < k → f (i + j) = none) → firstOf f m i = some x := by
  intro m
  induction m with
  | zero => intro i k h; omega
  | succ m ih =>
    intro i k hk hx hb
    unfold firstOf
    cases k with
    | zero => rw [Nat.add_zero] at hx; rw [hx]
    | succ k =>
      have h0 := hb 0 (by omega)
      rw [Nat.add_zero] at h0
      rw [h0]
      exact ih (k := k) (by omega) (by rw [show i + 1 + k = i + (k + 1) by omega]; exact hx) fun j hj => by rw [show i + 1 + j = i + (j + 1) by omega]; exact hb (j + 1) (by omega)
def Vain (r : Int) (l : List Sp) (D : Nat) (q : List El) : Prop := ∀ f, leftN l.length D ≤ f → dfs (nextM r) l f D [q] = none
theorem vain_of {r : Int} {l : List Sp} {f D : Nat} {q : List El} (hf : leftN l.length D ≤ f) (h : dfs (nextM r) l f D [q] = none) : Vain r l D q := fun f' hf' => by
  cases h' : dfs (nextM r) l f' D [q] with
  | none => rfl
  | some o =>
    obtain ⟨h1, h2⟩ := dfs_sound (nextM r) l h'
    exact absurd h (dfs_complete (nextM r) l hf h1 h2)

abbrev fnT (bf bs by_ bF bt : Nat) : Value := .func (.func 160) #[] #[.pointer (some ⟨bf, 0, none⟩), .pointer (some ⟨bs, 0, none⟩), .pointer (some ⟨by_, 0, none⟩), .pointer (some ⟨bF, 0, none⟩), .pointer (some ⟨bt, 0, none⟩)]
structure TEnv (WI : World) (n0 bf by_ bF bt bs mb lp : Nat) (r : Int) (l : List Sp) (w : World) (cnt : Nat) : Prop where
  old : Kept WI w
  room : n0 ≤ w.heap.size
  found : w.cell? ⟨bf, 0, none⟩ = some (.int .i64 0)
  soft : w.frozen? ⟨bf, 0, none⟩ = false
  yld : w.cell? ⟨by_, 0, none⟩ = some (.func (.yield lp) #[] #[])
  fail : w.cell? ⟨bF, 0, none⟩ = some (.map (some mb))
  try_ : w.cell? ⟨bt, 0, none⟩ = some (fnT bf bs by_ bF bt)
  tried : Fail (Vain r l) w mb cnt
structure TBlk (WI : World) (n0 bf by_ bF bt mb : Nat) : Prop where
  b1 : bf < n0 ∧ bf ≠ mb ∧ WI.heap.size ≤ bf
  b2 : by_ < n0 ∧ by_ ≠ mb
  b3 : bF < n0 ∧ bF ≠ mb
  b4 : bt < n0 ∧ bt ≠ mb ∧ WI.heap.size ≤ bt
  b5 : mb < n0 ∧ WI.heap.size ≤ mb
  b6 : WI.heap.size ≤ n0
def TW (mb : Nat) (v : Value) (k : Nat) : Prop := k = mb ∨ v.ownBlock = some k
theorem TEnv.but {WI w w' : World} {n0 bf by_ bF bt bs mb lp : Nat} {r : Int} {l : List Sp} {cnt cnt' : Nat} (hB : TBlk WI n0 bf by_ bF bt mb) (h : TEnv WI n0 bf by_ bF bt bs mb lp r l w cnt) {v : Value} (hv : ∀ g, v.ownBlock = some g → n0 ≤ g) (b : But (TW mb v) w w') (hF : Fail (Vain r l) w' mb cnt') : TEnv WI n0 bf by_ bF bt bs mb lp r l w' cnt' := by
  have no : ∀ k, k < n0 → k ≠ mb → ¬ TW mb v k := fun k h1 h2 h3 => h3.elim h2 fun h => by have := hv k h; omega
  exact ⟨h.old.put b fun j hj => hj.elim (fun e => by rw [e]; exact hB.b5.2) fun e => Nat.le_trans hB.b6 (hv j e), Nat.le_trans h.room b.size,
    b.some h.found (no _ hB.b1.1 hB.b1.2.1), b.soft (Nat.lt_of_lt_of_le hB.b1.1 h.room) h.soft, b.some h.yld (no _ hB.b2.1 hB.b2.2), b.some h.fail (no _ hB.b3.1 hB.b3.2), b.some h.try_ (no _ hB.b4.1 hB.b4.2.1), hF⟩
theorem TEnv.kept {WI w w' : World} {n0 bf by_ bF bt bs mb lp : Nat} {r : Int} {l : List Sp} {cnt : Nat} (h : TEnv WI n0 bf by_ bF bt bs mb lp r l w cnt) (hb : bf < n0) (k : Kept w w') : TEnv WI n0 bf by_ bF bt bs mb lp r l w' cnt :=
  ⟨h.old.trans k, Nat.le_trans h.room k.size, k.some h.found, k.soft (Nat.lt_of_lt_of_le hb h.room) h.soft, k.some h.yld, k.some h.fail, k.some h.try_, h.tried.kept k⟩
theorem rows_apart {w : World} {b1 b2 : Nat} {v u : Value} {n m : Nat} {xs ys : List Value} (h1 : w.ownsRow b1 3 1 v n xs) (h2 : w.ownsRow b2 103 11 u m ys) (g : Nat) (hv : v.ownBlock = some g) (hu : u.ownBlock = some g) : False := by
  rcases h1.2 with ⟨rfl, _⟩ | ⟨g1, c1, cur1, rfl, _, hg1, _⟩
  · cases hv
  · rcases h2.2 with ⟨rfl, _⟩ | ⟨g2, c2, cur2, rfl, _, hg2, _⟩
    · cases hu
    · have e1 : g1 = g := by simpa [Value.ownBlock] using hv
      have e2 : g2 = g := by simpa [Value.ownBlock] using hu
      subst e1
      subst e2
      rw [hg1] at hg2
      injection hg2 with hg2
      injection hg2 with _ hg2
      exact absurd hg2 (by decide)
theorem row_no_map {w : World} {b : Nat} {e : TypeId} {size : Nat} {u : Value} {m mb cnt : Nat} {ys : List Value} {R : Nat → List El → Prop} (h2 : w.ownsRow b e size u m ys) (hF : Fail R w mb cnt) (hu : u.ownBlock = some mb) : False := by
  obtain ⟨Dt, ⟨es, clock, hb, _⟩, _⟩ := hF
  rcases h2.2 with ⟨rfl, _⟩ | ⟨g2, c2, cur2, rfl, _, hg2, _⟩
  · cases hu
  · have e2 : g2 = mb := by simpa [Value.ownBlock] using hu
    subst e2
    rw [hb] at hg2
    cases hg2
theorem yield_any {m m' : Nat} {l : Nat} {args : Array Value} {W : World} {Q : Ending → World → Prop} (h : YieldAt Fence.wide m Tryz.prog l args W Q) : YieldAt Fence.wide m' Tryz.prog l args W Q := by
  obtain ⟨fn, tmps, assign, body, hy, h1, h2⟩ := h
  exact ⟨fn, tmps, assign, body, hy, h1, fun c cs _ => h2 c cs (fun d hd => by cases hd)⟩
def TF (n bf mb : Nat) (v : Value) (k : Nat) : Prop := k < n ∨ k = bf ∨ TW mb v k
def TryPost (ws bf mb n0 : Nat) (r : Int) (l : List Sp) (Jx : List Nat → World → Prop) (w : World) (v : Value) (o : List Nat) (D : Nat) (S : List (List El)) (f cnt : Nat) (e : Ending) (w' : World) : Prop :=
  (e = .returned (.bool true) ∧ dfs (nextM r) l f D S = none ∧ But (TW mb v) w w' ∧ Fail (Vain r l) w' mb (cnt + cost f) ∧ w'.ownsRow n0 3 1 v o.length (ints (casts o))) ∨
  (e = .returned (.bool false) ∧ ∃ rest, dfs (nextM r) l f D S = some rest ∧ Jx (o ++ rest) w' ∧ But (TF ws bf mb v) w w')
end Go.Proofs.YtbfmmndpboagdaaGreatDoor.SN

namespace Go.Proofs.YtbfmmndpboagdaaGreatDoor.SN
open Go.RowKit Go.Shelf
attribute [local go_sem] Oper.semAt_some
attribute [local go_sem ↓] ldQ_named stQ_named bsQ_named bdK_named ldX_named
attribute [local go_sem] Kept.refl Kept.drew Kept.drewN Kept.alloc

structure TArg (WI : World) (n0 mb : Nat) (r : Int) (l : List Sp) (I : Nat → List (List El) → Prop) (w : World) (v : Value) (o : List Nat) (D : Nat) (u : Value) (S : List (List El)) (f cnt : Nat) : Prop where
  row : w.ownsRow n0 3 1 v o.length (ints (casts o))
  rowS : ∃ n1, w.ownsRow n1 103 11 u S.length (flatQ S)
  DB : D < 65536
  some : S ≠ []
  inv : I o.length S
  fuel : leftN l.length D ≤ f
  few : o.length + leftN l.length D ≤ 10
  room : cnt + cost f ≤ 4611686018427387904
  lt : ∀ i ∈ o, i < l.length
def Yields (WI : World) (l : List Sp) (lp : Nat) (Jx : List Nat → World → Prop) : Prop :=
  ∀ (o : List Nat) (a : Option Addr) (c : Nat) (W1 : World), Kept WI W1 → o.length ≤ 10 → (∀ i ∈ o, i < l.length) → OwnI W1 WI.heap.size (.slice a (casts o).length c) (casts o) →
    YieldAt Fence.wide 5 Tryz.prog lp #[.slice a (casts o).length c] W1 fun e W' => e = .returned (.bool false) ∧ Jx o W' ∧ But (fun k => k < WI.heap.size ∨ (Value.slice a (casts o).length c).ownBlock = some k) W1 W'

set_option maxRecDepth 100000 in
set_option maxHeartbeats 8000000 in
theorem try_full {WI w : World} {n0 bf by_ bF bt bs mb lp bM bA rb : Nat} {r : Int} {l : List Sp} {sa : Option Addr} {sn sc : Nat} {A : Nat → Nat} {m : Nat} {q0 : List El} {I : Nat → List (List El) → Prop} {Jx : List Nat → World → Prop}
    (hB : TBlk WI n0 bf by_ bF bt mb) (hSB : SBox WI bs q0 bM bA sa sn sc A m) (hS : Srch WI bM bA rb l sa sn sc A m) (hY : Yields WI l lp Jx)
    {v : Value} {o : List Nat} {D : Nat} {u : Value} {S : List (List El)} {f cnt : Nat} (hT : TEnv WI n0 bf by_ bF bt bs mb lp r l w cnt) (hA : TArg WI n0 mb r l I w v o D u S f cnt) (hf : full l D = true) :
    Calls Tryz.prog 160 #[v, .int .u16 D, u, .pointer (some ⟨bf, 0, none⟩), .pointer (some ⟨bs, 0, none⟩), .pointer (some ⟨by_, 0, none⟩), .pointer (some ⟨bF, 0, none⟩), .pointer (some ⟨bt, 0, none⟩)] w (TryPost WI.heap.size bf mb n0 r l Jx w v o D S f cnt) := by
  have HD := Lib.hid (show dfs (nextM r) l f D S = some [] by
    rw [dfs_full _ _ hf]
    cases S with
    | nil => exact absurd rfl hA.some
    | cons => rfl)
  have HOL := Lib.hid (fun W => holds_set D m hA.DB hS.ansB W)
  rw [← full_asked hS hA.DB, hf] at HOL
  have dn := (hSB.kept hT.old).done
  have c1 := hT.found
  have s1 := hT.soft
  have c2 := hT.yld
  have l1 := lt_of_cell c1
  have n21 : by_ ≠ bf := fun e => by rw [e, c1] at c2; cases c2
  have n21' : bf ≠ by_ := fun e => n21 e.symm
  have o10 : o.length ≤ 10 := by have := hA.few; omega
  have HA := Lib.hid hA
  have HT := Lib.hid hT
  have HBf := Lib.hid hB
  have HY := Lib.hid hY
  obtain ⟨a, c, rfl⟩ := own_form hA.row
  clear hA hT hf hB hY hSB hS
  go_enter Tryz.func160, Tryz.ntmps160
  go_wp2_with fail; refine (HOL.out _).mono ?_; rintro e w1 ⟨rfl, rfl⟩
  go_wp2
  obtain ⟨W1, hW1⟩ : ∃ W1, w.setCell ⟨bf, 0, none⟩ (.int .i64 1) = W1 := ⟨_, rfl⟩
  have b1 : But (fun k => k = bf) w W1 := by rw [← hW1]; exact (But.refl (fun k => k = bf) _).setCell (p := ⟨bf, 0, none⟩) (.inl rfl) _
  rw [hW1]
  have c3 := b1.some c2 n21
  have KW := Lib.hid (HT.out.old.put b1 fun j e => by rw [e]; exact HBf.out.b1.2.2)
  have ROW := Lib.hid (own_but HA.out.row b1 fun g hg e => by
    have h1 := (HA.out.row.lt g hg).1
    have h2 := HBf.out.b1.1
    omega)
  have CL := Lib.hid (fun W (K : Kept W1 W) => cloneI_any ((own_lies ROW.out).lay.kept K) (by simp [casts]) (by omega))
  clear hW1 c1 c2 s1 n21 n21' dn l1
  rw [← wpIn_wide (n := 6)]
  have hfm : Tryz.prog.follows .mixedOrders = true := by kernel_rfl
  have HYC := Lib.hid (fun v0 v1 a1 c1 (K0 : Kept W1 v0) (k1 : Kept v0 v1) (own1 : OwnI v1 v0.heap.size (.slice a1 (casts o).length c1) (casts o)) => HY.out o a1 c1 v1 (KW.out.trans (K0.trans k1)) o10 HA.out.lt (own_mono own1 (KW.out.trans K0).size))
  gi_region_with_o (first
    | (refine ⟨trivial, ?_⟩; gi_at_call 139; refine (callsIn_wide.2 (CL.out _ (by repeat (first | (with_reducible exact Kept.refl _) | (with_reducible refine Kept.drew ?_) | (with_reducible refine Kept.drewN ?_ _))))).mono ?_; rintro e v1 ⟨a1, c1, rfl, k1, own1⟩; obtain ⟨fn, tmps, assign, body, hy, hR⟩ := HYC.out _ v1 a1 c1 (by repeat (first | (with_reducible exact Kept.refl _) | (with_reducible refine Kept.drew ?_) | (with_reducible refine Kept.drewN ?_ _))) k1 own1; have ob := fun g hg => (own1.lt g hg).1; have c4 := (Kept.trans (b := W1.drew) (by repeat (first | (with_reducible exact Kept.refl _) | (with_reducible refine Kept.drew ?_) | (with_reducible refine Kept.drewN ?_ _))) k1).some c3; clear own1)
    | (refine hR.mono ?_; rintro e W3 ⟨rfl, hJ3, b3⟩; have b9 : But (TF WI.heap.size bf mb (.slice a o.length c)) w W3 := (b1.mono fun _ _ h => .inr (.inl h)).trans (((Kept.trans (b := W1.drew) (by repeat (first | (with_reducible exact Kept.refl _) | (with_reducible refine Kept.drew ?_) | (with_reducible refine Kept.drewN ?_ _))) k1).but (fun k => k < WI.heap.size)).trans b3 fun i hi h => h.elim id fun e => by (have h7 := ob i e; simp at h7; omega)) fun _ _ h => .inl h))
  all_goals go_wp2
  all_goals (go_ret; exact .inr ⟨rfl, [], HD.out, by rw [List.append_nil]; exact hJ3, b9⟩)
end Go.Proofs.YtbfmmndpboagdaaGreatDoor.SN
