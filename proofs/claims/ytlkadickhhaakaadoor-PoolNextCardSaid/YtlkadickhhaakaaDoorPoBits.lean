/- bit, has, with, without; math/bits.TrailingZeros64. -/
import Derived.Test.YtlkadickhhaakaaDoorPoSet
import Derived.Shelf.Spec.TrailingZeros
namespace Go.Proofs.YtlkadickhhaakaaDoor
open Go.RowKit
attribute [local go_sem ↓] ld_named st_named lv_named ix_named zv_named

theorem bits_andNot_u64_nat (a b : Nat) (ha : a < 18446744073709551616) (hb : b < 18446744073709551616) :
    bits .andNot .u64 (a : Int) (b : Int) = ((a &&& (18446744073709551615 - b) : Nat) : Int) := by
  have hx : a &&& (18446744073709551615 - b) < 2 ^ 64 := Nat.and_lt_two_pow _ (by omega)
  have h1 : (BitVec.ofInt 64 (a : Int)).toNat = a := by
    rw [BitVec.ofInt_natCast, BitVec.toNat_ofNat]; exact Nat.mod_eq_of_lt (by omega)
  have h2 : (BitVec.ofInt 64 (b : Int)).toNat = b := by
    rw [BitVec.ofInt_natCast, BitVec.toNat_ofNat]; exact Nat.mod_eq_of_lt (by omega)
  show IntKind.u64.wrap ((BitVec.ofInt 64 (a : Int) &&& Complement.complement (BitVec.ofInt 64 (b : Int))).toNat : Int) = _
  rw [BitVec.toNat_and, BitVec.toNat_not, h1, h2, IntKind.wrap_u64, show (2 ^ 64 - 1 - b : Nat) = 18446744073709551615 - b by omega]
  omega
theorem pow_lt (r : Nat) (h : r < 64) : 2 ^ r < 18446744073709551616 := by
  have : 2 ^ r < 2 ^ 64 := Nat.pow_lt_pow_right (by decide) h
  omega

theorem wrap_pow (r : Nat) (h : r < 64) : IntKind.u64.wrap (2 ^ r) = ((2 ^ r : Nat) : Int) := by
  have h1 := pow_lt r h
  have h2 : ((2 : Int) ^ r) = ((2 ^ r : Nat) : Int) := by simp
  rw [IntKind.wrap_u64, h2]
  generalize 2 ^ r = z at h1
  omega

set_option maxHeartbeats 1000000 in
theorem bit_any (i : Nat) (hi : i < 1024) (w : World) : Calls Tryd.prog 48 #[.int .i64 i] w fun e w' => e = .returned (.int .u64 ((2 ^ (i % 64) : Nat) : Int)) ∧ w = w' := by
  have h1 : (i : Int).tmod 64 = ((i % 64 : Nat) : Int) := by
    have := Int.tmod_eq_emod_of_nonneg (a := (i : Int)) (b := 64) (by omega)
    omega
  have h2 : (i : Int) % 64 = ((i % 64 : Nat) : Int) := by omega
  obtain ⟨r, hr⟩ : ∃ r, r = i % 64 := ⟨_, rfl⟩
  have r64 : r < 64 := by omega
  rw [← hr] at h1 h2 ⊢
  clear hr
  go_enter Tryd.func48, Tryd.ntmps48
  go_wp2
  go_ret
  refine ⟨?_, rfl⟩
  show Ending.returned (.int .u64 (IntKind.u64.wrap (2 ^ r))) = _
  rw [wrap_pow r r64]

/-- The word and the bit of an index. -/
theorem div_int (i : Nat) : (i : Int).tdiv 64 = ((i / 64 : Nat) : Int) ∧ (i : Int) / 64 = ((i / 64 : Nat) : Int) := by
  have := Int.tdiv_eq_ediv_of_nonneg (a := (i : Int)) (b := 64) (by omega)
  omega
theorem bit_has {M : Nat → Bool} {i x : Nat} (hx : x < 18446744073709551616) (hb : ∀ t, t < 64 → x.testBit t = M (i / 64 * 64 + t)) :
    (bits .and .u64 (x : Int) ((2 ^ (i % 64) : Nat) : Int) == 0) = !M i := by
  rw [bits_and_u64_nat x _ hx (pow_lt _ (by omega))]
  have hm := hb (i % 64) (by omega)
  rw [show i / 64 * 64 + i % 64 = i by omega] at hm
  rw [← hm]
  cases h : x.testBit (i % 64) with
  | true =>
    have : x &&& 2 ^ (i % 64) ≠ 0 := fun e => by
      have h2 : (x &&& 2 ^ (i % 64)).testBit (i % 64) = true := by rw [Nat.testBit_and, h, Nat.testBit_two_pow_self]; rfl
      rw [e] at h2
      simp at h2
    simp
    omega
  | false =>
    have : x &&& 2 ^ (i % 64) = 0 := by
      apply Nat.eq_of_testBit_eq
      intro t
      rw [Nat.testBit_and, Nat.testBit_two_pow, Nat.zero_testBit]
      by_cases e : i % 64 = t
      · subst e; simp [h]
      · simp [e]
    simp [this]
theorem bit_with {M : Nat → Bool} {i x : Nat} (hx : x < 18446744073709551616) (hb : ∀ t, t < 64 → x.testBit t = M (i / 64 * 64 + t)) :
    ∃ y : Nat, bits .or .u64 (x : Int) ((2 ^ (i % 64) : Nat) : Int) = (y : Int) ∧ y < 18446744073709551616 ∧ ∀ t, t < 64 → y.testBit t = upd M i true (i / 64 * 64 + t) := by
  have hp := pow_lt (i % 64) (by omega)
  refine ⟨_, bits_or_u64_nat x _ hx hp, ?_, fun t ht => ?_⟩
  · have := Nat.or_lt_two_pow (n := 64) (x := x) (y := 2 ^ (i % 64)) (by omega) (by omega)
    omega
  · rw [Nat.testBit_or, hb t ht, Nat.testBit_two_pow]
    unfold upd
    by_cases e : i % 64 = t
    · rw [if_pos (by omega)]; simp [e]
    · rw [if_neg (by omega)]; simp [e]
theorem bit_without {M : Nat → Bool} {i x : Nat} (hx : x < 18446744073709551616) (hb : ∀ t, t < 64 → x.testBit t = M (i / 64 * 64 + t)) :
    ∃ y : Nat, bits .andNot .u64 (x : Int) ((2 ^ (i % 64) : Nat) : Int) = (y : Int) ∧ y < 18446744073709551616 ∧ ∀ t, t < 64 → y.testBit t = upd M i false (i / 64 * 64 + t) := by
  have hp := pow_lt (i % 64) (by omega)
  refine ⟨_, bits_andNot_u64_nat x _ hx hp, Nat.lt_of_le_of_lt Nat.and_le_left hx, fun t ht => ?_⟩
  rw [Nat.testBit_and, hb t ht, show 18446744073709551615 - 2 ^ (i % 64) = 2 ^ 64 - (2 ^ (i % 64) + 1) by omega, Nat.testBit_two_pow_sub_succ (by omega), Nat.testBit_two_pow]
  unfold upd
  by_cases e : i % 64 = t
  · rw [if_pos (by omega)]; simp [e]
  · rw [if_neg (by omega)]; simp [e, ht]
theorem Ws.set {R : Array Value} {M : Nat → Bool} (h : Ws R M) {i : Nat} {b : Bool} {y : Nat} (_ : i < 1024) (hy : y < 18446744073709551616) (hb : ∀ t, t < 64 → y.testBit t = upd M i b (i / 64 * 64 + t)) :
    Ws (R.setIfInBounds (i / 64) (.int .u64 y)) (upd M i b) := by
  refine ⟨by simp [h.size], fun k hk => ?_⟩
  by_cases e : i / 64 = k
  · subst e
    exact ⟨y, by rw [Array.getElem?_setIfInBounds, if_pos rfl, if_pos (by rw [h.size]; exact hk)], hy, hb⟩
  · obtain ⟨x, h1, h2, h3⟩ := h.word k hk
    refine ⟨x, by rw [Array.getElem?_setIfInBounds, if_neg e]; exact h1, h2, fun t ht => ?_⟩
    rw [h3 t ht]
    unfold upd
    rw [if_neg (by omega)]

set_option maxHeartbeats 1000000 in
theorem has_any {R : Array Value} {M : Nat → Bool} (h : Ws R M) (i : Nat) (hi : i < 1024) (w : World) :
    Calls Tryd.prog 52 #[.agg R, .int .i64 i] w fun e w' => e = .returned (.bool (M i)) ∧ Kept w w' := by
  obtain ⟨x, h1, h2, h3⟩ := h.word (i / 64) (by omega)
  have b1 := WsAt.new w R 57 h.size h.one _ rfl
  have c1 := b1.cell _ _ h1
  have v1 := bit_has (i := i) h2 h3
  have BT := Lib.hid (fun W => bit_any i hi W)
  obtain ⟨d1, d2⟩ := div_int i
  obtain ⟨q, hq⟩ : ∃ q, q = i / 64 := ⟨_, rfl⟩
  rw [← hq] at d1 d2 c1
  have q16 : q < 16 := by omega
  have q17 : (q : Int) < 16 := by omega
  have q18 : (0 : Int) ≤ (q : Int) := by omega
  have wq : IntKind.i64.wrap (q : Int) = (q : Int) := by rw [IntKind.wrap_i64]; omega
  obtain ⟨p, hp⟩ : ∃ p : Int, p = ((2 ^ (i % 64) : Nat) : Int) := ⟨_, rfl⟩
  rw [← hp] at BT v1
  clear hp hq h h1 h2 h3 b1
  go_enter Tryd.func52, Tryd.ntmps52
  go_wp2
  go_region_held3 (fun w' => w'.cell? ⟨w.heap.size, q, none⟩ = some (.int .u64 x)) (first | assumption | go_keep) (first | (go_at_call 48; refine (BT.out _).mono ?_; rintro e w1 ⟨rfl, rfl⟩))
  go_wp2
  go_ret
  refine ⟨?_, ((Kept.refl w).alloc _ _).drew⟩
  show Ending.returned (.bool (bits .and .u64 (x : Int) p != 0)) = _
  rw [bne, v1, Bool.not_not]

set_option maxRecDepth 100000 in
set_option maxHeartbeats 1000000 in
theorem with_any {R : Array Value} {M : Nat → Bool} (h : Ws R M) (i : Nat) (hi : i < 1024) (w : World) :
    Calls Tryd.prog 44 #[.agg R, .int .i64 i] w fun e w' => ∃ R', e = .returned (.agg R') ∧ Ws R' (upd M i true) ∧ Kept w w' := by
  obtain ⟨Z, hZ, hz⟩ := zeroed
  obtain ⟨x, h1, h2, h3⟩ := h.word (i / 64) (by omega)
  obtain ⟨y, v1, hy, hyb⟩ := bit_with (i := i) h2 h3
  have RG := Lib.hid (h.set hi hy hyb)
  obtain ⟨W2, hW2⟩ : ∃ W2, W2 = ((w.alloc (.cells R 57)).alloc (.cells Z 57)) := ⟨_, rfl⟩
  have k2 : Kept w W2 := by rw [hW2]; exact ((Kept.refl w).alloc _ _).alloc _ _
  have b1 : WsAt W2 w.heap.size R := by rw [hW2]; exact (WsAt.new w R _ h.size h.one _ rfl).kept ((Kept.refl _).alloc _ _)
  have b2 : WsAt W2 (w.heap.size + 1) Z := by rw [hW2]; exact WsAt.new _ Z _ hZ.size hZ.one _ (by simp)
  have c1 := b1.cell _ _ h1
  have s1 := b1.soft (i / 64)
  have b3 := (b1.set (i / 64) (.int .u64 y) rfl).kept (Kept.refl _).drew
  have k3 : Kept w (W2.setCell ⟨w.heap.size, i / 64, none⟩ (.int .u64 y)).drew := (k2.setCell (p := ⟨w.heap.size, i / 64, none⟩) (Nat.le_refl _) _).drew
  have d3 : WsAt (W2.setCell ⟨w.heap.size, i / 64, none⟩ (.int .u64 y)).drew (w.heap.size + 1) Z := (b2.but ((But.refl (fun j => j = w.heap.size) _).here _ _) (by omega)).kept (Kept.refl _).drew
  have ld := ws_ld b3
  obtain ⟨w5, run5, but5, big5, s5⟩ := ws_st d3 b3.size b3.one
  have k5 := Lib.hid (k3.wrote1 but5 (by omega))
  have BT := Lib.hid (fun W => bit_any i hi W)
  obtain ⟨d1, d2⟩ := div_int i
  obtain ⟨R5, hR5⟩ : ∃ R5, R5 = R.setIfInBounds (i / 64) (.int .u64 (y : Int)) := ⟨_, rfl⟩
  rw [← hR5] at big5 RG ld run5
  obtain ⟨q, hq⟩ : ∃ q, q = i / 64 := ⟨_, rfl⟩
  rw [← hq] at d1 d2 c1 s1 ld run5
  have q16 : q < 16 := by omega
  have q17 : (q : Int) < 16 := by omega
  have q18 : (0 : Int) ≤ (q : Int) := by omega
  have wq : IntKind.i64.wrap (q : Int) = (q : Int) := by rw [IntKind.wrap_i64]; omega
  obtain ⟨p, hp⟩ : ∃ p : Int, p = ((2 ^ (i % 64) : Nat) : Int) := ⟨_, rfl⟩
  rw [← hp] at BT v1
  have HW2 := Lib.hid hW2
  clear hp hq h h1 h2 h3 hy hyb b1 b2 b3 d3 k3 but5 s5 hZ hW2 k2 hR5
  go_enter Tryd.func44, Tryd.ntmps44
  go_upto_region 1 with fail
  rw [← HW2.out]
  go_region_with (first | (go_at_call 48; refine (BT.out _).mono ?_; rintro e w1 ⟨rfl, rfl⟩))
  all_goals go_wp2
  all_goals exact bodyPost_ret (v := .agg R5) (ws_result Tryd.results44 rfl big5) rfl ⟨R5, rfl, RG.out, k5.out⟩

set_option maxRecDepth 100000 in
set_option maxHeartbeats 1000000 in
theorem without_any {R : Array Value} {M : Nat → Bool} (h : Ws R M) (i : Nat) (hi : i < 1024) (w : World) :
    Calls Tryd.prog 42 #[.agg R, .int .i64 i] w fun e w' => ∃ R', e = .returned (.agg R') ∧ Ws R' (upd M i false) ∧ Kept w w' := by
  obtain ⟨Z, hZ, hz⟩ := zeroed
  obtain ⟨x, h1, h2, h3⟩ := h.word (i / 64) (by omega)
  obtain ⟨y, v1, hy, hyb⟩ := bit_without (i := i) h2 h3
  have RG := Lib.hid (h.set hi hy hyb)
  obtain ⟨W2, hW2⟩ : ∃ W2, W2 = ((w.alloc (.cells R 57)).alloc (.cells Z 57)) := ⟨_, rfl⟩
  have k2 : Kept w W2 := by rw [hW2]; exact ((Kept.refl w).alloc _ _).alloc _ _
  have b1 : WsAt W2 w.heap.size R := by rw [hW2]; exact (WsAt.new w R _ h.size h.one _ rfl).kept ((Kept.refl _).alloc _ _)
  have b2 : WsAt W2 (w.heap.size + 1) Z := by rw [hW2]; exact WsAt.new _ Z _ hZ.size hZ.one _ (by simp)
  have c1 := b1.cell _ _ h1
  have s1 := b1.soft (i / 64)
  have b3 := (b1.set (i / 64) (.int .u64 y) rfl).kept (Kept.refl _).drew
  have k3 : Kept w (W2.setCell ⟨w.heap.size, i / 64, none⟩ (.int .u64 y)).drew := (k2.setCell (p := ⟨w.heap.size, i / 64, none⟩) (Nat.le_refl _) _).drew
  have d3 : WsAt (W2.setCell ⟨w.heap.size, i / 64, none⟩ (.int .u64 y)).drew (w.heap.size + 1) Z := (b2.but ((But.refl (fun j => j = w.heap.size) _).here _ _) (by omega)).kept (Kept.refl _).drew
  have ld := ws_ld b3
  obtain ⟨w5, run5, but5, big5, s5⟩ := ws_st d3 b3.size b3.one
  have k5 := Lib.hid (k3.wrote1 but5 (by omega))
  have BT := Lib.hid (fun W => bit_any i hi W)
  obtain ⟨d1, d2⟩ := div_int i
  obtain ⟨R5, hR5⟩ : ∃ R5, R5 = R.setIfInBounds (i / 64) (.int .u64 (y : Int)) := ⟨_, rfl⟩
  rw [← hR5] at big5 RG ld run5
  obtain ⟨q, hq⟩ : ∃ q, q = i / 64 := ⟨_, rfl⟩
  rw [← hq] at d1 d2 c1 s1 ld run5
  have q16 : q < 16 := by omega
  have q17 : (q : Int) < 16 := by omega
  have q18 : (0 : Int) ≤ (q : Int) := by omega
  have wq : IntKind.i64.wrap (q : Int) = (q : Int) := by rw [IntKind.wrap_i64]; omega
  obtain ⟨p, hp⟩ : ∃ p : Int, p = ((2 ^ (i % 64) : Nat) : Int) := ⟨_, rfl⟩
  rw [← hp] at BT v1
  have HW2 := Lib.hid hW2
  clear hp hq h h1 h2 h3 hy hyb b1 b2 b3 d3 k3 but5 s5 hZ hW2 k2 hR5
  go_enter Tryd.func42, Tryd.ntmps42
  go_upto_region 1 with fail
  rw [← HW2.out]
  go_region_with (first | (go_at_call 48; refine (BT.out _).mono ?_; rintro e w1 ⟨rfl, rfl⟩))
  all_goals go_wp2
  all_goals exact bodyPost_ret (v := .agg R5) (ws_result Tryd.results42 rfl big5) rfl ⟨R5, rfl, RG.out, k5.out⟩

/-! ### the table of math/bits -/
/-- It lies as its initialiser lays it. -/
def Tab (w : World) : Prop := TabAt 0 Lib.deBruijn64tab w
theorem Tab.kept {w w' : World} (h : Tab w) (k : Kept w w') : Tab w' := fun j hj => k.some (h j hj)
theorem Tab.but {S : Nat → Prop} {w w' : World} (h : Tab w) (k : But S w w') (hS : ¬ S 0) : Tab w' := fun j hj => k.some (h j hj) hS
theorem Tab.lt {w : World} (h : Tab w) : 0 < w.heap.size := lt_of_cell (h 0 (by decide))

set_option maxHeartbeats 1000000 in
theorem tz_core (x k idx : Nat) (w : World) (hx0 : ((x : Int) == 0) = false)
    (key : IntKind.u64.wrap (bits BinOp.and IntKind.u64 (x : Int) (IntKind.u64.wrap (-(x : Int))) * 285870213051353865) / 288230376151711744 = (idx : Int))
    (hi : idx < 64) (hk : k < 64) (hcell : w.cell? ⟨0, idx, none⟩ = some (.int .u8 k)) :
    Calls Tryd.prog 51 #[.int .u64 x] w fun e w' => e = .returned (.int .i64 k) ∧ w' = w := by
  go_enter Tryd.func51, Tryd.ntmps51
  go_wp2_with (simp only [key])
  go_ret
  exact ⟨rfl, rfl⟩
theorem tz_any (x : Nat) (hx : x < 18446744073709551616) (hx0 : x ≠ 0) (w : World) (hT : Tab w) :
    Calls Tryd.prog 51 #[.int .u64 x] w fun e w' => e = .returned (.int .i64 (Lib.ctz 64 x)) ∧ w' = w := by
  obtain ⟨hlow, hk⟩ := Lib.lowest_bit 64 x hx0 hx
  obtain ⟨hi, htab⟩ := Lib.deBruijn64_at _ hk
  have hcell := hT _ hi
  rw [htab] at hcell
  exact tz_core x _ _ w (by simp; omega) (tz64_key x _ hx hx0 hlow) hi hk hcell
end Go.Proofs.YtlkadickhhaakaaDoor
