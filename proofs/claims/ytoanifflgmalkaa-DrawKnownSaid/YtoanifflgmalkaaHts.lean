/- Heights: the program's and the document's. -/
import Derived.Test.YtoanifflgmalkaaHgt
import Derived.Test.YtoanifflgmalkaaKitInts
import Derived.OwnWalk
import Derived.Deep.AppendLies
namespace Go.Proofs.Ytoanifflgmalkaa
open Go.RowKit

/-- The heights of a list. -/
def hts (f : Nat → Int) (most : Int) (len i : Nat) : Int := if i < len then hgt (f i) most else 0
theorem hgt_range (n most : Int) (h : most ≤ 9223372036854775807) : 1 ≤ hgt n most ∧ hgt n most ≤ 65 ∧ hgt n most ≤ max 1 most := by
  have := ones_le n
  unfold hgt
  omega

set_option maxHeartbeats 1000000 in
theorem heights_any {w : World} {a : Option Addr} {len cap : Nat} {f : Nat → Int} (h : Row w a len cap f) (hl : len ≤ 1000000) (most : Int) (h3 : -9223372036854775808 ≤ most) (h4 : most ≤ 9223372036854775807) :
    Calls Try.prog 24 #[.slice a len cap, .int .i64 most] w fun e w' => ∃ b, e = .returned (.slice (some ⟨b, 0, none⟩) len len) ∧ Kept w w' ∧ Made w w' b len len (hts f most len) := by
  obtain ⟨Z, hZ, hmake⟩ := make_ints len hl
  have kz : Kept w (w.alloc (.cells Z 3)) := (Kept.refl w).alloc _ _
  have softz : ∀ i, (w.alloc (.cells Z 3)).frozen? ⟨w.heap.size, i, none⟩ = false := fun i => by
    rw [frozen?_alloc_cells]; simp [World.frozen?]
  by_cases h0 : len = 0
  · have H0 := Lib.hid h0
    have KZ := Lib.hid kz
    have SZ := Lib.hid softz
    have hz : ¬ (0 : Int) < (len : Int) := by omega
    clear h hZ kz softz h0
    go_enter Try.func24, Try.ntmps24
    go_wp2
    go_loopw [13] (fun i wr => i = .int .i64 0 ∧ wr = w.alloc (.cells Z 3)) (fun _ _ => 0)
    case atStart => exact ⟨rfl, rfl⟩
    case round =>
      obtain ⟨rfl, rfl⟩ := hrel
      go_wp2
      go_ret
      exact ⟨_, rfl, KZ.out, Nat.le_refl _, by simp, Nat.le_refl _, by unfold maxLen; omega, fun i hi => absurd hi (by have := H0.out; omega), SZ.out⟩
  · obtain ⟨b, o, rfl, hb, hc⟩ : ∃ b o, a = some ⟨b, o, none⟩ ∧ b < w.heap.size ∧ ∀ i, i < len → w.cell? ⟨b, o + i, none⟩ = some (.int .i64 (f i)) := by
      rcases h.2.2.2 with h | ⟨_, _, h⟩ | h
      · exact absurd h.2.1 h0
      · exact absurd h h0
      · exact h
    have hn := h.1
    have hcap := h.2.2.1
    have hle := h.2.1
    unfold maxLen at hcap
    have hcz : ∀ i, i < len → (w.alloc (.cells Z 3)).cell? ⟨w.heap.size, i, none⟩ = some (.int .i64 0) := fun i hi => (cell_new _ _ _ _ i rfl).trans (hZ i hi)
    have HC := Lib.hid hc
    have HN := Lib.hid hn
    have HZ := Lib.hid hcz
    have KZ := Lib.hid kz
    have SZ := Lib.hid softz
    clear h hZ hc hn hcz kz softz
    go_enter Try.func24, Try.ntmps24
    go_wp2
    go_loopw [13] (fun i wr => ∃ k : Nat, k ≤ len ∧ i = .int .i64 k ∧ Kept w wr ∧ w.heap.size < wr.heap.size ∧ (∀ i, wr.frozen? ⟨w.heap.size, i, none⟩ = false) ∧ (∀ i, i < len → wr.cell? ⟨w.heap.size, i, none⟩ = some (.int .i64 (if i < k then hgt (f i) most else 0)))) (fun i _ => len - (intOf i).toNat)
    case atStart => exact ⟨0, Nat.zero_le _, rfl, KZ.out, by simp, SZ.out, fun i hi => by simpa using HZ.out i hi⟩
    case round =>
      obtain ⟨k, hk, rfl, hK, hs, hsoft, hcell⟩ := hrel
      have HCC := Lib.hid hcell
      have HS := Lib.hid hsoft
      have HK := Lib.hid hK
      clear hcell hsoft hK
      by_cases hlt : k < len
      · have c1 := HK.out.some (HC.out k hlt)
        have c2 := HCC.out k hlt
        have c3 := HS.out k
        have l1 := HN.out.lo k
        have l2 := HN.out.hi k
        go_wp2_with fail; refine (height_any (f k) most l1 l2 h3 h4 _).mono ?_; rintro e w2 ⟨rfl, rfl⟩
        go_wp2
        go_roundw
        case rel => exact ⟨k + 1, by omega, by go_num, HK.out.setCell (by simp) _, by simpa using hs, fun i => by rw [World.frozen?_setCell]; exact HS.out i, fun i hi => by
          rw [cell_set]
          by_cases e : k = i
          · subst e
            rw [if_pos rfl, c2]
            simp
          · rw [if_neg e, HCC.out i hi]
            have e1 : (i < k + 1) = (i < k) := by apply propext; omega
            simp only [e1]⟩
        case measure => simp [intOf]; omega
      · obtain rfl : k = len := by omega
        go_wp2
        go_ret
        exact ⟨_, rfl, HK.out, Nat.le_refl _, hs, Nat.le_refl _, by unfold maxLen; omega, fun i hi => by rw [HCC.out i hi]; rfl, HS.out⟩

/-- The document's: what has been appended after k rounds. -/
def told (f : Nat → Int) (most : Int) (k : Nat) : List Value := (List.range k).map fun i => Value.int .i64 (hgt (f i) most)
theorem told_succ (f : Nat → Int) (most : Int) (k : Nat) : told f most (k + 1) = told f most k ++ [.int .i64 (hgt (f k) most)] := by simp [told, List.range_succ]

set_option maxHeartbeats 2000000 in
theorem refHeights_any {w : World} {a : Option Addr} {len cap : Nat} {f : Nat → Int} (h : Row w a len cap f) (hl : len ≤ 1000000) (most : Int) (h3 : -9223372036854775808 ≤ most) (h4 : most ≤ 9223372036854775807) :
    Calls Try.prog 25 #[.slice a len cap, .int .i64 most] w fun e w' => ∃ a' C, e = .returned (.slice a' len C) ∧ Kept w w' ∧ Reads w' a' len (hts f most len) := by
  obtain ⟨i0, hi, hz0, hz1, hz2⟩ := info_parts infoInt
  by_cases h0 : len = 0
  · subst h0
    clear h hl
    go_enter Try.func25, Try.ntmps25
    go_wp2
    go_loopw [5, 6] (fun v i wr => v = .slice none 0 0 ∧ i = .int .i64 0 ∧ wr = w) (fun _ _ _ => 0)
    case atStart => exact ⟨rfl, rfl, rfl⟩
    case round =>
      obtain ⟨rfl, rfl, rfl⟩ := hrel
      go_wp2
      go_ret
      exact ⟨none, 0, rfl, Kept.refl _, .inl rfl⟩
  · obtain ⟨b, o, rfl, hb, hc⟩ : ∃ b o, a = some ⟨b, o, none⟩ ∧ b < w.heap.size ∧ ∀ i, i < len → w.cell? ⟨b, o + i, none⟩ = some (.int .i64 (f i)) := by
      rcases h.2.2.2 with h | ⟨_, _, h⟩ | h
      · exact absurd h.2.1 h0
      · exact absurd h h0
      · exact h
    have hn := h.1
    have hcap := h.2.2.1
    have hle := h.2.1
    unfold maxLen at hcap
    have HC := Lib.hid hc
    have HN := Lib.hid hn
    have HB := Lib.hid hb
    clear h hc hn hb
    go_enter Try.func25, Try.ntmps25
    go_wp2
    go_loopw [5, 6] (fun v i wr => ∃ (k : Nat), k ≤ len ∧ i = .int .i64 k ∧ Kept w wr ∧ wr.ownsRow w.heap.size 3 1 v k (told f most k)) (fun _ i _ => len - (intOf i).toNat)
    case atStart => exact ⟨0, Nat.zero_le _, rfl, Kept.refl _, World.ownsRow_nil _ _ _ _⟩
    case round =>
      obtain ⟨k, hk, rfl, hK, hrow⟩ := hrel
      have HK := Lib.hid hK
      have HR := Lib.hid hrow
      clear hK hrow
      by_cases hlt : k < len
      · have c1 := HK.out.some (HC.out k hlt)
        have l1 := HN.out.lo k
        have l2 := HN.out.hi k
        go_wp2_with (first
          | (refine (refHeight_any (f k) most l1 l2 h3 h4 _).mono ?_; rintro e w2 ⟨rfl, rfl⟩)
          | (at_builtin; refine wpList_append_own _ rfl _ _ 22 rfl w.heap.size 3 i0 (.int .i64 0) 1 8 Try.underlying22 hi hz0 hz1 hz2 rfl (by decide) _ _ _ rfl (HR.out.alloc _) ⟨wr.heap.size, 0, none⟩ 1 1 [.int .i64 (hgt (f k) most)] rfl ?qc1 ?qc2 ?qc3 ?qc4 ?qc5 ?qc6 ?_))
        case qc1 => rfl
        case qc2 =>
          intro j u hj
          cases j with
          | zero => rw [← hj]; exact cell_new _ _ _ _ 0 rfl
          | succ j => simp at hj
        case qc3 => intro u hu; simp at hu; subst hu; rfl
        case qc4 => unfold maxLen; omega
        case qc5 => omega
        case qc6 => have := HK.out.size; simp; omega
        intro v' w1 hown hgrow hnil
        have hKz : Kept w (wr.alloc (.cells #[.int .i64 (hgt (f k) most)] 3)) := HK.out.alloc _ _
        have hk1 : Kept w w1 := ⟨hKz.below.grown hgrow hKz.size (fun j e => (HR.out.lt j e).1)⟩
        have HO := Lib.hid hown
        have HK1 := Lib.hid hk1
        clear hown hgrow hnil hk1 hKz
        go_wp2
        go_roundw
        case rel => exact ⟨k + 1, by omega, by go_num, HK1.out, by rw [told_succ]; exact HO.out⟩
        case measure => simp [intOf]; omega
      · obtain rfl : k = len := by omega
        obtain ⟨g, C, hv, _⟩ := HR.out.form (by omega)
        subst hv
        go_wp2
        go_ret
        refine ⟨_, C, rfl, HK.out, .inr ⟨g, 0, rfl, fun i hi => ?_⟩⟩
        have := HR.out.cells (g := g) rfl i (.int .i64 (hgt (f i) most)) (by simp [told, hi])
        rw [Addr.add_lit] at this
        rw [this]
        simp [hts, hi]
end Go.Proofs.Ytoanifflgmalkaa
