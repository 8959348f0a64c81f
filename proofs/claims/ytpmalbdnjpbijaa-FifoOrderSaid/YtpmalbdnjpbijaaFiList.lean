/- The program's list of a ring. -/
import Derived.Test.YtpmalbdnjpbijaaFiProg
import Derived.Test.YtpmalbdnjpbijaaFiRow
namespace Go.Proofs.Ytpmalbdnjpbijaa
open Go.RowKit
attribute [local go_sem ↓] ld_named st_named cp_named bd_named lv_named

/-- A new list of words is told. -/
def RetW (w : World) (l : List Int) (ed : Ending) (w' : World) : Prop := ∃ a c, ed = .returned (.slice a l.length c) ∧ Kept w w' ∧ OwnW w' w.heap.size (.slice a l.length c) l
def ListAt (w : World) (g n : Nat) (q : List Int) (i : Value) (wr : World) : Prop := ∃ k : Nat, k ≤ n ∧ i = .int .i64 k ∧ Filled wr g 23 n (words (q.take k)) ∧ Kept w wr

set_option maxHeartbeats 2000000 in
theorem list_any {w : World} {b room : Nat} {R : Array Value} {q : List Int} (hb : BigAt w b R) (hR : Rg R room q) :
    Calls Try.prog 31 #[.pointer (some ⟨b, 0, none⟩)] w (RetW w q) := by
  obtain ⟨f, hf, hfc, hfq⟩ := hR.first
  have c0 := hb.cell _ _ hfc
  have c1 := hb.cell _ _ hR.many
  have hfit := hR.fits
  have hm := hR.most
  have HQ := Lib.hid (fun i x h => hb.cell _ _ (hfq i x h))
  have HB := Lib.hid hb
  obtain ⟨n, hn⟩ : ∃ n, n = q.length := ⟨_, rfl⟩
  rw [← hn] at c1 hfit
  have HN := Lib.hid hn
  obtain ⟨Z, hZ, hmake⟩ := make_words n (by omega)
  have PL := Lib.hid (fun W (k : Kept w W) m (hm : m ≤ 1024) => place_any (n := m) (k.some c0) hf hm)
  obtain ⟨W0, hW0⟩ : ∃ W0, w.alloc (.cells Z 23) = W0 := ⟨_, rfl⟩
  have HW := Lib.hid hW0
  have F0 := Lib.hid (show Filled W0 w.heap.size 23 n [] by rw [← hW0]; exact Filled.new w Z _ n hZ)
  have K0 := Lib.hid (show Kept w W0 by rw [← hW0]; exact (Kept.refl w).alloc _ _)
  have hbl := hb.lt
  clear hn hb hR hfc hfq hW0 hZ c0
  go_enter Try.func31, Try.ntmps31
  go_wp2
  rw [HW.out]
  go_loopw [12] (fun i wr => ListAt w w.heap.size n q i wr) (fun i _ => n - (intOf i).toNat)
  case atStart => exact ⟨0, Nat.zero_le _, rfl, F0.out, K0.out⟩
  case round =>
    obtain ⟨k, hk, rfl, hfill, hkept⟩ := hrel
    have FI := Lib.hid hfill
    have KE := Lib.hid hkept
    clear hfill hkept
    by_cases hlt : k < n
    · obtain ⟨x, hx⟩ : ∃ x, q[k]? = some x := ⟨_, List.getElem?_eq_getElem (by rw [← HN.out]; exact hlt)⟩
      have x0 := KE.out.some (HQ.out k x hx)
      have HX := Lib.hid hx
      clear hx
      obtain ⟨v0, hv0⟩ := FI.out.cell k hlt
      have f0 := FI.out.soft k
      have PK := Lib.hid (fun W (k' : Kept wr W) => PL.out W (KE.out.trans k') k (by omega))
      obtain ⟨i, hi⟩ : ∃ i, i = (f + k) % 1024 := ⟨_, rfl⟩
      rw [← hi] at x0 PK
      have i1 : i < 1024 := by omega
      have i2 : (i : Int) < 1024 := by omega
      have k2 : (k : Int) < (n : Int) := by omega
      clear hi
      go_wp2
      have hne : w.heap.size ≠ b := by omega
      go_region_held3 (fun w' => w'.cell? ⟨b, i, none⟩ = some (.int .u64 x)) (first | assumption | (simp [cell_set_far _ _ _ _ _ _ hne, x0]; done) | go_keep) (first | (go_at_call 40; refine (PK.out _ (by first | with_reducible exact Kept.refl _ | with_reducible exact (Kept.refl _).drew | with_reducible exact (Kept.refl _).drewN _)).mono ?_; rintro e w1 ⟨rfl, rfl⟩))
      go_wp2
      go_roundw
      case rel => exact ⟨k + 1, by omega, by go_num, by
        have h := FI.out.set (.int .u64 x) k (by simp [words]; have := HN.out; omega) (by simp [words]; have := HN.out; omega)
        rw [take_snoc q k x HX.out, words_append]
        exact h.kept ((Kept.refl _).drew), (KE.out.setCell (p := ⟨w.heap.size, k, none⟩) (Nat.le_refl _) _).drew⟩
      case measure => simp [intOf]; omega
    · have hkn : k = n := by omega
      subst hkn
      have hlen := HN.out
      clear HN
      subst hlen
      go_wp2
      go_ret
      refine ⟨some ⟨w.heap.size, 0, none⟩, q.length, rfl, KE.out, ?_⟩
      have h := FI.out
      rw [List.take_length] at h
      exact h.own (by simp [words]) (by omega) (Nat.le_refl _) (by unfold maxLen; omega)
end Go.Proofs.Ytpmalbdnjpbijaa
