/- stands: the law's own account of a frame. -/
import Derived.Test.YtdgajkimepgljaaFKnown
import Derived.Test.YtdgajkimepgljaaFSum
import Derived.Deep.RegionHeld3
import Derived.KernelRfl
namespace Go.Proofs.Ytdgajkimepgljaa
open Go.RowKit

/-- The law's list of bools: which cores are busy. -/
structure Win (w : World) (g n : Nat) (s : St) : Prop where
  cell : ∀ i : Nat, i < n → w.cell? ⟨g, i, none⟩ = some (.bool (s.on i))
  soft : ∀ i, w.frozen? ⟨g, i, none⟩ = false
  lt : g < w.heap.size
theorem Win.kept {w w' : World} {g n : Nat} {s : St} (h : Win w g n s) (k : Kept w w') : Win w' g n s :=
  ⟨fun i hi => k.some (h.cell i hi), fun i => k.soft h.lt (h.soft i), Nat.lt_of_lt_of_le h.lt k.size⟩

theorem cores_get {n m : Nat} {s : St} (h : Fine n m s) (k : Nat) (d : Int) (hd : (cores s n)[k]? = some d) : turnOf s n k = d ∧ turnOf s n ((k : Int) - (cores s n).length) = d := by
  have hk : k < (cores s n).length := (List.getElem?_eq_some_iff.1 hd).1
  have e1 : (k : Int) % ((cores s n).length : Int) = k := Int.emod_eq_of_lt (by omega) (by omega)
  have e2 : ((k : Int) - (cores s n).length) % ((cores s n).length : Int) = k := by
    rw [Int.sub_emod_right]; exact e1
  have e3 : ¬ (cores s n).length = 0 := by omega
  unfold turnOf
  rw [if_neg e3, if_neg e3, e1, e2]
  simp [hd]
theorem cores_snoc (s : St) (k : Nat) : cores s (k + 1) = cores s k ++ (if s.on k then [(k : Int)] else []) := by
  unfold cores Lf
  rw [ents_snoc, List.map_append]
  split <;> simp [ent]

set_option maxRecDepth 100000 in
set_option maxHeartbeats 8000000 in
theorem stands_yes {u w : World} {F n m : Nat} {s : St} {S : Nat → Prop} (h : One u w F n m s S) (hm : m ≤ 1000) (g : Nat) (hw : Win w g n s) (hs : Sums n s) :
    Calls Try.prog 31 #[.pointer (some ⟨F, 0, none⟩), .slice (some ⟨g, 0, none⟩) n n, .int .i64 s.all] w fun e w' => e = .returned (.bool true) ∧ Kept w w' := by
  have hf := h.fine
  have n64 := hf.n64
  have am := hf.am
  have a0 := hf.all0
  have dl := hf.dm
  have cl : (cores s n).length ≤ 64 := cores_length hf
  have H := Lib.hid h
  have HW := Lib.hid hw
  have HS := Lib.hid hs
  have HF := Lib.hid hf
  obtain ⟨i0, hi0, hz0, hz1, hz2⟩ := info_parts infoIntF
  clear h hw hs hf
  go_enter Try.func31, Try.ntmps31
  go_wp2_with fail; refine (H.out.deeds hm).mono ?_; rintro e w1 ⟨a, c, rfl, k1, own1⟩
  have K1 := Lib.hid k1
  have L1 := Lib.hid (own_lies own1)
  clear k1 own1
  go_wp2
  go_loopw [7, 9] (fun t i wr => ∃ k : Nat, k ≤ s.D.length ∧ t = .int .i64 (dsum (s.D.take k)) ∧ i = .int .i64 k ∧ w1 = wr) (fun _ i _ => s.D.length - (intOf i).toNat)
  case atStart => exact ⟨0, Nat.zero_le _, by simp [dsum], rfl, rfl⟩
  case round =>
    obtain ⟨k, hk, rfl, rfl, rfl⟩ := hrel
    by_cases hlt : k < s.D.length
    · obtain ⟨d, hd⟩ : ∃ d, s.D[k]? = some d := ⟨_, List.getElem?_eq_getElem hlt⟩
      obtain ⟨g1, o1, c1, hv, _, _, hc⟩ := L1.out.deed (by omega)
      cases hv
      have x2 := (hc k d hd).2.2
      obtain ⟨p1, p2⟩ := HS.out.part HF.out k
      obtain ⟨p3, p4⟩ := HS.out.part HF.out (k + 1)
      have e2 := dsum_take s.D k d hd
      rw [e2] at p3 p4
      clear hc
      go_wp2
      go_roundw
      case rel => exact ⟨k + 1, by omega, by rw [e2], by go_num, by first | rfl | trivial⟩
      case measure => simp [intOf]; omega
    · obtain rfl : k = s.D.length := by omega
      rw [List.take_length]
      go_wp2
      go_loopw [7, 10, 11] (fun t v i w2 => ∃ k : Nat, k ≤ n ∧ t = .int .i64 (dsum s.D + csum s k) ∧ (∃ a2 c2, v = .slice a2 (cores s k).length c2 ∧ OwnI w2 w1.heap.size (.slice a2 (cores s k).length c2) (cores s k)) ∧ i = .int .i64 k ∧ Kept w1 w2) (fun _ _ i _ => n - (intOf i).toNat)
      case atStart => exact ⟨0, Nat.zero_le _, by simp [csum], ⟨none, 0, rfl, World.ownsRow_nil _ _ _ _⟩, rfl, Kept.refl _⟩
      case round =>
        obtain ⟨k, hk, rfl, ⟨a2, c2, rfl, own2⟩, rfl, k2⟩ := hrel
        have OW := Lib.hid own2
        have K2 := Lib.hid k2
        clear own2 k2
        by_cases hlt : k < n
        · obtain ⟨p1, p2⟩ := HS.out.mid HF.out k hk
          obtain ⟨p3, p4⟩ := HS.out.mid HF.out (k + 1) (by omega)
          rw [csum_succ, ← Int.add_assoc] at p3 p4
          have ck : (cores s k).length ≤ k := by have := ents_length s 0 k; simpa [cores, Lf] using this
          go_wp2_with fail; refine ((H.out.kept (K1.out.trans K2.out)).what k).mono ?_; rintro e w3 ⟨rfl, k3⟩
          have K3 := Lib.hid (K2.out.trans k3)
          have c0 := (HW.out.kept (K1.out.trans K3.out)).cell k hlt
          have OW3 := Lib.hid (own_same (w' := w3) OW.out (fun g hg => k3.below.block g (OW.out.lt g hg).2))
          clear k3
          cases ho : s.on k with
          | true =>
            rw [ho] at c0
            have e1 := cores_snoc s k
            rw [ho, if_pos rfl] at e1
            go_wp2_with (at_builtin; refine wpList_append_any _ rfl _ _ _ rfl w1.heap.size 3 i0 _ 1 8 Try.underlying39 hi0 hz0 hz1 hz2 (by rfl) (by decide) (.slice a2 (cores s k).length c2) (cores s k).length (ints (cores s k)) (by simp [Act.eval, Act.put]) (own_same OW3.out (fun g hg => ((Kept.refl w3).alloc _ _).below.block g (OW3.out.lt g hg).2)) _ 1 (ints [(k : Int)]) (by simp [Act.eval, Act.put]) (by rfl) (lies_int1 (heap_alloc_new _ _)) (ints_one _) (by unfold maxLen; omega) (by omega) (by have := K3.out.size; simp; omega) ?_; intro a4 c4 w4 own4 but4 at4)
            have K4 : Hid (Kept w1 w4) := Lib.hid ((((K3.out.alloc _ _).but _).trans but4 (fun _ _ h => h)).kept fun j hj e => by have := (OW3.out.lt j e).1; omega)
            have OW4 : Hid (OwnI w4 w1.heap.size (.slice a4 ((cores s k).length + 1) c4) (cores s (k + 1))) := Lib.hid (by
              rw [e1]
              have e3 : (cores s k ++ [(k : Int)]).length = (cores s k).length + 1 := by simp
              unfold OwnI
              rw [e3, ints_append]
              exact own4)
            clear own4 but4 at4 OW OW3
            go_wp2_with fail; refine ((H.out.kept (K1.out.trans K4.out)).steps k).mono ?_; rintro e w5 ⟨rfl, k5⟩
            go_wp2
            go_roundw
            case rel => exact ⟨k + 1, by omega, by rw [csum_succ, Int.add_assoc], ⟨a4, c4, by rw [e1]; simp, by
              have e3 : (cores s (k + 1)).length = (cores s k).length + 1 := by rw [e1]; simp
              rw [e3]
              exact own_same (w' := w5) OW4.out (fun g hg => k5.below.block g (OW4.out.lt g hg).2)⟩, by go_num, K4.out.trans k5⟩
            case measure => simp [intOf]; omega
          | false =>
            rw [ho] at c0
            have e1 := cores_snoc s k
            rw [ho, if_neg (by simp), List.append_nil] at e1
            go_wp2_with fail; refine ((H.out.kept (K1.out.trans K3.out)).steps k).mono ?_; rintro e w5 ⟨rfl, k5⟩
            go_wp2
            go_roundw
            case rel => exact ⟨k + 1, by omega, by rw [csum_succ, Int.add_assoc], ⟨a2, c2, by rw [e1], by
              rw [e1]
              exact own_same (w' := w5) OW3.out (fun g hg => k5.below.block g (OW3.out.lt g hg).2)⟩, by go_num, K3.out.trans k5⟩
            case measure => simp [intOf]; omega
        · obtain rfl : k = n := by omega
          have LB := Lib.hid (own_lies OW.out)
          go_wp2
          go_loopw [14] (fun i w3 => ∃ j : Nat, j ≤ (cores s k).length ∧ i = .int .i64 j ∧ Kept w1 w3 ∧ Lies w3 (.slice a2 (cores s k).length c2) (cores s k).length (ints (cores s k))) (fun i _ => (cores s k).length - (intOf i).toNat)
          case atStart => exact ⟨0, Nat.zero_le _, rfl, K2.out, LB.out⟩
          case round =>
            obtain ⟨j, hj, rfl, k3, l3⟩ := hrel
            have K3 := Lib.hid k3
            have L3 := Lib.hid l3
            have HO := Lib.hid (H.out.kept (K1.out.trans k3))
            clear k3 l3
            by_cases hlt2 : j < (cores s k).length
            · obtain ⟨d, hd⟩ : ∃ d, (cores s k)[j]? = some d := ⟨_, List.getElem?_eq_getElem hlt2⟩
              obtain ⟨t1, t2⟩ := cores_get HF.out j d hd
              obtain ⟨g2, o2, c3, hv, _, _, hc⟩ := L3.out.int (by omega)
              cases hv
              have x0 := hc j d hd
              have LT := lt_of_cell x0
              have T1 := Lib.hid t1
              have T2 := Lib.hid t2
              clear hc t1 t2
              have sb : IntKind.i64.wrap ((j : Int) - ((cores s k).length : Int)) = (j : Int) - ((cores s k).length : Int) := by rw [IntKind.wrap_i64]; omega
              have P1 := Lib.hid (fun (W : World) (hk : Kept wr W) => (HO.out.kept hk).turn' j d (by omega) (by omega) T1.out)
              have P2 := Lib.hid (fun (W : World) (hk : Kept wr W) => (HO.out.kept hk).turn' (IntKind.i64.wrap ((j : Int) - ((cores s k).length : Int))) d (by rw [sb]; omega) (by rw [sb]; omega) (by rw [sb]; exact T2.out))
              clear T1 T2 HO sb
              go_wp2_with fail
              go_region_held3 (fun w' => w'.cell? ⟨g2, o2 + j, none⟩ = some (.int .i64 d))
                (first | assumption | exact K5.some x0 | exact K4.some x0 | go_keep)
                (first
                  | (go_at_call 23; refine (P1.out _ ?_).mono ?_; (first | with_reducible exact Kept.refl _ | with_reducible exact (Kept.refl _).drew | with_reducible exact (Kept.refl _).drewN _); clear P1; rintro e w4 ⟨rfl, k4⟩; have K4 : Kept wr w4 := (by first | with_reducible exact k4 | with_reducible exact (Kept.refl _).drew.trans k4))
                  | (go_at_call 23; refine (P2.out _ ?_).mono ?_; (first | with_reducible exact K4 | with_reducible exact K4.drew); rintro e w5 ⟨rfl, k5⟩; have K5 : Kept wr w5 := (by first | with_reducible exact K4.trans k5 | with_reducible exact K4.drew.trans k5)))
              go_wp2
              go_roundw
              case rel => exact ⟨j + 1, by omega, by go_num, K3.out.trans K5, L3.out.kept K5⟩
              case measure => simp [intOf]; omega
            · obtain rfl : j = (cores s k).length := by omega
              have es := HS.out.sum
              go_wp2_with fail; refine (HO.out.all).mono ?_; rintro e w4 ⟨rfl, rfl⟩
              go_wp2_with fail; refine (HO.out.busy).mono ?_; rintro e w5 ⟨a5, c5, rfl, k5, own5⟩
              have K5 := Lib.hid k5
              have L5 := Lib.hid (own_lies own5)
              clear k5 own5
              go_wp2_with fail; refine (sameInts_yes L5.out (L3.out.kept K5.out) (by omega)).mono ?_; rintro e w6 ⟨rfl, k6⟩
              have K6 := Lib.hid (K5.out.trans k6)
              clear k6
              by_cases h0 : (cores s k).length = 0
              · rw [h0]
                go_wp2_with fail; refine ((HO.out.kept K6.out).turn' s.all (-1) (by omega) (by omega) (by simp [turnOf, h0])).mono ?_; rintro e w7 ⟨rfl, k7⟩
                go_wp2
                go_ret
                exact ⟨rfl, ((K1.out.trans K3.out).trans K6.out).trans k7⟩
              · have hpos : 0 < (cores s k).length := by omega
                go_wp2
                go_ret
                exact ⟨rfl, (K1.out.trans K3.out).trans K6.out⟩
end Go.Proofs.Ytdgajkimepgljaa
