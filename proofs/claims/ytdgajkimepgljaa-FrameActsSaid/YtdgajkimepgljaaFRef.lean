/- The document's frame: New, at, Of, Busy, Turn. -/
import Derived.Test.YtdgajkimepgljaaFMem
import Derived.Test.YtdgajkimepgljaaFInts
import Derived.Test.YtdgajkimepgljaaFDeeds
import Derived.WalkMore
import Derived.BigQuiet
import Derived.Deep.RegionHeld3
namespace Go.Proofs.Ytdgajkimepgljaa
open Go.RowKit

/-! ### where a core stands in the list -/
def idx (s : St) (i : Nat) : Nat := (ents s 0 i).length
theorem Lf_on (s : St) (n i : Nat) (h : i < n) (ho : s.on i = true) : Lf s n = ents s 0 i ++ (ent s i :: ents s (i + 1) (n - i - 1)) := by
  rw [Lf_split s n i h, ho]; rfl
theorem Lf_off (s : St) (n i : Nat) (h : i < n) (ho : s.on i = false) : Lf s n = ents s 0 i ++ ents s (i + 1) (n - i - 1) := by
  rw [Lf_split s n i h, ho]; rfl
theorem Lf_below (s : St) (n i : Nat) (h : i < n) (j : Nat) (hj : j < idx s i) (d : Dd) (hd : (Lf s n)[j]? = some d) : d.1 < i := by
  rw [Lf_split s n i h, List.getElem?_append_left hj] at hd
  obtain ⟨k, _, h2, _, rfl⟩ := ents_mem s 0 i d (List.mem_of_getElem? hd)
  simp only [ent]; omega
theorem Lf_at (s : St) (n i : Nat) (h : i < n) (ho : s.on i = true) : (Lf s n)[idx s i]? = some (ent s i) := by
  unfold idx
  rw [Lf_on s n i h ho, List.getElem?_append_right (Nat.le_refl _)]
  simp
theorem Lf_above (s : St) (n i : Nat) (h : i < n) (ho : s.on i = false) (d : Dd) (hd : (Lf s n)[idx s i]? = some d) : (i : Int) < d.1 := by
  unfold idx at hd
  rw [Lf_off s n i h ho, List.getElem?_append_right (Nat.le_refl _)] at hd
  obtain ⟨k, h1, _, _, rfl⟩ := ents_mem s (i + 1) (n - i - 1) d (List.mem_of_getElem? hd)
  simp only [ent]; omega
theorem Lf_ne (s : St) (n : Nat) (c : Int) (ho : s.on c = false) (j : Nat) (d : Dd) (hd : (Lf s n)[j]? = some d) : ¬ d.1 = c := by
  obtain ⟨k, _, _, h3, rfl⟩ := ents_mem s 0 n d (List.mem_of_getElem? hd)
  intro e
  simp only [ent] at e
  rw [e, ho] at h3
  cases h3
theorem idx_le (s : St) (n i : Nat) (h : i < n) : idx s i ≤ (Lf s n).length := by
  rw [Lf_split s n i h]; simp [idx]
theorem idx_lt (s : St) (n i : Nat) (h : i < n) (ho : s.on i = true) : idx s i < (Lf s n).length := by
  rw [Lf_on s n i h ho]; simp [idx]
theorem Lf_length {m n : Nat} {s : St} (h : Fine n m s) : (Lf s n).length ≤ 64 := by
  have := ents_length s 0 n
  have := h.n64
  unfold Lf
  omega

/-! ### New -/
theorem refNew_out {w : World} (c : Int) (hc : ¬ (1 ≤ c ∧ c ≤ 64)) :
    Calls Try.prog 9 #[.int .i64 c] w fun e w' => e = .returned (.tuple #[.pointer none, .int .i64 3]) ∧ w' = w := by
  by_cases h0 : c < 1
  · go_enter Try.func9, Try.ntmps9
    go_wp2
    refine bodyPost_ret (v := .tuple #[.pointer none, .int .i64 3]) (by simp [results, Try.results9, go_sem]) rfl ⟨rfl, rfl⟩
  · have h1 : 64 < c := by omega
    go_enter Try.func9, Try.ntmps9
    go_wp2
    refine bodyPost_ret (v := .tuple #[.pointer none, .int .i64 3]) (by simp [results, Try.results9, go_sem]) rfl ⟨rfl, rfl⟩
theorem Lf_zero (n : Nat) : Lf St.zero n = [] := by
  have : ∀ d, d ∉ Lf St.zero n := by
    intro d hd
    obtain ⟨_, _, _, h, _⟩ := ents_mem _ _ _ _ hd
    cases h
  exact List.eq_nil_iff_forall_not_mem.2 this
theorem refNew_in {w : World} (n : Nat) (h1 : 1 ≤ n) (h2 : n ≤ 64) :
    Calls Try.prog 9 #[.int .i64 n] w fun e w' => ∃ R, e = .returned (.tuple #[.pointer (some ⟨R, 0, none⟩), .int .i64 0]) ∧ Kept w w' ∧ RF w' R (.slice none 0 0) (.slice none 0 0) w.heap.size n 0 St.zero := by
  go_enter Try.func9, Try.ntmps9
  go_wp2
  refine bodyPost_ret (v := .tuple #[.pointer (some ⟨w.heap.size, 0, none⟩), .int .i64 0]) (by simp [results, Try.results9, go_sem]) rfl ⟨_, rfl, (Kept.refl w).alloc _ _, ?_⟩
  refine ⟨Fine.zero n h1 h2, cell_new _ _ _ _ 0 rfl, cell_new _ _ _ _ 1 rfl, cell_new _ _ _ _ 2 rfl, cell_new _ _ _ _ 3 rfl, fun i => ?_, ?_, World.ownsRow_nil _ _ _ _, Nat.le_refl _, by simp [Value.ownBlock], by simp [Value.ownBlock], by simp [Value.ownBlock]⟩
  · simp only [frozen?_alloc_cells]; simp [World.frozen?]
  · rw [Lf_zero]; exact World.ownsRow_nil _ _ _ _

/-! ### at -/
theorem refAt_out {w : World} {R : Nat} {lv dv : Value} {base n m : Nat} {s : St} (h : RF w R lv dv base n m s) (c : Int) (hc : ¬ (0 ≤ c ∧ c < n)) :
    Calls Try.prog 35 #[.pointer (some ⟨R, 0, none⟩), .int .i64 c] w fun e w' => e = .returned (.tuple #[.int .i64 (-1), .int .i64 3]) ∧ w' = w := by
  have c0 := h.num
  clear h
  by_cases h0 : c < 0
  · go_enter Try.func35, Try.ntmps35
    go_wp2
    refine bodyPost_ret (v := .tuple #[.int .i64 (-1), .int .i64 3]) (by simp [results, Try.results35, go_sem]) rfl ⟨rfl, rfl⟩
  · have h1 : (n : Int) ≤ c := by omega
    go_enter Try.func35, Try.ntmps35
    go_wp2
    refine bodyPost_ret (v := .tuple #[.int .i64 (-1), .int .i64 3]) (by simp [results, Try.results35, go_sem]) rfl ⟨rfl, rfl⟩

set_option maxHeartbeats 1000000 in
theorem refAt_on {w : World} {R : Nat} {lv dv : Value} {base n m : Nat} {s : St} (h : RF w R lv dv base n m s) (i : Nat) (hi : i < n) (ho : s.on i = true) :
    Calls Try.prog 35 #[.pointer (some ⟨R, 0, none⟩), .int .i64 i] w fun e w' => e = .returned (.tuple #[.int .i64 (idx s i : Nat), .int .i64 0]) ∧ w' = w := by
  have c0 := h.num
  have c1 := h.lst
  have n64 := h.fine.n64
  have hl := Lf_length h.fine
  have il := idx_lt s n i hi ho
  obtain ⟨g, o, c, rfl, _, _, hc⟩ := (own_lies h.ownL).deed (by omega)
  have HC := Lib.hid hc
  clear h hc
  go_enter Try.func35, Try.ntmps35
  go_wp2
  go_loopw [6] (fun t wr => ∃ j : Nat, j ≤ idx s i ∧ t = .int .i64 j ∧ w = wr) (fun t _ => (Lf s n).length - (intOf t).toNat)
  case atStart => exact ⟨0, Nat.zero_le _, rfl, rfl⟩
  case round =>
    obtain ⟨j, hj, rfl, rfl⟩ := hrel
    obtain ⟨d, hd⟩ : ∃ d, (Lf s n)[j]? = some d := ⟨_, List.getElem?_eq_getElem (by omega)⟩
    have x0 := (HC.out j d hd).1
    have hjl : j < (Lf s n).length := by omega
    by_cases hlt : j < idx s i
    · have hb := Lf_below s n i hi j hlt d hd
      have hne : ¬ d.1 = (i : Int) := by omega
      go_wp2
      go_roundw
      case rel => exact ⟨j + 1, by omega, by go_num, by first | rfl | trivial⟩
      case measure => simp [intOf]; omega
    · obtain rfl : j = idx s i := by omega
      rw [Lf_at s n i hi ho] at hd
      injection hd with hd
      subst hd
      simp only [ent] at x0
      go_wp2
      refine bodyPost_ret (v := .tuple #[.int .i64 (idx s i : Nat), .int .i64 0]) (by simp [results, Try.results35, go_sem]) rfl ⟨rfl, rfl⟩

set_option maxHeartbeats 1000000 in
theorem refAt_off {w : World} {R : Nat} {lv dv : Value} {base n m : Nat} {s : St} (h : RF w R lv dv base n m s) (i : Nat) (hi : i < n) (ho : s.on i = false) :
    Calls Try.prog 35 #[.pointer (some ⟨R, 0, none⟩), .int .i64 i] w fun e w' => e = .returned (.tuple #[.int .i64 (-1), .int .i64 15]) ∧ w' = w := by
  have c0 := h.num
  have c1 := h.lst
  have n64 := h.fine.n64
  have hl := Lf_length h.fine
  obtain ⟨a, c, rfl⟩ := own_form h.ownL
  have L := Lib.hid (own_lies h.ownL)
  clear h
  go_enter Try.func35, Try.ntmps35
  go_wp2
  go_loopw [6] (fun t wr => ∃ j : Nat, j ≤ (Lf s n).length ∧ t = .int .i64 j ∧ w = wr) (fun t _ => (Lf s n).length - (intOf t).toNat)
  case atStart => exact ⟨0, Nat.zero_le _, rfl, rfl⟩
  case round =>
    obtain ⟨j, hj, rfl, rfl⟩ := hrel
    by_cases hlt : j < (Lf s n).length
    · obtain ⟨d, hd⟩ : ∃ d, (Lf s n)[j]? = some d := ⟨_, List.getElem?_eq_getElem hlt⟩
      obtain ⟨g, o, c', hv, _, _, hc⟩ := L.out.deed (by omega)
      cases hv
      have x0 := (hc j d hd).1
      have hne := Lf_ne s n i ho j d hd
      clear hc
      go_wp2
      go_roundw
      case rel => exact ⟨j + 1, by omega, by go_num, by first | rfl | trivial⟩
      case measure => simp [intOf]; omega
    · go_wp2
      refine bodyPost_ret (v := .tuple #[.int .i64 (-1), .int .i64 15]) (by simp [results, Try.results35, go_sem]) rfl ⟨rfl, rfl⟩

theorem refAt_not {w : World} {R : Nat} {lv dv : Value} {base n m : Nat} {s : St} (h : RF w R lv dv base n m s) (c : Int) (hc : s.on c = false) :
    Calls Try.prog 35 #[.pointer (some ⟨R, 0, none⟩), .int .i64 c] w fun e w' => e = .returned (.tuple #[.int .i64 (-1), .int .i64 (sErr s n c)]) ∧ w' = w := by
  by_cases h0 : 0 ≤ c ∧ c < n
  · obtain ⟨i, rfl⟩ := Int.eq_ofNat_of_zero_le h0.1
    have e : sErr s n i = 15 := by simp [sErr, h0, hc]
    rw [e]
    exact refAt_off h i (by omega) hc
  · have e : sErr s n c = 3 := by simp [sErr, h0]
    rw [e]
    exact refAt_out h c h0

/-! ### Of -/
set_option maxHeartbeats 1000000 in
theorem refOf_any {w : World} {R : Nat} {lv dv : Value} {base n m : Nat} {s : St} (h : RF w R lv dv base n m s) (c : Int) :
    Calls Try.prog 17 #[.pointer (some ⟨R, 0, none⟩), .int .i64 c] w fun e w' => e = .returned (.tuple #[.int .i64 (s.what c), .int .i64 (s.steps c), .bool (s.on c)]) ∧ Kept w w' := by
  cases ho : s.on c with
  | true =>
    obtain ⟨h0, h1⟩ := h.fine.inn c ho
    obtain ⟨i, rfl⟩ := Int.eq_ofNat_of_zero_le h0
    have hi : i < n := by omega
    have c1 := h.lst
    have hl := Lf_length h.fine
    have il := idx_lt s n i hi ho
    obtain ⟨g, o, c', rfl, _, _, hc⟩ := (own_lies h.ownL).deed (by omega)
    obtain ⟨_, x1, x2⟩ := hc _ _ (Lf_at s n i hi ho)
    simp only [ent] at x1 x2
    have H := Lib.hid h
    clear h hc
    go_enter Try.func17, Try.ntmps17
    go_wp2_with fail; refine (refAt_on H.out i hi ho).mono ?_; rintro e w1 ⟨rfl, rfl⟩
    go_wp2
    go_quiet (fail)
    go_wp2
    refine bodyPost_ret (v := .tuple #[.int .i64 (s.what i), .int .i64 (s.steps i), .bool true]) (by simp [results, Try.results17, go_sem]) rfl ⟨rfl, (Kept.refl _).drewN _⟩
  | false =>
    obtain ⟨hz1, hz2⟩ := h.fine.off c ho
    rw [hz1, hz2]
    have H := Lib.hid h
    clear h hz1 hz2
    rcases sErr_not (n := n) ho with he | he
    · go_enter Try.func17, Try.ntmps17
      go_wp2_with fail; refine (refAt_not H.out c ho).mono ?_; rintro e w1 ⟨rfl, rfl⟩
      rw [he]
      go_wp2
      refine bodyPost_ret (v := .tuple #[.int .i64 0, .int .i64 0, .bool false]) (by simp [results, Try.results17, go_sem]) rfl ⟨rfl, Kept.refl _⟩
    · go_enter Try.func17, Try.ntmps17
      go_wp2_with fail; refine (refAt_not H.out c ho).mono ?_; rintro e w1 ⟨rfl, rfl⟩
      rw [he]
      go_wp2
      refine bodyPost_ret (v := .tuple #[.int .i64 0, .int .i64 0, .bool false]) (by simp [results, Try.results17, go_sem]) rfl ⟨rfl, Kept.refl _⟩

/-! ### Busy, Turn -/
theorem cores_get' (s : St) (n j : Nat) (d : Dd) (hd : (Lf s n)[j]? = some d) : (cores s n)[j]? = some d.1 := by simp [cores, hd]
set_option maxHeartbeats 2000000 in
theorem refBusy_any {w : World} {R : Nat} {lv dv : Value} {base n m : Nat} {s : St} (h : RF w R lv dv base n m s) :
    Calls Try.prog 22 #[.pointer (some ⟨R, 0, none⟩)] w fun e w' => ∃ a c, e = .returned (.slice a (cores s n).length c) ∧ Kept w w' ∧ OwnI w' w.heap.size (.slice a (cores s n).length c) (cores s n) := by
  have c1 := h.lst
  have hl := Lf_length h.fine
  have cl : (cores s n).length = (Lf s n).length := by simp [cores]
  obtain ⟨a, c, rfl⟩ := own_form h.ownL
  have L := Lib.hid (own_lies h.ownL)
  have RL := h.lt R (.inl rfl)
  obtain ⟨i0, hi0, hz0, hz1, hz2⟩ := info_parts infoIntF
  clear h
  go_enter Try.func22, Try.ntmps22
  go_wp2
  go_loopw [3, 4] (fun v t wr => ∃ j : Nat, j ≤ (Lf s n).length ∧ t = .int .i64 j ∧ Kept w wr ∧ ∃ a2 c2, v = .slice a2 ((cores s n).take j).length c2 ∧ OwnI wr w.heap.size (.slice a2 ((cores s n).take j).length c2) ((cores s n).take j)) (fun _ t _ => (Lf s n).length - (intOf t).toNat)
  case atStart => exact ⟨0, Nat.zero_le _, rfl, Kept.refl _, none, 0, rfl, World.ownsRow_nil _ _ _ _⟩
  case round =>
    obtain ⟨j, hj, rfl, kr, a2, c2, rfl, own2⟩ := hrel
    have KR := Lib.hid kr
    have OW := Lib.hid own2
    have e1 := KR.out.some c1
    clear kr own2
    by_cases hlt : j < (Lf s n).length
    · obtain ⟨d, hd⟩ : ∃ d, (Lf s n)[j]? = some d := ⟨_, List.getElem?_eq_getElem hlt⟩
      obtain ⟨g, o, c', hv, _, _, hc⟩ := (L.out.kept KR.out).deed (by omega)
      cases hv
      have x0 := (hc j d hd).1
      have tk : (cores s n).take (j + 1) = (cores s n).take j ++ [d.1] := by rw [List.take_add_one, cores_get' s n j d hd]; rfl
      have tl : ((cores s n).take j).length ≤ 64 := by rw [List.length_take]; omega
      have tl2 := Lib.hid (show ((cores s n).take j).length = j by rw [List.length_take]; omega)
      clear hc
      go_wp2_with (at_builtin; refine wpList_append_any _ rfl _ _ _ rfl w.heap.size 3 i0 _ 1 8 Try.underlying39 hi0 hz0 hz1 hz2 (by rfl) (by decide) (.slice a2 ((cores s n).take j).length c2) ((cores s n).take j).length (ints ((cores s n).take j)) (by simp [Act.eval, Act.put]) (own_same OW.out (fun g hg => ((Kept.refl wr).alloc _ _).below.block g (OW.out.lt g hg).2)) _ 1 (ints [d.1]) (by simp [Act.eval, Act.put]) (by rfl) (lies_int1 (heap_alloc_new _ _)) (ints_one _) (by unfold maxLen; omega) (by omega) (by have := KR.out.size; simp; omega) ?_; intro a4 c4 w4 own4 but4 at4)
      go_roundw
      case rel =>
        have e3 : ((cores s n).take (j + 1)).length = ((cores s n).take j).length + 1 := by rw [tk]; simp
        refine ⟨j + 1, by omega, by go_num, (((KR.out.alloc _ _).but _).trans but4 (fun _ _ h => h)).kept (fun k hk e => by have := (OW.out.lt k e).1; omega), a4, c4, by rw [e3, tl2.out], ?_⟩
        unfold OwnI
        rw [e3, tk, ints_append]
        exact own4
      case measure => simp [intOf]; omega
    · obtain rfl : j = (Lf s n).length := by omega
      have tt : (cores s n).take (Lf s n).length = cores s n := by rw [← cl, List.take_length]
      rw [tt] at OW ⊢
      go_wp2
      go_ret
      exact ⟨a2, c2, rfl, KR.out, OW.out⟩

set_option maxHeartbeats 1000000 in
theorem refTurn_any {w : World} {R : Nat} {lv dv : Value} {base n m : Nat} {s : St} (h : RF w R lv dv base n m s) (x : Int) :
    Calls Try.prog 24 #[.pointer (some ⟨R, 0, none⟩), .int .i64 x] w fun e w' => e = .returned (.int .i64 (turnOf s n x)) ∧ Kept w w' := by
  have c1 := h.lst
  have hl := Lf_length h.fine
  have cl : (cores s n).length = (Lf s n).length := by simp [cores]
  by_cases h0 : (Lf s n).length = 0
  · have e : turnOf s n x = -1 := by simp [turnOf, cl, h0]
    rw [e]
    obtain ⟨a, c, rfl⟩ := own_form h.ownL
    rw [h0] at c1
    clear h
    go_enter Try.func24, Try.ntmps24
    go_wp2
    go_ret
    exact ⟨rfl, Kept.refl _⟩
  · have hp : 0 < (Lf s n).length := by omega
    have b1 := Int.emod_nonneg x (show ((Lf s n).length : Int) ≠ 0 by omega)
    have b2 := Int.emod_lt_of_pos x (show (0 : Int) < ((Lf s n).length : Int) by omega)
    obtain ⟨j, hj⟩ := Int.eq_ofNat_of_zero_le b1
    have hjl : j < (Lf s n).length := by omega
    obtain ⟨d, hd⟩ : ∃ d, (Lf s n)[j]? = some d := ⟨_, List.getElem?_eq_getElem hjl⟩
    have e : turnOf s n x = d.1 := by
      unfold turnOf
      rw [if_neg (by omega), cl, hj, Int.toNat_natCast, cores_get' s n j d hd]
      rfl
    rw [e]
    obtain ⟨g, o, c', rfl, _, _, hc⟩ := (own_lies h.ownL).deed hp
    have x0 := (hc j d hd).1
    clear h hc e hd
    go_enter Try.func24, Try.ntmps24
    go_wp2
    go_region_held3 (fun w' => w'.cell? ⟨R, 1, none⟩ = some (.slice (some ⟨g, o, none⟩) (Lf s n).length c') ∧ w'.cell? ⟨g, o + j * 3, none⟩ = some (.int .i64 d.1)) (first | go_keep | exact ⟨c1, x0⟩)
      (first | (go_at_call 30; refine (pick_at x ((Lf s n).length : Int) j (by omega) (by omega) hj _).mono ?_; rintro e w3 ⟨rfl, rfl⟩))
    go_wp2
    go_ret
    exact ⟨rfl, by first | exact Kept.refl _ | exact (Kept.refl _).drew | exact (Kept.refl _).drewN _⟩
end Go.Proofs.Ytdgajkimepgljaa
