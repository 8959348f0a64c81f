/- PoolOne. -/
import Derived.Test.YtlkadickhhaakaaDoorPoNext
import Derived.Test.YtlkadickhhaakaaDoorPoKnown
namespace Go.Proofs.YtlkadickhhaakaaDoor
open Go.RowKit

/-! ### what is so of an answer that may be given -/
theorem memTo_upd_hi (M : Nat → Bool) (i : Int) (b : Bool) : ∀ n : Nat, (n : Int) ≤ i → memTo (upd M i b) n = memTo M n := fun n h => memTo_congr (fun j hj => by unfold upd; rw [if_neg (by omega)])
theorem len_less (M : Nat → Bool) (i : Nat) (hi : M i = true) : ∀ n : Nat, i < n → (memTo (upd M i false) n).length + 1 = (memTo M n).length := by
  intro n
  induction n with
  | zero => intro h; omega
  | succ n ih =>
    intro h
    rw [memTo_succ, memTo_succ, List.length_append, List.length_append]
    by_cases e : i = n
    · subst e
      rw [memTo_upd_hi M i false i (Int.le_refl _), hi]
      simp [upd]
    · have := ih (by omega)
      have hu : upd M i false n = M n := by unfold upd; rw [if_neg (by omega)]
      rw [hu]
      omega
theorem len_more (M : Nat → Bool) (i : Nat) (hi : M i = false) : ∀ n : Nat, i < n → (memTo (upd M i true) n).length = (memTo M n).length + 1 := by
  intro n
  induction n with
  | zero => intro h; omega
  | succ n ih =>
    intro h
    rw [memTo_succ, memTo_succ, List.length_append, List.length_append]
    by_cases e : i = n
    · subst e
      rw [memTo_upd_hi M i true i (Int.le_refl _), hi]
      simp [upd]
    · have := ih (by omega)
      have hu : upd M i true n = M n := by unfold upd; rw [if_neg (by omega)]
      rw [hu]
      omega
theorem chk_of_mem {s : List Int} {o : Opn} {x : Ann} (h : x ∈ allS s o) : chk s = 0 := by
  by_cases hc : chk s = 0
  · exact hc
  · simp [allS, hc] at h
theorem next_chk {s : List Int} {o : Opn} {x : Ann} (h : x ∈ allS s o) : chk (nextL s o x) = 0 := by
  unfold nextL; rw [if_pos h]; exact chk_memI _
theorem next_err {s : List Int} {o : Opn} {x : Ann} (h : x ∈ allS s o) (he : x.e ≠ 0) : nextL s o x = s := by
  unfold nextL
  rw [if_pos h, show aft (setOf s) o x = setOf s by simp [aft, he]]
  exact memI_setOf (chk_of_mem h)
theorem next_alloc {s : List Int} {o : Opn} {x : Ann} (h : x ∈ allS s o) (he : x.e = 0) (h7 : o.k = 7) :
    (nextL s o x).length + 1 = s.length ∧ x.n ∈ s ∧ x.n ∉ nextL s o x ∧ ∀ v ∈ s, v ∈ nextL s o x ∨ v = x.n := by
  have hc := chk_of_mem h
  have hs := memI_setOf hc
  have ho : x ∈ outs (setOf s) o := by have := h; unfold allS at this; rwa [if_pos hc] at this
  have hn : nextL s o x = memI (upd (setOf s) x.n false) := by
    unfold nextL
    rw [if_pos h, show aft (setOf s) o x = upd (setOf s) x.n false by simp [aft, he, h7]]
  have hm : x.n ∈ memI (setOf s) := by
    unfold outs at ho
    rw [if_pos h7] at ho
    rcases List.mem_append.1 ho with ho | ho
    · obtain ⟨i, hi, rfl⟩ := List.mem_map.1 ho
      exact hi
    · simp at ho
      rcases ho with rfl | rfl <;> simp at he
  obtain ⟨i, hi, hM, hxn⟩ := memI_mem.1 hm
  rw [hn]
  have hl := len_less (setOf s) i hM 1024 hi
  refine ⟨?_, by rw [hs] at hm; exact hm, ?_, fun v hv => ?_⟩
  · rw [hxn]
    have h1 : (memI (upd (setOf s) (i : Int) false)).length = (memTo (upd (setOf s) (i : Int) false) 1024).length := cast_length _
    have h2 : s.length = (memTo (setOf s) 1024).length := by rw [← cast_length]; exact (congrArg List.length hs).symm
    omega
  · rw [hxn, memI_nat hi]; simp [upd]
  · by_cases e : v = x.n
    · exact .inr e
    · left
      rw [← hs] at hv
      obtain ⟨j, hj, hMj, rfl⟩ := memI_mem.1 hv
      rw [memI_nat hj]
      unfold upd
      rw [if_neg e]
      exact hMj
theorem next_free {s : List Int} {o : Opn} {x : Ann} (h : x ∈ allS s o) (he : x.e = 0) (h7 : o.k ≠ 7) :
    (nextL s o x).length = s.length + 1 ∧ o.a ∉ s ∧ o.a ∈ nextL s o x ∧ ∀ v ∈ s, v ∈ nextL s o x := by
  have hc := chk_of_mem h
  have hs := memI_setOf hc
  have ho : x ∈ outs (setOf s) o := by have := h; unfold allS at this; rwa [if_pos hc] at this
  unfold outs at ho
  rw [if_neg h7] at ho
  split at ho
  · rename_i h8
    rw [List.mem_singleton] at ho
    have hf : freed (setOf s) o.a = 0 := by rw [ho] at he; exact he
    have hn : nextL s o x = memI (upd (setOf s) o.a true) := by
      unfold nextL
      rw [if_pos h, show aft (setOf s) o x = upd (setOf s) o.a true by simp [aft, he, h8]]
    unfold freed at hf
    split at hf
    · omega
    · rename_i hq
      obtain ⟨i, hi, ha⟩ := noIdx_iff.1 (show noIdx o.a = false by simpa using hq)
      split at hf
      · omega
      · rename_i hM
        rw [ha] at hM
        have hM : setOf s i = false := by simpa using hM
        rw [hn, ha]
        have hl := len_more (setOf s) i hM 1024 hi
        refine ⟨?_, ?_, ?_, fun v hv => ?_⟩
        · have h1 : (memI (upd (setOf s) (i : Int) true)).length = (memTo (upd (setOf s) (i : Int) true) 1024).length := cast_length _
          have h2 : s.length = (memTo (setOf s) 1024).length := by rw [← cast_length]; exact (congrArg List.length hs).symm
          omega
        · intro hh
          have : setOf s i = true := by simpa [setOf] using hh
          rw [hM] at this; cases this
        · rw [memI_nat hi]; simp [upd]
        · rw [← hs] at hv
          obtain ⟨j, hj, hMj, rfl⟩ := memI_mem.1 hv
          rw [memI_nat hj]
          unfold upd
          split
          · rfl
          · exact hMj
  · simp at ho
theorem next_keeps {s : List Int} {o : Opn} {x : Ann} (h : x ∈ allS s o) (v : Int) (hv : v ∈ s) : v ∈ nextL s o x ∨ (o.k = 7 ∧ x.e = 0 ∧ v = x.n) := by
  by_cases he : x.e = 0
  · by_cases h7 : o.k = 7
    · exact ((next_alloc h he h7).2.2.2 v hv).imp id (fun e => ⟨h7, he, e⟩)
    · exact .inl ((next_free h he h7).2.2.2 v hv)
  · rw [next_err h he]; exact .inl hv

/-! ### has -/
set_option maxHeartbeats 4000000 in
theorem hasL_any {w : World} {a : Option Addr} {n c : Nat} {s : List Ann} (h : Lay w (.slice a n c) n (flatA s)) (hn : n = s.length) (x : Ann) :
    Calls Tryd.prog 30 #[.slice a n c, .agg #[.int .i64 x.e, .int .i64 x.n, .int .u64 x.v]] w fun e w' => e = .returned (.bool (decide (x ∈ s))) ∧ Kept w w' := by
  obtain ⟨a', c', e, hnc, hcm⟩ := h.form
  cases e
  unfold maxLen at hcm
  have CE := Lib.hid (fun W (k : Kept w W) i y hy => an_one (h.kept k) hn i y hy)
  have HN := Lib.hid hn
  have BX := Lib.hid (show AnBox (w.alloc (.cells #[.int .i64 x.e, .int .i64 x.n, .int .u64 x.v] 28)) w.heap.size x from AnBox.new w x _ _ rfl)
  have K0 := Lib.hid (show Kept w (w.alloc (.cells #[.int .i64 x.e, .int .i64 x.n, .int .u64 x.v] 28)) from (Kept.refl w).alloc _ _)
  clear h hn
  go_enter Tryd.func30, Tryd.ntmps30
  go_wp2
  go_loopw [5] (fun i wr => ∃ k : Nat, k ≤ n ∧ i = .int .i64 k ∧ (∀ j y, j < k → s[j]? = some y → y ≠ x) ∧ AnBox wr w.heap.size x ∧ Kept w wr) (fun i _ => n - (intOf i).toNat)
  case atStart => exact ⟨0, Nat.zero_le _, rfl, fun j y hj => by omega, BX.out, K0.out⟩
  case round =>
    obtain ⟨k, hkn, rfl, hlo, hbx, hk⟩ := hrel
    have LO := Lib.hid hlo
    have KE := Lib.hid hk
    have BE := Lib.hid hbx
    clear hlo hk hbx
    by_cases hlt : k < n
    · obtain ⟨y, hy⟩ : ∃ y, s[k]? = some y := ⟨_, List.getElem?_eq_getElem (by rw [← HN.out]; omega)⟩
      obtain ⟨g, o, rfl, hat⟩ := CE.out _ KE.out k y hy
      obtain ⟨c0, c1, c2⟩ := hat
      obtain ⟨b0, b1, b2, _⟩ := BE.out
      have HY := Lib.hid hy
      clear hy
      have EQ := ann_eql y x
      by_cases hxy : y = x
      · rw [decide_eq_true hxy] at EQ
        have HK := Lib.hid (show true = decide (x ∈ s) by
          rw [decide_eq_true (p := x ∈ s) (List.mem_iff_getElem?.2 ⟨k, by rw [← hxy]; exact HY.out⟩)])
        clear hxy
        go_wp2
        go_quiet (fail)
        go_wp2
        go_ret
        exact ⟨ret_bool HK.out, KE.out.drewN _⟩
      · rw [decide_eq_false hxy] at EQ
        have HXY := Lib.hid hxy
        clear hxy
        go_wp2
        go_quiet (fail)
        go_wp2
        go_roundw
        case rel => exact ⟨k + 1, by omega, by go_num, fun j z hj hz => by
          by_cases e : j = k
          · subst e; have h1 := HY.out; rw [hz] at h1; cases h1; exact HXY.out
          · exact LO.out j z (by omega) hz, BE.out.kept ((Kept.refl _).drewN _), KE.out.drewN _⟩
        case measure => simp [intOf]; omega
    · have HK := Lib.hid (show false = decide (x ∈ s) by
        rw [decide_eq_false (p := x ∈ s) (fun hx => by
          obtain ⟨j, hj⟩ := List.mem_iff_getElem?.1 hx
          have h1 := (List.getElem?_eq_some_iff.1 hj).1
          exact LO.out j x (by have := HN.out; omega) hj rfl)])
      go_wp2
      go_ret
      exact ⟨ret_bool HK.out, KE.out⟩

theorem among_b {w : World} {a : Option Addr} {n c : Nat} {s : List Int} {x : Int} {b : Bool} (h : Lay w (.slice a n c) n (ints s)) (hn : n = s.length) (hb : decide (x ∈ s) = b) :
    Calls Tryd.prog 31 #[.slice a n c, .int .i64 x] w fun e w' => e = .returned (.bool b) ∧ w' = w := by
  subst hb; exact among_any h hn x
end Go.Proofs.YtlkadickhhaakaaDoor
