/- The program's accesses: a core's slot, or why there is none. -/
import Derived.Test.YtdgajkimepgljaaFMem
import Derived.WalkMore
import Derived.BigQuiet
namespace Go.Proofs.Ytdgajkimepgljaa
open Go.RowKit

theorem valid_held {w : World} {F G T : Nat} {dv : Value} {base n m : Nat} {s : St} (h : PF w F G T dv base n m s) :
    Calls Try.prog 38 #[.pointer (some ⟨F, 0, none⟩)] w fun e w' => e = .returned (.bool true) ∧ w' = w := by
  have c0 := h.ptr
  clear h
  go_enter Try.func38, Try.ntmps38
  go_wp2
  go_ret
  exact ⟨rfl, rfl⟩
theorem valid_none {w : World} {p : Option Addr} (h : NobF w p) :
    Calls Try.prog 38 #[.pointer p] w fun e w' => e = .returned (.bool false) ∧ w' = w := by
  rcases h with rfl | ⟨F, rfl, c0⟩
  · go_enter Try.func38, Try.ntmps38
    go_wp2
    go_ret
    exact ⟨rfl, rfl⟩
  · go_enter Try.func38, Try.ntmps38
    go_wp2
    go_ret
    exact ⟨rfl, rfl⟩

theorem at_in {w : World} {T n : Nat} (i : Nat) (hi : i < n) (hn : n ≤ 64) :
    Calls Try.prog 40 #[.agg #[.slice (some ⟨T, 0, none⟩) n n], .int .i64 i] w fun e w' => e = .returned (.pointer (some ⟨T, i * 4, none⟩)) ∧ Kept w w' := by
  go_enter Try.func40, Try.ntmps40
  go_wp2
  go_ret
  exact ⟨rfl, (Kept.refl w).alloc _ _⟩
theorem at_out {w : World} {T n : Nat} (c : Int) (hc : ¬ (0 ≤ c ∧ c < n)) (hn : n ≤ 64) :
    Calls Try.prog 40 #[.agg #[.slice (some ⟨T, 0, none⟩) n n], .int .i64 c] w fun e w' => e = .returned (.pointer none) ∧ Kept w w' := by
  by_cases h0 : c < 0
  · go_enter Try.func40, Try.ntmps40
    go_wp2
    go_ret
    exact ⟨rfl, (Kept.refl w).alloc _ _⟩
  · have h1 : (n : Int) ≤ c := by omega
    go_enter Try.func40, Try.ntmps40
    go_wp2
    go_ret
    exact ⟨rfl, (Kept.refl w).alloc _ _⟩

theorem isBusy_slot {w : World} {T o : Nat} {b : Bool} (h : w.cell? ⟨T, o + 3, none⟩ = some (.bool b)) :
    Calls Try.prog 34 #[.pointer (some ⟨T, o, none⟩)] w fun e w' => e = .returned (.bool b) ∧ w' = w := by
  go_enter Try.func34, Try.ntmps34
  go_wp2
  go_ret
  exact ⟨rfl, rfl⟩

theorem core_in {w : World} {F G T : Nat} {dv : Value} {base n m : Nat} {s : St} (h : PF w F G T dv base n m s) (i : Nat) (hi : i < n) :
    Calls Try.prog 33 #[.pointer (some ⟨F, 0, none⟩), .int .i64 i] w fun e w' => e = .returned (.tuple #[.pointer (some ⟨T, i * 4, none⟩), .int .i64 0]) ∧ Kept w w' := by
  have c0 := h.ptr
  have c1 := h.tab
  have hn := h.fine.n64
  go_enter Try.func33, Try.ntmps33
  go_wp2_with fail; refine (valid_held h).mono ?_; rintro e w1 ⟨rfl, rfl⟩
  clear h
  go_wp2_with fail; refine (at_in i hi hn).mono ?_; rintro e w1 ⟨rfl, k1⟩
  go_wp2
  refine bodyPost_ret (v := .tuple #[.pointer (some ⟨T, i * 4, none⟩), .int .i64 0]) (by simp [results, Try.results33, go_sem]) rfl ⟨rfl, k1⟩
theorem core_out {w : World} {F G T : Nat} {dv : Value} {base n m : Nat} {s : St} (h : PF w F G T dv base n m s) (c : Int) (hc : ¬ (0 ≤ c ∧ c < n)) :
    Calls Try.prog 33 #[.pointer (some ⟨F, 0, none⟩), .int .i64 c] w fun e w' => e = .returned (.tuple #[.pointer none, .int .i64 3]) ∧ Kept w w' := by
  have c0 := h.ptr
  have c1 := h.tab
  have hn := h.fine.n64
  go_enter Try.func33, Try.ntmps33
  go_wp2_with fail; refine (valid_held h).mono ?_; rintro e w1 ⟨rfl, rfl⟩
  clear h
  go_wp2_with fail; refine (at_out c hc hn).mono ?_; rintro e w1 ⟨rfl, k1⟩
  go_wp2
  refine bodyPost_ret (v := .tuple #[.pointer none, .int .i64 3]) (by simp [results, Try.results33, go_sem]) rfl ⟨rfl, k1⟩
theorem core_none {w : World} {p : Option Addr} (h : NobF w p) (c : Int) :
    Calls Try.prog 33 #[.pointer p, .int .i64 c] w fun e w' => e = .returned (.tuple #[.pointer none, .int .i64 1]) ∧ w' = w := by
  have H := Lib.hid h
  clear h
  go_enter Try.func33, Try.ntmps33
  go_wp2_with fail; refine (valid_none H.out).mono ?_; rintro e w1 ⟨rfl, rfl⟩
  go_wp2
  refine bodyPost_ret (v := .tuple #[.pointer none, .int .i64 1]) (by simp [results, Try.results33, go_sem]) rfl ⟨rfl, rfl⟩

theorem within_on {w : World} {F G T : Nat} {dv : Value} {base n m : Nat} {s : St} (h : PF w F G T dv base n m s) (i : Nat) (hi : i < n) (ho : s.on i = true) :
    Calls Try.prog 36 #[.pointer (some ⟨F, 0, none⟩), .int .i64 i] w fun e w' => e = .returned (.tuple #[.pointer (some ⟨T, i * 4, none⟩), .int .i64 0]) ∧ Kept w w' := by
  have c3 := h.c3 i hi
  rw [ho] at c3
  have H := Lib.hid h
  clear h
  go_enter Try.func36, Try.ntmps36
  go_wp2_with fail; refine (core_in H.out i hi).mono ?_; rintro e w1 ⟨rfl, k1⟩
  have d3 := k1.some c3
  go_wp2_with fail; refine (isBusy_slot d3).mono ?_; rintro e w2 ⟨rfl, rfl⟩
  go_wp2
  refine bodyPost_ret (v := .tuple #[.pointer (some ⟨T, i * 4, none⟩), .int .i64 0]) (by simp [results, Try.results36, go_sem]) rfl ⟨rfl, k1⟩
theorem within_off {w : World} {F G T : Nat} {dv : Value} {base n m : Nat} {s : St} (h : PF w F G T dv base n m s) (i : Nat) (hi : i < n) (ho : s.on i = false) :
    Calls Try.prog 36 #[.pointer (some ⟨F, 0, none⟩), .int .i64 i] w fun e w' => e = .returned (.tuple #[.pointer none, .int .i64 15]) ∧ Kept w w' := by
  have c3 := h.c3 i hi
  rw [ho] at c3
  have H := Lib.hid h
  clear h
  go_enter Try.func36, Try.ntmps36
  go_wp2_with fail; refine (core_in H.out i hi).mono ?_; rintro e w1 ⟨rfl, k1⟩
  have d3 := k1.some c3
  go_wp2_with fail; refine (isBusy_slot d3).mono ?_; rintro e w2 ⟨rfl, rfl⟩
  go_wp2
  refine bodyPost_ret (v := .tuple #[.pointer none, .int .i64 15]) (by simp [results, Try.results36, go_sem]) rfl ⟨rfl, k1⟩
theorem within_out {w : World} {F G T : Nat} {dv : Value} {base n m : Nat} {s : St} (h : PF w F G T dv base n m s) (c : Int) (hc : ¬ (0 ≤ c ∧ c < n)) :
    Calls Try.prog 36 #[.pointer (some ⟨F, 0, none⟩), .int .i64 c] w fun e w' => e = .returned (.tuple #[.pointer none, .int .i64 3]) ∧ Kept w w' := by
  have H := Lib.hid h
  clear h
  go_enter Try.func36, Try.ntmps36
  go_wp2_with fail; refine (core_out H.out c hc).mono ?_; rintro e w1 ⟨rfl, k1⟩
  go_wp2
  refine bodyPost_ret (v := .tuple #[.pointer none, .int .i64 3]) (by simp [results, Try.results36, go_sem]) rfl ⟨rfl, k1⟩
theorem within_none {w : World} {p : Option Addr} (h : NobF w p) (c : Int) :
    Calls Try.prog 36 #[.pointer p, .int .i64 c] w fun e w' => e = .returned (.tuple #[.pointer none, .int .i64 1]) ∧ w' = w := by
  have H := Lib.hid h
  clear h
  go_enter Try.func36, Try.ntmps36
  go_wp2_with fail; refine (core_none H.out c).mono ?_; rintro e w1 ⟨rfl, rfl⟩
  go_wp2
  refine bodyPost_ret (v := .tuple #[.pointer none, .int .i64 1]) (by simp [results, Try.results36, go_sem]) rfl ⟨rfl, rfl⟩

/-- 'within' in one: where there is no slot, why. -/
theorem within_not {w : World} {F G T : Nat} {dv : Value} {base n m : Nat} {s : St} (h : PF w F G T dv base n m s) (c : Int) (hc : s.on c = false) :
    Calls Try.prog 36 #[.pointer (some ⟨F, 0, none⟩), .int .i64 c] w fun e w' => e = .returned (.tuple #[.pointer none, .int .i64 (sErr s n c)]) ∧ Kept w w' := by
  by_cases h0 : 0 ≤ c ∧ c < n
  · obtain ⟨i, rfl⟩ := Int.eq_ofNat_of_zero_le h0.1
    have e : sErr s n i = 15 := by simp [sErr, h0, hc]
    rw [e]
    exact within_off h i (by omega) hc
  · have e : sErr s n c = 3 := by simp [sErr, h0]
    rw [e]
    exact within_out h c h0
theorem sErr_not {s : St} {n : Nat} {c : Int} (h : s.on c = false) : sErr s n c = 15 ∨ sErr s n c = 3 := by
  unfold sErr
  rw [h]
  split
  · exact .inl rfl
  · exact .inr rfl
theorem sErr_on {m n : Nat} {s : St} {c : Int} (h : Fine n m s) (ho : s.on c = true) : sErr s n c = 0 := by
  have := h.inn c ho
  simp [sErr, ho, this]

/-! ### What, Steps, All -/
theorem what_any {w : World} {F G T : Nat} {dv : Value} {base n m : Nat} {s : St} (h : PF w F G T dv base n m s) (c : Int) :
    Calls Try.prog 16 #[.pointer (some ⟨F, 0, none⟩), .int .i64 c] w fun e w' => e = .returned (.tuple #[.int .i64 (s.what c), .bool (s.on c)]) ∧ Kept w w' := by
  cases ho : s.on c with
  | true =>
    obtain ⟨h0, h1⟩ := h.fine.inn c ho
    obtain ⟨i, rfl⟩ := Int.eq_ofNat_of_zero_le h0
    have c1 := h.c1 i (by omega)
    have H := Lib.hid h
    clear h
    go_enter Try.func16, Try.ntmps16
    go_wp2_with fail; refine (within_on H.out i (by omega) ho).mono ?_; rintro e w1 ⟨rfl, k1⟩
    have d1 := k1.some c1
    go_wp2
    refine bodyPost_ret (v := .tuple #[.int .i64 (s.what i), .bool true]) (by simp [results, Try.results16, go_sem]) rfl ⟨rfl, k1⟩
  | false =>
    have hz := (h.fine.off c ho).1
    rw [hz]
    have H := Lib.hid h
    clear h hz
    rcases sErr_not (n := n) ho with he | he
    · go_enter Try.func16, Try.ntmps16
      go_wp2_with fail; refine (within_not H.out c ho).mono ?_; rintro e w1 ⟨rfl, k1⟩
      rw [he]
      go_wp2
      refine bodyPost_ret (v := .tuple #[.int .i64 0, .bool false]) (by simp [results, Try.results16, go_sem]) rfl ⟨rfl, k1⟩
    · go_enter Try.func16, Try.ntmps16
      go_wp2_with fail; refine (within_not H.out c ho).mono ?_; rintro e w1 ⟨rfl, k1⟩
      rw [he]
      go_wp2
      refine bodyPost_ret (v := .tuple #[.int .i64 0, .bool false]) (by simp [results, Try.results16, go_sem]) rfl ⟨rfl, k1⟩
theorem steps_any {w : World} {F G T : Nat} {dv : Value} {base n m : Nat} {s : St} (h : PF w F G T dv base n m s) (c : Int) :
    Calls Try.prog 20 #[.pointer (some ⟨F, 0, none⟩), .int .i64 c] w fun e w' => e = .returned (.int .i64 (s.steps c)) ∧ Kept w w' := by
  cases ho : s.on c with
  | true =>
    obtain ⟨h0, h1⟩ := h.fine.inn c ho
    obtain ⟨i, rfl⟩ := Int.eq_ofNat_of_zero_le h0
    have c2 := h.c2 i (by omega)
    have H := Lib.hid h
    clear h
    go_enter Try.func20, Try.ntmps20
    go_wp2_with fail; refine (within_on H.out i (by omega) ho).mono ?_; rintro e w1 ⟨rfl, k1⟩
    have d2 := k1.some c2
    go_wp2
    go_ret
    exact ⟨rfl, k1⟩
  | false =>
    have hz := (h.fine.off c ho).2
    rw [hz]
    have H := Lib.hid h
    clear h hz
    rcases sErr_not (n := n) ho with he | he
    · go_enter Try.func20, Try.ntmps20
      go_wp2_with fail; refine (within_not H.out c ho).mono ?_; rintro e w1 ⟨rfl, k1⟩
      rw [he]
      go_wp2
      go_ret
      exact ⟨rfl, k1⟩
    · go_enter Try.func20, Try.ntmps20
      go_wp2_with fail; refine (within_not H.out c ho).mono ?_; rintro e w1 ⟨rfl, k1⟩
      rw [he]
      go_wp2
      go_ret
      exact ⟨rfl, k1⟩
theorem all_any {w : World} {F G T : Nat} {dv : Value} {base n m : Nat} {s : St} (h : PF w F G T dv base n m s) :
    Calls Try.prog 25 #[.pointer (some ⟨F, 0, none⟩)] w fun e w' => e = .returned (.int .i64 s.all) ∧ w' = w := by
  have c0 := h.ptr
  have c1 := h.all
  go_enter Try.func25, Try.ntmps25
  go_wp2_with fail; refine (valid_held h).mono ?_; rintro e w1 ⟨rfl, rfl⟩
  clear h
  go_wp2
  go_ret
  exact ⟨rfl, rfl⟩
end Go.Proofs.Ytdgajkimepgljaa
