/- New of the program; and the document's draws: New, Left, Next, Skip. -/
import Derived.Test.YtoanifflgmalkaaTake
import Derived.Test.YtoanifflgmalkaaKitInts
import Derived.Lib.SliceRun
namespace Go.Proofs.Ytoanifflgmalkaa
open Go.RowKit

set_option maxHeartbeats 1000000 in
theorem clone_any {w : World} {a : Option Addr} {len cap : Nat} {f : Nat → Int} (h : Row w a len cap f) (hl : len ≤ 1000000) :
    Calls Try.prog 28 #[.slice a len cap] w fun e w' => ∃ a' C, e = .returned (.slice a' len C) ∧ Kept w w' ∧ len ≤ C ∧ C ≤ maxLen ∧
      ((a' = none ∧ len = 0 ∧ C = 0) ∨ ∃ b, a' = some ⟨b, 0, none⟩ ∧ b < w'.heap.size ∧ ∀ i, i < len → w'.cell? ⟨b, i, none⟩ = some (.int .i64 (f i))) ∧ (∀ b, a' = some ⟨b, 0, none⟩ → w.heap.size ≤ b) := by
  cases a with
  | none =>
    have h0 : len = 0 := by
      rcases h.2.2.2 with h | ⟨_, h, _⟩ | ⟨_, _, h, _⟩
      · exact h.2.1
      · cases h
      · cases h
    subst h0
    clear h hl
    have q22 : ∀ (w : World) (a : Option Addr) (n c n' c' : Nat), (binOp .eql 22 (.slice a n c) (.slice none n' c')).run Try.prog w = .ok (.bool a.isNone) w := fun w a n c n' c' => Lib.run_eql_slice_nil w _ _ a n c n' c' Try.underlying22
    go_enter Try.func28, Try.ntmps28
    go_wp2
    go_ret
    exact ⟨none, 0, rfl, Kept.refl _, Nat.le_refl _, Nat.zero_le _, by simp, by simp⟩
  | some x =>
    have H := Lib.hid h
    clear h
    have q22 : ∀ (w : World) (a : Option Addr) (n c n' c' : Nat), (binOp .eql 22 (.slice a n c) (.slice none n' c')).run Try.prog w = .ok (.bool a.isNone) w := fun w a n c n' c' => Lib.run_eql_slice_nil w _ _ a n c n' c' Try.underlying22
    go_enter Try.func28, Try.ntmps28
    go_wp2_with (at_builtin; refine wpList_copy rfl _ _ rfl w (some x) len cap f H.out hl rfl rfl ?_; rintro b C W' hk hm)
    go_ret
    exact ⟨_, C, rfl, hk, hm.room, hm.most, .inr ⟨b, rfl, hm.old, hm.cell⟩, fun b' e => by cases e; exact hm.new⟩

set_option maxHeartbeats 1000000 in
theorem new_long {w : World} {a : Option Addr} {len cap : Nat} (hl : 4096 < len) :
    Calls Try.prog 11 #[.slice a len cap] w fun e w' => e = .returned (.tuple #[.pointer none, .int .i64 4]) ∧ w = w' := by
  go_enter Try.func11, Try.ntmps11
  go_wp2
  exact bodyPost_ret (v := .tuple #[.pointer none, .int .i64 4]) (by simp [results, Try.results11, go_sem]) rfl ⟨rfl, rfl⟩

set_option maxHeartbeats 1000000 in
theorem new_above {w : World} {a : Option Addr} {len cap : Nat} {f : Nat → Int} (h : Row w a len cap f) (hl : len ≤ 4096) :
    Calls Try.prog 11 #[.slice a len cap] w fun e w' => ∃ D S a' C, e = .returned (.tuple #[.pointer (some ⟨D, 0, none⟩), .int .i64 0]) ∧ (w.heap.size ≤ D ∧ w.heap.size ≤ S ∧ ∀ b, a' = some ⟨b, 0, none⟩ → w.heap.size ≤ b) ∧ Kept w w' ∧ Held w' D S a' len C 0 f := by
  have H := Lib.hid h
  clear h
  go_enter Try.func11, Try.ntmps11
  go_wp2_with fail; refine (clone_any H.out (by omega)).mono ?_; rintro e w1 ⟨a', C, rfl, k, hr, hm, hf, hn⟩
  have HF := Lib.hid hf
  have K := Lib.hid k
  have HN := Lib.hid hn
  clear hf k hn
  go_wp2
  refine bodyPost_ret (v := .tuple #[.pointer (some ⟨w1.heap.size + 1, 0, none⟩), .int .i64 0]) (by simp [results, Try.results11, go_sem]) rfl ?_
  exact ⟨_, _, a', C, rfl, ⟨by have := K.out.size; omega, K.out.size, HN.out⟩, (K.out.alloc _ _).alloc _ _, held_new H.out.1 hl hr hm (Nat.zero_le _) HF.out⟩

theorem new_held {w : World} {a : Option Addr} {len cap : Nat} {f : Nat → Int} (h : Row w a len cap f) (hl : len ≤ 4096) :
    Calls Try.prog 11 #[.slice a len cap] w fun e w' => ∃ D S a' C, e = .returned (.tuple #[.pointer (some ⟨D, 0, none⟩), .int .i64 0]) ∧ w.heap.size ≤ S ∧ Kept w w' ∧ Held w' D S a' len C 0 f :=
  (new_above h hl).mono fun _ _ ⟨D, S, a', C, he, hs, k, hh⟩ => ⟨D, S, a', C, he, hs.2.1, k, hh⟩

/-! ### The document's -/

/-- The document's draws at R. -/
structure RHeld (w : World) (R : Nat) (len cap t : Nat) (f : Nat → Int) : Prop where
  nums : Nums f len
  most : len ≤ 4096
  took : t ≤ len
  got : ∃ b, w.cell? ⟨R, 0, none⟩ = some (.slice (some ⟨b, 0, none⟩) len cap) ∧ ∀ i, i < len → w.cell? ⟨b, i, none⟩ = some (.int .i64 (f i))
  count : w.cell? ⟨R, 1, none⟩ = some (.int .i64 t)
  soft : w.frozen? ⟨R, 1, none⟩ = false

section
variable {w w' : World} {R : Nat} {len cap t : Nat} {f : Nat → Int}
theorem RHeld.lt (h : RHeld w R len cap t f) : R < w.heap.size := lt_of_cell h.count
theorem RHeld.kept (h : RHeld w R len cap t f) (k : Kept w w') : RHeld w' R len cap t f :=
  ⟨h.nums, h.most, h.took, h.got.imp (fun b hc => ⟨k.some hc.1, fun i hi => k.some (hc.2 i hi)⟩), k.some h.count, k.soft h.lt h.soft⟩
theorem RHeld.but (h : RHeld w R len cap t f) {X : Nat} (k : But (fun k => k = X) w w') (hX : X ≠ R) {v : Option Addr} {l c : Nat} (hc : w.cell? ⟨X, 0, none⟩ = some (.slice v l c)) : RHeld w' R len cap t f := by
  refine ⟨h.nums, h.most, h.took, h.got.imp (fun b hb => ⟨k.some hb.1 (fun e => hX e.symm), fun i hil => k.some (hb.2 i hil) ?_⟩), k.some h.count (fun e => hX e.symm), k.soft h.lt h.soft⟩
  rintro rfl
  have := hb.2 0 (by omega)
  rw [hc] at this
  cases this
/-- A block was written that is none of theirs. -/
theorem RHeld.past (h : RHeld w R len cap t f) {X : Nat} (k : But (fun k => k = X) w w') (hX : X ≠ R) (hb : ∀ b v l, b ≤ X → w.cell? ⟨R, 0, none⟩ = some (.slice (some ⟨b, 0, none⟩) v l) → False) : RHeld w' R len cap t f := by
  refine ⟨h.nums, h.most, h.took, h.got.imp (fun b hc => ⟨k.some hc.1 (fun e => hX e.symm), fun i hil => k.some (hc.2 i hil) ?_⟩), k.some h.count (fun e => hX e.symm), k.soft h.lt h.soft⟩
  rintro rfl
  exact hb _ _ _ (Nat.le_refl _) hc.1
theorem RHeld.head (h : RHeld w R len cap t f) : ∃ b, w.cell? ⟨R, 0, none⟩ = some (.slice (some ⟨b, 0, none⟩) len cap) := h.got.imp (fun _ h => h.1)
theorem RHeld.set (h : RHeld w R len cap t f) {n : Nat} (hn : n ≤ len) : RHeld (w.setCell ⟨R, 1, none⟩ (.int .i64 n)) R len cap n f := by
  obtain ⟨b, hb, hc⟩ := h.got
  refine ⟨h.nums, h.most, hn, ⟨b, by rw [World.cell?_setCell_other _ _ _ _ (by simp)]; exact hb, fun i hi => ?_⟩, World.cell?_setCell_same _ _ _ h.count, by rw [World.frozen?_setCell]; exact h.soft⟩
  have hne : b ≠ R := by
    rintro rfl
    have := hc 0 (by omega)
    rw [hb] at this
    cases this
  rw [cell_set_far' _ _ _ _ _ _ hne]
  exact hc i hi
end

set_option maxHeartbeats 1000000 in
theorem refNew_long {w : World} {a : Option Addr} {len cap : Nat} (hl : 4096 < len) :
    Calls Try.prog 12 #[.slice a len cap] w fun e w' => e = .returned (.tuple #[.pointer none, .int .i64 4]) ∧ w = w' := by
  go_enter Try.func12, Try.ntmps12
  go_wp2
  exact bodyPost_ret (v := .tuple #[.pointer none, .int .i64 4]) (by simp [results, Try.results12, go_sem]) rfl ⟨rfl, rfl⟩

set_option maxHeartbeats 1000000 in
theorem refNew_held {w : World} {a : Option Addr} {len cap : Nat} {f : Nat → Int} (h : Row w a len cap f) (hl : len ≤ 4096) :
    Calls Try.prog 12 #[.slice a len cap] w fun e w' => ∃ R C, e = .returned (.tuple #[.pointer (some ⟨R, 0, none⟩), .int .i64 0]) ∧ (w.heap.size ≤ R ∧ ∀ b v l, b < w.heap.size → w'.cell? ⟨R, 0, none⟩ = some (.slice (some ⟨b, 0, none⟩) v l) → False) ∧ Kept w w' ∧ RHeld w' R len C 0 f := by
  have H := Lib.hid h
  clear h
  go_enter Try.func12, Try.ntmps12
  go_wp2_with (at_builtin; refine wpList_copy rfl _ _ rfl w a len cap f H.out (by omega) rfl rfl ?_; rintro b C W' hk hm)
  have k1 : Kept W' (W'.alloc (.cells #[.slice (some ⟨b, 0, none⟩) len C, .int .i64 0] 53)) := (Kept.refl _).alloc _ _
  refine bodyPost_ret (v := .tuple #[.pointer (some ⟨W'.heap.size, 0, none⟩), .int .i64 0]) (by simp [results, Try.results12, go_sem]) rfl ?_
  exact ⟨_, C, rfl, ⟨hk.size, fun b' v l hb' e => by rw [cell_new _ _ _ _ 0 rfl] at e; cases e; have := hm.new; omega⟩, hk.alloc _ _, H.out.1, hl, Nat.zero_le _, ⟨b, cell_new _ _ _ _ 0 rfl, fun i hi => k1.some (hm.cell i hi)⟩, cell_new _ _ _ _ 1 rfl, by simp only [frozen?_alloc_cells]; exact soft_new _ _ _ (Nat.le_refl _)⟩

set_option maxHeartbeats 1000000 in
theorem refLeft_held {w : World} {R len cap t : Nat} {f : Nat → Int} (h : RHeld w R len cap t f) :
    Calls Try.prog 23 #[.pointer (some ⟨R, 0, none⟩)] w fun e w' => e = .returned (.int .i64 ((len : Int) - t)) ∧ Kept w w' := by
  obtain ⟨b, c1, _⟩ := h.got
  have c2 := h.count
  have h1 := h.most
  have h2 := h.took
  clear h
  go_enter Try.func23, Try.ntmps23
  go_wp2
  go_quiet (fail)
  go_wp2
  go_ret
  exact ⟨rfl, (Kept.refl _).drewN _⟩

set_option maxHeartbeats 1000000 in
theorem refNext_held {w : World} {R len cap t : Nat} {f : Nat → Int} (h : RHeld w R len cap t f) :
    Calls Try.prog 16 #[.pointer (some ⟨R, 0, none⟩)] w fun e w' => e = .returned (.int .i64 (f t)) ∧ But (fun k => k = R) w w' ∧ RHeld w' R len cap (t + min 1 (len - t)) f := by
  have h1 := h.most
  have h2 := h.took
  have H := Lib.hid h
  clear h
  by_cases h0 : t = len
  · have HZ := Lib.hid (H.out.nums.zero t (by omega))
    have hz : (len : Int) - t = 0 := by omega
    go_enter Try.func16, Try.ntmps16
    go_wp2_with fail; refine (refLeft_held H.out).mono ?_; rintro e w1 ⟨rfl, k1⟩
    go_wp2
    go_ret
    exact ⟨by show Ending.returned (.int .i64 0) = _; rw [HZ.out], k1.but _, by rw [show t + min 1 (len - t) = t by omega]; exact H.out.kept k1⟩
  · have hz : ((len : Int) - t == 0) = false := by simp; omega
    go_enter Try.func16, Try.ntmps16
    go_wp2_with fail; refine (refLeft_held H.out).mono ?_; rintro e w1 ⟨rfl, k1⟩
    have H1 := H.out.kept k1
    obtain ⟨b, c1, cc⟩ := H1.got
    have c2 := H1.count
    have c3 := H1.soft
    have c4 := cc t (by omega)
    have hne : b ≠ R := by
      rintro rfl
      rw [cc 0 (by omega)] at c1
      cases c1
    have K1 := Lib.hid k1
    have HH := Lib.hid H1
    clear cc k1 H1
    go_wp2
    have HX := (HH.out).set (n := t + 1) (by omega)
    have hB := ((K1.out.but (fun k => k = R)).here 1 (.int .i64 ((t + 1 : Nat) : Int)))
    have ev : ((t : Int) + 1) = ((t + 1 : Nat) : Int) := by omega
    rw [ev]
    obtain ⟨X, hX⟩ : ∃ X, (w1.setCell ⟨R, 1, none⟩ (.int .i64 ((t + 1 : Nat) : Int))) = X := ⟨_, rfl⟩
    rw [hX] at HX hB ⊢
    have c5 : X.cell? ⟨b, t, none⟩ = some (.int .i64 (f t)) := by rw [← hX, cell_set_far' _ _ _ _ _ _ hne]; exact c4
    have c6 : X.cell? ⟨R, 0, none⟩ = some (.slice (some ⟨b, 0, none⟩) len cap) := by rw [← hX, World.cell?_setCell_other _ _ _ _ (by simp)]; exact c1
    have c7 := HX.count
    have HX := Lib.hid HX
    have HB := Lib.hid hB
    clear hB hX c1 c2 c3 c4 HH ev
    go_quiet (fail)
    go_wp2
    go_ret
    exact ⟨rfl, HB.out.drewN _, by rw [show t + min 1 (len - t) = t + 1 by omega]; exact HX.out.kept ((Kept.refl _).drewN _)⟩

theorem refSkip_end {w w1 : World} {R len cap t c : Nat} {f : Nat → Int} (k : Kept w w1) (h : RHeld w1 R len cap t f) (v tv : Int) (hv : v = (c : Int)) (htv : tv = ((t + c : Nat) : Int)) (hc : c ≤ len - t) (ht : t ≤ len) :
    (Ending.returned (.int .i64 v) = Ending.returned (.int .i64 (c : Int))) ∧ But (fun k => k = R) w (w1.setCell ⟨R, 1, none⟩ (.int .i64 tv)) ∧ RHeld (w1.setCell ⟨R, 1, none⟩ (.int .i64 tv)) R len cap (t + c) f := by
  subst hv
  subst htv
  exact ⟨rfl, (k.but _).here 1 _, h.set (by omega)⟩

set_option maxHeartbeats 1000000 in
theorem refSkip_held {w : World} {R len cap t : Nat} {f : Nat → Int} (h : RHeld w R len cap t f) (m : Int) :
    Calls Try.prog 20 #[.pointer (some ⟨R, 0, none⟩), .int .i64 m] w fun e w' => e = .returned (.int .i64 (min m.toNat (len - t) : Nat)) ∧ But (fun k => k = R) w w' ∧ RHeld w' R len cap (t + min m.toNat (len - t)) f := by
  have h1 := h.most
  have h2 := h.took
  have H := Lib.hid h
  clear h
  go_enter Try.func20, Try.ntmps20
  go_wp2_with fail; refine (refLeft_held H.out).mono ?_; rintro e w1 ⟨rfl, k1⟩
  have H1 := H.out.kept k1
  have c2 := H1.count
  have c3 := H1.soft
  have K1 := Lib.hid k1
  have HH := Lib.hid H1
  clear k1 H1
  go_wp2
  all_goals (go_ret; exact refSkip_end K1.out HH.out _ _ (by omega) (by omega) (by omega) h2)
end Go.Proofs.Ytoanifflgmalkaa
