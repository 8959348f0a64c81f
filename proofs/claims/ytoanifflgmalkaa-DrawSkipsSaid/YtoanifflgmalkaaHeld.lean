/- Draws in memory: 'Held' (made ones), 'Nobody' (nil, or that nobody made); valid, supply, Left. -/
import Derived.Test.YtoanifflgmalkaaInts
import Derived.Deep.QuietTactic
import Derived.BigQuiet
import Derived.OwnWalk
import Derived.Lib.Hide
namespace Go.Proofs.Ytoanifflgmalkaa
open Go.RowKit

/-- Block D points to the script in block S: its numbers lie at a, t of them are taken. -/
structure Held (w : World) (D S : Nat) (a : Option Addr) (len cap t : Nat) (f : Nat → Int) : Prop where
  nums : Nums f len
  most : len ≤ 4096
  room : len ≤ cap
  lim : cap ≤ maxLen
  took : t ≤ len
  ptr : w.cell? ⟨D, 0, none⟩ = some (.pointer (some ⟨S, 0, none⟩))
  list : w.cell? ⟨S, 0, none⟩ = some (.slice a len cap)
  count : w.cell? ⟨S, 1, none⟩ = some (.int .i64 t)
  soft : w.frozen? ⟨S, 1, none⟩ = false
  form : (a = none ∧ len = 0 ∧ cap = 0) ∨ ∃ b, a = some ⟨b, 0, none⟩ ∧ b < w.heap.size ∧ ∀ i, i < len → w.cell? ⟨b, i, none⟩ = some (.int .i64 (f i))

/-- The draws at p are nil, or have no script. -/
def Nobody (w : World) (p : Option Addr) : Prop := p = none ∨ ∃ D, p = some ⟨D, 0, none⟩ ∧ w.cell? ⟨D, 0, none⟩ = some (.pointer none)

section
variable {w w' : World} {D S : Nat} {a : Option Addr} {len cap t : Nat} {f : Nat → Int}
theorem Held.lt (h : Held w D S a len cap t f) : D < w.heap.size ∧ S < w.heap.size := ⟨lt_of_cell h.ptr, lt_of_cell h.list⟩
theorem Held.kept (h : Held w D S a len cap t f) (k : Kept w w') : Held w' D S a len cap t f :=
  ⟨h.nums, h.most, h.room, h.lim, h.took, k.some h.ptr, k.some h.list, k.some h.count, k.soft h.lt.2 h.soft,
    h.form.imp id (fun ⟨b, e, hl, hc⟩ => ⟨b, e, Nat.lt_of_lt_of_le hl k.size, fun i hi => k.some (hc i hi)⟩)⟩
/-- Another block was written, that holds a list at its head. -/
theorem Held.but (h : Held w D S a len cap t f) {X : Nat} (k : But (fun k => k = X) w w') (hX : X ≠ S) {v : Option Addr} {l c : Nat} (hc : w.cell? ⟨X, 0, none⟩ = some (.slice v l c)) : Held w' D S a len cap t f := by
  have hD : D ≠ X := by intro e; subst e; rw [h.ptr] at hc; cases hc
  refine ⟨h.nums, h.most, h.room, h.lim, h.took, k.some h.ptr hD, k.some h.list (fun e => hX e.symm), k.some h.count (fun e => hX e.symm), k.soft h.lt.2 h.soft,
    h.form.imp id (fun ⟨b, e, hl, hi⟩ => ⟨b, e, Nat.lt_of_lt_of_le hl k.size, fun i hil => k.some (hi i hil) ?_⟩)⟩
  rintro rfl
  have := hi 0 (by omega)
  rw [hc] at this
  cases this
/-- A block was written that is none of theirs. -/
theorem Held.past (h : Held w D S a len cap t f) {X : Nat} (k : But (fun k => k = X) w w') (hD : X < D) (hS : X < S) (hb : ∀ b, a = some ⟨b, 0, none⟩ → X < b) : Held w' D S a len cap t f := by
  refine ⟨h.nums, h.most, h.room, h.lim, h.took, k.some h.ptr (by omega), k.some h.list (by omega), k.some h.count (by omega), k.soft h.lt.2 h.soft,
    h.form.imp id (fun ⟨b, e, hl, hi⟩ => ⟨b, e, Nat.lt_of_lt_of_le hl k.size, fun i hil => k.some (hi i hil) (by have := hb b e; omega)⟩)⟩
/-- What is taken has been written. -/
theorem Held.take (h : Held w D S a len cap t f) (k : But (fun k => k = S) w w') {n : Nat} (hn : n ≤ len) (h0 : w'.cell? ⟨S, 0, none⟩ = some (.slice a len cap)) (h1 : w'.cell? ⟨S, 1, none⟩ = some (.int .i64 n)) : Held w' D S a len cap n f := by
  have hD : D ≠ S := by intro e; have := h.ptr; rw [e, h.list] at this; cases this
  refine ⟨h.nums, h.most, h.room, h.lim, hn, k.some h.ptr hD, h0, h1, k.soft h.lt.2 h.soft,
    h.form.imp id (fun ⟨b, e, hl, hi⟩ => ⟨b, e, Nat.lt_of_lt_of_le hl k.size, fun i hil => k.some (hi i hil) ?_⟩)⟩
  rintro rfl
  have := hi 0 (by omega)
  rw [h.list] at this
  cases this
theorem Nobody.kept {p : Option Addr} (h : Nobody w p) (k : Kept w w') : Nobody w' p :=
  h.imp id (fun ⟨D, e, hc⟩ => ⟨D, e, k.some hc⟩)
end

set_option maxHeartbeats 1000000 in
theorem valid_held {w : World} {D S : Nat} {a : Option Addr} {len cap t : Nat} {f : Nat → Int} (h : Held w D S a len cap t f) :
    Calls Try.prog 30 #[.pointer (some ⟨D, 0, none⟩)] w fun e w' => e = .returned (.bool true) ∧ w = w' := by
  have c0 := h.ptr
  clear h
  go_enter Try.func30, Try.ntmps30
  go_wp2
  go_ret
  exact ⟨rfl, rfl⟩

set_option maxHeartbeats 1000000 in
theorem valid_none {w : World} {p : Option Addr} (h : Nobody w p) :
    Calls Try.prog 30 #[.pointer p] w fun e w' => e = .returned (.bool false) ∧ w = w' := by
  rcases h with rfl | ⟨D, rfl, c0⟩
  · go_enter Try.func30, Try.ntmps30
    go_wp2
    go_ret
    exact ⟨rfl, rfl⟩
  · go_enter Try.func30, Try.ntmps30
    go_wp2
    go_ret
    exact ⟨rfl, rfl⟩

set_option maxHeartbeats 1000000 in
theorem supply_any (p : Option Addr) (w : World) :
    Calls Try.prog 31 #[.pointer p] w fun e w' => e = .returned (.func (.func 32) #[] #[.pointer (some ⟨w.heap.size, 0, none⟩)]) ∧ w' = w.alloc (.cells #[.pointer p] 26) := by
  go_enter Try.func31, Try.ntmps31
  go_wp2
  go_ret
  exact ⟨rfl, rfl⟩

set_option maxHeartbeats 1000000 in
theorem left_held {w : World} {D S : Nat} {a : Option Addr} {len cap t : Nat} {f : Nat → Int} (h : Held w D S a len cap t f) :
    Calls Try.prog 22 #[.pointer (some ⟨D, 0, none⟩)] w fun e w' => e = .returned (.int .i64 ((len : Int) - t)) ∧ Kept w w' := by
  have c0 := h.ptr
  have c1 := h.list
  have c2 := h.count
  have h1 := h.most
  have h2 := h.took
  go_enter Try.func22, Try.ntmps22
  go_wp2_with fail; refine (valid_held h).mono ?_; rintro e w1 ⟨rfl, rfl⟩
  clear h
  go_wp2
  go_quiet (fail)
  go_wp2
  go_ret
  exact ⟨rfl, (Kept.refl _).drewN _⟩

set_option maxHeartbeats 1000000 in
theorem left_none {w : World} {p : Option Addr} (h : Nobody w p) :
    Calls Try.prog 22 #[.pointer p] w fun e w' => e = .returned (.int .i64 0) ∧ Kept w w' := by
  go_enter Try.func22, Try.ntmps22
  go_wp2_with fail; refine (valid_none h).mono ?_; rintro e w1 ⟨rfl, rfl⟩
  go_wp2
  go_ret
  exact ⟨rfl, Kept.refl _⟩
end Go.Proofs.Ytoanifflgmalkaa
