/- Two draws side by side: what a call of one leaves of both. 'Pair': both the program's; 'Duo': the program's and the document's. -/
import Derived.Test.YtoanifflgmalkaaDKnown
namespace Go.Proofs.Ytoanifflgmalkaa
open Go.RowKit

structure Pair (u w : World) (D S : Nat) (a : Option Addr) (c t : Nat) (D' S' : Nat) (a' : Option Addr) (c' t' : Nat) (len : Nat) (f : Nat → Int) : Prop where
  kept : Kept u w
  A : Held w D S a len c t f
  B : Held w D' S' a' len c' t' f
  ne : S ≠ S'
  la : u.heap.size ≤ S
  lb : u.heap.size ≤ S'

section
variable {u w : World} {D S : Nat} {a : Option Addr} {c t : Nat} {D' S' : Nat} {a' : Option Addr} {c' t' : Nat} {len : Nat} {f : Nat → Int}
theorem Pair.go (P : Pair u w D S a c t D' S' a' c' t' len f) {w' : World} (k : Kept w w') : Pair u w' D S a c t D' S' a' c' t' len f :=
  ⟨P.kept.trans k, P.A.kept k, P.B.kept k, P.ne, P.la, P.lb⟩
theorem Pair.nextA (P : Pair u w D S a c t D' S' a' c' t' len f) :
    Calls Try.prog 15 #[.pointer (some ⟨D, 0, none⟩)] w fun e w' => e = .returned (.int .i64 (f t)) ∧ Pair u w' D S a c (t + min 1 (len - t)) D' S' a' c' t' len f :=
  (next_held P.A).mono fun _ _ ⟨he, k, h⟩ => ⟨he, P.kept.fresh k P.la, h, P.B.but k P.ne P.A.list, P.ne, P.la, P.lb⟩
theorem Pair.nextB (P : Pair u w D S a c t D' S' a' c' t' len f) :
    Calls Try.prog 15 #[.pointer (some ⟨D', 0, none⟩)] w fun e w' => e = .returned (.int .i64 (f t')) ∧ Pair u w' D S a c t D' S' a' c' (t' + min 1 (len - t')) len f :=
  (next_held P.B).mono fun _ _ ⟨he, k, h⟩ => ⟨he, P.kept.fresh k P.lb, P.A.but k (fun e => P.ne e.symm) P.B.list, h, P.ne, P.la, P.lb⟩
theorem Pair.skipA (P : Pair u w D S a c t D' S' a' c' t' len f) (m : Int) :
    Calls Try.prog 19 #[.pointer (some ⟨D, 0, none⟩), .int .i64 m] w fun e w' => e = .returned (.int .i64 (min m.toNat (len - t) : Nat)) ∧ Pair u w' D S a c (t + min m.toNat (len - t)) D' S' a' c' t' len f :=
  (skip_held P.A m).mono fun _ _ ⟨he, k, h⟩ => ⟨he, P.kept.fresh k P.la, h, P.B.but k P.ne P.A.list, P.ne, P.la, P.lb⟩
theorem Pair.leftA (P : Pair u w D S a c t D' S' a' c' t' len f) :
    Calls Try.prog 22 #[.pointer (some ⟨D, 0, none⟩)] w fun e w' => e = .returned (.int .i64 ((len : Int) - t)) ∧ Pair u w' D S a c t D' S' a' c' t' len f :=
  (left_held P.A).mono fun _ _ ⟨he, k⟩ => ⟨he, P.go k⟩
theorem Pair.leftB (P : Pair u w D S a c t D' S' a' c' t' len f) :
    Calls Try.prog 22 #[.pointer (some ⟨D', 0, none⟩)] w fun e w' => e = .returned (.int .i64 ((len : Int) - t')) ∧ Pair u w' D S a c t D' S' a' c' t' len f :=
  (left_held P.B).mono fun _ _ ⟨he, k⟩ => ⟨he, P.go k⟩
end

structure Duo (u w : World) (D S : Nat) (a : Option Addr) (c t : Nat) (R c' t' : Nat) (len : Nat) (f : Nat → Int) : Prop where
  kept : Kept u w
  A : Held w D S a len c t f
  B : RHeld w R len c' t' f
  ne : S ≠ R
  la : u.heap.size ≤ S
  lb : u.heap.size ≤ R

section
variable {u w : World} {D S : Nat} {a : Option Addr} {c t : Nat} {R c' t' : Nat} {len : Nat} {f : Nat → Int}
theorem Duo.go (P : Duo u w D S a c t R c' t' len f) {w' : World} (k : Kept w w') : Duo u w' D S a c t R c' t' len f :=
  ⟨P.kept.trans k, P.A.kept k, P.B.kept k, P.ne, P.la, P.lb⟩
theorem Duo.onA (P : Duo u w D S a c t R c' t' len f) {w' : World} {n : Nat} (k : But (fun k => k = S) w w') (h : Held w' D S a len c n f) : Duo u w' D S a c n R c' t' len f :=
  ⟨P.kept.fresh k P.la, h, P.B.but k P.ne P.A.list, P.ne, P.la, P.lb⟩
theorem Duo.onB (P : Duo u w D S a c t R c' t' len f) {w' : World} {n : Nat} (k : But (fun k => k = R) w w') (h : RHeld w' R len c' n f) : Duo u w' D S a c t R c' n len f := by
  obtain ⟨b, hb⟩ := P.B.head
  exact ⟨P.kept.fresh k P.lb, P.A.but k (fun e => P.ne e.symm) hb, h, P.ne, P.la, P.lb⟩
theorem Duo.next (P : Duo u w D S a c t R c' t' len f) :
    Calls Try.prog 15 #[.pointer (some ⟨D, 0, none⟩)] w fun e w' => e = .returned (.int .i64 (f t)) ∧ Duo u w' D S a c (t + min 1 (len - t)) R c' t' len f :=
  (next_held P.A).mono fun _ _ ⟨he, k, h⟩ => ⟨he, P.onA k h⟩
theorem Duo.height (P : Duo u w D S a c t R c' t' len f) (m : Int) (h3 : -9223372036854775808 ≤ m) (h4 : m ≤ 9223372036854775807) :
    Calls Try.prog 17 #[.pointer (some ⟨D, 0, none⟩), .int .i64 m] w fun e w' => e = .returned (.int .i64 (hgt (f t) m)) ∧ Duo u w' D S a c (t + min 1 (len - t)) R c' t' len f :=
  (drawHeight_held P.A m h3 h4).mono fun _ _ ⟨he, k, h⟩ => ⟨he, P.onA k h⟩
theorem Duo.skip (P : Duo u w D S a c t R c' t' len f) (m : Int) :
    Calls Try.prog 19 #[.pointer (some ⟨D, 0, none⟩), .int .i64 m] w fun e w' => e = .returned (.int .i64 (min m.toNat (len - t) : Nat)) ∧ Duo u w' D S a c (t + min m.toNat (len - t)) R c' t' len f :=
  (skip_held P.A m).mono fun _ _ ⟨he, k, h⟩ => ⟨he, P.onA k h⟩
theorem Duo.left (P : Duo u w D S a c t R c' t' len f) :
    Calls Try.prog 22 #[.pointer (some ⟨D, 0, none⟩)] w fun e w' => e = .returned (.int .i64 ((len : Int) - t)) ∧ Duo u w' D S a c t R c' t' len f :=
  (left_held P.A).mono fun _ _ ⟨he, k⟩ => ⟨he, P.go k⟩
theorem Duo.refNext (P : Duo u w D S a c t R c' t' len f) :
    Calls Try.prog 16 #[.pointer (some ⟨R, 0, none⟩)] w fun e w' => e = .returned (.int .i64 (f t')) ∧ Duo u w' D S a c t R c' (t' + min 1 (len - t')) len f :=
  (refNext_held P.B).mono fun _ _ ⟨he, k, h⟩ => ⟨he, P.onB k h⟩
theorem Duo.refSkip (P : Duo u w D S a c t R c' t' len f) (m : Int) :
    Calls Try.prog 20 #[.pointer (some ⟨R, 0, none⟩), .int .i64 m] w fun e w' => e = .returned (.int .i64 (min m.toNat (len - t') : Nat)) ∧ Duo u w' D S a c t R c' (t' + min m.toNat (len - t')) len f :=
  (refSkip_held P.B m).mono fun _ _ ⟨he, k, h⟩ => ⟨he, P.onB k h⟩
theorem Duo.refLeft (P : Duo u w D S a c t R c' t' len f) :
    Calls Try.prog 23 #[.pointer (some ⟨R, 0, none⟩)] w fun e w' => e = .returned (.int .i64 ((len : Int) - t')) ∧ Duo u w' D S a c t R c' t' len f :=
  (refLeft_held P.B).mono fun _ _ ⟨he, k⟩ => ⟨he, P.go k⟩
/-- The copy goes on; the old ones may still be asked. -/
theorem Duo.copy (P : Duo u w D S a c t R c' t' len f) :
    Calls Try.prog 21 #[.pointer (some ⟨D, 0, none⟩)] w fun e w' => ∃ D1 S1, e = .returned (.pointer (some ⟨D1, 0, none⟩)) ∧ Duo u w' D1 S1 a c t R c' t' len f ∧
      Calls Try.prog 15 #[.pointer (some ⟨D, 0, none⟩)] w' fun e w2 => e = .returned (.int .i64 (f t)) ∧ Duo u w2 D1 S1 a c t R c' t' len f := by
  refine (copy_held P.A).mono fun e w' => ?_
  rintro ⟨D1, S1, rfl, hS, k, h1⟩
  have hS2 := P.A.lt.2
  have hR := P.B.lt
  have hsz := P.kept.size
  have Q : Duo u w' D1 S1 a c t R c' t' len f := ⟨P.kept.trans k, h1, P.B.kept k, by omega, by omega, P.lb⟩
  have hA := P.A.kept k
  exact ⟨D1, S1, rfl, Q, (next_held hA).mono fun _ _ ⟨he, kk, _⟩ => ⟨he, Q.kept.fresh kk P.la, h1.but kk (by omega) hA.list, Q.B.but kk P.ne hA.list, Q.ne, Q.la, Q.lb⟩⟩
end
end Go.Proofs.Ytoanifflgmalkaa
