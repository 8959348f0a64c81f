/- The list of accesses that the layer's statements take. -/
import Derived.Test.YtfndjklpjjcelaaProg
import Derived.Test.YtfndjklpjjcelaaTable
import Derived.KernelRfl
namespace Go.Proofs.Ytfndjklpjjcelaa
open Go.ChangeShapes Go.WideShapes Go.Deep Go.RowKit

def IntIn (k : IntKind) (v : Value) : Prop := ∃ a : Int, v = .int k a ∧ (Lit.int k a).wf = true
def actR (j : Nat) (v : Value) : Prop :=
  (j = 0 → IntIn .i64 v) ∧ (j = 1 → IntIn .i64 v) ∧ (j = 2 → IntIn .u64 v) ∧ (j = 3 → IntIn .u64 v)

theorem cellsAct : Try.prog.cellsOf 33 = 4 := by kernel_rfl
theorem open_acts {H : Type} {enc : TypeId × Value → H} {w : World} {base : Nat} {spare : Nat → Bool} {held : Bool} {fuel : Nat} {a : Option Addr} {len cap : Nat} {x : DataW H × List MemPlace}
    (h : DataW.trod enc Try.prog w base spare held fuel 22 [.slice a len cap] = some x) : IsTable w a len cap 4 actR := by
  rcases open_table Try.underlying22 Try.underlying33 (by kernel_rfl) cellsAct actR (fun j f hj v n y hy => by
    have hlt : j < 4 := (Array.getElem?_eq_some_iff.1 hj).1
    have hc : j = 0 ∨ j = 1 ∨ j = 2 ∨ j = 3 := by omega
    rcases hc with rfl | rfl | rfl | rfl <;> (simp at hj; subst hj)
    · obtain ⟨q, e, _, wq⟩ := DataW.trod_int Try.underlying3 hy
      simp at e; subst e
      exact ⟨fun _ => ⟨q, rfl, wq⟩, by omega, by omega, by omega⟩
    · obtain ⟨q, e, _, wq⟩ := DataW.trod_int Try.underlying3 hy
      simp at e; subst e
      exact ⟨by omega, fun _ => ⟨q, rfl, wq⟩, by omega, by omega⟩
    · obtain ⟨q, e, _, wq⟩ := DataW.trod_int Try.underlying31 hy
      simp at e; subst e
      exact ⟨by omega, by omega, fun _ => ⟨q, rfl, wq⟩, by omega⟩
    · obtain ⟨q, e, _, wq⟩ := DataW.trod_int Try.underlying31 hy
      simp at e; subst e
      exact ⟨by omega, by omega, by omega, fun _ => ⟨q, rfl, wq⟩⟩) h with hcs | ⟨y, l, c, hcs, hl, hm, hx⟩
  · simp at hcs
    obtain ⟨rfl, rfl, rfl⟩ := hcs
    exact .inl ⟨rfl, rfl, rfl⟩
  · simp at hcs
    obtain ⟨rfl, rfl, rfl⟩ := hcs
    exact .inr ⟨_, rfl, hl, hm, hx⟩
end Go.Proofs.Ytfndjklpjjcelaa
