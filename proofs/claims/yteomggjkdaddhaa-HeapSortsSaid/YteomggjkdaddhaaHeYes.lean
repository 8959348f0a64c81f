/- Next, where it is known what it answers. -/
import Derived.Test.YteomggjkdaddhaaHeKnown
namespace Go.Proofs.Yteomggjkdaddhaa
open Go.RowKit
/-- 'append' under a name that the walk leaves alone. -/
def appSem (ts : Array TypeId) (ty : TypeId) (args : Array Value) : Sem Value := Builtin.append_ ts ty args
theorem app_named (ts : Array TypeId) (ty : TypeId) (args : Array Value) : Builtin.append_ ts ty args = appSem ts ty args := rfl
theorem eq_it (x y : Int) : ∀ W, (binOp .eql 45 (.agg #[.int .u64 x, .int .i64 y]) (.agg #[.int .u64 x, .int .i64 y])).run Try.prog W = .ok (.bool true) W := by
  intro W
  go_simp
theorem RetN.unf {w : World} {p : Option (List It)} {e : Ending} {w' : World} (h : RetN w p e w') : ∃ a c, e = .returned (.tuple #[.slice a (p.getD []).length c, .bool p.isSome]) ∧ Kept w w' ∧ OwnI w' w.heap.size (.slice a (p.getD []).length c) (p.getD []) := h
theorem next_yes {w : World} {a : Option Addr} {c n m : Nat} {l l' : List It} (o : Opn) (x : Ann) (h : Lay w (.slice a n c) n (flatI l)) (hn : n = l.length) (hp : nextS l o x = some l') (hm : l'.length = m) :
    Calls Try.prog 11 #[.slice a n c, .agg #[.int .i64 o.k, .int .i64 o.a, .int .i64 o.b, .int .u64 o.u], .agg #[.int .i64 x.e, .int .i64 x.n, .int .u64 x.v]] w
      fun e w' => ∃ a' c', e = .returned (.tuple #[.slice a' m c', .bool true]) ∧ Kept w w' ∧ w'.ownsRow w.heap.size 45 2 (.slice a' m c') m (flatI l') := by
  subst hm
  exact (next_p o x h hn hp).mono fun e w' hh => hh.unf
theorem next_not {w : World} {a : Option Addr} {c n : Nat} {l : List It} (o : Opn) (x : Ann) (h : Lay w (.slice a n c) n (flatI l)) (hn : n = l.length) (hp : nextS l o x = none) :
    Calls Try.prog 11 #[.slice a n c, .agg #[.int .i64 o.k, .int .i64 o.a, .int .i64 o.b, .int .u64 o.u], .agg #[.int .i64 x.e, .int .i64 x.n, .int .u64 x.v]] w
      fun e w' => ∃ a' c', e = .returned (.tuple #[.slice a' 0 c', .bool false]) ∧ Kept w w' :=
  (next_p o x h hn hp).mono fun e w' hh => by
    obtain ⟨a', c', h1, h2, _⟩ := hh.unf
    exact ⟨a', c', h1, h2⟩
end Go.Proofs.Yteomggjkdaddhaa
