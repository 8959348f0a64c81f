/-
  No cell of these rows narrows 'for every input' (looked for: loops, veiled, ifaces, maps, wideKeys, modest, calm, conditions, laid).
  DERIVED. THE GIVEN ROWS OF THIS SEAT. 7 by the template 'for every input the law returns true; each argument reads behind the call as it read before'; 0 by the template 'total and deterministic' (their statements: YtlfdiffbepfgbaaGreatTotals.lean).
  GIVEN WITH THE SEED: the statements are not yours to turn. If you find one false, say at which input.
  Laid BY PROGRAM, IN A SANDBOX (cutbox-rows.mjs): the forced cells as the released guide's own fill.sh prints them over the translation 72043afb0c1c3d9f… (all of the seat's roots in one cut). By AI agents, Wed Nov 11 2026. No macro, syntax, notation, axiom, sorry.
-/
import Derived.Test.YtlfdiffbepfgbaaGreatChecked
import GoSem.Claim
import GoSem.ClaimJoined
import GoSem.ClaimMapViews
import Derived.JoinedTies
import Derived.KernelRfl
namespace Go.Proofs.YtlfdiffbepfgbaaGreat
/- THE CELL 'sum', in the pinned program and in every row, IS THE sha256 OF THE DUMP (.gsa) THAT YtlfdiffbepfgbaaGreatProg.lean LOADS. Nothing in Lean hashes anything: it is a label: what it is worth is what the hold of that sum in a sandbox is worth. -/
noncomputable def Tryz.pinned : Pinned := { name := "ytlfdiffbepfgbaagreat", sum := "72043afb0c1c3d9f52067e5748aef5844a906fc3256b0cefe4e3f937aa58a95c", checked := Tryz.checked }
namespace Rows
def none {H : Type} : Left H := { results := [], args := [] }

/-- 'coxswainlaw11.ArenaKeeps': WHATEVER THE INPUT: true; the input reads as it did. -/
def arenaKeepsSpec : ChangeSpec := { name := "arenaKeeps", fn := fun _ => fun
  | [d1, d2, d3] => { results := [.lit (.bool true)], args := [d1, d2, d3] }
  | _ => none }
def arenaKeepsRow : OpenClaim := { program := "ytlfdiffbepfgbaagreat", sum := "72043afb0c1c3d9f52067e5748aef5844a906fc3256b0cefe4e3f937aa58a95c", func := "coxswain/coxswainlaw11.ArenaKeeps", spec := "arenaKeeps", unfollowed := true, recurses := true, apart := false }
def ArenaKeepsSaid : Prop := arenaKeepsRow.holds Tryz.pinned (OpenSpec.ofChange arenaKeepsSpec)

/-- ITS FALSE NEIGHBOUR: 'it returns false'. Refute it at one input. -/
def arenaKeepsWrong : ChangeSpec := { name := "arenaKeeps", fn := fun _ => fun
  | [d1, d2, d3] => { results := [.lit (.bool false)], args := [d1, d2, d3] }
  | _ => none }
def ArenaKeepsWrongFalsely : Prop := arenaKeepsRow.holds Tryz.pinned (OpenSpec.ofChange arenaKeepsWrong)

/-- 'coxswainlaw13.LimboSteps': WHATEVER THE INPUT: true; the input reads as it did. -/
def limboStepsSpec : ChangeSpec := { name := "limboSteps", fn := fun _ => fun
  | [d1, d2, d3, d4] => { results := [.lit (.bool true)], args := [d1, d2, d3, d4] }
  | _ => none }
def limboStepsRow : OpenClaim := { program := "ytlfdiffbepfgbaagreat", sum := "72043afb0c1c3d9f52067e5748aef5844a906fc3256b0cefe4e3f937aa58a95c", func := "coxswain/coxswainlaw13.LimboSteps", spec := "limboSteps", unfollowed := true, recurses := true, apart := false }
def LimboStepsSaid : Prop := limboStepsRow.holds Tryz.pinned (OpenSpec.ofChange limboStepsSpec)

/-- ITS FALSE NEIGHBOUR: 'it returns false'. Refute it at one input. -/
def limboStepsWrong : ChangeSpec := { name := "limboSteps", fn := fun _ => fun
  | [d1, d2, d3, d4] => { results := [.lit (.bool false)], args := [d1, d2, d3, d4] }
  | _ => none }
def LimboStepsWrongFalsely : Prop := limboStepsRow.holds Tryz.pinned (OpenSpec.ofChange limboStepsWrong)

/-- 'coxswainlaw13.LimboNone': WHATEVER THE INPUT: true; the input reads as it did. -/
def limboNoneSpec : ChangeSpec := { name := "limboNone", fn := fun _ => fun
  | [d] => { results := [.lit (.bool true)], args := [d] }
  | _ => none }
def limboNoneRow : OpenClaim := { program := "ytlfdiffbepfgbaagreat", sum := "72043afb0c1c3d9f52067e5748aef5844a906fc3256b0cefe4e3f937aa58a95c", func := "coxswain/coxswainlaw13.LimboNone", spec := "limboNone", unfollowed := true, recurses := true, apart := false }
def LimboNoneSaid : Prop := limboNoneRow.holds Tryz.pinned (OpenSpec.ofChange limboNoneSpec)

/-- ITS FALSE NEIGHBOUR: 'it returns false'. Refute it at one input. -/
def limboNoneWrong : ChangeSpec := { name := "limboNone", fn := fun _ => fun
  | [d] => { results := [.lit (.bool false)], args := [d] }
  | _ => none }
def LimboNoneWrongFalsely : Prop := limboNoneRow.holds Tryz.pinned (OpenSpec.ofChange limboNoneWrong)

/-- 'coxswainlaw13.LimboKnown': WHATEVER THE INPUT: true; the input reads as it did. -/
def limboKnownSpec : ChangeSpec := { name := "limboKnown", fn := fun _ => fun
  | [] => { results := [.lit (.bool true)], args := [] }
  | _ => none }
def limboKnownRow : OpenClaim := { program := "ytlfdiffbepfgbaagreat", sum := "72043afb0c1c3d9f52067e5748aef5844a906fc3256b0cefe4e3f937aa58a95c", func := "coxswain/coxswainlaw13.LimboKnown", spec := "limboKnown", unfollowed := true, recurses := true, apart := false }
def LimboKnownSaid : Prop := limboKnownRow.holds Tryz.pinned (OpenSpec.ofChange limboKnownSpec)

/-- ITS FALSE NEIGHBOUR: 'it returns false'. Refute it at one input. -/
def limboKnownWrong : ChangeSpec := { name := "limboKnown", fn := fun _ => fun
  | [] => { results := [.lit (.bool false)], args := [] }
  | _ => none }
def LimboKnownWrongFalsely : Prop := limboKnownRow.holds Tryz.pinned (OpenSpec.ofChange limboKnownWrong)

/-- 'coxswainlaw13.LimboSafe': WHATEVER THE INPUT: true; the input reads as it did. -/
def limboSafeSpec : ChangeSpec := { name := "limboSafe", fn := fun _ => fun
  | [d1, d2] => { results := [.lit (.bool true)], args := [d1, d2] }
  | _ => none }
def limboSafeRow : OpenClaim := { program := "ytlfdiffbepfgbaagreat", sum := "72043afb0c1c3d9f52067e5748aef5844a906fc3256b0cefe4e3f937aa58a95c", func := "coxswain/coxswainlaw13.LimboSafe", spec := "limboSafe", unfollowed := true, recurses := true, apart := false }
def LimboSafeSaid : Prop := limboSafeRow.holds Tryz.pinned (OpenSpec.ofChange limboSafeSpec)

/-- ITS FALSE NEIGHBOUR: 'it returns false'. Refute it at one input. -/
def limboSafeWrong : ChangeSpec := { name := "limboSafe", fn := fun _ => fun
  | [d1, d2] => { results := [.lit (.bool false)], args := [d1, d2] }
  | _ => none }
def LimboSafeWrongFalsely : Prop := limboSafeRow.holds Tryz.pinned (OpenSpec.ofChange limboSafeWrong)

/-- 'coxswainlaw13.LimboFrees': WHATEVER THE INPUT: true; the input reads as it did. -/
def limboFreesSpec : ChangeSpec := { name := "limboFrees", fn := fun _ => fun
  | [d1, d2, d3] => { results := [.lit (.bool true)], args := [d1, d2, d3] }
  | _ => none }
def limboFreesRow : OpenClaim := { program := "ytlfdiffbepfgbaagreat", sum := "72043afb0c1c3d9f52067e5748aef5844a906fc3256b0cefe4e3f937aa58a95c", func := "coxswain/coxswainlaw13.LimboFrees", spec := "limboFrees", unfollowed := true, recurses := true, apart := false }
def LimboFreesSaid : Prop := limboFreesRow.holds Tryz.pinned (OpenSpec.ofChange limboFreesSpec)

/-- ITS FALSE NEIGHBOUR: 'it returns false'. Refute it at one input. -/
def limboFreesWrong : ChangeSpec := { name := "limboFrees", fn := fun _ => fun
  | [d1, d2, d3] => { results := [.lit (.bool false)], args := [d1, d2, d3] }
  | _ => none }
def LimboFreesWrongFalsely : Prop := limboFreesRow.holds Tryz.pinned (OpenSpec.ofChange limboFreesWrong)

/-- 'coxswainlaw14.RingSteps': WHATEVER THE INPUT: true; the input reads as it did. -/
def ringStepsSpec : ChangeSpec := { name := "ringSteps", fn := fun _ => fun
  | [d1, d2, d3, d4] => { results := [.lit (.bool true)], args := [d1, d2, d3, d4] }
  | _ => none }
def ringStepsRow : OpenClaim := { program := "ytlfdiffbepfgbaagreat", sum := "72043afb0c1c3d9f52067e5748aef5844a906fc3256b0cefe4e3f937aa58a95c", func := "coxswain/coxswainlaw14.RingSteps", spec := "ringSteps", unfollowed := true, recurses := true, apart := false }
def RingStepsSaid : Prop := ringStepsRow.holds Tryz.pinned (OpenSpec.ofChange ringStepsSpec)

/-- ITS FALSE NEIGHBOUR: 'it returns false'. Refute it at one input. -/
def ringStepsWrong : ChangeSpec := { name := "ringSteps", fn := fun _ => fun
  | [d1, d2, d3, d4] => { results := [.lit (.bool false)], args := [d1, d2, d3, d4] }
  | _ => none }
def RingStepsWrongFalsely : Prop := ringStepsRow.holds Tryz.pinned (OpenSpec.ofChange ringStepsWrong)

/- THE SECOND FORM. 'bulk': how many values and letters a reading holds, each counted each time it is reached (what is shared counts as often as it is met; a slice's spare places count too). A statement '..UptoSaid' is the law's where the arguments, and the package variables that the reading takes, are together of bulk at most 1048576: NARROWER than '..Said'. Prove '..Said' where nothing that the law and all that it calls make is longer than what came in: it says more and counts as full. Else prove '..UptoSaid'. A law counts once. -/
mutual
def uptoBulk {H : Type} : DataW H → Nat
  | .lit (.string bytes) => bytes.length + 1
  | .lit _ => 1
  | .nil => 1
  | .ptr d => uptoBulk d + 1
  | .slice elems spare => uptoBulkAll elems + uptoBulkAll spare + 1
  | .agg parts => uptoBulkAll parts + 1
  | .iface _ d => uptoBulk d + 1
  | .map entries => uptoBulkEntries entries + 1
  | .held _ => 1
def uptoBulkAll {H : Type} : List (DataW H) → Nat
  | [] => 0
  | d :: r => uptoBulk d + uptoBulkAll r
def uptoBulkEntries {H : Type} : List (Lit × DataW H) → Nat
  | [] => 0
  | x :: r => uptoBulkEntry x + uptoBulkEntries r
def uptoBulkEntry {H : Type} : Lit × DataW H → Nat
  | (.string bytes, d) => bytes.length + uptoBulk d + 1
  | (_, d) => uptoBulk d + 1
 end
def uptoSmall : (H : Type) → List (DataW H) → Bool := fun _ ds => decide (uptoBulkAll ds ≤ 1048576)
def OpenSpec.upto (s : _root_.Go.ChangeSpec) : _root_.Go.OpenSpec := { _root_.Go.OpenSpec.ofChange s with cond := some uptoSmall }

/-- 'coxswainlaw11.ArenaKeeps', WHERE WHAT IT READS IS OF BULK AT MOST 1048576: true; the input reads as it did. -/
def arenaKeepsUptoRow : OpenClaim := { program := "ytlfdiffbepfgbaagreat", sum := "72043afb0c1c3d9f52067e5748aef5844a906fc3256b0cefe4e3f937aa58a95c", func := "coxswain/coxswainlaw11.ArenaKeeps", spec := "arenaKeeps", unfollowed := true, recurses := true, apart := false, narrowed := true }
def ArenaKeepsUptoSaid : Prop := arenaKeepsUptoRow.holds Tryz.pinned (OpenSpec.upto arenaKeepsSpec)

/-- 'coxswainlaw13.LimboSteps', WHERE WHAT IT READS IS OF BULK AT MOST 1048576: true; the input reads as it did. -/
def limboStepsUptoRow : OpenClaim := { program := "ytlfdiffbepfgbaagreat", sum := "72043afb0c1c3d9f52067e5748aef5844a906fc3256b0cefe4e3f937aa58a95c", func := "coxswain/coxswainlaw13.LimboSteps", spec := "limboSteps", unfollowed := true, recurses := true, apart := false, narrowed := true }
def LimboStepsUptoSaid : Prop := limboStepsUptoRow.holds Tryz.pinned (OpenSpec.upto limboStepsSpec)

/-- 'coxswainlaw13.LimboNone', WHERE WHAT IT READS IS OF BULK AT MOST 1048576: true; the input reads as it did. -/
def limboNoneUptoRow : OpenClaim := { program := "ytlfdiffbepfgbaagreat", sum := "72043afb0c1c3d9f52067e5748aef5844a906fc3256b0cefe4e3f937aa58a95c", func := "coxswain/coxswainlaw13.LimboNone", spec := "limboNone", unfollowed := true, recurses := true, apart := false, narrowed := true }
def LimboNoneUptoSaid : Prop := limboNoneUptoRow.holds Tryz.pinned (OpenSpec.upto limboNoneSpec)

/-- 'coxswainlaw13.LimboKnown', WHERE WHAT IT READS IS OF BULK AT MOST 1048576: true; the input reads as it did. -/
def limboKnownUptoRow : OpenClaim := { program := "ytlfdiffbepfgbaagreat", sum := "72043afb0c1c3d9f52067e5748aef5844a906fc3256b0cefe4e3f937aa58a95c", func := "coxswain/coxswainlaw13.LimboKnown", spec := "limboKnown", unfollowed := true, recurses := true, apart := false, narrowed := true }
def LimboKnownUptoSaid : Prop := limboKnownUptoRow.holds Tryz.pinned (OpenSpec.upto limboKnownSpec)

/-- 'coxswainlaw13.LimboSafe', WHERE WHAT IT READS IS OF BULK AT MOST 1048576: true; the input reads as it did. -/
def limboSafeUptoRow : OpenClaim := { program := "ytlfdiffbepfgbaagreat", sum := "72043afb0c1c3d9f52067e5748aef5844a906fc3256b0cefe4e3f937aa58a95c", func := "coxswain/coxswainlaw13.LimboSafe", spec := "limboSafe", unfollowed := true, recurses := true, apart := false, narrowed := true }
def LimboSafeUptoSaid : Prop := limboSafeUptoRow.holds Tryz.pinned (OpenSpec.upto limboSafeSpec)

/-- 'coxswainlaw13.LimboFrees', WHERE WHAT IT READS IS OF BULK AT MOST 1048576: true; the input reads as it did. -/
def limboFreesUptoRow : OpenClaim := { program := "ytlfdiffbepfgbaagreat", sum := "72043afb0c1c3d9f52067e5748aef5844a906fc3256b0cefe4e3f937aa58a95c", func := "coxswain/coxswainlaw13.LimboFrees", spec := "limboFrees", unfollowed := true, recurses := true, apart := false, narrowed := true }
def LimboFreesUptoSaid : Prop := limboFreesUptoRow.holds Tryz.pinned (OpenSpec.upto limboFreesSpec)

/-- 'coxswainlaw14.RingSteps', WHERE WHAT IT READS IS OF BULK AT MOST 1048576: true; the input reads as it did. -/
def ringStepsUptoRow : OpenClaim := { program := "ytlfdiffbepfgbaagreat", sum := "72043afb0c1c3d9f52067e5748aef5844a906fc3256b0cefe4e3f937aa58a95c", func := "coxswain/coxswainlaw14.RingSteps", spec := "ringSteps", unfollowed := true, recurses := true, apart := false, narrowed := true }
def RingStepsUptoSaid : Prop := ringStepsUptoRow.holds Tryz.pinned (OpenSpec.upto ringStepsSpec)

end Rows
end Go.Proofs.YtlfdiffbepfgbaaGreat
