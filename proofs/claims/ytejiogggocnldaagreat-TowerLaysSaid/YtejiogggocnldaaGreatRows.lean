/-
  No cell of these rows narrows 'for every input' (looked for: loops, veiled, ifaces, maps, wideKeys, modest, calm, conditions, laid).
  DERIVED. THE GIVEN ROWS OF THIS SEAT. 7 by the template 'for every input the law returns true; each argument reads behind the call as it read before'; 0 by the template 'total and deterministic' (their statements: YtejiogggocnldaaGreatTotals.lean).
  GIVEN WITH THE SEED: the statements are not yours to turn. If you find one false, say at which input.
  Laid BY PROGRAM, IN A SANDBOX (cutbox-rows.mjs): the forced cells as the released guide's own fill.sh prints them over the translation be30b91bc1ccbc7c… (all of the seat's roots in one cut). By AI agents, Wed Nov 11 2026. No macro, syntax, notation, axiom, sorry.
-/
import Derived.Test.YtejiogggocnldaaGreatChecked
import GoSem.Claim
import GoSem.ClaimJoined
import GoSem.ClaimMapViews
import Derived.JoinedTies
import Derived.KernelRfl
namespace Go.Proofs.YtejiogggocnldaaGreat
/- THE CELL 'sum', in the pinned program and in every row, IS THE sha256 OF THE DUMP (.gsa) THAT YtejiogggocnldaaGreatProg.lean LOADS. Nothing in Lean hashes anything: it is a label: what it is worth is what the hold of that sum in a sandbox is worth. -/
noncomputable def Tryz.pinned : Pinned := { name := "ytejiogggocnldaagreat", sum := "be30b91bc1ccbc7cd4dadcf6d8e694e6e63ff868b547b3b68b742ef69b8616ab", checked := Tryz.checked }
namespace Rows
def none {H : Type} : Left H := { results := [], args := [] }

/-- 'coxswainlaw15.TowerSteps': WHATEVER THE INPUT: true; the input reads as it did. -/
def towerStepsSpec : ChangeSpec := { name := "towerSteps", fn := fun _ => fun
  | [d1, d2, d3, d4, d5, d6] => { results := [.lit (.bool true)], args := [d1, d2, d3, d4, d5, d6] }
  | _ => none }
def towerStepsRow : OpenClaim := { program := "ytejiogggocnldaagreat", sum := "be30b91bc1ccbc7cd4dadcf6d8e694e6e63ff868b547b3b68b742ef69b8616ab", func := "coxswain/coxswainlaw15.TowerSteps", spec := "towerSteps", unfollowed := true, recurses := true, apart := false }
def TowerStepsSaid : Prop := towerStepsRow.holds Tryz.pinned (OpenSpec.ofChange towerStepsSpec)

/-- ITS FALSE NEIGHBOUR: 'it returns false'. Refute it at one input. -/
def towerStepsWrong : ChangeSpec := { name := "towerSteps", fn := fun _ => fun
  | [d1, d2, d3, d4, d5, d6] => { results := [.lit (.bool false)], args := [d1, d2, d3, d4, d5, d6] }
  | _ => none }
def TowerStepsWrongFalsely : Prop := towerStepsRow.holds Tryz.pinned (OpenSpec.ofChange towerStepsWrong)

/-- 'coxswainlaw15.TowerKnown': WHATEVER THE INPUT: true; the input reads as it did. -/
def towerKnownSpec : ChangeSpec := { name := "towerKnown", fn := fun _ => fun
  | [] => { results := [.lit (.bool true)], args := [] }
  | _ => none }
def towerKnownRow : OpenClaim := { program := "ytejiogggocnldaagreat", sum := "be30b91bc1ccbc7cd4dadcf6d8e694e6e63ff868b547b3b68b742ef69b8616ab", func := "coxswain/coxswainlaw15.TowerKnown", spec := "towerKnown", unfollowed := true, recurses := true, apart := false }
def TowerKnownSaid : Prop := towerKnownRow.holds Tryz.pinned (OpenSpec.ofChange towerKnownSpec)

/-- ITS FALSE NEIGHBOUR: 'it returns false'. Refute it at one input. -/
def towerKnownWrong : ChangeSpec := { name := "towerKnown", fn := fun _ => fun
  | [] => { results := [.lit (.bool false)], args := [] }
  | _ => none }
def TowerKnownWrongFalsely : Prop := towerKnownRow.holds Tryz.pinned (OpenSpec.ofChange towerKnownWrong)

/-- 'coxswainlaw15.TowerApart': WHATEVER THE INPUT: true; the input reads as it did. -/
def towerApartSpec : ChangeSpec := { name := "towerApart", fn := fun _ => fun
  | [d1, d2] => { results := [.lit (.bool true)], args := [d1, d2] }
  | _ => none }
def towerApartRow : OpenClaim := { program := "ytejiogggocnldaagreat", sum := "be30b91bc1ccbc7cd4dadcf6d8e694e6e63ff868b547b3b68b742ef69b8616ab", func := "coxswain/coxswainlaw15.TowerApart", spec := "towerApart", unfollowed := true, recurses := true, apart := false }
def TowerApartSaid : Prop := towerApartRow.holds Tryz.pinned (OpenSpec.ofChange towerApartSpec)

/-- ITS FALSE NEIGHBOUR: 'it returns false'. Refute it at one input. -/
def towerApartWrong : ChangeSpec := { name := "towerApart", fn := fun _ => fun
  | [d1, d2] => { results := [.lit (.bool false)], args := [d1, d2] }
  | _ => none }
def TowerApartWrongFalsely : Prop := towerApartRow.holds Tryz.pinned (OpenSpec.ofChange towerApartWrong)

/-- 'coxswainlaw15.TowerLays': WHATEVER THE INPUT: true; the input reads as it did. -/
def towerLaysSpec : ChangeSpec := { name := "towerLays", fn := fun _ => fun
  | [d1, d2, d3, d4] => { results := [.lit (.bool true)], args := [d1, d2, d3, d4] }
  | _ => none }
def towerLaysRow : OpenClaim := { program := "ytejiogggocnldaagreat", sum := "be30b91bc1ccbc7cd4dadcf6d8e694e6e63ff868b547b3b68b742ef69b8616ab", func := "coxswain/coxswainlaw15.TowerLays", spec := "towerLays", unfollowed := true, recurses := true, apart := false }
def TowerLaysSaid : Prop := towerLaysRow.holds Tryz.pinned (OpenSpec.ofChange towerLaysSpec)

/-- ITS FALSE NEIGHBOUR: 'it returns false'. Refute it at one input. -/
def towerLaysWrong : ChangeSpec := { name := "towerLays", fn := fun _ => fun
  | [d1, d2, d3, d4] => { results := [.lit (.bool false)], args := [d1, d2, d3, d4] }
  | _ => none }
def TowerLaysWrongFalsely : Prop := towerLaysRow.holds Tryz.pinned (OpenSpec.ofChange towerLaysWrong)

/-- 'coxswainlaw15.TowerLevels': WHATEVER THE INPUT: true; the input reads as it did. -/
def towerLevelsSpec : ChangeSpec := { name := "towerLevels", fn := fun _ => fun
  | [d1, d2, d3] => { results := [.lit (.bool true)], args := [d1, d2, d3] }
  | _ => none }
def towerLevelsRow : OpenClaim := { program := "ytejiogggocnldaagreat", sum := "be30b91bc1ccbc7cd4dadcf6d8e694e6e63ff868b547b3b68b742ef69b8616ab", func := "coxswain/coxswainlaw15.TowerLevels", spec := "towerLevels", unfollowed := true, recurses := true, apart := false }
def TowerLevelsSaid : Prop := towerLevelsRow.holds Tryz.pinned (OpenSpec.ofChange towerLevelsSpec)

/-- ITS FALSE NEIGHBOUR: 'it returns false'. Refute it at one input. -/
def towerLevelsWrong : ChangeSpec := { name := "towerLevels", fn := fun _ => fun
  | [d1, d2, d3] => { results := [.lit (.bool false)], args := [d1, d2, d3] }
  | _ => none }
def TowerLevelsWrongFalsely : Prop := towerLevelsRow.holds Tryz.pinned (OpenSpec.ofChange towerLevelsWrong)

/-- 'coxswainlaw16.FindSteps': WHATEVER THE INPUT: true; the input reads as it did. -/
def findStepsSpec : ChangeSpec := { name := "findSteps", fn := fun _ => fun
  | [d1, d2, d3, d4] => { results := [.lit (.bool true)], args := [d1, d2, d3, d4] }
  | _ => none }
def findStepsRow : OpenClaim := { program := "ytejiogggocnldaagreat", sum := "be30b91bc1ccbc7cd4dadcf6d8e694e6e63ff868b547b3b68b742ef69b8616ab", func := "coxswain/coxswainlaw16.FindSteps", spec := "findSteps", unfollowed := true, recurses := true, apart := false }
def FindStepsSaid : Prop := findStepsRow.holds Tryz.pinned (OpenSpec.ofChange findStepsSpec)

/-- ITS FALSE NEIGHBOUR: 'it returns false'. Refute it at one input. -/
def findStepsWrong : ChangeSpec := { name := "findSteps", fn := fun _ => fun
  | [d1, d2, d3, d4] => { results := [.lit (.bool false)], args := [d1, d2, d3, d4] }
  | _ => none }
def FindStepsWrongFalsely : Prop := findStepsRow.holds Tryz.pinned (OpenSpec.ofChange findStepsWrong)

/-- 'coxswainlaw16.FindKeeps': WHATEVER THE INPUT: true; the input reads as it did. -/
def findKeepsSpec : ChangeSpec := { name := "findKeeps", fn := fun _ => fun
  | [d1, d2, d3] => { results := [.lit (.bool true)], args := [d1, d2, d3] }
  | _ => none }
def findKeepsRow : OpenClaim := { program := "ytejiogggocnldaagreat", sum := "be30b91bc1ccbc7cd4dadcf6d8e694e6e63ff868b547b3b68b742ef69b8616ab", func := "coxswain/coxswainlaw16.FindKeeps", spec := "findKeeps", unfollowed := true, recurses := true, apart := false }
def FindKeepsSaid : Prop := findKeepsRow.holds Tryz.pinned (OpenSpec.ofChange findKeepsSpec)

/-- ITS FALSE NEIGHBOUR: 'it returns false'. Refute it at one input. -/
def findKeepsWrong : ChangeSpec := { name := "findKeeps", fn := fun _ => fun
  | [d1, d2, d3] => { results := [.lit (.bool false)], args := [d1, d2, d3] }
  | _ => none }
def FindKeepsWrongFalsely : Prop := findKeepsRow.holds Tryz.pinned (OpenSpec.ofChange findKeepsWrong)

/- THE SECOND FORM. 'bulk': how many values and letters a reading holds, each counted each time it is reached (what is shared counts as often as it is met; a slice's spare places count too). A statement '..UptoSaid' is the law's where the arguments, and the package variables that the reading takes, are together of bulk at most 1048576: NARROWER than '..Said'. Prove '..Said' where nothing that the law and all that it calls make is longer than what came in: it says more and counts as full. Else prove '..UptoSaid'. A law counts once. -/
mutual
def uptoBulk {H : Type} : DataW H → Nat
  | .lit (.string bytes) => bytes.length + 1
  | .lit _ => 1
  | .nil => 1
  | .ptr d => uptoBulk d + 1
  | .slice elems spare => uptoBulkAll elems + uptoBulkAll spare + 1
  | .agg parts => uptoBulkAll parts + 1
  | .iface _ d => uptoBulk d + 1
  | .map entries => uptoBulkEntries entries + 1
  | .held _ => 1
def uptoBulkAll {H : Type} : List (DataW H) → Nat
  | [] => 0
  | d :: r => uptoBulk d + uptoBulkAll r
def uptoBulkEntries {H : Type} : List (Lit × DataW H) → Nat
  | [] => 0
  | x :: r => uptoBulkEntry x + uptoBulkEntries r
def uptoBulkEntry {H : Type} : Lit × DataW H → Nat
  | (.string bytes, d) => bytes.length + uptoBulk d + 1
  | (_, d) => uptoBulk d + 1
 end
def uptoSmall : (H : Type) → List (DataW H) → Bool := fun _ ds => decide (uptoBulkAll ds ≤ 1048576)
def OpenSpec.upto (s : _root_.Go.ChangeSpec) : _root_.Go.OpenSpec := { _root_.Go.OpenSpec.ofChange s with cond := some uptoSmall }

/-- 'coxswainlaw15.TowerSteps', WHERE WHAT IT READS IS OF BULK AT MOST 1048576: true; the input reads as it did. -/
def towerStepsUptoRow : OpenClaim := { program := "ytejiogggocnldaagreat", sum := "be30b91bc1ccbc7cd4dadcf6d8e694e6e63ff868b547b3b68b742ef69b8616ab", func := "coxswain/coxswainlaw15.TowerSteps", spec := "towerSteps", unfollowed := true, recurses := true, apart := false, narrowed := true }
def TowerStepsUptoSaid : Prop := towerStepsUptoRow.holds Tryz.pinned (OpenSpec.upto towerStepsSpec)

/-- 'coxswainlaw15.TowerKnown', WHERE WHAT IT READS IS OF BULK AT MOST 1048576: true; the input reads as it did. -/
def towerKnownUptoRow : OpenClaim := { program := "ytejiogggocnldaagreat", sum := "be30b91bc1ccbc7cd4dadcf6d8e694e6e63ff868b547b3b68b742ef69b8616ab", func := "coxswain/coxswainlaw15.TowerKnown", spec := "towerKnown", unfollowed := true, recurses := true, apart := false, narrowed := true }
def TowerKnownUptoSaid : Prop := towerKnownUptoRow.holds Tryz.pinned (OpenSpec.upto towerKnownSpec)

/-- 'coxswainlaw15.TowerApart', WHERE WHAT IT READS IS OF BULK AT MOST 1048576: true; the input reads as it did. -/
def towerApartUptoRow : OpenClaim := { program := "ytejiogggocnldaagreat", sum := "be30b91bc1ccbc7cd4dadcf6d8e694e6e63ff868b547b3b68b742ef69b8616ab", func := "coxswain/coxswainlaw15.TowerApart", spec := "towerApart", unfollowed := true, recurses := true, apart := false, narrowed := true }
def TowerApartUptoSaid : Prop := towerApartUptoRow.holds Tryz.pinned (OpenSpec.upto towerApartSpec)

/-- 'coxswainlaw15.TowerLays', WHERE WHAT IT READS IS OF BULK AT MOST 1048576: true; the input reads as it did. -/
def towerLaysUptoRow : OpenClaim := { program := "ytejiogggocnldaagreat", sum := "be30b91bc1ccbc7cd4dadcf6d8e694e6e63ff868b547b3b68b742ef69b8616ab", func := "coxswain/coxswainlaw15.TowerLays", spec := "towerLays", unfollowed := true, recurses := true, apart := false, narrowed := true }
def TowerLaysUptoSaid : Prop := towerLaysUptoRow.holds Tryz.pinned (OpenSpec.upto towerLaysSpec)

/-- 'coxswainlaw15.TowerLevels', WHERE WHAT IT READS IS OF BULK AT MOST 1048576: true; the input reads as it did. -/
def towerLevelsUptoRow : OpenClaim := { program := "ytejiogggocnldaagreat", sum := "be30b91bc1ccbc7cd4dadcf6d8e694e6e63ff868b547b3b68b742ef69b8616ab", func := "coxswain/coxswainlaw15.TowerLevels", spec := "towerLevels", unfollowed := true, recurses := true, apart := false, narrowed := true }
def TowerLevelsUptoSaid : Prop := towerLevelsUptoRow.holds Tryz.pinned (OpenSpec.upto towerLevelsSpec)

/-- 'coxswainlaw16.FindSteps', WHERE WHAT IT READS IS OF BULK AT MOST 1048576: true; the input reads as it did. -/
def findStepsUptoRow : OpenClaim := { program := "ytejiogggocnldaagreat", sum := "be30b91bc1ccbc7cd4dadcf6d8e694e6e63ff868b547b3b68b742ef69b8616ab", func := "coxswain/coxswainlaw16.FindSteps", spec := "findSteps", unfollowed := true, recurses := true, apart := false, narrowed := true }
def FindStepsUptoSaid : Prop := findStepsUptoRow.holds Tryz.pinned (OpenSpec.upto findStepsSpec)

/-- 'coxswainlaw16.FindKeeps', WHERE WHAT IT READS IS OF BULK AT MOST 1048576: true; the input reads as it did. -/
def findKeepsUptoRow : OpenClaim := { program := "ytejiogggocnldaagreat", sum := "be30b91bc1ccbc7cd4dadcf6d8e694e6e63ff868b547b3b68b742ef69b8616ab", func := "coxswain/coxswainlaw16.FindKeeps", spec := "findKeeps", unfollowed := true, recurses := true, apart := false, narrowed := true }
def FindKeepsUptoSaid : Prop := findKeepsUptoRow.holds Tryz.pinned (OpenSpec.upto findKeepsSpec)

end Rows
end Go.Proofs.YtejiogggocnldaaGreat
