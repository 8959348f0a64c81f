/- RingSteps' row: its closed facts. -/
import Derived.Test.YtlfdiffbepfgbaaGreatRows
import Derived.WalkKit
import Derived.ProofKit
import Derived.OpenShut
import Derived.ShutString
import Derived.ChangeOld
import Derived.Below
import Derived.Lib.SmallJoins
namespace Go.Proofs.YtlfdiffbepfgbaaGreat.ringSteps
open Go.ChangeShapes Go.WideShapes Go.ChangeAt Go.RowKit Go.Joins

theorem closedF : joinedFacts Tryz.pinned.checked.prog 9 Tryz.f9 Rows.ringStepsSpec Rows.ringStepsRow = true := by kernel_rfl
end Go.Proofs.YtlfdiffbepfgbaaGreat.ringSteps
