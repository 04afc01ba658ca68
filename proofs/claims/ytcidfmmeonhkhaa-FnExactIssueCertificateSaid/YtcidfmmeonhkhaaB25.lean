/- Contracts and mathematics, joined: Open. No conditions but those that each states. -/
import Derived.Test.YtcidfmmeonhkhaaB3
import Derived.SizedLaws
import Derived.ChangeSlices
import Derived.Lib.SmallJoins
/- A slice of numbers that came in as an argument: it holds a list, its numbers fit their kind, its length is within the reach. No conditions. -/
namespace Go.Proofs.Ytcidfmmeonhkhaa.Sl
open Go.ChangeShapes Go.WideShapes Go.ChangeAt Go.RowKit

end Go.Proofs.Ytcidfmmeonhkhaa.Sl
