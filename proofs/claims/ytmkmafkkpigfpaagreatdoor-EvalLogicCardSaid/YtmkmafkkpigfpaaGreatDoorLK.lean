/- Layer vtext: the walk of Parse, by what begins the text. -/
import Derived.Test.YtmkmafkkpigfpaaGreatDoorLJ
namespace Go.Proofs.YtmkmafkkpigfpaaGreatDoor
open Go.ChangeShapes Go.WideShapes Go.ChangeAt Go.RowKit Go.Lib
set_option linter.unusedVariables false
set_option maxRecDepth 100000
end Go.Proofs.YtmkmafkkpigfpaaGreatDoor
