/- Layer lexer: a word as it is written; Lex, as the laws ask it. -/
import Derived.Test.YtmkmafkkpigfpaaGreatDoorTP
namespace Go.Proofs.YtmkmafkkpigfpaaGreatDoor
open Go.ChangeShapes Go.WideShapes Go.ChangeAt Go.RowKit Go.Lib
set_option linter.unusedVariables false
set_option linter.unusedSimpArgs false
set_option maxRecDepth 100000
theorem st_app (a b:List UInt8):st a++st b=st (a++b):=by
 apply ba_ext
 simp [ByteArray.toList_eq]
def lexR (l:List UInt8):List Tk × Int × Int × Int:=if (lexL l).2.1=0 then lexL l else ([],(lexL l).2)
end Go.Proofs.YtmkmafkkpigfpaaGreatDoor
