/-
  Contracts of layer 1: the document's Add and Sub.
-/
import Derived.Test.YtbknkoicejkfmaaNatE
import Derived.Test.YtbknkoicejkfmaaNatF
import Derived.Test.YtbknkoicejkfmaaNatMathB
namespace Go.Proofs.Ytbknkoicejkfmaa
open Go.RowKit

end Go.Proofs.Ytbknkoicejkfmaa
