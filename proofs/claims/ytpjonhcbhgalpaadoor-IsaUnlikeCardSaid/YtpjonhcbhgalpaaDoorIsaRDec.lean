
/-
  The contract of the document's own answer Decode: the other forms, and all.
-/
import Derived.Test.YtpjonhcbhgalpaaDoorIsaRDecA
namespace Go.Proofs.YtpjonhcbhgalpaaDoor
open Go.ChangeShapes Go.WideShapes Go.ChangeAt Go.RowKit
end Go.Proofs.YtpjonhcbhgalpaaDoor
