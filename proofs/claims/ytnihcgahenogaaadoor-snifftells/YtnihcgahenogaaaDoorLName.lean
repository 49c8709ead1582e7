/- The walks over label.Name and the two closed checks. -/
import Derived.Test.YtnihcgahenogaaaDoorLTrim
namespace Go.Proofs.YtnihcgahenogaaaDoor
open Go.RowKit

/-- The name of an encoding. -/
def nameL (e : Int) : List UInt8 :=
  if e = 1 then [117, 116, 102, 45, 56] else if e = 2 then [115, 104, 105, 102, 116] else if e = 3 then [116, 119, 105, 110] else if e = 4 then [108, 97, 116, 105, 110] else if e = 5 then [117, 116, 102, 45, 49, 54, 108, 101] else if e = 6 then [117, 116, 102, 45, 49, 54, 98, 101] else []

end Go.Proofs.YtnihcgahenogaaaDoor
