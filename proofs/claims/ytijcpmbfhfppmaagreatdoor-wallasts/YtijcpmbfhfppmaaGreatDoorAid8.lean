/- Small aids: a remainder as a number, b[:n]. -/
import Derived.Test.YtijcpmbfhfppmaaGreatDoorLiv
namespace Go.Proofs.YtijcpmbfhfppmaaGreatDoor
open Go.ChangeShapes Go.WideShapes Go.ChangeAt Go.RowKit
end Go.Proofs.YtijcpmbfhfppmaaGreatDoor
