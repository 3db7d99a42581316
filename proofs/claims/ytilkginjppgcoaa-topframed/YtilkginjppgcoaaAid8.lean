/- Small aids: a remainder as a number, b[:n]. -/
import Derived.Test.YtilkginjppgcoaaLiv
namespace Go.Proofs.Ytilkginjppgcoaa
open Go.ChangeShapes Go.WideShapes Go.ChangeAt Go.RowKit
end Go.Proofs.Ytilkginjppgcoaa
