/- The walks of vals.And, vals.Or, vals.Not: what each answers, by what its arguments say. -/
import Derived.Test.YtibobmkelmalkaaW1
namespace Go.Proofs.Ytibobmkelmalkaa
open Go.RowKit

end Go.Proofs.Ytibobmkelmalkaa
