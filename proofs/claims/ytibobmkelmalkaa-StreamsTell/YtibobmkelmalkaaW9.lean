/- The walks of vals.canTell, vals.Equal, vals.Less. -/
import Derived.Test.YtibobmkelmalkaaW5
namespace Go.Proofs.Ytibobmkelmalkaa
open Go.RowKit

def tellB (k k' : Int) : Bool := k == k' && k != 1
def eqT (k n : Int) (s : ByteArray) (k' n' : Int) (s' : ByteArray) : Option Bool := if tellB k k' then some (cmpV k n s k' n' s' == 0) else none
def ltT (k n : Int) (s : ByteArray) (k' n' : Int) (s' : ByteArray) : Option Bool := if tellB k k' then some (decide (cmpV k n s k' n' s' < 0)) else none

end Go.Proofs.Ytibobmkelmalkaa
