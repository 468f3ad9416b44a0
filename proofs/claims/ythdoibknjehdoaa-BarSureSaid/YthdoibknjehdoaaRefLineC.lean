/- Contract of the document's answer for layer 7: the class of a box. -/
import Derived.Test.YthdoibknjehdoaaRefLine
import Derived.Lib.QuietBelow
namespace Go.Proofs.Ythdoibknjehdoaa
open Go.RowKit
open Go.Sort (grow)

/-- The head of a round. -/
def TallyE (N g : Nat) (w : World) (a b c d x y u v : Int) (h0 h1 h2 h3 : Bool) (sn si : Value) (wr : World) : Prop := EightAt wr g a b c d ∧ TallyAt N w a b c d x y u v h0 h1 h2 h3 sn si wr

end Go.Proofs.Ythdoibknjehdoaa
