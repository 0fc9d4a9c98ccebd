/- Package finger: the question that Split asks. -/
import Derived.Test.YtkenocamlaaajaaFinTree
import Derived.Test.YtkenocamlaaajaaFinSplit
namespace Go.Proofs.Ytkenocamlaaajaa.fin
open Go Go.RowKit Go.Proofs.Ytkenocamlaaajaa.mono

abbrev moreThan (n : Int) (l : List Int) : Bool := decide (n < (l.length : Int))
def soFar (most : Bool) (n : Int) (l : List Int) : Bool := if most = true then decide (0 < (l.length : Int)) && decide (n ≤ mstOf l) else decide (n < (l.length : Int))
end Go.Proofs.Ytkenocamlaaajaa.fin
