/- api.Prio: a number's priority. -/
import Derived.Test.YtlaflhnnddfkkaaChecked
import Derived.Test.YtlaflhnnddfkkaaHeap
import Derived.Test.YtlaflhnnddfkkaaReg
import Derived.Test.YtlaflhnnddfkkaaRel
import Derived.WalkKit
import Derived.Lib.Small
import Derived.Lib.Walk
namespace Go.Proofs.Ytlaflhnnddfkkaa.trp
open Go Go.RowKit

/-- the number, mixed -/
def prio (x : Int) : Int :=
  wrap64 (bits BinOp.and IntKind.u64 (bits BinOp.xor IntKind.u64 (IntKind.u64.wrap (bits BinOp.xor IntKind.u64 (IntKind.u64.wrap (IntKind.u64.wrap x * 11400714819323198485)) (IntKind.u64.wrap (IntKind.u64.wrap x * 11400714819323198485) / 536870912) * 13787848793156543929))
    (IntKind.u64.wrap (bits BinOp.xor IntKind.u64 (IntKind.u64.wrap (IntKind.u64.wrap x * 11400714819323198485)) (IntKind.u64.wrap (IntKind.u64.wrap x * 11400714819323198485) / 536870912) * 13787848793156543929) / 4294967296)) 4294967295)

set_option maxHeartbeats 4000000 in
theorem prio_any (x : Int) (w : World) :
    Calls Try.prog 95 #[.int .i64 x] w fun e w' => e = .returned (.int .i64 (prio x)) ∧ w = w' := by
  go_enter Try.func95, Try.ntmps95
  go_wp2_with fail
  go_ret
  exact ⟨rfl, rfl⟩
end Go.Proofs.Ytlaflhnnddfkkaa.trp
