/- The walk of ListTells. -/
import Derived.Test.YtkhnfkejmhhcjaaLstWalks
import Derived.Test.YtkhnfkejmhhcjaaListTellsWnil1
import Derived.Test.YtkhnfkejmhhcjaaListTellsWnil2
import Derived.Test.YtkhnfkejmhhcjaaListTellsWcons1
import Derived.Test.YtkhnfkejmhhcjaaListTellsWcons2
import Derived.Test.YtkhnfkejmhhcjaaListTellsWcons3
namespace Go.Proofs.Ytkhnfkejmhhcjaa.listTells
open Go Go.RowKit
set_option linter.unusedVariables false


theorem walk (v0 : Value) (l0 : List Int) (x1 : Int) (x2 : Int) (w : World) (i0 : hp.IsInts w w.heap.size v0 l0) (w1 : (Lit.int .i64 x1).wf = true) (w2 : (Lit.int .i64 x2).wf = true) (bd0 : l0.length ≤ 17592186043904) :
    Calls Try.prog 3 #[v0, .int .i64 x1, .int .i64 x2] w fun e w' => e = .returned (.bool true) ∧ Below w.heap.size w w' := by
  by_cases hneg : x2 < 0
  · cases h : l0 with
    | nil => exact walk_nil1 v0 l0 x1 x2 w i0 w1 w2 bd0 h hneg
    | cons z zs => exact walk_cons1 v0 l0 x1 x2 w i0 w1 w2 bd0 z zs h hneg
  · by_cases hge : (l0.length : Int) ≤ x2
    · cases h : l0 with
      | nil => exact walk_nil2 v0 l0 x1 x2 w i0 w1 w2 bd0 h (by omega) hge
      | cons z zs => exact walk_cons2 v0 l0 x1 x2 w i0 w1 w2 bd0 z zs h (by omega) hge
    · obtain ⟨k, rfl⟩ : ∃ k : Nat, x2 = k := ⟨x2.toNat, by omega⟩
      cases h : l0 with
      | nil => rw [h] at hge; simp at hge
      | cons z zs => exact walk_cons3 v0 l0 x1 k w i0 w1 w2 bd0 z zs h (by omega)

end Go.Proofs.Ytkhnfkejmhhcjaa.listTells
