/- Two lists of numbers compared; a list of numbers reversed; how many are below. -/
import Derived.Test.YtfbeiimmcemniaaChecked
import Derived.Test.YtfbeiimmcemniaaHeap
import Derived.Test.YtfbeiimmcemniaaReg
import Derived.Test.YtfbeiimmcemniaaRel
import Derived.Lib.Hide
import Derived.WalkKit
import Derived.BigQuiet
import Derived.Deep.QuietTactic
import Derived.StillTailTactics
import Derived.WalkSmall
import Derived.Maps.AppendAt
namespace Go.Proofs.Ytfbeiimmcemniaa.same
open Go Go.RowKit

theorem take_snoc (zs : List Int) (k : Nat) (h : k < zs.length) : zs.take (k + 1) = zs.take k ++ [zs.getD k 0] := by
  rw [List.take_succ_eq_append_getElem h]; simp [h]
theorem ne_at {a b : List Int} (k : Nat) (h : a.getD k 0 ≠ b.getD k 0) : a ≠ b := fun e => h (by rw [e])

theorem ret_bool {a b : Bool} (h : a = b) : Ending.returned (.bool a) = .returned (.bool b) := by rw [h]

theorem infoInt : (Try.prog.info? 3).map (fun i => (i.zero, i.size, i.bytes)) = some (some (.int .i64 0), 1, 8) := by kernel_rfl

theorem snoc_cases (l : List Int) : l = [] ∨ ∃ t x, l = t ++ [x] := by
  rcases List.eq_nil_or_concat l with h | ⟨t, x, h⟩
  · exact .inl h
  · exact .inr ⟨t, x, by simpa using h⟩

theorem wf_append {a b : List Int} (ha : ∀ x ∈ a, (Lit.int .i64 x).wf = true) (hb : ∀ x ∈ b, (Lit.int .i64 x).wf = true) : ∀ x ∈ a ++ b, (Lit.int .i64 x).wf = true := by
  intro x hx
  rcases List.mem_append.1 hx with h | h
  · exact ha x h
  · exact hb x h

/-- wattleworkref1.Below -/
def cnt (l : List Int) (a : Int) : Nat := l.countP fun x => decide (x < a)
theorem cnt_snoc (l : List Int) (x a : Int) : cnt (l ++ [x]) a = cnt l a + if x < a then 1 else 0 := by
  simp [cnt, List.countP_append, List.countP_cons]

end Go.Proofs.Ytfbeiimmcemniaa.same
