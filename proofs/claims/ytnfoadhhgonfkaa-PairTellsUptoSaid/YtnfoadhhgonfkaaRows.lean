/-
  No cell of these rows narrows 'for every input' (looked for: loops, veiled, ifaces, maps, wideKeys, modest, calm, conditions, laid).
  DERIVED. THE GIVEN ROWS OF THIS SEAT. 4 by the template 'for every input the law returns true; each argument reads behind the call as it read before'; 0 by the template 'total and deterministic' (their statements: YtnfoadhhgonfkaaTotals.lean).
  GIVEN WITH THE SEED: the statements are not yours to turn. If you find one false, say at which input.
  Laid BY PROGRAM, IN A SANDBOX (cutbox-rows.mjs): the forced cells as the released guide's own fill.sh prints them over the translation 781311d67209b1f5… (all of the seat's roots in one cut). By AI agents, Wed Nov 11 2026. No macro, syntax, notation, axiom, sorry.
-/
import Derived.Test.YtnfoadhhgonfkaaChecked
import GoSem.Claim
import GoSem.ClaimJoined
import GoSem.ClaimMapViews
import Derived.JoinedTies
import Derived.KernelRfl
namespace Go.Proofs.Ytnfoadhhgonfkaa
/- THE CELL 'sum', in the pinned program and in every row, IS THE sha256 OF THE DUMP (.gsa) THAT YtnfoadhhgonfkaaProg.lean LOADS. Nothing in Lean hashes anything: it is a label: what it is worth is what the hold of that sum in a sandbox is worth. -/
noncomputable def Try.pinned : Pinned := { name := "ytnfoadhhgonfkaa", sum := "781311d67209b1f546a3eed6d66c43aadb9a6e28dfe39264570b8aff5bee53a7", checked := Try.checked }
namespace Rows
def none {H : Type} : Left H := { results := [], args := [] }

/-- 'wattleworklaw1.PairTells': WHATEVER THE INPUT: true; the input reads as it did. -/
def pairTellsSpec : ChangeSpec := { name := "pairTells", fn := fun _ => fun
  | [d1, d2, d3] => { results := [.lit (.bool true)], args := [d1, d2, d3] }
  | _ => none }
def pairTellsRow : OpenClaim := { program := "ytnfoadhhgonfkaa", sum := "781311d67209b1f546a3eed6d66c43aadb9a6e28dfe39264570b8aff5bee53a7", func := "wattlework/wattleworklaw1.PairTells", spec := "pairTells", unfollowed := true, recurses := true, apart := false }
def PairTellsSaid : Prop := pairTellsRow.holds Try.pinned (OpenSpec.ofChange pairTellsSpec)

/-- ITS FALSE NEIGHBOUR: 'it returns false'. Refute it at one input. -/
def pairTellsWrong : ChangeSpec := { name := "pairTells", fn := fun _ => fun
  | [d1, d2, d3] => { results := [.lit (.bool false)], args := [d1, d2, d3] }
  | _ => none }
def PairTellsWrongFalsely : Prop := pairTellsRow.holds Try.pinned (OpenSpec.ofChange pairTellsWrong)

/-- 'wattleworklaw1.PairJoins': WHATEVER THE INPUT: true; the input reads as it did. -/
def pairJoinsSpec : ChangeSpec := { name := "pairJoins", fn := fun _ => fun
  | [d1, d2, d3] => { results := [.lit (.bool true)], args := [d1, d2, d3] }
  | _ => none }
def pairJoinsRow : OpenClaim := { program := "ytnfoadhhgonfkaa", sum := "781311d67209b1f546a3eed6d66c43aadb9a6e28dfe39264570b8aff5bee53a7", func := "wattlework/wattleworklaw1.PairJoins", spec := "pairJoins", unfollowed := true, recurses := true, apart := false }
def PairJoinsSaid : Prop := pairJoinsRow.holds Try.pinned (OpenSpec.ofChange pairJoinsSpec)

/-- ITS FALSE NEIGHBOUR: 'it returns false'. Refute it at one input. -/
def pairJoinsWrong : ChangeSpec := { name := "pairJoins", fn := fun _ => fun
  | [d1, d2, d3] => { results := [.lit (.bool false)], args := [d1, d2, d3] }
  | _ => none }
def PairJoinsWrongFalsely : Prop := pairJoinsRow.holds Try.pinned (OpenSpec.ofChange pairJoinsWrong)

/-- 'wattleworklaw1.PairRises': WHATEVER THE INPUT: true; the input reads as it did. -/
def pairRisesSpec : ChangeSpec := { name := "pairRises", fn := fun _ => fun
  | [d1, d2] => { results := [.lit (.bool true)], args := [d1, d2] }
  | _ => none }
def pairRisesRow : OpenClaim := { program := "ytnfoadhhgonfkaa", sum := "781311d67209b1f546a3eed6d66c43aadb9a6e28dfe39264570b8aff5bee53a7", func := "wattlework/wattleworklaw1.PairRises", spec := "pairRises", recurses := true, apart := false }
def PairRisesSaid : Prop := pairRisesRow.holds Try.pinned (OpenSpec.ofChange pairRisesSpec)

/-- ITS FALSE NEIGHBOUR: 'it returns false'. Refute it at one input. -/
def pairRisesWrong : ChangeSpec := { name := "pairRises", fn := fun _ => fun
  | [d1, d2] => { results := [.lit (.bool false)], args := [d1, d2] }
  | _ => none }
def PairRisesWrongFalsely : Prop := pairRisesRow.holds Try.pinned (OpenSpec.ofChange pairRisesWrong)

/-- 'wattleworklaw6.PairOwn': WHATEVER THE INPUT: true; the input reads as it did. -/
def pairOwnSpec : ChangeSpec := { name := "pairOwn", fn := fun _ => fun
  | [d1, d2] => { results := [.lit (.bool true)], args := [d1, d2] }
  | _ => none }
def pairOwnRow : OpenClaim := { program := "ytnfoadhhgonfkaa", sum := "781311d67209b1f546a3eed6d66c43aadb9a6e28dfe39264570b8aff5bee53a7", func := "wattlework/wattleworklaw6.PairOwn", spec := "pairOwn", unfollowed := true, recurses := true, apart := false }
def PairOwnSaid : Prop := pairOwnRow.holds Try.pinned (OpenSpec.ofChange pairOwnSpec)

/-- ITS FALSE NEIGHBOUR: 'it returns false'. Refute it at one input. -/
def pairOwnWrong : ChangeSpec := { name := "pairOwn", fn := fun _ => fun
  | [d1, d2] => { results := [.lit (.bool false)], args := [d1, d2] }
  | _ => none }
def PairOwnWrongFalsely : Prop := pairOwnRow.holds Try.pinned (OpenSpec.ofChange pairOwnWrong)

/- THE SECOND FORM. 'bulk': how many values and letters a reading holds, each counted each time it is reached (what is shared counts as often as it is met; a slice's spare places count too). A statement '..UptoSaid' is the law's where the arguments, and the package variables that the reading takes, are together of bulk at most 1048576: NARROWER than '..Said'. Prove '..Said' where nothing that the law and all that it calls make is longer than what came in: it says more and counts as full. Else prove '..UptoSaid'. A law counts once. -/
mutual
def uptoBulk {H : Type} : DataW H → Nat
  | .lit (.string bytes) => bytes.length + 1
  | .lit _ => 1
  | .nil => 1
  | .ptr d => uptoBulk d + 1
  | .slice elems spare => uptoBulkAll elems + uptoBulkAll spare + 1
  | .agg parts => uptoBulkAll parts + 1
  | .iface _ d => uptoBulk d + 1
  | .map entries => uptoBulkEntries entries + 1
  | .held _ => 1
def uptoBulkAll {H : Type} : List (DataW H) → Nat
  | [] => 0
  | d :: r => uptoBulk d + uptoBulkAll r
def uptoBulkEntries {H : Type} : List (Lit × DataW H) → Nat
  | [] => 0
  | x :: r => uptoBulkEntry x + uptoBulkEntries r
def uptoBulkEntry {H : Type} : Lit × DataW H → Nat
  | (.string bytes, d) => bytes.length + uptoBulk d + 1
  | (_, d) => uptoBulk d + 1
 end
def uptoSmall : (H : Type) → List (DataW H) → Bool := fun _ ds => decide (uptoBulkAll ds ≤ 1048576)
def OpenSpec.upto (s : _root_.Go.ChangeSpec) : _root_.Go.OpenSpec := { _root_.Go.OpenSpec.ofChange s with cond := some uptoSmall }

/-- 'wattleworklaw1.PairTells', WHERE WHAT IT READS IS OF BULK AT MOST 1048576: true; the input reads as it did. -/
def pairTellsUptoRow : OpenClaim := { program := "ytnfoadhhgonfkaa", sum := "781311d67209b1f546a3eed6d66c43aadb9a6e28dfe39264570b8aff5bee53a7", func := "wattlework/wattleworklaw1.PairTells", spec := "pairTells", unfollowed := true, recurses := true, apart := false, narrowed := true }
def PairTellsUptoSaid : Prop := pairTellsUptoRow.holds Try.pinned (OpenSpec.upto pairTellsSpec)

/-- 'wattleworklaw1.PairJoins', WHERE WHAT IT READS IS OF BULK AT MOST 1048576: true; the input reads as it did. -/
def pairJoinsUptoRow : OpenClaim := { program := "ytnfoadhhgonfkaa", sum := "781311d67209b1f546a3eed6d66c43aadb9a6e28dfe39264570b8aff5bee53a7", func := "wattlework/wattleworklaw1.PairJoins", spec := "pairJoins", unfollowed := true, recurses := true, apart := false, narrowed := true }
def PairJoinsUptoSaid : Prop := pairJoinsUptoRow.holds Try.pinned (OpenSpec.upto pairJoinsSpec)

/-- 'wattleworklaw1.PairRises', WHERE WHAT IT READS IS OF BULK AT MOST 1048576: true; the input reads as it did. -/
def pairRisesUptoRow : OpenClaim := { program := "ytnfoadhhgonfkaa", sum := "781311d67209b1f546a3eed6d66c43aadb9a6e28dfe39264570b8aff5bee53a7", func := "wattlework/wattleworklaw1.PairRises", spec := "pairRises", recurses := true, apart := false, narrowed := true }
def PairRisesUptoSaid : Prop := pairRisesUptoRow.holds Try.pinned (OpenSpec.upto pairRisesSpec)

/-- 'wattleworklaw6.PairOwn', WHERE WHAT IT READS IS OF BULK AT MOST 1048576: true; the input reads as it did. -/
def pairOwnUptoRow : OpenClaim := { program := "ytnfoadhhgonfkaa", sum := "781311d67209b1f546a3eed6d66c43aadb9a6e28dfe39264570b8aff5bee53a7", func := "wattlework/wattleworklaw6.PairOwn", spec := "pairOwn", unfollowed := true, recurses := true, apart := false, narrowed := true }
def PairOwnUptoSaid : Prop := pairOwnUptoRow.holds Try.pinned (OpenSpec.upto pairOwnSpec)

end Rows
end Go.Proofs.Ytnfoadhhgonfkaa
