/-
  No cell of these rows narrows 'for every input' (looked for: loops, veiled, ifaces, maps, wideKeys, modest, calm, conditions, laid).
  DERIVED. THE GIVEN ROWS OF THIS SEAT. 4 by the template 'for every input the law returns true; each argument reads behind the call as it read before'; 0 by the template 'total and deterministic' (their statements: YtfaahopabcconaaTotals.lean).
  GIVEN WITH THE SEED: the statements are not yours to turn. If you find one false, say at which input.
  Laid BY PROGRAM, IN A SANDBOX (cutbox-rows.mjs): the forced cells as the released guide's own fill.sh prints them over the translation e084a75f003405d0… (all of the seat's roots in one cut). By AI agents, Wed Nov 11 2026. No macro, syntax, notation, axiom, sorry.
-/
import Derived.Test.YtfaahopabcconaaChecked
import GoSem.Claim
import GoSem.ClaimJoined
import GoSem.ClaimMapViews
import Derived.JoinedTies
import Derived.KernelRfl
namespace Go.Proofs.Ytfaahopabcconaa
/- THE CELL 'sum', in the pinned program and in every row, IS THE sha256 OF THE DUMP (.gsa) THAT YtfaahopabcconaaProg.lean LOADS. Nothing in Lean hashes anything: it is a label: what it is worth is what the hold of that sum in a sandbox is worth. -/
noncomputable def Try.pinned : Pinned := { name := "ytfaahopabcconaa", sum := "e084a75f003405d015e32e5f1e868fc370b8ed74de551f5e1af8312de6be7e9a", checked := Try.checked }
namespace Rows
def none {H : Type} : Left H := { results := [], args := [] }

/-- 'wattleworklaw1.LeftTells': WHATEVER THE INPUT: true; the input reads as it did. -/
def leftTellsSpec : ChangeSpec := { name := "leftTells", fn := fun _ => fun
  | [d1, d2, d3] => { results := [.lit (.bool true)], args := [d1, d2, d3] }
  | _ => none }
def leftTellsRow : OpenClaim := { program := "ytfaahopabcconaa", sum := "e084a75f003405d015e32e5f1e868fc370b8ed74de551f5e1af8312de6be7e9a", func := "wattlework/wattleworklaw1.LeftTells", spec := "leftTells", unfollowed := true, recurses := true, apart := false }
def LeftTellsSaid : Prop := leftTellsRow.holds Try.pinned (OpenSpec.ofChange leftTellsSpec)

/-- ITS FALSE NEIGHBOUR: 'it returns false'. Refute it at one input. -/
def leftTellsWrong : ChangeSpec := { name := "leftTells", fn := fun _ => fun
  | [d1, d2, d3] => { results := [.lit (.bool false)], args := [d1, d2, d3] }
  | _ => none }
def LeftTellsWrongFalsely : Prop := leftTellsRow.holds Try.pinned (OpenSpec.ofChange leftTellsWrong)

/-- 'wattleworklaw1.LeftSpine': WHATEVER THE INPUT: true; the input reads as it did. -/
def leftSpineSpec : ChangeSpec := { name := "leftSpine", fn := fun _ => fun
  | [d1, d2, d3] => { results := [.lit (.bool true)], args := [d1, d2, d3] }
  | _ => none }
def leftSpineRow : OpenClaim := { program := "ytfaahopabcconaa", sum := "e084a75f003405d015e32e5f1e868fc370b8ed74de551f5e1af8312de6be7e9a", func := "wattlework/wattleworklaw1.LeftSpine", spec := "leftSpine", recurses := true, apart := false }
def LeftSpineSaid : Prop := leftSpineRow.holds Try.pinned (OpenSpec.ofChange leftSpineSpec)

/-- ITS FALSE NEIGHBOUR: 'it returns false'. Refute it at one input. -/
def leftSpineWrong : ChangeSpec := { name := "leftSpine", fn := fun _ => fun
  | [d1, d2, d3] => { results := [.lit (.bool false)], args := [d1, d2, d3] }
  | _ => none }
def LeftSpineWrongFalsely : Prop := leftSpineRow.holds Try.pinned (OpenSpec.ofChange leftSpineWrong)

/-- 'wattleworklaw1.LeftJoins': WHATEVER THE INPUT: true; the input reads as it did. -/
def leftJoinsSpec : ChangeSpec := { name := "leftJoins", fn := fun _ => fun
  | [d1, d2, d3] => { results := [.lit (.bool true)], args := [d1, d2, d3] }
  | _ => none }
def leftJoinsRow : OpenClaim := { program := "ytfaahopabcconaa", sum := "e084a75f003405d015e32e5f1e868fc370b8ed74de551f5e1af8312de6be7e9a", func := "wattlework/wattleworklaw1.LeftJoins", spec := "leftJoins", unfollowed := true, recurses := true, apart := false }
def LeftJoinsSaid : Prop := leftJoinsRow.holds Try.pinned (OpenSpec.ofChange leftJoinsSpec)

/-- ITS FALSE NEIGHBOUR: 'it returns false'. Refute it at one input. -/
def leftJoinsWrong : ChangeSpec := { name := "leftJoins", fn := fun _ => fun
  | [d1, d2, d3] => { results := [.lit (.bool false)], args := [d1, d2, d3] }
  | _ => none }
def LeftJoinsWrongFalsely : Prop := leftJoinsRow.holds Try.pinned (OpenSpec.ofChange leftJoinsWrong)

/-- 'wattleworklaw6.LeftOwn': WHATEVER THE INPUT: true; the input reads as it did. -/
def leftOwnSpec : ChangeSpec := { name := "leftOwn", fn := fun _ => fun
  | [d1, d2] => { results := [.lit (.bool true)], args := [d1, d2] }
  | _ => none }
def leftOwnRow : OpenClaim := { program := "ytfaahopabcconaa", sum := "e084a75f003405d015e32e5f1e868fc370b8ed74de551f5e1af8312de6be7e9a", func := "wattlework/wattleworklaw6.LeftOwn", spec := "leftOwn", unfollowed := true, recurses := true, apart := false }
def LeftOwnSaid : Prop := leftOwnRow.holds Try.pinned (OpenSpec.ofChange leftOwnSpec)

/-- ITS FALSE NEIGHBOUR: 'it returns false'. Refute it at one input. -/
def leftOwnWrong : ChangeSpec := { name := "leftOwn", fn := fun _ => fun
  | [d1, d2] => { results := [.lit (.bool false)], args := [d1, d2] }
  | _ => none }
def LeftOwnWrongFalsely : Prop := leftOwnRow.holds Try.pinned (OpenSpec.ofChange leftOwnWrong)

/- THE SECOND FORM. 'bulk': how many values and letters a reading holds, each counted each time it is reached (what is shared counts as often as it is met; a slice's spare places count too). A statement '..UptoSaid' is the law's where the arguments, and the package variables that the reading takes, are together of bulk at most 1048576: NARROWER than '..Said'. Prove '..Said' where nothing that the law and all that it calls make is longer than what came in: it says more and counts as full. Else prove '..UptoSaid'. A law counts once. -/
mutual
def uptoBulk {H : Type} : DataW H → Nat
  | .lit (.string bytes) => bytes.length + 1
  | .lit _ => 1
  | .nil => 1
  | .ptr d => uptoBulk d + 1
  | .slice elems spare => uptoBulkAll elems + uptoBulkAll spare + 1
  | .agg parts => uptoBulkAll parts + 1
  | .iface _ d => uptoBulk d + 1
  | .map entries => uptoBulkEntries entries + 1
  | .held _ => 1
def uptoBulkAll {H : Type} : List (DataW H) → Nat
  | [] => 0
  | d :: r => uptoBulk d + uptoBulkAll r
def uptoBulkEntries {H : Type} : List (Lit × DataW H) → Nat
  | [] => 0
  | x :: r => uptoBulkEntry x + uptoBulkEntries r
def uptoBulkEntry {H : Type} : Lit × DataW H → Nat
  | (.string bytes, d) => bytes.length + uptoBulk d + 1
  | (_, d) => uptoBulk d + 1
 end
def uptoSmall : (H : Type) → List (DataW H) → Bool := fun _ ds => decide (uptoBulkAll ds ≤ 1048576)
def OpenSpec.upto (s : _root_.Go.ChangeSpec) : _root_.Go.OpenSpec := { _root_.Go.OpenSpec.ofChange s with cond := some uptoSmall }

/-- 'wattleworklaw1.LeftTells', WHERE WHAT IT READS IS OF BULK AT MOST 1048576: true; the input reads as it did. -/
def leftTellsUptoRow : OpenClaim := { program := "ytfaahopabcconaa", sum := "e084a75f003405d015e32e5f1e868fc370b8ed74de551f5e1af8312de6be7e9a", func := "wattlework/wattleworklaw1.LeftTells", spec := "leftTells", unfollowed := true, recurses := true, apart := false, narrowed := true }
def LeftTellsUptoSaid : Prop := leftTellsUptoRow.holds Try.pinned (OpenSpec.upto leftTellsSpec)

/-- 'wattleworklaw1.LeftSpine', WHERE WHAT IT READS IS OF BULK AT MOST 1048576: true; the input reads as it did. -/
def leftSpineUptoRow : OpenClaim := { program := "ytfaahopabcconaa", sum := "e084a75f003405d015e32e5f1e868fc370b8ed74de551f5e1af8312de6be7e9a", func := "wattlework/wattleworklaw1.LeftSpine", spec := "leftSpine", recurses := true, apart := false, narrowed := true }
def LeftSpineUptoSaid : Prop := leftSpineUptoRow.holds Try.pinned (OpenSpec.upto leftSpineSpec)

/-- 'wattleworklaw1.LeftJoins', WHERE WHAT IT READS IS OF BULK AT MOST 1048576: true; the input reads as it did. -/
def leftJoinsUptoRow : OpenClaim := { program := "ytfaahopabcconaa", sum := "e084a75f003405d015e32e5f1e868fc370b8ed74de551f5e1af8312de6be7e9a", func := "wattlework/wattleworklaw1.LeftJoins", spec := "leftJoins", unfollowed := true, recurses := true, apart := false, narrowed := true }
def LeftJoinsUptoSaid : Prop := leftJoinsUptoRow.holds Try.pinned (OpenSpec.upto leftJoinsSpec)

/-- 'wattleworklaw6.LeftOwn', WHERE WHAT IT READS IS OF BULK AT MOST 1048576: true; the input reads as it did. -/
def leftOwnUptoRow : OpenClaim := { program := "ytfaahopabcconaa", sum := "e084a75f003405d015e32e5f1e868fc370b8ed74de551f5e1af8312de6be7e9a", func := "wattlework/wattleworklaw6.LeftOwn", spec := "leftOwn", unfollowed := true, recurses := true, apart := false, narrowed := true }
def LeftOwnUptoSaid : Prop := leftOwnUptoRow.holds Try.pinned (OpenSpec.upto leftOwnSpec)

end Rows
end Go.Proofs.Ytfaahopabcconaa
