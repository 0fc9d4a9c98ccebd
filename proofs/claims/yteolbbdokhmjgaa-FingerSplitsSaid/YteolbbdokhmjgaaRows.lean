/-
  No cell of these rows narrows 'for every input' (looked for: loops, veiled, ifaces, maps, wideKeys, modest, calm, conditions, laid).
  DERIVED. THE GIVEN ROWS OF THIS SEAT. 6 by the template 'for every input the law returns true; each argument reads behind the call as it read before'; 0 by the template 'total and deterministic' (their statements: YteolbbdokhmjgaaTotals.lean).
  GIVEN WITH THE SEED: the statements are not yours to turn. If you find one false, say at which input.
  Laid BY PROGRAM, IN A SANDBOX (cutbox-rows.mjs): the forced cells as the released guide's own fill.sh prints them over the translation cf9e45c19a8f3f62… (all of the seat's roots in one cut). By AI agents, Wed Nov 11 2026. No macro, syntax, notation, axiom, sorry.
-/
import Derived.Test.YteolbbdokhmjgaaChecked
import GoSem.Claim
import GoSem.ClaimJoined
import GoSem.ClaimMapViews
import Derived.JoinedTies
import Derived.KernelRfl
namespace Go.Proofs.Yteolbbdokhmjgaa
/- THE CELL 'sum', in the pinned program and in every row, IS THE sha256 OF THE DUMP (.gsa) THAT YteolbbdokhmjgaaProg.lean LOADS. Nothing in Lean hashes anything: it is a label: what it is worth is what the hold of that sum in a sandbox is worth. -/
noncomputable def Try.pinned : Pinned := { name := "yteolbbdokhmjgaa", sum := "cf9e45c19a8f3f628a47dad09ce8b416b45de3268cf67be33f688ed0ef6a1cd1", checked := Try.checked }
namespace Rows
def none {H : Type} : Left H := { results := [], args := [] }

/-- 'wattleworklaw3.FingerTells': WHATEVER THE INPUT: true; the input reads as it did. -/
def fingerTellsSpec : ChangeSpec := { name := "fingerTells", fn := fun _ => fun
  | [d1, d2] => { results := [.lit (.bool true)], args := [d1, d2] }
  | _ => none }
def fingerTellsRow : OpenClaim := { program := "yteolbbdokhmjgaa", sum := "cf9e45c19a8f3f628a47dad09ce8b416b45de3268cf67be33f688ed0ef6a1cd1", func := "wattlework/wattleworklaw3.FingerTells", spec := "fingerTells", unfollowed := true, recurses := true, apart := false }
def FingerTellsSaid : Prop := fingerTellsRow.holds Try.pinned (OpenSpec.ofChange fingerTellsSpec)

/-- ITS FALSE NEIGHBOUR: 'it returns false'. Refute it at one input. -/
def fingerTellsWrong : ChangeSpec := { name := "fingerTells", fn := fun _ => fun
  | [d1, d2] => { results := [.lit (.bool false)], args := [d1, d2] }
  | _ => none }
def FingerTellsWrongFalsely : Prop := fingerTellsRow.holds Try.pinned (OpenSpec.ofChange fingerTellsWrong)

/-- 'wattleworklaw3.FingerDigits': WHATEVER THE INPUT: true; the input reads as it did. -/
def fingerDigitsSpec : ChangeSpec := { name := "fingerDigits", fn := fun _ => fun
  | [d1, d2, d3] => { results := [.lit (.bool true)], args := [d1, d2, d3] }
  | _ => none }
def fingerDigitsRow : OpenClaim := { program := "yteolbbdokhmjgaa", sum := "cf9e45c19a8f3f628a47dad09ce8b416b45de3268cf67be33f688ed0ef6a1cd1", func := "wattlework/wattleworklaw3.FingerDigits", spec := "fingerDigits", unfollowed := true, recurses := true, apart := false }
def FingerDigitsSaid : Prop := fingerDigitsRow.holds Try.pinned (OpenSpec.ofChange fingerDigitsSpec)

/-- ITS FALSE NEIGHBOUR: 'it returns false'. Refute it at one input. -/
def fingerDigitsWrong : ChangeSpec := { name := "fingerDigits", fn := fun _ => fun
  | [d1, d2, d3] => { results := [.lit (.bool false)], args := [d1, d2, d3] }
  | _ => none }
def FingerDigitsWrongFalsely : Prop := fingerDigitsRow.holds Try.pinned (OpenSpec.ofChange fingerDigitsWrong)

/-- 'wattleworklaw3.FingerJoins': WHATEVER THE INPUT: true; the input reads as it did. -/
def fingerJoinsSpec : ChangeSpec := { name := "fingerJoins", fn := fun _ => fun
  | [d1, d2, d3] => { results := [.lit (.bool true)], args := [d1, d2, d3] }
  | _ => none }
def fingerJoinsRow : OpenClaim := { program := "yteolbbdokhmjgaa", sum := "cf9e45c19a8f3f628a47dad09ce8b416b45de3268cf67be33f688ed0ef6a1cd1", func := "wattlework/wattleworklaw3.FingerJoins", spec := "fingerJoins", unfollowed := true, recurses := true, apart := false }
def FingerJoinsSaid : Prop := fingerJoinsRow.holds Try.pinned (OpenSpec.ofChange fingerJoinsSpec)

/-- ITS FALSE NEIGHBOUR: 'it returns false'. Refute it at one input. -/
def fingerJoinsWrong : ChangeSpec := { name := "fingerJoins", fn := fun _ => fun
  | [d1, d2, d3] => { results := [.lit (.bool false)], args := [d1, d2, d3] }
  | _ => none }
def FingerJoinsWrongFalsely : Prop := fingerJoinsRow.holds Try.pinned (OpenSpec.ofChange fingerJoinsWrong)

/-- 'wattleworklaw3.FingerSplits': WHATEVER THE INPUT: true; the input reads as it did. -/
def fingerSplitsSpec : ChangeSpec := { name := "fingerSplits", fn := fun _ => fun
  | [d1, d2, d3] => { results := [.lit (.bool true)], args := [d1, d2, d3] }
  | _ => none }
def fingerSplitsRow : OpenClaim := { program := "yteolbbdokhmjgaa", sum := "cf9e45c19a8f3f628a47dad09ce8b416b45de3268cf67be33f688ed0ef6a1cd1", func := "wattlework/wattleworklaw3.FingerSplits", spec := "fingerSplits", unfollowed := true, recurses := true, apart := false }
def FingerSplitsSaid : Prop := fingerSplitsRow.holds Try.pinned (OpenSpec.ofChange fingerSplitsSpec)

/-- ITS FALSE NEIGHBOUR: 'it returns false'. Refute it at one input. -/
def fingerSplitsWrong : ChangeSpec := { name := "fingerSplits", fn := fun _ => fun
  | [d1, d2, d3] => { results := [.lit (.bool false)], args := [d1, d2, d3] }
  | _ => none }
def FingerSplitsWrongFalsely : Prop := fingerSplitsRow.holds Try.pinned (OpenSpec.ofChange fingerSplitsWrong)

/-- 'wattleworklaw3.FingerEnds': WHATEVER THE INPUT: true; the input reads as it did. -/
def fingerEndsSpec : ChangeSpec := { name := "fingerEnds", fn := fun _ => fun
  | [d1, d2] => { results := [.lit (.bool true)], args := [d1, d2] }
  | _ => none }
def fingerEndsRow : OpenClaim := { program := "yteolbbdokhmjgaa", sum := "cf9e45c19a8f3f628a47dad09ce8b416b45de3268cf67be33f688ed0ef6a1cd1", func := "wattlework/wattleworklaw3.FingerEnds", spec := "fingerEnds", unfollowed := true, recurses := true, apart := false }
def FingerEndsSaid : Prop := fingerEndsRow.holds Try.pinned (OpenSpec.ofChange fingerEndsSpec)

/-- ITS FALSE NEIGHBOUR: 'it returns false'. Refute it at one input. -/
def fingerEndsWrong : ChangeSpec := { name := "fingerEnds", fn := fun _ => fun
  | [d1, d2] => { results := [.lit (.bool false)], args := [d1, d2] }
  | _ => none }
def FingerEndsWrongFalsely : Prop := fingerEndsRow.holds Try.pinned (OpenSpec.ofChange fingerEndsWrong)

/-- 'wattleworklaw6.FingerOwn': WHATEVER THE INPUT: true; the input reads as it did. -/
def fingerOwnSpec : ChangeSpec := { name := "fingerOwn", fn := fun _ => fun
  | [d1, d2] => { results := [.lit (.bool true)], args := [d1, d2] }
  | _ => none }
def fingerOwnRow : OpenClaim := { program := "yteolbbdokhmjgaa", sum := "cf9e45c19a8f3f628a47dad09ce8b416b45de3268cf67be33f688ed0ef6a1cd1", func := "wattlework/wattleworklaw6.FingerOwn", spec := "fingerOwn", unfollowed := true, recurses := true, apart := false }
def FingerOwnSaid : Prop := fingerOwnRow.holds Try.pinned (OpenSpec.ofChange fingerOwnSpec)

/-- ITS FALSE NEIGHBOUR: 'it returns false'. Refute it at one input. -/
def fingerOwnWrong : ChangeSpec := { name := "fingerOwn", fn := fun _ => fun
  | [d1, d2] => { results := [.lit (.bool false)], args := [d1, d2] }
  | _ => none }
def FingerOwnWrongFalsely : Prop := fingerOwnRow.holds Try.pinned (OpenSpec.ofChange fingerOwnWrong)

/- THE SECOND FORM. 'bulk': how many values and letters a reading holds, each counted each time it is reached (what is shared counts as often as it is met; a slice's spare places count too). A statement '..UptoSaid' is the law's where the arguments, and the package variables that the reading takes, are together of bulk at most 1048576: NARROWER than '..Said'. Prove '..Said' where nothing that the law and all that it calls make is longer than what came in: it says more and counts as full. Else prove '..UptoSaid'. A law counts once. -/
mutual
def uptoBulk {H : Type} : DataW H → Nat
  | .lit (.string bytes) => bytes.length + 1
  | .lit _ => 1
  | .nil => 1
  | .ptr d => uptoBulk d + 1
  | .slice elems spare => uptoBulkAll elems + uptoBulkAll spare + 1
  | .agg parts => uptoBulkAll parts + 1
  | .iface _ d => uptoBulk d + 1
  | .map entries => uptoBulkEntries entries + 1
  | .held _ => 1
def uptoBulkAll {H : Type} : List (DataW H) → Nat
  | [] => 0
  | d :: r => uptoBulk d + uptoBulkAll r
def uptoBulkEntries {H : Type} : List (Lit × DataW H) → Nat
  | [] => 0
  | x :: r => uptoBulkEntry x + uptoBulkEntries r
def uptoBulkEntry {H : Type} : Lit × DataW H → Nat
  | (.string bytes, d) => bytes.length + uptoBulk d + 1
  | (_, d) => uptoBulk d + 1
 end
def uptoSmall : (H : Type) → List (DataW H) → Bool := fun _ ds => decide (uptoBulkAll ds ≤ 1048576)
def OpenSpec.upto (s : _root_.Go.ChangeSpec) : _root_.Go.OpenSpec := { _root_.Go.OpenSpec.ofChange s with cond := some uptoSmall }

/-- 'wattleworklaw3.FingerTells', WHERE WHAT IT READS IS OF BULK AT MOST 1048576: true; the input reads as it did. -/
def fingerTellsUptoRow : OpenClaim := { program := "yteolbbdokhmjgaa", sum := "cf9e45c19a8f3f628a47dad09ce8b416b45de3268cf67be33f688ed0ef6a1cd1", func := "wattlework/wattleworklaw3.FingerTells", spec := "fingerTells", unfollowed := true, recurses := true, apart := false, narrowed := true }
def FingerTellsUptoSaid : Prop := fingerTellsUptoRow.holds Try.pinned (OpenSpec.upto fingerTellsSpec)

/-- 'wattleworklaw3.FingerDigits', WHERE WHAT IT READS IS OF BULK AT MOST 1048576: true; the input reads as it did. -/
def fingerDigitsUptoRow : OpenClaim := { program := "yteolbbdokhmjgaa", sum := "cf9e45c19a8f3f628a47dad09ce8b416b45de3268cf67be33f688ed0ef6a1cd1", func := "wattlework/wattleworklaw3.FingerDigits", spec := "fingerDigits", unfollowed := true, recurses := true, apart := false, narrowed := true }
def FingerDigitsUptoSaid : Prop := fingerDigitsUptoRow.holds Try.pinned (OpenSpec.upto fingerDigitsSpec)

/-- 'wattleworklaw3.FingerJoins', WHERE WHAT IT READS IS OF BULK AT MOST 1048576: true; the input reads as it did. -/
def fingerJoinsUptoRow : OpenClaim := { program := "yteolbbdokhmjgaa", sum := "cf9e45c19a8f3f628a47dad09ce8b416b45de3268cf67be33f688ed0ef6a1cd1", func := "wattlework/wattleworklaw3.FingerJoins", spec := "fingerJoins", unfollowed := true, recurses := true, apart := false, narrowed := true }
def FingerJoinsUptoSaid : Prop := fingerJoinsUptoRow.holds Try.pinned (OpenSpec.upto fingerJoinsSpec)

/-- 'wattleworklaw3.FingerSplits', WHERE WHAT IT READS IS OF BULK AT MOST 1048576: true; the input reads as it did. -/
def fingerSplitsUptoRow : OpenClaim := { program := "yteolbbdokhmjgaa", sum := "cf9e45c19a8f3f628a47dad09ce8b416b45de3268cf67be33f688ed0ef6a1cd1", func := "wattlework/wattleworklaw3.FingerSplits", spec := "fingerSplits", unfollowed := true, recurses := true, apart := false, narrowed := true }
def FingerSplitsUptoSaid : Prop := fingerSplitsUptoRow.holds Try.pinned (OpenSpec.upto fingerSplitsSpec)

/-- 'wattleworklaw3.FingerEnds', WHERE WHAT IT READS IS OF BULK AT MOST 1048576: true; the input reads as it did. -/
def fingerEndsUptoRow : OpenClaim := { program := "yteolbbdokhmjgaa", sum := "cf9e45c19a8f3f628a47dad09ce8b416b45de3268cf67be33f688ed0ef6a1cd1", func := "wattlework/wattleworklaw3.FingerEnds", spec := "fingerEnds", unfollowed := true, recurses := true, apart := false, narrowed := true }
def FingerEndsUptoSaid : Prop := fingerEndsUptoRow.holds Try.pinned (OpenSpec.upto fingerEndsSpec)

/-- 'wattleworklaw6.FingerOwn', WHERE WHAT IT READS IS OF BULK AT MOST 1048576: true; the input reads as it did. -/
def fingerOwnUptoRow : OpenClaim := { program := "yteolbbdokhmjgaa", sum := "cf9e45c19a8f3f628a47dad09ce8b416b45de3268cf67be33f688ed0ef6a1cd1", func := "wattlework/wattleworklaw6.FingerOwn", spec := "fingerOwn", unfollowed := true, recurses := true, apart := false, narrowed := true }
def FingerOwnUptoSaid : Prop := fingerOwnUptoRow.holds Try.pinned (OpenSpec.upto fingerOwnSpec)

end Rows
end Go.Proofs.Yteolbbdokhmjgaa
