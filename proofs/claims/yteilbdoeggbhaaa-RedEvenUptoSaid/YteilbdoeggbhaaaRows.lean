/-
  No cell of these rows narrows 'for every input' (looked for: loops, veiled, ifaces, maps, wideKeys, modest, calm, conditions, laid).
  DERIVED. THE GIVEN ROWS OF THIS SEAT. 5 by the template 'for every input the law returns true; each argument reads behind the call as it read before'; 0 by the template 'total and deterministic' (their statements: YteilbdoeggbhaaaTotals.lean).
  GIVEN WITH THE SEED: the statements are not yours to turn. If you find one false, say at which input.
  Laid BY PROGRAM, IN A SANDBOX (cutbox-rows.mjs): the forced cells as the released guide's own fill.sh prints them over the translation 080dfd1fcc14311f… (all of the seat's roots in one cut). By AI agents, Wed Nov 11 2026. No macro, syntax, notation, axiom, sorry.
-/
import Derived.Test.YteilbdoeggbhaaaChecked
import GoSem.Claim
import GoSem.ClaimJoined
import GoSem.ClaimMapViews
import Derived.JoinedTies
import Derived.KernelRfl
namespace Go.Proofs.Yteilbdoeggbhaaa
/- THE CELL 'sum', in the pinned program and in every row, IS THE sha256 OF THE DUMP (.gsa) THAT YteilbdoeggbhaaaProg.lean LOADS. Nothing in Lean hashes anything: it is a label: what it is worth is what the hold of that sum in a sandbox is worth. -/
noncomputable def Try.pinned : Pinned := { name := "yteilbdoeggbhaaa", sum := "080dfd1fcc14311f0e935202ce90c162ff83ab58f3d7be865926b81c0993d4da", checked := Try.checked }
namespace Rows
def none {H : Type} : Left H := { results := [], args := [] }

/-- 'wattleworklaw2.RedTells': WHATEVER THE INPUT: true; the input reads as it did. -/
def redTellsSpec : ChangeSpec := { name := "redTells", fn := fun _ => fun
  | [d1, d2, d3] => { results := [.lit (.bool true)], args := [d1, d2, d3] }
  | _ => none }
def redTellsRow : OpenClaim := { program := "yteilbdoeggbhaaa", sum := "080dfd1fcc14311f0e935202ce90c162ff83ab58f3d7be865926b81c0993d4da", func := "wattlework/wattleworklaw2.RedTells", spec := "redTells", unfollowed := true, recurses := true, apart := false }
def RedTellsSaid : Prop := redTellsRow.holds Try.pinned (OpenSpec.ofChange redTellsSpec)

/-- ITS FALSE NEIGHBOUR: 'it returns false'. Refute it at one input. -/
def redTellsWrong : ChangeSpec := { name := "redTells", fn := fun _ => fun
  | [d1, d2, d3] => { results := [.lit (.bool false)], args := [d1, d2, d3] }
  | _ => none }
def RedTellsWrongFalsely : Prop := redTellsRow.holds Try.pinned (OpenSpec.ofChange redTellsWrong)

/-- 'wattleworklaw2.RedActs': WHATEVER THE INPUT: true; the input reads as it did. -/
def redActsSpec : ChangeSpec := { name := "redActs", fn := fun _ => fun
  | [d1, d2, d3] => { results := [.lit (.bool true)], args := [d1, d2, d3] }
  | _ => none }
def redActsRow : OpenClaim := { program := "yteilbdoeggbhaaa", sum := "080dfd1fcc14311f0e935202ce90c162ff83ab58f3d7be865926b81c0993d4da", func := "wattlework/wattleworklaw2.RedActs", spec := "redActs", unfollowed := true, recurses := true, apart := false }
def RedActsSaid : Prop := redActsRow.holds Try.pinned (OpenSpec.ofChange redActsSpec)

/-- ITS FALSE NEIGHBOUR: 'it returns false'. Refute it at one input. -/
def redActsWrong : ChangeSpec := { name := "redActs", fn := fun _ => fun
  | [d1, d2, d3] => { results := [.lit (.bool false)], args := [d1, d2, d3] }
  | _ => none }
def RedActsWrongFalsely : Prop := redActsRow.holds Try.pinned (OpenSpec.ofChange redActsWrong)

/-- 'wattleworklaw2.RedEven': WHATEVER THE INPUT: true; the input reads as it did. -/
def redEvenSpec : ChangeSpec := { name := "redEven", fn := fun _ => fun
  | [d1, d2] => { results := [.lit (.bool true)], args := [d1, d2] }
  | _ => none }
def redEvenRow : OpenClaim := { program := "yteilbdoeggbhaaa", sum := "080dfd1fcc14311f0e935202ce90c162ff83ab58f3d7be865926b81c0993d4da", func := "wattlework/wattleworklaw2.RedEven", spec := "redEven", recurses := true, apart := false }
def RedEvenSaid : Prop := redEvenRow.holds Try.pinned (OpenSpec.ofChange redEvenSpec)

/-- ITS FALSE NEIGHBOUR: 'it returns false'. Refute it at one input. -/
def redEvenWrong : ChangeSpec := { name := "redEven", fn := fun _ => fun
  | [d1, d2] => { results := [.lit (.bool false)], args := [d1, d2] }
  | _ => none }
def RedEvenWrongFalsely : Prop := redEvenRow.holds Try.pinned (OpenSpec.ofChange redEvenWrong)

/-- 'wattleworklaw2.RedHigh': WHATEVER THE INPUT: true; the input reads as it did. -/
def redHighSpec : ChangeSpec := { name := "redHigh", fn := fun _ => fun
  | [d1, d2] => { results := [.lit (.bool true)], args := [d1, d2] }
  | _ => none }
def redHighRow : OpenClaim := { program := "yteilbdoeggbhaaa", sum := "080dfd1fcc14311f0e935202ce90c162ff83ab58f3d7be865926b81c0993d4da", func := "wattlework/wattleworklaw2.RedHigh", spec := "redHigh", recurses := true, apart := false }
def RedHighSaid : Prop := redHighRow.holds Try.pinned (OpenSpec.ofChange redHighSpec)

/-- ITS FALSE NEIGHBOUR: 'it returns false'. Refute it at one input. -/
def redHighWrong : ChangeSpec := { name := "redHigh", fn := fun _ => fun
  | [d1, d2] => { results := [.lit (.bool false)], args := [d1, d2] }
  | _ => none }
def RedHighWrongFalsely : Prop := redHighRow.holds Try.pinned (OpenSpec.ofChange redHighWrong)

/-- 'wattleworklaw6.RedOwn': WHATEVER THE INPUT: true; the input reads as it did. -/
def redOwnSpec : ChangeSpec := { name := "redOwn", fn := fun _ => fun
  | [d1, d2] => { results := [.lit (.bool true)], args := [d1, d2] }
  | _ => none }
def redOwnRow : OpenClaim := { program := "yteilbdoeggbhaaa", sum := "080dfd1fcc14311f0e935202ce90c162ff83ab58f3d7be865926b81c0993d4da", func := "wattlework/wattleworklaw6.RedOwn", spec := "redOwn", unfollowed := true, recurses := true, apart := false }
def RedOwnSaid : Prop := redOwnRow.holds Try.pinned (OpenSpec.ofChange redOwnSpec)

/-- ITS FALSE NEIGHBOUR: 'it returns false'. Refute it at one input. -/
def redOwnWrong : ChangeSpec := { name := "redOwn", fn := fun _ => fun
  | [d1, d2] => { results := [.lit (.bool false)], args := [d1, d2] }
  | _ => none }
def RedOwnWrongFalsely : Prop := redOwnRow.holds Try.pinned (OpenSpec.ofChange redOwnWrong)

/- THE SECOND FORM. 'bulk': how many values and letters a reading holds, each counted each time it is reached (what is shared counts as often as it is met; a slice's spare places count too). A statement '..UptoSaid' is the law's where the arguments, and the package variables that the reading takes, are together of bulk at most 1048576: NARROWER than '..Said'. Prove '..Said' where nothing that the law and all that it calls make is longer than what came in: it says more and counts as full. Else prove '..UptoSaid'. A law counts once. -/
mutual
def uptoBulk {H : Type} : DataW H → Nat
  | .lit (.string bytes) => bytes.length + 1
  | .lit _ => 1
  | .nil => 1
  | .ptr d => uptoBulk d + 1
  | .slice elems spare => uptoBulkAll elems + uptoBulkAll spare + 1
  | .agg parts => uptoBulkAll parts + 1
  | .iface _ d => uptoBulk d + 1
  | .map entries => uptoBulkEntries entries + 1
  | .held _ => 1
def uptoBulkAll {H : Type} : List (DataW H) → Nat
  | [] => 0
  | d :: r => uptoBulk d + uptoBulkAll r
def uptoBulkEntries {H : Type} : List (Lit × DataW H) → Nat
  | [] => 0
  | x :: r => uptoBulkEntry x + uptoBulkEntries r
def uptoBulkEntry {H : Type} : Lit × DataW H → Nat
  | (.string bytes, d) => bytes.length + uptoBulk d + 1
  | (_, d) => uptoBulk d + 1
 end
def uptoSmall : (H : Type) → List (DataW H) → Bool := fun _ ds => decide (uptoBulkAll ds ≤ 1048576)
def OpenSpec.upto (s : _root_.Go.ChangeSpec) : _root_.Go.OpenSpec := { _root_.Go.OpenSpec.ofChange s with cond := some uptoSmall }

/-- 'wattleworklaw2.RedTells', WHERE WHAT IT READS IS OF BULK AT MOST 1048576: true; the input reads as it did. -/
def redTellsUptoRow : OpenClaim := { program := "yteilbdoeggbhaaa", sum := "080dfd1fcc14311f0e935202ce90c162ff83ab58f3d7be865926b81c0993d4da", func := "wattlework/wattleworklaw2.RedTells", spec := "redTells", unfollowed := true, recurses := true, apart := false, narrowed := true }
def RedTellsUptoSaid : Prop := redTellsUptoRow.holds Try.pinned (OpenSpec.upto redTellsSpec)

/-- 'wattleworklaw2.RedActs', WHERE WHAT IT READS IS OF BULK AT MOST 1048576: true; the input reads as it did. -/
def redActsUptoRow : OpenClaim := { program := "yteilbdoeggbhaaa", sum := "080dfd1fcc14311f0e935202ce90c162ff83ab58f3d7be865926b81c0993d4da", func := "wattlework/wattleworklaw2.RedActs", spec := "redActs", unfollowed := true, recurses := true, apart := false, narrowed := true }
def RedActsUptoSaid : Prop := redActsUptoRow.holds Try.pinned (OpenSpec.upto redActsSpec)

/-- 'wattleworklaw2.RedEven', WHERE WHAT IT READS IS OF BULK AT MOST 1048576: true; the input reads as it did. -/
def redEvenUptoRow : OpenClaim := { program := "yteilbdoeggbhaaa", sum := "080dfd1fcc14311f0e935202ce90c162ff83ab58f3d7be865926b81c0993d4da", func := "wattlework/wattleworklaw2.RedEven", spec := "redEven", recurses := true, apart := false, narrowed := true }
def RedEvenUptoSaid : Prop := redEvenUptoRow.holds Try.pinned (OpenSpec.upto redEvenSpec)

/-- 'wattleworklaw2.RedHigh', WHERE WHAT IT READS IS OF BULK AT MOST 1048576: true; the input reads as it did. -/
def redHighUptoRow : OpenClaim := { program := "yteilbdoeggbhaaa", sum := "080dfd1fcc14311f0e935202ce90c162ff83ab58f3d7be865926b81c0993d4da", func := "wattlework/wattleworklaw2.RedHigh", spec := "redHigh", recurses := true, apart := false, narrowed := true }
def RedHighUptoSaid : Prop := redHighUptoRow.holds Try.pinned (OpenSpec.upto redHighSpec)

/-- 'wattleworklaw6.RedOwn', WHERE WHAT IT READS IS OF BULK AT MOST 1048576: true; the input reads as it did. -/
def redOwnUptoRow : OpenClaim := { program := "yteilbdoeggbhaaa", sum := "080dfd1fcc14311f0e935202ce90c162ff83ab58f3d7be865926b81c0993d4da", func := "wattlework/wattleworklaw6.RedOwn", spec := "redOwn", unfollowed := true, recurses := true, apart := false, narrowed := true }
def RedOwnUptoSaid : Prop := redOwnUptoRow.holds Try.pinned (OpenSpec.upto redOwnSpec)

end Rows
end Go.Proofs.Yteilbdoeggbhaaa
