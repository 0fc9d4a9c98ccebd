/-
  No cell of these rows narrows 'for every input' (looked for: loops, veiled, ifaces, maps, wideKeys, modest, calm, conditions, laid).
  DERIVED. THE GIVEN ROWS OF THIS SEAT. 8 by the template 'for every input the law returns true; each argument reads behind the call as it read before'; 0 by the template 'total and deterministic' (their statements: YtbdmccokdbfkpaaTotals.lean).
  GIVEN WITH THE SEED: the statements are not yours to turn. If you find one false, say at which input.
  Laid BY PROGRAM, IN A SANDBOX (cutbox-rows.mjs): the forced cells as the released guide's own fill.sh prints them over the translation 4382057dbfd2ba32… (all of the seat's roots in one cut). By AI agents, Wed Nov 11 2026. No macro, syntax, notation, axiom, sorry.
-/
import Derived.Test.YtbdmccokdbfkpaaChecked
import GoSem.Claim
import GoSem.ClaimJoined
import GoSem.ClaimMapViews
import Derived.JoinedTies
import Derived.KernelRfl
namespace Go.Proofs.Ytbdmccokdbfkpaa
/- THE CELL 'sum', in the pinned program and in every row, IS THE sha256 OF THE DUMP (.gsa) THAT YtbdmccokdbfkpaaProg.lean LOADS. Nothing in Lean hashes anything: it is a label: what it is worth is what the hold of that sum in a sandbox is worth. -/
noncomputable def Try.pinned : Pinned := { name := "ytbdmccokdbfkpaa", sum := "4382057dbfd2ba328b2758e0d3e0e5dbc0a6dd9fee7bd396f0b56c38236bba08", checked := Try.checked }
namespace Rows
def none {H : Type} : Left H := { results := [], args := [] }

/-- 'wattleworklaw2.WbtTells': WHATEVER THE INPUT: true; the input reads as it did. -/
def wbtTellsSpec : ChangeSpec := { name := "wbtTells", fn := fun _ => fun
  | [d1, d2, d3] => { results := [.lit (.bool true)], args := [d1, d2, d3] }
  | _ => none }
def wbtTellsRow : OpenClaim := { program := "ytbdmccokdbfkpaa", sum := "4382057dbfd2ba328b2758e0d3e0e5dbc0a6dd9fee7bd396f0b56c38236bba08", func := "wattlework/wattleworklaw2.WbtTells", spec := "wbtTells", unfollowed := true, recurses := true, apart := false }
def WbtTellsSaid : Prop := wbtTellsRow.holds Try.pinned (OpenSpec.ofChange wbtTellsSpec)

/-- ITS FALSE NEIGHBOUR: 'it returns false'. Refute it at one input. -/
def wbtTellsWrong : ChangeSpec := { name := "wbtTells", fn := fun _ => fun
  | [d1, d2, d3] => { results := [.lit (.bool false)], args := [d1, d2, d3] }
  | _ => none }
def WbtTellsWrongFalsely : Prop := wbtTellsRow.holds Try.pinned (OpenSpec.ofChange wbtTellsWrong)

/-- 'wattleworklaw2.WbtActs': WHATEVER THE INPUT: true; the input reads as it did. -/
def wbtActsSpec : ChangeSpec := { name := "wbtActs", fn := fun _ => fun
  | [d1, d2, d3] => { results := [.lit (.bool true)], args := [d1, d2, d3] }
  | _ => none }
def wbtActsRow : OpenClaim := { program := "ytbdmccokdbfkpaa", sum := "4382057dbfd2ba328b2758e0d3e0e5dbc0a6dd9fee7bd396f0b56c38236bba08", func := "wattlework/wattleworklaw2.WbtActs", spec := "wbtActs", unfollowed := true, recurses := true, apart := false }
def WbtActsSaid : Prop := wbtActsRow.holds Try.pinned (OpenSpec.ofChange wbtActsSpec)

/-- ITS FALSE NEIGHBOUR: 'it returns false'. Refute it at one input. -/
def wbtActsWrong : ChangeSpec := { name := "wbtActs", fn := fun _ => fun
  | [d1, d2, d3] => { results := [.lit (.bool false)], args := [d1, d2, d3] }
  | _ => none }
def WbtActsWrongFalsely : Prop := wbtActsRow.holds Try.pinned (OpenSpec.ofChange wbtActsWrong)

/-- 'wattleworklaw2.WbtEven': WHATEVER THE INPUT: true; the input reads as it did. -/
def wbtEvenSpec : ChangeSpec := { name := "wbtEven", fn := fun _ => fun
  | [d1, d2, d3, d4] => { results := [.lit (.bool true)], args := [d1, d2, d3, d4] }
  | _ => none }
def wbtEvenRow : OpenClaim := { program := "ytbdmccokdbfkpaa", sum := "4382057dbfd2ba328b2758e0d3e0e5dbc0a6dd9fee7bd396f0b56c38236bba08", func := "wattlework/wattleworklaw2.WbtEven", spec := "wbtEven", unfollowed := true, recurses := true, apart := false }
def WbtEvenSaid : Prop := wbtEvenRow.holds Try.pinned (OpenSpec.ofChange wbtEvenSpec)

/-- ITS FALSE NEIGHBOUR: 'it returns false'. Refute it at one input. -/
def wbtEvenWrong : ChangeSpec := { name := "wbtEven", fn := fun _ => fun
  | [d1, d2, d3, d4] => { results := [.lit (.bool false)], args := [d1, d2, d3, d4] }
  | _ => none }
def WbtEvenWrongFalsely : Prop := wbtEvenRow.holds Try.pinned (OpenSpec.ofChange wbtEvenWrong)

/-- 'wattleworklaw2.WbtSets': WHATEVER THE INPUT: true; the input reads as it did. -/
def wbtSetsSpec : ChangeSpec := { name := "wbtSets", fn := fun _ => fun
  | [d1, d2, d3, d4] => { results := [.lit (.bool true)], args := [d1, d2, d3, d4] }
  | _ => none }
def wbtSetsRow : OpenClaim := { program := "ytbdmccokdbfkpaa", sum := "4382057dbfd2ba328b2758e0d3e0e5dbc0a6dd9fee7bd396f0b56c38236bba08", func := "wattlework/wattleworklaw2.WbtSets", spec := "wbtSets", unfollowed := true, recurses := true, apart := false }
def WbtSetsSaid : Prop := wbtSetsRow.holds Try.pinned (OpenSpec.ofChange wbtSetsSpec)

/-- ITS FALSE NEIGHBOUR: 'it returns false'. Refute it at one input. -/
def wbtSetsWrong : ChangeSpec := { name := "wbtSets", fn := fun _ => fun
  | [d1, d2, d3, d4] => { results := [.lit (.bool false)], args := [d1, d2, d3, d4] }
  | _ => none }
def WbtSetsWrongFalsely : Prop := wbtSetsRow.holds Try.pinned (OpenSpec.ofChange wbtSetsWrong)

/-- 'wattleworklaw2.WbtBoole': WHATEVER THE INPUT: true; the input reads as it did. -/
def wbtBooleSpec : ChangeSpec := { name := "wbtBoole", fn := fun _ => fun
  | [d1, d2, d3] => { results := [.lit (.bool true)], args := [d1, d2, d3] }
  | _ => none }
def wbtBooleRow : OpenClaim := { program := "ytbdmccokdbfkpaa", sum := "4382057dbfd2ba328b2758e0d3e0e5dbc0a6dd9fee7bd396f0b56c38236bba08", func := "wattlework/wattleworklaw2.WbtBoole", spec := "wbtBoole", unfollowed := true, recurses := true, apart := false }
def WbtBooleSaid : Prop := wbtBooleRow.holds Try.pinned (OpenSpec.ofChange wbtBooleSpec)

/-- ITS FALSE NEIGHBOUR: 'it returns false'. Refute it at one input. -/
def wbtBooleWrong : ChangeSpec := { name := "wbtBoole", fn := fun _ => fun
  | [d1, d2, d3] => { results := [.lit (.bool false)], args := [d1, d2, d3] }
  | _ => none }
def WbtBooleWrongFalsely : Prop := wbtBooleRow.holds Try.pinned (OpenSpec.ofChange wbtBooleWrong)

/-- 'wattleworklaw2.WbtRanks': WHATEVER THE INPUT: true; the input reads as it did. -/
def wbtRanksSpec : ChangeSpec := { name := "wbtRanks", fn := fun _ => fun
  | [d1, d2, d3] => { results := [.lit (.bool true)], args := [d1, d2, d3] }
  | _ => none }
def wbtRanksRow : OpenClaim := { program := "ytbdmccokdbfkpaa", sum := "4382057dbfd2ba328b2758e0d3e0e5dbc0a6dd9fee7bd396f0b56c38236bba08", func := "wattlework/wattleworklaw2.WbtRanks", spec := "wbtRanks", unfollowed := true, recurses := true, apart := false }
def WbtRanksSaid : Prop := wbtRanksRow.holds Try.pinned (OpenSpec.ofChange wbtRanksSpec)

/-- ITS FALSE NEIGHBOUR: 'it returns false'. Refute it at one input. -/
def wbtRanksWrong : ChangeSpec := { name := "wbtRanks", fn := fun _ => fun
  | [d1, d2, d3] => { results := [.lit (.bool false)], args := [d1, d2, d3] }
  | _ => none }
def WbtRanksWrongFalsely : Prop := wbtRanksRow.holds Try.pinned (OpenSpec.ofChange wbtRanksWrong)

/-- 'wattleworklaw2.WbtSplits': WHATEVER THE INPUT: true; the input reads as it did. -/
def wbtSplitsSpec : ChangeSpec := { name := "wbtSplits", fn := fun _ => fun
  | [d1, d2] => { results := [.lit (.bool true)], args := [d1, d2] }
  | _ => none }
def wbtSplitsRow : OpenClaim := { program := "ytbdmccokdbfkpaa", sum := "4382057dbfd2ba328b2758e0d3e0e5dbc0a6dd9fee7bd396f0b56c38236bba08", func := "wattlework/wattleworklaw2.WbtSplits", spec := "wbtSplits", unfollowed := true, recurses := true, apart := false }
def WbtSplitsSaid : Prop := wbtSplitsRow.holds Try.pinned (OpenSpec.ofChange wbtSplitsSpec)

/-- ITS FALSE NEIGHBOUR: 'it returns false'. Refute it at one input. -/
def wbtSplitsWrong : ChangeSpec := { name := "wbtSplits", fn := fun _ => fun
  | [d1, d2] => { results := [.lit (.bool false)], args := [d1, d2] }
  | _ => none }
def WbtSplitsWrongFalsely : Prop := wbtSplitsRow.holds Try.pinned (OpenSpec.ofChange wbtSplitsWrong)

/-- 'wattleworklaw6.WbtOwn': WHATEVER THE INPUT: true; the input reads as it did. -/
def wbtOwnSpec : ChangeSpec := { name := "wbtOwn", fn := fun _ => fun
  | [d1, d2] => { results := [.lit (.bool true)], args := [d1, d2] }
  | _ => none }
def wbtOwnRow : OpenClaim := { program := "ytbdmccokdbfkpaa", sum := "4382057dbfd2ba328b2758e0d3e0e5dbc0a6dd9fee7bd396f0b56c38236bba08", func := "wattlework/wattleworklaw6.WbtOwn", spec := "wbtOwn", unfollowed := true, recurses := true, apart := false }
def WbtOwnSaid : Prop := wbtOwnRow.holds Try.pinned (OpenSpec.ofChange wbtOwnSpec)

/-- ITS FALSE NEIGHBOUR: 'it returns false'. Refute it at one input. -/
def wbtOwnWrong : ChangeSpec := { name := "wbtOwn", fn := fun _ => fun
  | [d1, d2] => { results := [.lit (.bool false)], args := [d1, d2] }
  | _ => none }
def WbtOwnWrongFalsely : Prop := wbtOwnRow.holds Try.pinned (OpenSpec.ofChange wbtOwnWrong)

/- THE SECOND FORM. 'bulk': how many values and letters a reading holds, each counted each time it is reached (what is shared counts as often as it is met; a slice's spare places count too). A statement '..UptoSaid' is the law's where the arguments, and the package variables that the reading takes, are together of bulk at most 1048576: NARROWER than '..Said'. Prove '..Said' where nothing that the law and all that it calls make is longer than what came in: it says more and counts as full. Else prove '..UptoSaid'. A law counts once. -/
mutual
def uptoBulk {H : Type} : DataW H → Nat
  | .lit (.string bytes) => bytes.length + 1
  | .lit _ => 1
  | .nil => 1
  | .ptr d => uptoBulk d + 1
  | .slice elems spare => uptoBulkAll elems + uptoBulkAll spare + 1
  | .agg parts => uptoBulkAll parts + 1
  | .iface _ d => uptoBulk d + 1
  | .map entries => uptoBulkEntries entries + 1
  | .held _ => 1
def uptoBulkAll {H : Type} : List (DataW H) → Nat
  | [] => 0
  | d :: r => uptoBulk d + uptoBulkAll r
def uptoBulkEntries {H : Type} : List (Lit × DataW H) → Nat
  | [] => 0
  | x :: r => uptoBulkEntry x + uptoBulkEntries r
def uptoBulkEntry {H : Type} : Lit × DataW H → Nat
  | (.string bytes, d) => bytes.length + uptoBulk d + 1
  | (_, d) => uptoBulk d + 1
 end
def uptoSmall : (H : Type) → List (DataW H) → Bool := fun _ ds => decide (uptoBulkAll ds ≤ 1048576)
def OpenSpec.upto (s : _root_.Go.ChangeSpec) : _root_.Go.OpenSpec := { _root_.Go.OpenSpec.ofChange s with cond := some uptoSmall }

/-- 'wattleworklaw2.WbtTells', WHERE WHAT IT READS IS OF BULK AT MOST 1048576: true; the input reads as it did. -/
def wbtTellsUptoRow : OpenClaim := { program := "ytbdmccokdbfkpaa", sum := "4382057dbfd2ba328b2758e0d3e0e5dbc0a6dd9fee7bd396f0b56c38236bba08", func := "wattlework/wattleworklaw2.WbtTells", spec := "wbtTells", unfollowed := true, recurses := true, apart := false, narrowed := true }
def WbtTellsUptoSaid : Prop := wbtTellsUptoRow.holds Try.pinned (OpenSpec.upto wbtTellsSpec)

/-- 'wattleworklaw2.WbtActs', WHERE WHAT IT READS IS OF BULK AT MOST 1048576: true; the input reads as it did. -/
def wbtActsUptoRow : OpenClaim := { program := "ytbdmccokdbfkpaa", sum := "4382057dbfd2ba328b2758e0d3e0e5dbc0a6dd9fee7bd396f0b56c38236bba08", func := "wattlework/wattleworklaw2.WbtActs", spec := "wbtActs", unfollowed := true, recurses := true, apart := false, narrowed := true }
def WbtActsUptoSaid : Prop := wbtActsUptoRow.holds Try.pinned (OpenSpec.upto wbtActsSpec)

/-- 'wattleworklaw2.WbtEven', WHERE WHAT IT READS IS OF BULK AT MOST 1048576: true; the input reads as it did. -/
def wbtEvenUptoRow : OpenClaim := { program := "ytbdmccokdbfkpaa", sum := "4382057dbfd2ba328b2758e0d3e0e5dbc0a6dd9fee7bd396f0b56c38236bba08", func := "wattlework/wattleworklaw2.WbtEven", spec := "wbtEven", unfollowed := true, recurses := true, apart := false, narrowed := true }
def WbtEvenUptoSaid : Prop := wbtEvenUptoRow.holds Try.pinned (OpenSpec.upto wbtEvenSpec)

/-- 'wattleworklaw2.WbtSets', WHERE WHAT IT READS IS OF BULK AT MOST 1048576: true; the input reads as it did. -/
def wbtSetsUptoRow : OpenClaim := { program := "ytbdmccokdbfkpaa", sum := "4382057dbfd2ba328b2758e0d3e0e5dbc0a6dd9fee7bd396f0b56c38236bba08", func := "wattlework/wattleworklaw2.WbtSets", spec := "wbtSets", unfollowed := true, recurses := true, apart := false, narrowed := true }
def WbtSetsUptoSaid : Prop := wbtSetsUptoRow.holds Try.pinned (OpenSpec.upto wbtSetsSpec)

/-- 'wattleworklaw2.WbtBoole', WHERE WHAT IT READS IS OF BULK AT MOST 1048576: true; the input reads as it did. -/
def wbtBooleUptoRow : OpenClaim := { program := "ytbdmccokdbfkpaa", sum := "4382057dbfd2ba328b2758e0d3e0e5dbc0a6dd9fee7bd396f0b56c38236bba08", func := "wattlework/wattleworklaw2.WbtBoole", spec := "wbtBoole", unfollowed := true, recurses := true, apart := false, narrowed := true }
def WbtBooleUptoSaid : Prop := wbtBooleUptoRow.holds Try.pinned (OpenSpec.upto wbtBooleSpec)

/-- 'wattleworklaw2.WbtRanks', WHERE WHAT IT READS IS OF BULK AT MOST 1048576: true; the input reads as it did. -/
def wbtRanksUptoRow : OpenClaim := { program := "ytbdmccokdbfkpaa", sum := "4382057dbfd2ba328b2758e0d3e0e5dbc0a6dd9fee7bd396f0b56c38236bba08", func := "wattlework/wattleworklaw2.WbtRanks", spec := "wbtRanks", unfollowed := true, recurses := true, apart := false, narrowed := true }
def WbtRanksUptoSaid : Prop := wbtRanksUptoRow.holds Try.pinned (OpenSpec.upto wbtRanksSpec)

/-- 'wattleworklaw2.WbtSplits', WHERE WHAT IT READS IS OF BULK AT MOST 1048576: true; the input reads as it did. -/
def wbtSplitsUptoRow : OpenClaim := { program := "ytbdmccokdbfkpaa", sum := "4382057dbfd2ba328b2758e0d3e0e5dbc0a6dd9fee7bd396f0b56c38236bba08", func := "wattlework/wattleworklaw2.WbtSplits", spec := "wbtSplits", unfollowed := true, recurses := true, apart := false, narrowed := true }
def WbtSplitsUptoSaid : Prop := wbtSplitsUptoRow.holds Try.pinned (OpenSpec.upto wbtSplitsSpec)

/-- 'wattleworklaw6.WbtOwn', WHERE WHAT IT READS IS OF BULK AT MOST 1048576: true; the input reads as it did. -/
def wbtOwnUptoRow : OpenClaim := { program := "ytbdmccokdbfkpaa", sum := "4382057dbfd2ba328b2758e0d3e0e5dbc0a6dd9fee7bd396f0b56c38236bba08", func := "wattlework/wattleworklaw6.WbtOwn", spec := "wbtOwn", unfollowed := true, recurses := true, apart := false, narrowed := true }
def WbtOwnUptoSaid : Prop := wbtOwnUptoRow.holds Try.pinned (OpenSpec.upto wbtOwnSpec)

end Rows
end Go.Proofs.Ytbdmccokdbfkpaa
