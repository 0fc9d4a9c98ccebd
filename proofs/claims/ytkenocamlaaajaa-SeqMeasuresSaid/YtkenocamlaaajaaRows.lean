/-
  No cell of these rows narrows 'for every input' (looked for: loops, veiled, ifaces, maps, wideKeys, modest, calm, conditions, laid).
  DERIVED. THE GIVEN ROWS OF THIS SEAT. 6 by the template 'for every input the law returns true; each argument reads behind the call as it read before'; 0 by the template 'total and deterministic' (their statements: YtkenocamlaaajaaTotals.lean).
  GIVEN WITH THE SEED: the statements are not yours to turn. If you find one false, say at which input.
  Laid BY PROGRAM, IN A SANDBOX (cutbox-rows.mjs): the forced cells as the released guide's own fill.sh prints them over the translation cb3bda395ac56146… (all of the seat's roots in one cut). By AI agents, Wed Nov 11 2026. No macro, syntax, notation, axiom, sorry.
-/
import Derived.Test.YtkenocamlaaajaaChecked
import GoSem.Claim
import GoSem.ClaimJoined
import GoSem.ClaimMapViews
import Derived.JoinedTies
import Derived.KernelRfl
namespace Go.Proofs.Ytkenocamlaaajaa
/- THE CELL 'sum', in the pinned program and in every row, IS THE sha256 OF THE DUMP (.gsa) THAT YtkenocamlaaajaaProg.lean LOADS. Nothing in Lean hashes anything: it is a label: what it is worth is what the hold of that sum in a sandbox is worth. -/
noncomputable def Try.pinned : Pinned := { name := "ytkenocamlaaajaa", sum := "cb3bda395ac56146ad38d57cd59cf40e0c340e7629772ecd73605b4754fc646c", checked := Try.checked }
namespace Rows
def none {H : Type} : Left H := { results := [], args := [] }

/-- 'wattleworklaw3.SeqTells': WHATEVER THE INPUT: true; the input reads as it did. -/
def seqTellsSpec : ChangeSpec := { name := "seqTells", fn := fun _ => fun
  | [d1, d2, d3, d4] => { results := [.lit (.bool true)], args := [d1, d2, d3, d4] }
  | _ => none }
def seqTellsRow : OpenClaim := { program := "ytkenocamlaaajaa", sum := "cb3bda395ac56146ad38d57cd59cf40e0c340e7629772ecd73605b4754fc646c", func := "wattlework/wattleworklaw3.SeqTells", spec := "seqTells", unfollowed := true, recurses := true, apart := false }
def SeqTellsSaid : Prop := seqTellsRow.holds Try.pinned (OpenSpec.ofChange seqTellsSpec)

/-- ITS FALSE NEIGHBOUR: 'it returns false'. Refute it at one input. -/
def seqTellsWrong : ChangeSpec := { name := "seqTells", fn := fun _ => fun
  | [d1, d2, d3, d4] => { results := [.lit (.bool false)], args := [d1, d2, d3, d4] }
  | _ => none }
def SeqTellsWrongFalsely : Prop := seqTellsRow.holds Try.pinned (OpenSpec.ofChange seqTellsWrong)

/-- 'wattleworklaw3.SeqEdits': WHATEVER THE INPUT: true; the input reads as it did. -/
def seqEditsSpec : ChangeSpec := { name := "seqEdits", fn := fun _ => fun
  | [d1, d2, d3, d4] => { results := [.lit (.bool true)], args := [d1, d2, d3, d4] }
  | _ => none }
def seqEditsRow : OpenClaim := { program := "ytkenocamlaaajaa", sum := "cb3bda395ac56146ad38d57cd59cf40e0c340e7629772ecd73605b4754fc646c", func := "wattlework/wattleworklaw3.SeqEdits", spec := "seqEdits", unfollowed := true, recurses := true, apart := false }
def SeqEditsSaid : Prop := seqEditsRow.holds Try.pinned (OpenSpec.ofChange seqEditsSpec)

/-- ITS FALSE NEIGHBOUR: 'it returns false'. Refute it at one input. -/
def seqEditsWrong : ChangeSpec := { name := "seqEdits", fn := fun _ => fun
  | [d1, d2, d3, d4] => { results := [.lit (.bool false)], args := [d1, d2, d3, d4] }
  | _ => none }
def SeqEditsWrongFalsely : Prop := seqEditsRow.holds Try.pinned (OpenSpec.ofChange seqEditsWrong)

/-- 'wattleworklaw3.SeqSlices': WHATEVER THE INPUT: true; the input reads as it did. -/
def seqSlicesSpec : ChangeSpec := { name := "seqSlices", fn := fun _ => fun
  | [d1, d2, d3, d4, d5] => { results := [.lit (.bool true)], args := [d1, d2, d3, d4, d5] }
  | _ => none }
def seqSlicesRow : OpenClaim := { program := "ytkenocamlaaajaa", sum := "cb3bda395ac56146ad38d57cd59cf40e0c340e7629772ecd73605b4754fc646c", func := "wattlework/wattleworklaw3.SeqSlices", spec := "seqSlices", unfollowed := true, recurses := true, apart := false }
def SeqSlicesSaid : Prop := seqSlicesRow.holds Try.pinned (OpenSpec.ofChange seqSlicesSpec)

/-- ITS FALSE NEIGHBOUR: 'it returns false'. Refute it at one input. -/
def seqSlicesWrong : ChangeSpec := { name := "seqSlices", fn := fun _ => fun
  | [d1, d2, d3, d4, d5] => { results := [.lit (.bool false)], args := [d1, d2, d3, d4, d5] }
  | _ => none }
def SeqSlicesWrongFalsely : Prop := seqSlicesRow.holds Try.pinned (OpenSpec.ofChange seqSlicesWrong)

/-- 'wattleworklaw3.SeqMeasures': WHATEVER THE INPUT: true; the input reads as it did. -/
def seqMeasuresSpec : ChangeSpec := { name := "seqMeasures", fn := fun _ => fun
  | [d1, d2, d3, d4, d5] => { results := [.lit (.bool true)], args := [d1, d2, d3, d4, d5] }
  | _ => none }
def seqMeasuresRow : OpenClaim := { program := "ytkenocamlaaajaa", sum := "cb3bda395ac56146ad38d57cd59cf40e0c340e7629772ecd73605b4754fc646c", func := "wattlework/wattleworklaw3.SeqMeasures", spec := "seqMeasures", unfollowed := true, recurses := true, apart := false }
def SeqMeasuresSaid : Prop := seqMeasuresRow.holds Try.pinned (OpenSpec.ofChange seqMeasuresSpec)

/-- ITS FALSE NEIGHBOUR: 'it returns false'. Refute it at one input. -/
def seqMeasuresWrong : ChangeSpec := { name := "seqMeasures", fn := fun _ => fun
  | [d1, d2, d3, d4, d5] => { results := [.lit (.bool false)], args := [d1, d2, d3, d4, d5] }
  | _ => none }
def SeqMeasuresWrongFalsely : Prop := seqMeasuresRow.holds Try.pinned (OpenSpec.ofChange seqMeasuresWrong)

/-- 'wattleworklaw6.SeqOwn': WHATEVER THE INPUT: true; the input reads as it did. -/
def seqOwnSpec : ChangeSpec := { name := "seqOwn", fn := fun _ => fun
  | [d1, d2] => { results := [.lit (.bool true)], args := [d1, d2] }
  | _ => none }
def seqOwnRow : OpenClaim := { program := "ytkenocamlaaajaa", sum := "cb3bda395ac56146ad38d57cd59cf40e0c340e7629772ecd73605b4754fc646c", func := "wattlework/wattleworklaw6.SeqOwn", spec := "seqOwn", unfollowed := true, recurses := true, apart := false }
def SeqOwnSaid : Prop := seqOwnRow.holds Try.pinned (OpenSpec.ofChange seqOwnSpec)

/-- ITS FALSE NEIGHBOUR: 'it returns false'. Refute it at one input. -/
def seqOwnWrong : ChangeSpec := { name := "seqOwn", fn := fun _ => fun
  | [d1, d2] => { results := [.lit (.bool false)], args := [d1, d2] }
  | _ => none }
def SeqOwnWrongFalsely : Prop := seqOwnRow.holds Try.pinned (OpenSpec.ofChange seqOwnWrong)

/-- 'wattleworktop.TopLists': WHATEVER THE INPUT: true; the input reads as it did. -/
def topListsSpec : ChangeSpec := { name := "topLists", fn := fun _ => fun
  | [d1, d2, d3] => { results := [.lit (.bool true)], args := [d1, d2, d3] }
  | _ => none }
def topListsRow : OpenClaim := { program := "ytkenocamlaaajaa", sum := "cb3bda395ac56146ad38d57cd59cf40e0c340e7629772ecd73605b4754fc646c", func := "wattlework/wattleworktop.TopLists", spec := "topLists", unfollowed := true, recurses := true, apart := false }
def TopListsSaid : Prop := topListsRow.holds Try.pinned (OpenSpec.ofChange topListsSpec)

/-- ITS FALSE NEIGHBOUR: 'it returns false'. Refute it at one input. -/
def topListsWrong : ChangeSpec := { name := "topLists", fn := fun _ => fun
  | [d1, d2, d3] => { results := [.lit (.bool false)], args := [d1, d2, d3] }
  | _ => none }
def TopListsWrongFalsely : Prop := topListsRow.holds Try.pinned (OpenSpec.ofChange topListsWrong)

/- THE SECOND FORM. 'bulk': how many values and letters a reading holds, each counted each time it is reached (what is shared counts as often as it is met; a slice's spare places count too). A statement '..UptoSaid' is the law's where the arguments, and the package variables that the reading takes, are together of bulk at most 1048576: NARROWER than '..Said'. Prove '..Said' where nothing that the law and all that it calls make is longer than what came in: it says more and counts as full. Else prove '..UptoSaid'. A law counts once. -/
mutual
def uptoBulk {H : Type} : DataW H → Nat
  | .lit (.string bytes) => bytes.length + 1
  | .lit _ => 1
  | .nil => 1
  | .ptr d => uptoBulk d + 1
  | .slice elems spare => uptoBulkAll elems + uptoBulkAll spare + 1
  | .agg parts => uptoBulkAll parts + 1
  | .iface _ d => uptoBulk d + 1
  | .map entries => uptoBulkEntries entries + 1
  | .held _ => 1
def uptoBulkAll {H : Type} : List (DataW H) → Nat
  | [] => 0
  | d :: r => uptoBulk d + uptoBulkAll r
def uptoBulkEntries {H : Type} : List (Lit × DataW H) → Nat
  | [] => 0
  | x :: r => uptoBulkEntry x + uptoBulkEntries r
def uptoBulkEntry {H : Type} : Lit × DataW H → Nat
  | (.string bytes, d) => bytes.length + uptoBulk d + 1
  | (_, d) => uptoBulk d + 1
 end
def uptoSmall : (H : Type) → List (DataW H) → Bool := fun _ ds => decide (uptoBulkAll ds ≤ 1048576)
def OpenSpec.upto (s : _root_.Go.ChangeSpec) : _root_.Go.OpenSpec := { _root_.Go.OpenSpec.ofChange s with cond := some uptoSmall }

/-- 'wattleworklaw3.SeqTells', WHERE WHAT IT READS IS OF BULK AT MOST 1048576: true; the input reads as it did. -/
def seqTellsUptoRow : OpenClaim := { program := "ytkenocamlaaajaa", sum := "cb3bda395ac56146ad38d57cd59cf40e0c340e7629772ecd73605b4754fc646c", func := "wattlework/wattleworklaw3.SeqTells", spec := "seqTells", unfollowed := true, recurses := true, apart := false, narrowed := true }
def SeqTellsUptoSaid : Prop := seqTellsUptoRow.holds Try.pinned (OpenSpec.upto seqTellsSpec)

/-- 'wattleworklaw3.SeqEdits', WHERE WHAT IT READS IS OF BULK AT MOST 1048576: true; the input reads as it did. -/
def seqEditsUptoRow : OpenClaim := { program := "ytkenocamlaaajaa", sum := "cb3bda395ac56146ad38d57cd59cf40e0c340e7629772ecd73605b4754fc646c", func := "wattlework/wattleworklaw3.SeqEdits", spec := "seqEdits", unfollowed := true, recurses := true, apart := false, narrowed := true }
def SeqEditsUptoSaid : Prop := seqEditsUptoRow.holds Try.pinned (OpenSpec.upto seqEditsSpec)

/-- 'wattleworklaw3.SeqSlices', WHERE WHAT IT READS IS OF BULK AT MOST 1048576: true; the input reads as it did. -/
def seqSlicesUptoRow : OpenClaim := { program := "ytkenocamlaaajaa", sum := "cb3bda395ac56146ad38d57cd59cf40e0c340e7629772ecd73605b4754fc646c", func := "wattlework/wattleworklaw3.SeqSlices", spec := "seqSlices", unfollowed := true, recurses := true, apart := false, narrowed := true }
def SeqSlicesUptoSaid : Prop := seqSlicesUptoRow.holds Try.pinned (OpenSpec.upto seqSlicesSpec)

/-- 'wattleworklaw3.SeqMeasures', WHERE WHAT IT READS IS OF BULK AT MOST 1048576: true; the input reads as it did. -/
def seqMeasuresUptoRow : OpenClaim := { program := "ytkenocamlaaajaa", sum := "cb3bda395ac56146ad38d57cd59cf40e0c340e7629772ecd73605b4754fc646c", func := "wattlework/wattleworklaw3.SeqMeasures", spec := "seqMeasures", unfollowed := true, recurses := true, apart := false, narrowed := true }
def SeqMeasuresUptoSaid : Prop := seqMeasuresUptoRow.holds Try.pinned (OpenSpec.upto seqMeasuresSpec)

/-- 'wattleworklaw6.SeqOwn', WHERE WHAT IT READS IS OF BULK AT MOST 1048576: true; the input reads as it did. -/
def seqOwnUptoRow : OpenClaim := { program := "ytkenocamlaaajaa", sum := "cb3bda395ac56146ad38d57cd59cf40e0c340e7629772ecd73605b4754fc646c", func := "wattlework/wattleworklaw6.SeqOwn", spec := "seqOwn", unfollowed := true, recurses := true, apart := false, narrowed := true }
def SeqOwnUptoSaid : Prop := seqOwnUptoRow.holds Try.pinned (OpenSpec.upto seqOwnSpec)

/-- 'wattleworktop.TopLists', WHERE WHAT IT READS IS OF BULK AT MOST 1048576: true; the input reads as it did. -/
def topListsUptoRow : OpenClaim := { program := "ytkenocamlaaajaa", sum := "cb3bda395ac56146ad38d57cd59cf40e0c340e7629772ecd73605b4754fc646c", func := "wattlework/wattleworktop.TopLists", spec := "topLists", unfollowed := true, recurses := true, apart := false, narrowed := true }
def TopListsUptoSaid : Prop := topListsUptoRow.holds Try.pinned (OpenSpec.upto topListsSpec)

end Rows
end Go.Proofs.Ytkenocamlaaajaa
