/-
  No cell of these rows narrows 'for every input' (looked for: loops, veiled, ifaces, maps, wideKeys, modest, calm, conditions, laid).
  DERIVED. THE GIVEN ROWS OF THIS SEAT. 4 by the template 'for every input the law returns true; each argument reads behind the call as it read before'; 0 by the template 'total and deterministic' (their statements: YtfbeiimmcemniaaTotals.lean).
  GIVEN WITH THE SEED: the statements are not yours to turn. If you find one false, say at which input.
  Laid BY PROGRAM, IN A SANDBOX (cutbox-rows.mjs): the forced cells as the released guide's own fill.sh prints them over the translation 07ea657a00207f0e… (all of the seat's roots in one cut). By AI agents, Wed Nov 11 2026. No macro, syntax, notation, axiom, sorry.
-/
import Derived.Test.YtfbeiimmcemniaaChecked
import GoSem.Claim
import GoSem.ClaimJoined
import GoSem.ClaimMapViews
import Derived.JoinedTies
import Derived.KernelRfl
namespace Go.Proofs.Ytfbeiimmcemniaa
/- THE CELL 'sum', in the pinned program and in every row, IS THE sha256 OF THE DUMP (.gsa) THAT YtfbeiimmcemniaaProg.lean LOADS. Nothing in Lean hashes anything: it is a label: what it is worth is what the hold of that sum in a sandbox is worth. -/
noncomputable def Try.pinned : Pinned := { name := "ytfbeiimmcemniaa", sum := "07ea657a00207f0e10eaa9460f7aa6725842b6bdb1a993937abea70c82f4b7ad", checked := Try.checked }
namespace Rows
def none {H : Type} : Left H := { results := [], args := [] }

/-- 'wattleworklaw3.PrioTells': WHATEVER THE INPUT: true; the input reads as it did. -/
def prioTellsSpec : ChangeSpec := { name := "prioTells", fn := fun _ => fun
  | [d1, d2] => { results := [.lit (.bool true)], args := [d1, d2] }
  | _ => none }
def prioTellsRow : OpenClaim := { program := "ytfbeiimmcemniaa", sum := "07ea657a00207f0e10eaa9460f7aa6725842b6bdb1a993937abea70c82f4b7ad", func := "wattlework/wattleworklaw3.PrioTells", spec := "prioTells", unfollowed := true, recurses := true, apart := false }
def PrioTellsSaid : Prop := prioTellsRow.holds Try.pinned (OpenSpec.ofChange prioTellsSpec)

/-- ITS FALSE NEIGHBOUR: 'it returns false'. Refute it at one input. -/
def prioTellsWrong : ChangeSpec := { name := "prioTells", fn := fun _ => fun
  | [d1, d2] => { results := [.lit (.bool false)], args := [d1, d2] }
  | _ => none }
def PrioTellsWrongFalsely : Prop := prioTellsRow.holds Try.pinned (OpenSpec.ofChange prioTellsWrong)

/-- 'wattleworklaw3.PrioSorts': WHATEVER THE INPUT: true; the input reads as it did. -/
def prioSortsSpec : ChangeSpec := { name := "prioSorts", fn := fun _ => fun
  | [d] => { results := [.lit (.bool true)], args := [d] }
  | _ => none }
def prioSortsRow : OpenClaim := { program := "ytfbeiimmcemniaa", sum := "07ea657a00207f0e10eaa9460f7aa6725842b6bdb1a993937abea70c82f4b7ad", func := "wattlework/wattleworklaw3.PrioSorts", spec := "prioSorts", unfollowed := true, recurses := true, apart := false }
def PrioSortsSaid : Prop := prioSortsRow.holds Try.pinned (OpenSpec.ofChange prioSortsSpec)

/-- ITS FALSE NEIGHBOUR: 'it returns false'. Refute it at one input. -/
def prioSortsWrong : ChangeSpec := { name := "prioSorts", fn := fun _ => fun
  | [d] => { results := [.lit (.bool false)], args := [d] }
  | _ => none }
def PrioSortsWrongFalsely : Prop := prioSortsRow.holds Try.pinned (OpenSpec.ofChange prioSortsWrong)

/-- 'wattleworklaw3.PrioJoins': WHATEVER THE INPUT: true; the input reads as it did. -/
def prioJoinsSpec : ChangeSpec := { name := "prioJoins", fn := fun _ => fun
  | [d1, d2] => { results := [.lit (.bool true)], args := [d1, d2] }
  | _ => none }
def prioJoinsRow : OpenClaim := { program := "ytfbeiimmcemniaa", sum := "07ea657a00207f0e10eaa9460f7aa6725842b6bdb1a993937abea70c82f4b7ad", func := "wattlework/wattleworklaw3.PrioJoins", spec := "prioJoins", unfollowed := true, recurses := true, apart := false }
def PrioJoinsSaid : Prop := prioJoinsRow.holds Try.pinned (OpenSpec.ofChange prioJoinsSpec)

/-- ITS FALSE NEIGHBOUR: 'it returns false'. Refute it at one input. -/
def prioJoinsWrong : ChangeSpec := { name := "prioJoins", fn := fun _ => fun
  | [d1, d2] => { results := [.lit (.bool false)], args := [d1, d2] }
  | _ => none }
def PrioJoinsWrongFalsely : Prop := prioJoinsRow.holds Try.pinned (OpenSpec.ofChange prioJoinsWrong)

/-- 'wattleworklaw6.PrioOwn': WHATEVER THE INPUT: true; the input reads as it did. -/
def prioOwnSpec : ChangeSpec := { name := "prioOwn", fn := fun _ => fun
  | [d1, d2] => { results := [.lit (.bool true)], args := [d1, d2] }
  | _ => none }
def prioOwnRow : OpenClaim := { program := "ytfbeiimmcemniaa", sum := "07ea657a00207f0e10eaa9460f7aa6725842b6bdb1a993937abea70c82f4b7ad", func := "wattlework/wattleworklaw6.PrioOwn", spec := "prioOwn", unfollowed := true, recurses := true, apart := false }
def PrioOwnSaid : Prop := prioOwnRow.holds Try.pinned (OpenSpec.ofChange prioOwnSpec)

/-- ITS FALSE NEIGHBOUR: 'it returns false'. Refute it at one input. -/
def prioOwnWrong : ChangeSpec := { name := "prioOwn", fn := fun _ => fun
  | [d1, d2] => { results := [.lit (.bool false)], args := [d1, d2] }
  | _ => none }
def PrioOwnWrongFalsely : Prop := prioOwnRow.holds Try.pinned (OpenSpec.ofChange prioOwnWrong)

/- THE SECOND FORM. 'bulk': how many values and letters a reading holds, each counted each time it is reached (what is shared counts as often as it is met; a slice's spare places count too). A statement '..UptoSaid' is the law's where the arguments, and the package variables that the reading takes, are together of bulk at most 1048576: NARROWER than '..Said'. Prove '..Said' where nothing that the law and all that it calls make is longer than what came in: it says more and counts as full. Else prove '..UptoSaid'. A law counts once. -/
mutual
def uptoBulk {H : Type} : DataW H → Nat
  | .lit (.string bytes) => bytes.length + 1
  | .lit _ => 1
  | .nil => 1
  | .ptr d => uptoBulk d + 1
  | .slice elems spare => uptoBulkAll elems + uptoBulkAll spare + 1
  | .agg parts => uptoBulkAll parts + 1
  | .iface _ d => uptoBulk d + 1
  | .map entries => uptoBulkEntries entries + 1
  | .held _ => 1
def uptoBulkAll {H : Type} : List (DataW H) → Nat
  | [] => 0
  | d :: r => uptoBulk d + uptoBulkAll r
def uptoBulkEntries {H : Type} : List (Lit × DataW H) → Nat
  | [] => 0
  | x :: r => uptoBulkEntry x + uptoBulkEntries r
def uptoBulkEntry {H : Type} : Lit × DataW H → Nat
  | (.string bytes, d) => bytes.length + uptoBulk d + 1
  | (_, d) => uptoBulk d + 1
 end
def uptoSmall : (H : Type) → List (DataW H) → Bool := fun _ ds => decide (uptoBulkAll ds ≤ 1048576)
def OpenSpec.upto (s : _root_.Go.ChangeSpec) : _root_.Go.OpenSpec := { _root_.Go.OpenSpec.ofChange s with cond := some uptoSmall }

/-- 'wattleworklaw3.PrioTells', WHERE WHAT IT READS IS OF BULK AT MOST 1048576: true; the input reads as it did. -/
def prioTellsUptoRow : OpenClaim := { program := "ytfbeiimmcemniaa", sum := "07ea657a00207f0e10eaa9460f7aa6725842b6bdb1a993937abea70c82f4b7ad", func := "wattlework/wattleworklaw3.PrioTells", spec := "prioTells", unfollowed := true, recurses := true, apart := false, narrowed := true }
def PrioTellsUptoSaid : Prop := prioTellsUptoRow.holds Try.pinned (OpenSpec.upto prioTellsSpec)

/-- 'wattleworklaw3.PrioSorts', WHERE WHAT IT READS IS OF BULK AT MOST 1048576: true; the input reads as it did. -/
def prioSortsUptoRow : OpenClaim := { program := "ytfbeiimmcemniaa", sum := "07ea657a00207f0e10eaa9460f7aa6725842b6bdb1a993937abea70c82f4b7ad", func := "wattlework/wattleworklaw3.PrioSorts", spec := "prioSorts", unfollowed := true, recurses := true, apart := false, narrowed := true }
def PrioSortsUptoSaid : Prop := prioSortsUptoRow.holds Try.pinned (OpenSpec.upto prioSortsSpec)

/-- 'wattleworklaw3.PrioJoins', WHERE WHAT IT READS IS OF BULK AT MOST 1048576: true; the input reads as it did. -/
def prioJoinsUptoRow : OpenClaim := { program := "ytfbeiimmcemniaa", sum := "07ea657a00207f0e10eaa9460f7aa6725842b6bdb1a993937abea70c82f4b7ad", func := "wattlework/wattleworklaw3.PrioJoins", spec := "prioJoins", unfollowed := true, recurses := true, apart := false, narrowed := true }
def PrioJoinsUptoSaid : Prop := prioJoinsUptoRow.holds Try.pinned (OpenSpec.upto prioJoinsSpec)

/-- 'wattleworklaw6.PrioOwn', WHERE WHAT IT READS IS OF BULK AT MOST 1048576: true; the input reads as it did. -/
def prioOwnUptoRow : OpenClaim := { program := "ytfbeiimmcemniaa", sum := "07ea657a00207f0e10eaa9460f7aa6725842b6bdb1a993937abea70c82f4b7ad", func := "wattlework/wattleworklaw6.PrioOwn", spec := "prioOwn", unfollowed := true, recurses := true, apart := false, narrowed := true }
def PrioOwnUptoSaid : Prop := prioOwnUptoRow.holds Try.pinned (OpenSpec.upto prioOwnSpec)

end Rows
end Go.Proofs.Ytfbeiimmcemniaa
