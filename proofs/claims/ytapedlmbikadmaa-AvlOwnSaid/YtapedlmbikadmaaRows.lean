/-
  No cell of these rows narrows 'for every input' (looked for: loops, veiled, ifaces, maps, wideKeys, modest, calm, conditions, laid).
  DERIVED. THE GIVEN ROWS OF THIS SEAT. 5 by the template 'for every input the law returns true; each argument reads behind the call as it read before'; 0 by the template 'total and deterministic' (their statements: YtapedlmbikadmaaTotals.lean).
  GIVEN WITH THE SEED: the statements are not yours to turn. If you find one false, say at which input.
  Laid BY PROGRAM, IN A SANDBOX (cutbox-rows.mjs): the forced cells as the released guide's own fill.sh prints them over the translation f160c149ff4433c4… (all of the seat's roots in one cut). By AI agents, Wed Nov 11 2026. No macro, syntax, notation, axiom, sorry.
-/
import Derived.Test.YtapedlmbikadmaaChecked
import GoSem.Claim
import GoSem.ClaimJoined
import GoSem.ClaimMapViews
import Derived.JoinedTies
import Derived.KernelRfl
namespace Go.Proofs.Ytapedlmbikadmaa
/- THE CELL 'sum', in the pinned program and in every row, IS THE sha256 OF THE DUMP (.gsa) THAT YtapedlmbikadmaaProg.lean LOADS. Nothing in Lean hashes anything: it is a label: what it is worth is what the hold of that sum in a sandbox is worth. -/
noncomputable def Try.pinned : Pinned := { name := "ytapedlmbikadmaa", sum := "f160c149ff4433c44fd0eea85d9df285e414db96ba8a8b48aaef4fa183462b88", checked := Try.checked }
namespace Rows
def none {H : Type} : Left H := { results := [], args := [] }

/-- 'wattleworklaw2.AvlTells': WHATEVER THE INPUT: true; the input reads as it did. -/
def avlTellsSpec : ChangeSpec := { name := "avlTells", fn := fun _ => fun
  | [d1, d2, d3] => { results := [.lit (.bool true)], args := [d1, d2, d3] }
  | _ => none }
def avlTellsRow : OpenClaim := { program := "ytapedlmbikadmaa", sum := "f160c149ff4433c44fd0eea85d9df285e414db96ba8a8b48aaef4fa183462b88", func := "wattlework/wattleworklaw2.AvlTells", spec := "avlTells", unfollowed := true, recurses := true, apart := false }
def AvlTellsSaid : Prop := avlTellsRow.holds Try.pinned (OpenSpec.ofChange avlTellsSpec)

/-- ITS FALSE NEIGHBOUR: 'it returns false'. Refute it at one input. -/
def avlTellsWrong : ChangeSpec := { name := "avlTells", fn := fun _ => fun
  | [d1, d2, d3] => { results := [.lit (.bool false)], args := [d1, d2, d3] }
  | _ => none }
def AvlTellsWrongFalsely : Prop := avlTellsRow.holds Try.pinned (OpenSpec.ofChange avlTellsWrong)

/-- 'wattleworklaw2.AvlActs': WHATEVER THE INPUT: true; the input reads as it did. -/
def avlActsSpec : ChangeSpec := { name := "avlActs", fn := fun _ => fun
  | [d1, d2, d3] => { results := [.lit (.bool true)], args := [d1, d2, d3] }
  | _ => none }
def avlActsRow : OpenClaim := { program := "ytapedlmbikadmaa", sum := "f160c149ff4433c44fd0eea85d9df285e414db96ba8a8b48aaef4fa183462b88", func := "wattlework/wattleworklaw2.AvlActs", spec := "avlActs", unfollowed := true, recurses := true, apart := false }
def AvlActsSaid : Prop := avlActsRow.holds Try.pinned (OpenSpec.ofChange avlActsSpec)

/-- ITS FALSE NEIGHBOUR: 'it returns false'. Refute it at one input. -/
def avlActsWrong : ChangeSpec := { name := "avlActs", fn := fun _ => fun
  | [d1, d2, d3] => { results := [.lit (.bool false)], args := [d1, d2, d3] }
  | _ => none }
def AvlActsWrongFalsely : Prop := avlActsRow.holds Try.pinned (OpenSpec.ofChange avlActsWrong)

/-- 'wattleworklaw2.AvlEven': WHATEVER THE INPUT: true; the input reads as it did. -/
def avlEvenSpec : ChangeSpec := { name := "avlEven", fn := fun _ => fun
  | [d1, d2] => { results := [.lit (.bool true)], args := [d1, d2] }
  | _ => none }
def avlEvenRow : OpenClaim := { program := "ytapedlmbikadmaa", sum := "f160c149ff4433c44fd0eea85d9df285e414db96ba8a8b48aaef4fa183462b88", func := "wattlework/wattleworklaw2.AvlEven", spec := "avlEven", unfollowed := true, recurses := true, apart := false }
def AvlEvenSaid : Prop := avlEvenRow.holds Try.pinned (OpenSpec.ofChange avlEvenSpec)

/-- ITS FALSE NEIGHBOUR: 'it returns false'. Refute it at one input. -/
def avlEvenWrong : ChangeSpec := { name := "avlEven", fn := fun _ => fun
  | [d1, d2] => { results := [.lit (.bool false)], args := [d1, d2] }
  | _ => none }
def AvlEvenWrongFalsely : Prop := avlEvenRow.holds Try.pinned (OpenSpec.ofChange avlEvenWrong)

/-- 'wattleworklaw2.AvlFew': WHATEVER THE INPUT: true; the input reads as it did. -/
def avlFewSpec : ChangeSpec := { name := "avlFew", fn := fun _ => fun
  | [d1, d2] => { results := [.lit (.bool true)], args := [d1, d2] }
  | _ => none }
def avlFewRow : OpenClaim := { program := "ytapedlmbikadmaa", sum := "f160c149ff4433c44fd0eea85d9df285e414db96ba8a8b48aaef4fa183462b88", func := "wattlework/wattleworklaw2.AvlFew", spec := "avlFew", unfollowed := true, recurses := true, apart := false }
def AvlFewSaid : Prop := avlFewRow.holds Try.pinned (OpenSpec.ofChange avlFewSpec)

/-- ITS FALSE NEIGHBOUR: 'it returns false'. Refute it at one input. -/
def avlFewWrong : ChangeSpec := { name := "avlFew", fn := fun _ => fun
  | [d1, d2] => { results := [.lit (.bool false)], args := [d1, d2] }
  | _ => none }
def AvlFewWrongFalsely : Prop := avlFewRow.holds Try.pinned (OpenSpec.ofChange avlFewWrong)

/-- 'wattleworklaw6.AvlOwn': WHATEVER THE INPUT: true; the input reads as it did. -/
def avlOwnSpec : ChangeSpec := { name := "avlOwn", fn := fun _ => fun
  | [d1, d2] => { results := [.lit (.bool true)], args := [d1, d2] }
  | _ => none }
def avlOwnRow : OpenClaim := { program := "ytapedlmbikadmaa", sum := "f160c149ff4433c44fd0eea85d9df285e414db96ba8a8b48aaef4fa183462b88", func := "wattlework/wattleworklaw6.AvlOwn", spec := "avlOwn", unfollowed := true, recurses := true, apart := false }
def AvlOwnSaid : Prop := avlOwnRow.holds Try.pinned (OpenSpec.ofChange avlOwnSpec)

/-- ITS FALSE NEIGHBOUR: 'it returns false'. Refute it at one input. -/
def avlOwnWrong : ChangeSpec := { name := "avlOwn", fn := fun _ => fun
  | [d1, d2] => { results := [.lit (.bool false)], args := [d1, d2] }
  | _ => none }
def AvlOwnWrongFalsely : Prop := avlOwnRow.holds Try.pinned (OpenSpec.ofChange avlOwnWrong)

/- THE SECOND FORM. 'bulk': how many values and letters a reading holds, each counted each time it is reached (what is shared counts as often as it is met; a slice's spare places count too). A statement '..UptoSaid' is the law's where the arguments, and the package variables that the reading takes, are together of bulk at most 1048576: NARROWER than '..Said'. Prove '..Said' where nothing that the law and all that it calls make is longer than what came in: it says more and counts as full. Else prove '..UptoSaid'. A law counts once. -/
mutual
def uptoBulk {H : Type} : DataW H → Nat
  | .lit (.string bytes) => bytes.length + 1
  | .lit _ => 1
  | .nil => 1
  | .ptr d => uptoBulk d + 1
  | .slice elems spare => uptoBulkAll elems + uptoBulkAll spare + 1
  | .agg parts => uptoBulkAll parts + 1
  | .iface _ d => uptoBulk d + 1
  | .map entries => uptoBulkEntries entries + 1
  | .held _ => 1
def uptoBulkAll {H : Type} : List (DataW H) → Nat
  | [] => 0
  | d :: r => uptoBulk d + uptoBulkAll r
def uptoBulkEntries {H : Type} : List (Lit × DataW H) → Nat
  | [] => 0
  | x :: r => uptoBulkEntry x + uptoBulkEntries r
def uptoBulkEntry {H : Type} : Lit × DataW H → Nat
  | (.string bytes, d) => bytes.length + uptoBulk d + 1
  | (_, d) => uptoBulk d + 1
 end
def uptoSmall : (H : Type) → List (DataW H) → Bool := fun _ ds => decide (uptoBulkAll ds ≤ 1048576)
def OpenSpec.upto (s : _root_.Go.ChangeSpec) : _root_.Go.OpenSpec := { _root_.Go.OpenSpec.ofChange s with cond := some uptoSmall }

/-- 'wattleworklaw2.AvlTells', WHERE WHAT IT READS IS OF BULK AT MOST 1048576: true; the input reads as it did. -/
def avlTellsUptoRow : OpenClaim := { program := "ytapedlmbikadmaa", sum := "f160c149ff4433c44fd0eea85d9df285e414db96ba8a8b48aaef4fa183462b88", func := "wattlework/wattleworklaw2.AvlTells", spec := "avlTells", unfollowed := true, recurses := true, apart := false, narrowed := true }
def AvlTellsUptoSaid : Prop := avlTellsUptoRow.holds Try.pinned (OpenSpec.upto avlTellsSpec)

/-- 'wattleworklaw2.AvlActs', WHERE WHAT IT READS IS OF BULK AT MOST 1048576: true; the input reads as it did. -/
def avlActsUptoRow : OpenClaim := { program := "ytapedlmbikadmaa", sum := "f160c149ff4433c44fd0eea85d9df285e414db96ba8a8b48aaef4fa183462b88", func := "wattlework/wattleworklaw2.AvlActs", spec := "avlActs", unfollowed := true, recurses := true, apart := false, narrowed := true }
def AvlActsUptoSaid : Prop := avlActsUptoRow.holds Try.pinned (OpenSpec.upto avlActsSpec)

/-- 'wattleworklaw2.AvlEven', WHERE WHAT IT READS IS OF BULK AT MOST 1048576: true; the input reads as it did. -/
def avlEvenUptoRow : OpenClaim := { program := "ytapedlmbikadmaa", sum := "f160c149ff4433c44fd0eea85d9df285e414db96ba8a8b48aaef4fa183462b88", func := "wattlework/wattleworklaw2.AvlEven", spec := "avlEven", unfollowed := true, recurses := true, apart := false, narrowed := true }
def AvlEvenUptoSaid : Prop := avlEvenUptoRow.holds Try.pinned (OpenSpec.upto avlEvenSpec)

/-- 'wattleworklaw2.AvlFew', WHERE WHAT IT READS IS OF BULK AT MOST 1048576: true; the input reads as it did. -/
def avlFewUptoRow : OpenClaim := { program := "ytapedlmbikadmaa", sum := "f160c149ff4433c44fd0eea85d9df285e414db96ba8a8b48aaef4fa183462b88", func := "wattlework/wattleworklaw2.AvlFew", spec := "avlFew", unfollowed := true, recurses := true, apart := false, narrowed := true }
def AvlFewUptoSaid : Prop := avlFewUptoRow.holds Try.pinned (OpenSpec.upto avlFewSpec)

/-- 'wattleworklaw6.AvlOwn', WHERE WHAT IT READS IS OF BULK AT MOST 1048576: true; the input reads as it did. -/
def avlOwnUptoRow : OpenClaim := { program := "ytapedlmbikadmaa", sum := "f160c149ff4433c44fd0eea85d9df285e414db96ba8a8b48aaef4fa183462b88", func := "wattlework/wattleworklaw6.AvlOwn", spec := "avlOwn", unfollowed := true, recurses := true, apart := false, narrowed := true }
def AvlOwnUptoSaid : Prop := avlOwnUptoRow.holds Try.pinned (OpenSpec.upto avlOwnSpec)

end Rows
end Go.Proofs.Ytapedlmbikadmaa
