/- Contracts of package skew's Check and Value. -/
import Derived.Test.YthnfcmjlpimnoaaSkFns
namespace Go.Proofs.Ythnfcmjlpimnoaa.sk
open Go Go.RowKit

/-- an error of package api as a value -/
abbrev err (n : Int) : Value := .iface 57 (.int .i64 n)
/-- what Check tells of the numbers -/
def Tells (l : List Int) (e : Value) : Prop := (Ok l ∧ e = .nilIface) ∨ (¬ Ok l ∧ e = err 3)
theorem tells_any (l : List Int) : ∃ e, Tells l e := by
  by_cases h : Ok l
  · exact ⟨_, .inl ⟨h, rfl⟩⟩
  · exact ⟨_, .inr ⟨h, rfl⟩⟩
theorem Tells.ok {l : List Int} {e : Value} (h : Tells l e) (hk : Ok l) : e = .nilIface := by
  rcases h with h | h
  · exact h.2
  · exact absurd hk h.1
theorem Tells.bad {l : List Int} {e : Value} (h : Tells l e) (hk : ¬ Ok l) : e = err 3 := by
  rcases h with h | h
  · exact absurd h.1 hk
  · exact h.2

end Go.Proofs.Ythnfcmjlpimnoaa.sk
