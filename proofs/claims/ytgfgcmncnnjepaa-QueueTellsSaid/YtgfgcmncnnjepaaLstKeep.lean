/- Package list: the functions that are handed a function. -/
import Derived.Test.YtgfgcmncnnjepaaLstRev
namespace Go.Proofs.Ytgfgcmncnnjepaa.lst
open Go Go.RowKit Go.Shelf
attribute [local go_sem] Oper.semAt_some

/-- a function value that, wherever it is called later on, gives back this of a number -/
def Fn1 (w : World) (fv : Value) (F : Int → Value) : Prop :=
  ∃ k cap, fv = .func (.func k) #[] cap ∧ (∀ args w, (callFunc k args).run Try.prog w = .ok (.enter k args) w) ∧ ∀ x w', Below w.heap.size w w' → Calls Try.prog k (#[.int .i64 x] ++ cap) w' fun e w'' => e = .returned (F x) ∧ Below w'.heap.size w' w''
theorem Fn1.on {w w' : World} {fv : Value} {F : Int → Value} (h : Fn1 w fv F) (hb : Below w.heap.size w w') : Fn1 w' fv F := by
  obtain ⟨k, cap, he, eg, hc⟩ := h
  exact ⟨k, cap, he, eg, fun x w2 h2 => hc x w2 (hb.trans (h2.mono hb.size))⟩

/-- a function value of two numbers -/
def Fn2 (w : World) (fv : Value) (F : Int → Int → Int) : Prop :=
  ∃ k cap, fv = .func (.func k) #[] cap ∧ (∀ args w, (callFunc k args).run Try.prog w = .ok (.enter k args) w) ∧ ∀ z x w', Below w.heap.size w w' → Calls Try.prog k (#[.int .i64 z, .int .i64 x] ++ cap) w' fun e w'' => e = .returned (.int .i64 (F z x)) ∧ Below w'.heap.size w' w''
theorem Fn2.on {w w' : World} {fv : Value} {F : Int → Int → Int} (h : Fn2 w fv F) (hb : Below w.heap.size w w') : Fn2 w' fv F := by
  obtain ⟨k, cap, he, eg, hc⟩ := h
  exact ⟨k, cap, he, eg, fun z x w2 h2 => hc z x w2 (hb.trans (h2.mono hb.size))⟩

end Go.Proofs.Ytgfgcmncnnjepaa.lst
