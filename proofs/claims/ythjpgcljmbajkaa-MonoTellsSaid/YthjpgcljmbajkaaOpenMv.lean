/- A measure that comes in by value: five numbers. -/
import Derived.Test.YthjpgcljmbajkaaMono
import Derived.OpenShut
import Derived.ProofKit
import Derived.ChangeOld
namespace Go.Proofs.Ythjpgcljmbajkaa.mono
open Go.ChangeShapes Go.WideShapes Go.RowKit

theorem array5 {α : Type} {cs : Array α} (h : cs.size = 5) : ∃ c0 c1 c2 c3 c4, cs = #[c0, c1, c2, c3, c4] := by
  obtain ⟨l⟩ := cs
  match l, h with
  | [c0, c1, c2, c3, c4], _ => exact ⟨c0, c1, c2, c3, c4, rfl⟩

theorem int_field {H : Type} {enc : TypeId × Value → H} {W : World} {n : Nat} {c : Value} {xs : List (DataW H × List MemPlace)} {i : Nat} (hi : i < xs.length)
    (h : DataW.trod enc Try.prog W 0 (fun _ => true) true n 3 [c] = xs[i]?) : ∃ z, c = .int .i64 z ∧ (Lit.int .i64 z).wf = true := by
  rw [List.getElem?_eq_getElem hi] at h
  obtain ⟨z, hz, _, hw⟩ := DataW.trod_int Try.underlying3 h
  exact ⟨z, by simpa using hz, hw⟩

theorem open_mv {H : Type} {enc : TypeId × Value → H} {W : World} {base : Nat} {v : Value} {d : DataW H} {p : List MemPlace} (hval : Value.okWide Try.prog W .any base 24 v)
    (h : DataW.Trod enc Try.prog W 0 (fun _ => true) true 24 v d p) : ∃ n s lo hi k, v = mv n s lo hi k ∧ (Lit.int .i64 n).wf = true := by
  obtain ⟨cs, rfl, hsz⟩ := okWide_struct Try.underlying24 hval
  obtain ⟨c0, c1, c2, c3, c4, rfl⟩ := array5 (hsz.trans (show Try.prog.cellsOf 24 = 5 by kernel_rfl))
  obtain ⟨fuel, hf⟩ := h
  obtain ⟨xs, m, _, _, _, hl, hh⟩ := DataW.trod_struct Try.underlying24 hf
  have hl5 : xs.length = 5 := hl
  have hc : Try.prog.cellsOf 3 = 1 := by kernel_rfl
  have h0 : DataW.trod enc Try.prog W 0 (fun _ => true) true m 3 [c0] = xs[0]? := by simpa [Value.cells, hc] using hh 0 _ rfl
  have h1 : DataW.trod enc Try.prog W 0 (fun _ => true) true m 3 [c1] = xs[1]? := by simpa [Value.cells, hc] using hh 1 _ rfl
  have h2 : DataW.trod enc Try.prog W 0 (fun _ => true) true m 3 [c2] = xs[2]? := by simpa [Value.cells, hc] using hh 2 _ rfl
  have h3 : DataW.trod enc Try.prog W 0 (fun _ => true) true m 3 [c3] = xs[3]? := by simpa [Value.cells, hc] using hh 3 _ rfl
  have h4 : DataW.trod enc Try.prog W 0 (fun _ => true) true m 3 [c4] = xs[4]? := by simpa [Value.cells, hc] using hh 4 _ rfl
  obtain ⟨z0, rfl, w0⟩ := int_field (by omega) h0
  obtain ⟨z1, rfl, _⟩ := int_field (by omega) h1
  obtain ⟨z2, rfl, _⟩ := int_field (by omega) h2
  obtain ⟨z3, rfl, _⟩ := int_field (by omega) h3
  obtain ⟨z4, rfl, _⟩ := int_field (by omega) h4
  exact ⟨z0, z1, z2, z3, z4, rfl, w0⟩
end Go.Proofs.Ythjpgcljmbajkaa.mono
