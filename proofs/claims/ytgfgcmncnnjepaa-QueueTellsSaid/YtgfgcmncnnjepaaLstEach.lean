/- Package list: what a function makes of each. -/
import Derived.Test.YtgfgcmncnnjepaaLstKeep
namespace Go.Proofs.Ytgfgcmncnnjepaa.lst
open Go Go.RowKit Go.Shelf
attribute [local go_sem] Oper.semAt_some

theorem blk_cells {W : World} {g : Nat} {t : TypeId} {v : Value} (h : hp.Blk W g t [v]) (j : Nat) (u : Value) (hj : [v][j]? = some u) : W.cell? ((⟨g, 0, none⟩ : Addr).add j) = some u := by
  have : (⟨g, 0, none⟩ : Addr).add j = ⟨g, j, none⟩ := by unfold Addr.add; split <;> simp_all
  rw [this, h.cell j, hj]

end Go.Proofs.Ytgfgcmncnnjepaa.lst
