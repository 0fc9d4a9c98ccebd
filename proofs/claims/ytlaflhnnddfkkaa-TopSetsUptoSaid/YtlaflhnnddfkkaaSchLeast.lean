/- Package search: Least. -/
import Derived.Test.YtlaflhnnddfkkaaSchHas
namespace Go.Proofs.Ytlaflhnnddfkkaa.sch
open Go Go.RowKit

set_option maxHeartbeats 4000000 in
theorem least_any {t : Tr} {p : Option Addr} {z : Int} {w : World} (h : Nod w.heap.size w t p) (hz : (keys t).head? = some z) :
    Calls Try.prog 63 #[.pointer p] w fun e w' => e = .returned (.int .i64 z) ∧ Below w.heap.size w w' := by
  go_enter Try.func63, Try.ntmps63
  go_wp2_with fail
  go_loopg [0] (keys t).length (fun k v W' => ∃ (t' : Tr) (p' : Option Addr), v = .pointer p' ∧ Nod w.heap.size w t' p' ∧ (keys t').head? = some z ∧ k = (keys t').length ∧ Below w.heap.size w W')
  case atStart => exact ⟨t, p, rfl, h, hz, rfl, Below.refl _ _⟩
  case round =>
    clear h hz
    obtain ⟨t', p', rfl, hn, hz, hk, hb⟩ := hrel
    rcases t' with _ | ⟨y, m, l, r⟩
    · simp [keys] at hz
    · obtain ⟨g, c, d, rfl, hg, hv, hl, hrr⟩ := hn
      have c0 := (hb.cell (p := ⟨g, 0, none⟩) hg).trans (hv.cell 0)
      have c2 := (hb.cell (p := ⟨g, 2, none⟩) hg).trans (hv.cell 2)
      simp only [List.getElem?_cons_zero, List.getElem?_cons_succ] at c0 c2
      have hg2 := Nat.lt_of_lt_of_le hg hb.size
      simp only [keys] at hz hk
      rw [List.length_append, List.length_cons] at hk
      rcases l with _ | ⟨y2, m2, l2, r2⟩
      · obtain rfl : c = none := hl
        obtain rfl : y = z := by simpa [keys] using hz
        clear hz hk hv hrr
        go_wp2_with fail
        go_ret
        exact ⟨rfl, hb⟩
      · have hl0 := hl
        obtain ⟨h, c', d', rfl, -⟩ := hl
        have hz2 : (keys (.node y2 m2 l2 r2)).head? = some z := by
          rw [← hz]
          simp only [keys, List.append_assoc, List.cons_append]
          cases keys l2 <;> rfl
        have hd := Lib.hid (show (keys (.node y2 m2 l2 r2)).length < gk from by omega)
        clear hz hk hv hrr
        go_wp2_with fail
        go_roundg (keys (.node y2 m2 l2 r2)).length
        case measure => exact hd.out
        case rel => exact ⟨_, _, rfl, hl0, hz2, rfl, hb⟩
end Go.Proofs.Ytlaflhnnddfkkaa.sch
