/- Package search: Has. -/
import Derived.Test.YtlaflhnnddfkkaaSch
namespace Go.Proofs.Ytlaflhnnddfkkaa.sch
open Go Go.RowKit

set_option maxHeartbeats 4000000 in
theorem has_raw {t : Tr} {p : Option Addr} {x : Int} {w : World} {b : Bool} (h : Nod w.heap.size w t p) (ha : Asc (keys t)) (hr : b = decide (x ∈ keys t)) :
    Calls Try.prog 45 #[.pointer p, .int .i64 x] w fun e w' => e = .returned (.bool b) ∧ Below w.heap.size w w' := by
  go_enter Try.func45, Try.ntmps45
  go_wp2_with fail
  go_loopg [0] (keys t).length (fun k v W' => ∃ (t' : Tr) (p' : Option Addr), v = .pointer p' ∧ Nod w.heap.size w t' p' ∧ Asc (keys t') ∧ b = decide (x ∈ keys t') ∧ k = (keys t').length ∧ Below w.heap.size w W')
  case atStart => exact ⟨t, p, rfl, h, ha, hr, rfl, Below.refl _ _⟩
  case round =>
    clear h ha hr
    obtain ⟨t', p', rfl, hn, ha, hr, hk, hb⟩ := hrel
    rcases t' with _ | ⟨y, m, l, r⟩
    · obtain rfl : p' = none := hn
      have hr2 : b = false := by simpa [keys] using hr
      subst hr2
      clear hr ha hk
      go_wp2_with fail
      go_ret
      exact ⟨rfl, hb⟩
    · obtain ⟨g, c, d, rfl, hg, hv, hl, hrr⟩ := hn
      have c0 := (hb.cell (p := ⟨g, 0, none⟩) hg).trans (hv.cell 0)
      have c2 := (hb.cell (p := ⟨g, 2, none⟩) hg).trans (hv.cell 2)
      have c3 := (hb.cell (p := ⟨g, 3, none⟩) hg).trans (hv.cell 3)
      simp only [List.getElem?_cons_zero, List.getElem?_cons_succ] at c0 c2 c3
      have hg2 := Nat.lt_of_lt_of_le hg hb.size
      simp only [keys] at ha hr hk
      rw [List.length_append, List.length_cons] at hk
      by_cases hxy : y = x
      · subst hxy
        have hr2 : b = true := by rw [hr]; simp
        subst hr2
        clear hr ha hk hv hl hrr
        go_wp2_with fail
        go_ret
        exact ⟨rfl, hb⟩
      · obtain ⟨ha1, ha2, -, -⟩ := asc_node.1 ha
        by_cases hlt : x < y
        · have hr2 : b = decide (x ∈ keys l) := by rw [hr]; exact decide_eq_decide.2 (mem_left ha hlt)
          have hd := Lib.hid (show (keys l).length < gk ∧ b = decide (x ∈ keys l) from ⟨by omega, hr2⟩)
          clear hr hr2 ha hk hv hrr ha2
          go_wp2_with fail
          go_roundg (keys l).length
          case measure => exact hd.out.1
          case rel => exact ⟨l, c, rfl, hl, ha1, hd.out.2, rfl, hb⟩
        · have hr2 : b = decide (x ∈ keys r) := by rw [hr]; exact decide_eq_decide.2 (mem_right ha (by omega))
          have hd := Lib.hid (show (keys r).length < gk ∧ b = decide (x ∈ keys r) from ⟨by omega, hr2⟩)
          clear hr hr2 ha hk hv hl ha1
          go_wp2_with fail
          go_roundg (keys r).length
          case measure => exact hd.out.1
          case rel => exact ⟨r, d, rfl, hrr, ha2, hd.out.2, rfl, hb⟩

end Go.Proofs.Ytlaflhnnddfkkaa.sch
