/- Contracts of package skew's Inc and Dec, and of the document's example. -/
import Derived.Test.YtokfogeplifedaaDoorSkDigits
import Derived.Lib.MinMax
namespace Go.Proofs.YtokfogeplifedaaDoor.sk
open Go Go.RowKit

theorem moved_any {v : Value} {l : List Int} {w : World} {c : Int} (hv : hp.IsInts w w.heap.size v l) (hl : Ok l) (hc : c = 1 ∨ c = -1) (h1 : 0 ≤ sum l + c) (h2 : sum l + c ≤ 1099511627776) :
    Calls Tryd.prog 18 #[v, .int .i64 c] w fun e w' => (∃ u t, e = .returned (.tuple #[u, .nilIface]) ∧ hp.IsInts w' w'.heap.size u t ∧ Ok t ∧ sum t = sum l + c) ∧ Below w.heap.size w w' := by
  have s1 := hl.nonneg
  have s2 := hl.le
  have hval := value_ok hv hl
  generalize hs : sum l = s at *
  clear hs
  replace hv := Lib.hid hv
  go_enter Tryd.func18, Tryd.ntmps18
  go_wp2_with (first
    | (go_at_call 9; refine hval.mono ?_; rintro e wa ⟨rfl, hba⟩)
    | (go_at_call 14; refine (digits_any h1 h2).mono ?_; rintro e wb ⟨⟨u, t, rfl, hu, ht, hts⟩, hbb⟩))
  go_ret2
  exact ⟨⟨u, t, rfl, hu, ht, hts⟩, hba.trans (hbb.mono hba.size)⟩

theorem moved_out {v : Value} {l : List Int} {w : World} {c : Int} (hv : hp.IsInts w w.heap.size v l) (hl : Ok l) (hc : c = 1 ∨ c = -1) (h : sum l + c < 0 ∨ 1099511627776 < sum l + c) :
    Calls Tryd.prog 18 #[v, .int .i64 c] w fun e w' => e = .returned (.tuple #[.slice none 0 0, err 1]) ∧ Below w.heap.size w w' := by
  have s1 := hl.nonneg
  have s2 := hl.le
  have hval := value_ok hv hl
  have hdig := fun W => digits_bad (w := W) h
  replace h := Lib.hid h
  generalize hs : sum l = s at *
  clear hs
  replace hv := Lib.hid hv
  go_enter Tryd.func18, Tryd.ntmps18
  go_wp2_with (first
    | (go_at_call 9; refine hval.mono ?_; rintro e wa ⟨rfl, hba⟩)
    | (go_at_call 14; refine (hdig _).mono ?_; rintro e wb ⟨rfl, hbb⟩))
  go_ret2
  exact ⟨rfl, hba.trans (hbb.mono hba.size)⟩

theorem moved_bad {v : Value} {l : List Int} {w : World} {c : Int} (hv : hp.IsInts w w.heap.size v l) (hl : ¬ Ok l) :
    Calls Tryd.prog 18 #[v, .int .i64 c] w fun e w' => e = .returned (.tuple #[.slice none 0 0, err 3]) ∧ Below w.heap.size w w' := by
  have hval := value_bad hv hl
  replace hv := Lib.hid hv
  go_enter Tryd.func18, Tryd.ntmps18
  go_wp2_with (go_at_call 9; refine hval.mono ?_; rintro e wa ⟨rfl, hba⟩)
  go_ret2
  exact ⟨rfl, hba⟩

theorem inc_any {v : Value} {l : List Int} {w : World} (hv : hp.IsInts w w.heap.size v l) (hl : Ok l) (h2 : sum l + 1 ≤ 1099511627776) :
    Calls Tryd.prog 11 #[v] w fun e w' => (∃ u t, e = .returned (.tuple #[u, .nilIface]) ∧ hp.IsInts w' w'.heap.size u t ∧ Ok t ∧ sum t = sum l + 1) ∧ Below w.heap.size w w' := by
  have h1 : 0 ≤ sum l + 1 := by have := hl.nonneg; omega
  go_enter Tryd.func11, Tryd.ntmps11
  go_wp2_with (go_at_call 18; refine (moved_any hv hl (.inl rfl) h1 h2).mono ?_; rintro e wb ⟨⟨u, t, rfl, hu, ht, hts⟩, hbb⟩)
  go_ret2
  exact ⟨⟨u, t, rfl, hu, ht, hts⟩, hbb⟩
theorem inc_out {v : Value} {l : List Int} {w : World} (hv : hp.IsInts w w.heap.size v l) (hl : Ok l) (h2 : 1099511627776 < sum l + 1) :
    Calls Tryd.prog 11 #[v] w fun e w' => e = .returned (.tuple #[.slice none 0 0, err 1]) ∧ Below w.heap.size w w' := by
  go_enter Tryd.func11, Tryd.ntmps11
  go_wp2_with (go_at_call 18; refine (moved_out hv hl (.inl rfl) (.inr h2)).mono ?_; rintro e wb ⟨rfl, hbb⟩)
  go_ret2
  exact ⟨rfl, hbb⟩
theorem inc_bad {v : Value} {l : List Int} {w : World} (hv : hp.IsInts w w.heap.size v l) (hl : ¬ Ok l) :
    Calls Tryd.prog 11 #[v] w fun e w' => e = .returned (.tuple #[.slice none 0 0, err 3]) ∧ Below w.heap.size w w' := by
  go_enter Tryd.func11, Tryd.ntmps11
  go_wp2_with (go_at_call 18; refine (moved_bad hv hl).mono ?_; rintro e wb ⟨rfl, hbb⟩)
  go_ret2
  exact ⟨rfl, hbb⟩
theorem dec_any {v : Value} {l : List Int} {w : World} (hv : hp.IsInts w w.heap.size v l) (hl : Ok l) (h1 : 1 ≤ sum l) (h2 : sum l ≤ 1099511627777) :
    Calls Tryd.prog 13 #[v] w fun e w' => (∃ u t, e = .returned (.tuple #[u, .nilIface]) ∧ hp.IsInts w' w'.heap.size u t ∧ Ok t ∧ sum t = sum l + -1) ∧ Below w.heap.size w w' := by
  have g1 : 0 ≤ sum l + -1 := by omega
  have g2 : sum l + -1 ≤ 1099511627776 := by omega
  clear h1 h2
  go_enter Tryd.func13, Tryd.ntmps13
  go_wp2_with (go_at_call 18; refine (moved_any hv hl (.inr rfl) g1 g2).mono ?_; rintro e wb ⟨⟨u, t, rfl, hu, ht, hts⟩, hbb⟩)
  go_ret2
  exact ⟨⟨u, t, rfl, hu, ht, hts⟩, hbb⟩
theorem dec_out {v : Value} {l : List Int} {w : World} (hv : hp.IsInts w w.heap.size v l) (hl : Ok l) (h : sum l < 1 ∨ 1099511627777 < sum l) :
    Calls Tryd.prog 13 #[v] w fun e w' => e = .returned (.tuple #[.slice none 0 0, err 1]) ∧ Below w.heap.size w w' := by
  have g : sum l + -1 < 0 ∨ 1099511627776 < sum l + -1 := by omega
  clear h
  go_enter Tryd.func13, Tryd.ntmps13
  go_wp2_with (go_at_call 18; refine (moved_out hv hl (.inr rfl) g).mono ?_; rintro e wb ⟨rfl, hbb⟩)
  go_ret2
  exact ⟨rfl, hbb⟩
theorem dec_bad {v : Value} {l : List Int} {w : World} (hv : hp.IsInts w w.heap.size v l) (hl : ¬ Ok l) :
    Calls Tryd.prog 13 #[v] w fun e w' => e = .returned (.tuple #[.slice none 0 0, err 3]) ∧ Below w.heap.size w w' := by
  go_enter Tryd.func13, Tryd.ntmps13
  go_wp2_with (go_at_call 18; refine (moved_bad hv hl).mono ?_; rintro e wb ⟨rfl, hbb⟩)
  go_ret2
  exact ⟨rfl, hbb⟩

theorem lit3 (w : World) (a b c : Int) (ha : (Lit.int .i64 a).wf = true) (hb : (Lit.int .i64 b).wf = true) (hc : (Lit.int .i64 c).wf = true) : hp.IsInts (w.alloc (.cells #[.int .i64 a, .int .i64 b, .int .i64 c] 3)) (w.alloc (.cells #[.int .i64 a, .int .i64 b, .int .i64 c] 3)).heap.size (.slice (some ⟨w.heap.size, 0, none⟩) 3 3) [a, b, c] := by
  refine ⟨_, 3, rfl, ⟨(fun h => by cases h), by simp⟩, by simp, by simp [ha, hb, hc], fun _ => ⟨w.heap.size, 0, rfl, by simp, fun k hk => ?_⟩⟩
  have h2 := (hp.Blk.new w [.int .i64 a, .int .i64 b, .int .i64 c] 3)
  match k, hk with
  | 0, _ => exact h2.cell 0
  | 1, _ => exact h2.cell 1
  | 2, _ => exact h2.cell 2

theorem five : Ok [1, 1, 3] := by
  have h1 : IsD 1 := by have := IsD.at (show 0 < 1 by omega) (show 1 ≤ 40 by omega); exact this
  have h3 : IsD 3 := by have := IsD.at (show 0 < 2 by omega) (show 2 ≤ 40 by omega); exact this
  intro i hi
  unfold OkAt
  match i, hi with
  | 0, _ => exact ⟨h1, .inl rfl⟩
  | 1, _ => exact ⟨h1, .inr (.inr ⟨rfl, rfl⟩)⟩
  | 2, _ => exact ⟨h3, .inr (.inl (by decide))⟩

theorem skewed_any (w : World) : Calls Tryd.prog 4 #[] w fun e w' => e = .returned (.bool true) ∧ Below w.heap.size w w' := by
  go_enter Tryd.func4, Tryd.ntmps4
  go_wp2_with (first
    | (go_at_call 14; refine (digits_any (by omega) (by omega)).mono ?_; rintro e wb ⟨⟨u, t, rfl, hu, ht, hts⟩, hbb⟩; obtain rfl := ht.one _ five (hts.trans rfl); clear ht hts)
    | (go_at_call 12; have hb2 : Below wb.heap.size wb (wb.alloc (.cells #[.int .i64 1, .int .i64 1, .int .i64 3] 3)) := (Below.refl _ _).alloc (Nat.le_refl _) _; refine (same.ints_eq rfl (hu.on hb2) (lit3 _ _ _ _ (by decide) (by decide) (by decide))).mono ?_; rintro e wc ⟨rfl, hbc⟩))
  go_ret
  exact ⟨rfl, hbb.trans (((hb2.trans (hbc.mono hb2.size))).mono hbb.size)⟩
end Go.Proofs.YtokfogeplifedaaDoor.sk
