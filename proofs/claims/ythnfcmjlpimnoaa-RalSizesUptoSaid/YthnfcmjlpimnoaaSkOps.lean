/- Contracts of package skew's Inc and Dec, and of the document's example. -/
import Derived.Test.YthnfcmjlpimnoaaSkDigits
import Derived.Lib.MinMax
namespace Go.Proofs.Ythnfcmjlpimnoaa.sk
open Go Go.RowKit

theorem lit3 (w : World) (a b c : Int) (ha : (Lit.int .i64 a).wf = true) (hb : (Lit.int .i64 b).wf = true) (hc : (Lit.int .i64 c).wf = true) : hp.IsInts (w.alloc (.cells #[.int .i64 a, .int .i64 b, .int .i64 c] 3)) (w.alloc (.cells #[.int .i64 a, .int .i64 b, .int .i64 c] 3)).heap.size (.slice (some ⟨w.heap.size, 0, none⟩) 3 3) [a, b, c] := by
  refine ⟨_, 3, rfl, ⟨(fun h => by cases h), by simp⟩, by simp, by simp [ha, hb, hc], fun _ => ⟨w.heap.size, 0, rfl, by simp, fun k hk => ?_⟩⟩
  have h2 := (hp.Blk.new w [.int .i64 a, .int .i64 b, .int .i64 c] 3)
  match k, hk with
  | 0, _ => exact h2.cell 0
  | 1, _ => exact h2.cell 1
  | 2, _ => exact h2.cell 2

theorem five : Ok [1, 1, 3] := by
  have h1 : IsD 1 := by have := IsD.at (show 0 < 1 by omega) (show 1 ≤ 40 by omega); exact this
  have h3 : IsD 3 := by have := IsD.at (show 0 < 2 by omega) (show 2 ≤ 40 by omega); exact this
  intro i hi
  unfold OkAt
  match i, hi with
  | 0, _ => exact ⟨h1, .inl rfl⟩
  | 1, _ => exact ⟨h1, .inr (.inr ⟨rfl, rfl⟩)⟩
  | 2, _ => exact ⟨h3, .inr (.inl (by decide))⟩

theorem skewed_any (w : World) : Calls Try.prog 16 #[] w fun e w' => e = .returned (.bool true) ∧ Below w.heap.size w w' := by
  go_enter Try.func16, Try.ntmps16
  go_wp2_with (first
    | (go_at_call 17; refine (digits_any (by omega) (by omega)).mono ?_; rintro e wb ⟨⟨u, t, rfl, hu, ht, hts⟩, hbb⟩; obtain rfl := ht.one _ five (hts.trans rfl); clear ht hts)
    | (go_at_call 8; have hb2 : Below wb.heap.size wb (wb.alloc (.cells #[.int .i64 1, .int .i64 1, .int .i64 3] 3)) := (Below.refl _ _).alloc (Nat.le_refl _) _; refine (same.ints_eq rfl (hu.on hb2) (lit3 _ _ _ _ (by decide) (by decide) (by decide))).mono ?_; rintro e wc ⟨rfl, hbc⟩))
  go_ret
  exact ⟨rfl, hbb.trans (((hb2.trans (hbc.mono hb2.size))).mono hbb.size)⟩
end Go.Proofs.Ythnfcmjlpimnoaa.sk
