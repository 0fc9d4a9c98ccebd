/- What the laws of finger trees ask first. -/
import Derived.Test.YteolbbdokhmjgaaFinTree
import Derived.Test.YteolbbdokhmjgaaInts
namespace Go.Proofs.Yteolbbdokhmjgaa.fin
open Go Go.RowKit Go.Proofs.Yteolbbdokhmjgaa.mono

theorem row_two (w : World) (x y : Int) : (w.alloc (.cells #[.int .i64 x, .int .i64 y] 3)).ownsRow w.heap.size 3 1 (.slice (some ⟨w.heap.size, 0, none⟩) 2 2) 2 ([x, y].map (Value.int .i64)) :=
  ⟨by simp, .inr ⟨w.heap.size, 2, #[.int .i64 x, .int .i64 y], rfl, Nat.le_refl _, heap_alloc_new w _, Nat.le_refl _, by simp [maxLen], by simp, by simp⟩⟩
theorem of_53 (w : World) : Calls Try.prog 19 #[.slice (some ⟨w.heap.size, 0, none⟩) 2 2] (w.alloc (.cells #[.int .i64 5, .int .i64 3] 3)) fun e w' => (∃ u, e = .returned u ∧ IsT w' u [5, 3]) ∧ Below w.heap.size w w' := by
  refine (of_any _ [5, 3] _ (hp.IsInts.of_owns (row_two w 5 3) rfl (by decide)) (by decide)).mono fun e w' h => ⟨h.1, ?_⟩
  exact ((Below.refl _ _).alloc (Nat.le_refl _) _).trans (h.2.mono (by simp))

set_option maxRecDepth 100000 in
theorem fingered_any (w : World) : Calls Try.prog 9 #[] w fun e w' => e = .returned (.bool true) ∧ Below w.heap.size w w' := by
  have hfd := field_len 1 [5]
  go_enter Try.func9, Try.ntmps9
  go_wp2_with (first
    | (go_at_call 19; refine (of_53 _).mono ?_; rintro e wa ⟨⟨u, rfl, hu⟩, K⟩; (obtain ⟨p, rfl⟩ := hu.val); have hu1 := hu.on ((Below.refl _ _).alloc (Nat.le_refl _) (.cells #[.pointer p] 28)); have K1 := K.alloc K.size (.cells #[.pointer p] 28))
    | (go_at_call 14; (with_reducible refine (popRight (l := [5]) (x := 3) [5, 3] hu1 rfl (by decide)).mono ?_); rintro e wb ⟨⟨q, rfl, hq⟩, hb⟩; have K2 := K1.trans (hb.mono K1.size); have hq1 := hq.on ((Below.refl _ _).alloc (Nat.le_refl _) (.cells #[.pointer q] 28)); have K3 := K2.alloc K2.size (.cells #[.pointer q] 28))
    | (go_at_call 17; (with_reducible refine (measure_any hq1).mono ?_); rintro e wc ⟨rfl, hc⟩))
  go_ret
  exact ⟨rfl, K3.trans (hc.mono K3.size)⟩
end Go.Proofs.Yteolbbdokhmjgaa.fin
