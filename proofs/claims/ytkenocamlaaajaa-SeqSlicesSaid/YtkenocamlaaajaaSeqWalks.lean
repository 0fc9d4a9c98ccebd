/- What the laws of sequences ask first. -/
import Derived.Test.YtkenocamlaaajaaSeqSlice
import Derived.Test.YtkenocamlaaajaaInts
namespace Go.Proofs.Ytkenocamlaaajaa.fin
open Go Go.RowKit Go.Proofs.Ytkenocamlaaajaa.mono

theorem _root_.Go.Proofs.Ytkenocamlaaajaa.hp.Blk.one {w : World} {g : Nat} {t : TypeId} {v : Value} (h : hp.Blk w g t [v]) : w.cell? ⟨g, 0, none⟩ = some v := h.cell 0
theorem row_two (w : World) (x y : Int) : (w.alloc (.cells #[.int .i64 x, .int .i64 y] 3)).ownsRow w.heap.size 3 1 (.slice (some ⟨w.heap.size, 0, none⟩) 2 2) 2 ([x, y].map (Value.int .i64)) :=
  ⟨by simp, .inr ⟨w.heap.size, 2, #[.int .i64 x, .int .i64 y], rfl, Nat.le_refl _, heap_alloc_new w _, Nat.le_refl _, by simp [maxLen], by simp, by simp⟩⟩
theorem sOf_53 (w : World) : Calls Try.prog 10 #[.slice (some ⟨w.heap.size, 0, none⟩) 2 2] (w.alloc (.cells #[.int .i64 5, .int .i64 3] 3)) fun e w' => (∃ u, e = .returned u ∧ IsT w' u [5, 3]) ∧ Below w.heap.size w w' := by
  refine (sOf _ [5, 3] _ (hp.IsInts.of_owns (row_two w 5 3) rfl (by decide)) (by decide)).mono fun e w' h => ⟨h.1, ?_⟩
  exact ((Below.refl _ _).alloc (Nat.le_refl _) _).trans (h.2.mono (by simp))

set_option maxRecDepth 100000 in
theorem placed_any (w : World) : Calls Try.prog 9 #[] w fun e w' => e = .returned (.bool true) ∧ Below w.heap.size w w' := by
  have A1 : ∀ W u, IsT W u [5, 3] → Calls Try.prog 11 #[u, .int .i64 1] W fun e w' => e = .returned (.tuple #[.int .i64 3, .bool true]) ∧ Below W.heap.size W w' := fun W u hu => at_yes (k := 1) hu (by decide) (by decide)
  go_enter Try.func9, Try.ntmps9
  go_wp2_with (first
    | (go_at_call 10; refine (sOf_53 _).mono ?_; rintro e wa ⟨⟨u, rfl, hu⟩, K⟩; (obtain ⟨p, rfl⟩ := hu.val); have hu1 := hu.on ((Below.refl _ _).alloc (Nat.le_refl _) (.cells #[.pointer p] 30)); have hA := hp.Blk.new wa [.pointer p] 30; have K1 := K.alloc K.size (.cells #[.pointer p] 30))
    | (go_at_call 11; (with_reducible refine (A1 _ _ hu1).mono ?_); rintro e wb ⟨rfl, hb⟩; have hu2 := hu1.on hb; have a0 := (hA.on hb).cell 0; simp only [List.getElem?_cons_zero] at a0; have K2 := K1.trans (hb.mono K1.size))
    | (go_at_call 23; (with_reducible refine (sLen hu2).mono ?_); rintro e wc ⟨rfl, hc⟩))
  go_ret
  exact ⟨rfl, K2.trans (hc.mono K2.size)⟩
end Go.Proofs.Ytkenocamlaaajaa.fin
