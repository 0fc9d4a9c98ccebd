/- Package bino: what the walks of the laws ask alike. -/
import Derived.Test.YtdbipbmdpgccnaaBinoOf
import Derived.Test.YtdbipbmdpgccnaaBinoInts
import Derived.Test.YtdbipbmdpgccnaaInts
namespace Go.Proofs.Ytdbipbmdpgccnaa.bin
open Go Go.RowKit
theorem st {w W W' : World} (h : Below w.heap.size w W) (h' : Below W.heap.size W W') : Below w.heap.size w W' := h.trans (h'.mono h.size)

/-- a heap of one number -/
theorem of_five (w : World) : Calls Try.prog 8 #[.slice (some ⟨w.heap.size, 0, none⟩) 1 1] (w.alloc (.cells #[.int .i64 5] 3)) fun e w' => (∃ q, e = .returned (rv q) ∧ IsHeap w' w'.heap.size (rv q) [5]) ∧ Below w.heap.size w w' :=
  (of_any (hp.IsInts.of_owns (hp.row_one w 5) rfl (by decide)) (by decide)).mono fun _ _ ⟨h, hb⟩ => ⟨h, st ((Below.refl _ _).alloc (Nat.le_refl _) _) hb⟩
theorem lit2 (w : World) : hp.IsInts (w.alloc (.cells #[.int .i64 5, .int .i64 3] 3)) (w.alloc (.cells #[.int .i64 5, .int .i64 3] 3)).heap.size (.slice (some ⟨w.heap.size, 0, none⟩) 2 2) [5, 3] := by
  refine ⟨_, 2, rfl, ⟨(fun h => by cases h), by simp⟩, by simp, by decide, fun _ => ⟨w.heap.size, 0, rfl, by simp, fun k hk => ?_⟩⟩
  have h2 := (hp.Blk.new w [.int .i64 5, .int .i64 3] 3)
  match k, hk with
  | 0, _ => exact h2.cell 0
  | 1, _ => exact h2.cell 1
theorem of_two (w : World) : Calls Try.prog 8 #[.slice (some ⟨w.heap.size, 0, none⟩) 2 2] (w.alloc (.cells #[.int .i64 5, .int .i64 3] 3)) fun e w' => (∃ q, e = .returned (rv q) ∧ IsHeap w' w'.heap.size (rv q) [5, 3]) ∧ Below w.heap.size w w' :=
  (of_any (lit2 w) (by decide)).mono fun _ _ ⟨h, hb⟩ => ⟨h, st ((Below.refl _ _).alloc (Nat.le_refl _) _) hb⟩
theorem srt_two : srt [5, 3] = [3, 5] := srt_of (by simp) (List.Perm.swap _ _ _)

set_option maxHeartbeats 4000000 in
/-- the law's own case -/
theorem binoed_any (w : World) : Calls Try.prog 7 #[] w fun e w' => e = .returned (.bool true) ∧ Below w.heap.size w w' := by
  have K := Below.refl w.heap.size w
  go_enter Try.func7, Try.ntmps7
  go_wp2_with (first
    | (go_at_call 8; with_reducible refine (of_two _).mono ?_; rintro e w1 ⟨⟨q1, rfl, hL⟩, hb⟩; replace K := st K hb; clear hb)
    | (go_at_call 17; with_reducible refine (pop_cons hL srt_two (by decide)).mono ?_; clear hL; rintro e w2 ⟨⟨q2, rfl, hL⟩, hb⟩; replace K := st (st K hb) ((Below.refl _ _).alloc (Nat.le_refl _) (.cells #[.pointer q2] tyH)); replace hL := hL.on ((Below.refl _ _).alloc (Nat.le_refl _) (.cells #[.pointer q2] tyH)); clear hb)
    | (go_at_call 15; with_reducible refine (len_any _ _ _ hL (by decide)).mono ?_; clear hL; rintro e w3 ⟨rfl, hb⟩; replace K := st K hb; clear hb))
  go_ret
  exact ⟨rfl, K⟩
end Go.Proofs.Ytdbipbmdpgccnaa.bin
