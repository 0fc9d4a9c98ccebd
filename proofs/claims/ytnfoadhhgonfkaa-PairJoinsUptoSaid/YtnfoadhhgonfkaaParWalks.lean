/- Package pair: what the walks of the laws ask alike. -/
import Derived.Test.YtnfoadhhgonfkaaParOf
import Derived.Test.YtnfoadhhgonfkaaParInts
import Derived.Test.YtnfoadhhgonfkaaInts
namespace Go.Proofs.Ytnfoadhhgonfkaa.par
open Go Go.RowKit
open Go.Proofs.Ytnfoadhhgonfkaa.bin (srt srt_perm srt_len srt_rises rises_one srt_eq srt_of)
theorem st {w W W' : World} (h : Below w.heap.size w W) (h' : Below W.heap.size W W') : Below w.heap.size w W' := h.trans (h'.mono h.size)

/-- Join, the list of both by another name -/
theorem join_as {l m R : List Int} (hR : l ++ m = R) (hbd : l.length + m.length < 4611686018427387900) (W : World) (u v : Value) (hu : IsHeap W W.heap.size u l) (hv : IsHeap W W.heap.size v m) :
    Calls Try.prog 10 #[u, v] W fun e w' => (∃ q, e = .returned (rv q R.length) ∧ IsHeap w' w'.heap.size (rv q R.length) R) ∧ Below W.heap.size W w' := by
  subst hR
  exact heap_join hu hv hbd

/-- a heap of one number -/
theorem of_five (w : World) : Calls Try.prog 8 #[.slice (some ⟨w.heap.size, 0, none⟩) 1 1] (w.alloc (.cells #[.int .i64 5] 3)) fun e w' => (∃ q, e = .returned (rv q 1) ∧ IsHeap w' w'.heap.size (rv q 1) [5]) ∧ Below w.heap.size w w' :=
  (of_any (hp.IsInts.of_owns (hp.row_one w 5) rfl (by decide)) (by decide)).mono fun _ _ ⟨h, hb⟩ => ⟨h, st ((Below.refl _ _).alloc (Nat.le_refl _) _) hb⟩
theorem lit2 (w : World) : hp.IsInts (w.alloc (.cells #[.int .i64 5, .int .i64 3] 3)) (w.alloc (.cells #[.int .i64 5, .int .i64 3] 3)).heap.size (.slice (some ⟨w.heap.size, 0, none⟩) 2 2) [5, 3] := by
  refine ⟨_, 2, rfl, ⟨(fun h => by cases h), by simp⟩, by simp, by decide, fun _ => ⟨w.heap.size, 0, rfl, by simp, fun k hk => ?_⟩⟩
  have h2 := (hp.Blk.new w [.int .i64 5, .int .i64 3] 3)
  match k, hk with
  | 0, _ => exact h2.cell 0
  | 1, _ => exact h2.cell 1
theorem of_two (w : World) : Calls Try.prog 8 #[.slice (some ⟨w.heap.size, 0, none⟩) 2 2] (w.alloc (.cells #[.int .i64 5, .int .i64 3] 3)) fun e w' => (∃ q, e = .returned (rv q 2) ∧ IsHeap w' w'.heap.size (rv q 2) [5, 3]) ∧ Below w.heap.size w w' :=
  (of_any (lit2 w) (by decide)).mono fun _ _ ⟨h, hb⟩ => ⟨h, st ((Below.refl _ _).alloc (Nat.le_refl _) _) hb⟩
theorem srt_two : srt [5, 3] = [3, 5] := srt_of (by simp) (List.Perm.swap _ _ _)

theorem pop_two {v : Value} {w : World} (hv : IsHeap w w.heap.size v [5, 3]) : Calls Try.prog 17 #[v] w fun e w' => (∃ q, e = .returned (.tuple #[.int .i64 3, rv q 1, .bool true]) ∧ IsHeap w' w'.heap.size (rv q 1) [5]) ∧ Below w.heap.size w w' := pop_cons hv srt_two (by decide)
theorem len_one {q : Option Addr} {w : World} (hv : IsHeap w w.heap.size (rv q 1) [5]) : Calls Try.prog 15 #[.agg #[.pointer q, .int .i64 1]] w fun e w' => e = .returned (.int .i64 1) ∧ Below w.heap.size w w' := len_any (rv q 1) [5] w hv

set_option maxHeartbeats 4000000 in
/-- the law's own case -/
theorem paired_any (w : World) : Calls Try.prog 7 #[] w fun e w' => e = .returned (.bool true) ∧ Below w.heap.size w w' := by
  have K := Below.refl w.heap.size w
  go_enter Try.func7, Try.ntmps7
  go_wp2_with (first
    | (go_at_call 8; with_reducible refine (of_two _).mono ?_; rintro e w1 ⟨⟨q1, rfl, hL⟩, hb⟩; replace K := st K hb; clear hb)
    | (go_at_call 17; with_reducible refine (pop_two hL).mono ?_; clear hL; rintro e w2 ⟨⟨q2, rfl, hL⟩, hb⟩; replace K := st (st K hb) ((Below.refl _ _).alloc (Nat.le_refl _) (.cells #[.pointer q2, .int .i64 1] tyH)); replace hL := hL.on ((Below.refl _ _).alloc (Nat.le_refl _) (.cells #[.pointer q2, .int .i64 1] tyH)); clear hb)
    | (go_at_call 15; with_reducible refine (len_one hL).mono ?_; clear hL; rintro e w3 ⟨rfl, hb⟩; replace K := st K hb; clear hb))
  go_ret
  exact ⟨rfl, K⟩
end Go.Proofs.Ytnfoadhhgonfkaa.par
