/- Package splay: what the walks of the laws ask alike. -/
import Derived.Test.YtlaflhnnddfkkaaSplInts
import Derived.Test.YtlaflhnnddfkkaaInts
namespace Go.Proofs.Ytlaflhnnddfkkaa.spl
open Go Go.RowKit
open Go.Proofs.Ytlaflhnnddfkkaa.sch
theorem st {w W W' : World} (h : Below w.heap.size w W) (h' : Below W.heap.size W W') : Below w.heap.size w W' := h.trans (h'.mono h.size)

/-- Of, Put, Drop, the set by another name -/
theorem of_as {l K : List Int} (hK : uniq l = K) {v : Value} {w : World} (hv : hp.IsInts w w.heap.size v l) (hbd : l.length ≤ 17592186044416) :
    Calls Try.prog 22 #[v] w fun e w' => (∃ q, e = .returned (rv q K.length) ∧ IsSet w' w'.heap.size (rv q K.length) K) ∧ Below w.heap.size w w' := by
  subst hK
  exact of_any hv hbd
theorem put_as {l K : List Int} {x : Int} (hK : ins x l = K) {v : Value} {w : World} (hv : IsSet w w.heap.size v l) (hx : (Lit.int .i64 x).wf = true) (hbd : l.length ≤ 17592186044416) :
    Calls Try.prog 12 #[v, .int .i64 x] w fun e w' => (∃ q, e = .returned (rv q K.length) ∧ IsSet w' w'.heap.size (rv q K.length) K) ∧ Below w.heap.size w w' := by
  subst hK
  exact (set_put hv hx hbd).mono fun _ _ ⟨⟨q, he, hq⟩, hb⟩ => ⟨⟨q, he, hq.any⟩, hb⟩
theorem drop_as {l K : List Int} {x : Int} (hK : del x l = K) {v : Value} {w : World} (hv : IsSet w w.heap.size v l) (hx : (Lit.int .i64 x).wf = true) (hbd : l.length ≤ 17592186044416) :
    Calls Try.prog 10 #[v, .int .i64 x] w fun e w' => (∃ q, e = .returned (rv q K.length) ∧ IsSet w' w'.heap.size (rv q K.length) K) ∧ Below w.heap.size w w' := by
  subst hK
  exact set_drop hv hbd

/-- a set of one number -/
theorem of_five (w : World) : Calls Try.prog 22 #[.slice (some ⟨w.heap.size, 0, none⟩) 1 1] (w.alloc (.cells #[.int .i64 5] 3)) fun e w' => (∃ q, e = .returned (rv q 1) ∧ IsSet w' w'.heap.size (rv q 1) [5]) ∧ Below w.heap.size w w' :=
  (of_as (K := [5]) rfl (hp.IsInts.of_owns (hp.row_one w 5) rfl (by decide)) (by decide)).mono fun _ _ ⟨h, hb⟩ => ⟨h, st ((Below.refl _ _).alloc (Nat.le_refl _) _) hb⟩
theorem lit2 (w : World) : hp.IsInts (w.alloc (.cells #[.int .i64 5, .int .i64 3] 3)) (w.alloc (.cells #[.int .i64 5, .int .i64 3] 3)).heap.size (.slice (some ⟨w.heap.size, 0, none⟩) 2 2) [5, 3] := by
  refine ⟨_, 2, rfl, ⟨(fun h => by cases h), by simp⟩, by simp, by decide, fun _ => ⟨w.heap.size, 0, rfl, by simp, fun k hk => ?_⟩⟩
  have h2 := (hp.Blk.new w [.int .i64 5, .int .i64 3] 3)
  match k, hk with
  | 0, _ => exact h2.cell 0
  | 1, _ => exact h2.cell 1
theorem of_two (w : World) : Calls Try.prog 22 #[.slice (some ⟨w.heap.size, 0, none⟩) 2 2] (w.alloc (.cells #[.int .i64 5, .int .i64 3] 3)) fun e w' => (∃ q, e = .returned (rv q 2) ∧ IsSet w' w'.heap.size (rv q 2) [3, 5]) ∧ Below w.heap.size w w' :=
  (of_as (K := [3, 5]) (by decide) (lit2 w) (by decide)).mono fun _ _ ⟨h, hb⟩ => ⟨h, st ((Below.refl _ _).alloc (Nat.le_refl _) _) hb⟩
theorem len_two {q : Option Addr} {w : World} (hv : IsSet w w.heap.size (rv q 2) [3, 5]) : Calls Try.prog 17 #[.agg #[.pointer q, .int .i64 2]] w fun e w' => e = .returned (.int .i64 2) ∧ Below w.heap.size w w' := len_any (rv q 2) [3, 5] w hv
theorem has_three {q : Option Addr} {w : World} (hv : IsSet w w.heap.size (rv q 2) [3, 5]) : Calls Try.prog 18 #[.agg #[.pointer q, .int .i64 2], .int .i64 3] w fun e w' => e = .returned (.bool true) ∧ Below w.heap.size w w' := set_has hv (by decide)
theorem has_four {q : Option Addr} {w : World} (hv : IsSet w w.heap.size (rv q 2) [3, 5]) : Calls Try.prog 18 #[.agg #[.pointer q, .int .i64 2], .int .i64 4] w fun e w' => e = .returned (.bool false) ∧ Below w.heap.size w w' := set_has hv (by decide)

set_option maxHeartbeats 4000000 in
/-- the law's own case -/
theorem known_any (w : World) : Calls Try.prog 9 #[] w fun e w' => e = .returned (.bool true) ∧ Below w.heap.size w w' := by
  have K := Below.refl w.heap.size w
  go_enter Try.func9, Try.ntmps9
  go_wp2_with (first
    | (go_at_call 22; with_reducible refine (of_two _).mono ?_; rintro e w1 ⟨⟨q1, rfl, hL⟩, hb⟩; have hA := hp.Blk.new w1 [.pointer q1, .int .i64 2] tyH; replace K := st (st K hb) ((Below.refl _ _).alloc (Nat.le_refl _) (.cells #[.pointer q1, .int .i64 2] tyH)); replace hL := hL.on ((Below.refl _ _).alloc (Nat.le_refl _) (.cells #[.pointer q1, .int .i64 2] tyH)); clear hb)
    | (go_at_call 17; with_reducible refine (len_two hL).mono ?_; rintro e w3 ⟨rfl, hb⟩; replace K := st K hb; replace hL := hL.on hb; replace hA := hA.on hb; ((try clear cA eA); obtain ⟨cA, eA⟩ := (hA).cells2); clear hb)
    | (go_at_call 18; with_reducible refine (has_three hL).mono ?_; rintro e w3 ⟨rfl, hb⟩; replace K := st K hb; replace hL := hL.on hb; replace hA := hA.on hb; ((try clear cA eA); obtain ⟨cA, eA⟩ := (hA).cells2); clear hb)
    | (go_at_call 18; with_reducible refine (has_four hL).mono ?_; clear hL; rintro e w3 ⟨rfl, hb⟩; replace K := st K hb; clear hb))
  go_ret
  exact ⟨rfl, K⟩
end Go.Proofs.Ytlaflhnnddfkkaa.spl
