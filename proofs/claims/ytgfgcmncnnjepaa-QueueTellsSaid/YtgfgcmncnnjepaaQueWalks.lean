/- The walks of the laws on queues: what all of them ask first. -/
import Derived.Test.YtgfgcmncnnjepaaQueInts
import Derived.Lib.MinMax
namespace Go.Proofs.Ytgfgcmncnnjepaa.que
open Go Go.RowKit

theorem IsQ.vals {w : World} {B : Nat} {v : Value} {l : List Int} (h : IsQ w B v l) : ∃ p n q m, v = qv p n q m := by
  obtain ⟨p, q, F, K, hv, -⟩ := h
  exact ⟨p, _, q, _, hv⟩

/-- a variable of type Queue in block g, which reads as these numbers -/
def QAt (w : World) (g : Nat) (l : List Int) : Prop := ∃ p n q m, hp.Blk w g 29 [.pointer p, .int .i64 n, .pointer q, .int .i64 m] ∧ IsQ w w.heap.size (qv p n q m) l
theorem QAt.on {w w' : World} {g : Nat} {l : List Int} (h : QAt w g l) (hb : Below w.heap.size w w') : QAt w' g l := by
  obtain ⟨p, n, q, m, hB, hQ⟩ := h
  exact ⟨p, n, q, m, hB.on hb, hQ.on hb⟩

/-- Pop, whatever the queue -/
theorem pop_gen {v : Value} {l : List Int} {w : World} (hv : IsQ w w.heap.size v l) (hl : l.length < 35184372088832) :
    Calls Try.prog 8 #[v] w fun e w' => (∃ p n q m, e = .returned (.tuple #[.int .i64 (l.head?.getD 0), qv p n q m, .bool (decide (0 < (l.length : Int)))]) ∧ IsQ w' w'.heap.size (qv p n q m) l.tail) ∧ Below w.heap.size w w' := by
  cases l with
  | nil => exact (pop_nil hv).mono fun e w' ⟨he, hb⟩ => ⟨⟨none, 0, none, 0, by simpa using he, IsQ.nil _ _⟩, hb⟩
  | cons x l =>
    refine (pop_cons hv (by simp at hl; omega)).mono fun e w' ⟨⟨u, he, hu⟩, hb⟩ => ⟨?_, hb⟩
    obtain ⟨p, n, q, m, rfl⟩ := hu.vals
    have h1 : (0 : Int) < ((l.length : Int) + 1) := by omega
    exact ⟨p, n, q, m, by simpa [h1] using he, hu⟩

set_option maxHeartbeats 4000000 in
theorem queued_any (w : World) :
    Calls Try.prog 6 #[] w fun e w' => e = .returned (.bool true) ∧ Below w.heap.size w w' := by
  go_enter Try.func6, Try.ntmps6
  have hu0 := IsQ.nil (w.alloc (.cells #[.pointer none, .int .i64 0, .pointer none, .int .i64 0] 29)) (w.alloc (.cells #[.pointer none, .int .i64 0, .pointer none, .int .i64 0] 29)).heap.size
  have hB : Below w.heap.size w (w.alloc (.cells #[.pointer none, .int .i64 0, .pointer none, .int .i64 0] 29)) := (Below.refl _ _).alloc (Nat.le_refl _) _
  go_wp2_with (first
    | (go_at_call 7; refine (push_to rfl (by assumption) (by decide) (by decide)).mono ?_; rintro e wa ⟨⟨u, rfl, hu⟩, hb⟩; replace hB := hB.trans (hb.mono hB.size); obtain ⟨p1, n1, q1, m1, rfl⟩ := hu.vals)
    | (go_at_call 8; refine (pop_cons (x := 5) (l := [3]) hu (by decide)).mono ?_; rintro e wc ⟨⟨u, rfl, hu3⟩, hb⟩; replace hB := hB.trans (hb.mono hB.size); obtain ⟨p3, n3, q3, m3, rfl⟩ := hu3.vals)
    | (go_at_call 12; refine (len_any (hu3.on ((Below.refl _ _).alloc (Nat.le_refl _) _)) (by decide)).mono ?_; rintro e wd ⟨rfl, hbd⟩))
  go_ret
  exact ⟨rfl, (hB.alloc hB.size _).trans (hbd.mono (by have := hB.size; simp; omega))⟩
end Go.Proofs.Ytgfgcmncnnjepaa.que
