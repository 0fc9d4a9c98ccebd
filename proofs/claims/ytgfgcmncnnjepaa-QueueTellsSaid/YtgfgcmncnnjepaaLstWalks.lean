/- The walks of the laws on lists: what all of them ask first. -/
import Derived.Test.YtgfgcmncnnjepaaLstEach
import Derived.Test.YtgfgcmncnnjepaaSame
import Derived.Lib.MinMax
namespace Go.Proofs.Ytgfgcmncnnjepaa.lst
open Go Go.RowKit

theorem lit2 (w : World) (a b : Int) (ha : (Lit.int .i64 a).wf = true) (hb : (Lit.int .i64 b).wf = true) : hp.IsInts (w.alloc (.cells #[.int .i64 a, .int .i64 b] 3)) (w.alloc (.cells #[.int .i64 a, .int .i64 b] 3)).heap.size (.slice (some ⟨w.heap.size, 0, none⟩) 2 2) [a, b] := by
  refine ⟨_, 2, rfl, ⟨(fun h => by cases h), by simp⟩, by simp, by simp [ha, hb], fun _ => ⟨w.heap.size, 0, rfl, by simp, fun k hk => ?_⟩⟩
  have h2 := (hp.Blk.new w [.int .i64 a, .int .i64 b] 3)
  match k, hk with
  | 0, _ => exact h2.cell 0
  | 1, _ => exact h2.cell 1

theorem rev_to {v : Value} {l t : List Int} {w : World} (ht : l.reverse = t) (hv : IsList w w.heap.size v l) (hbd : l.length < 4611686018427387904) :
    Calls Try.prog 19 #[v] w fun e w' => (∃ u, e = .returned u ∧ IsList w' w'.heap.size u t) ∧ Below w.heap.size w w' := by
  subst ht
  exact rev_any v l w hv hbd

theorem push_to {v : Value} {l t : List Int} {x : Int} {w : World} (ht : x :: l = t) (hv : IsList w w.heap.size v l) (hx : (Lit.int .i64 x).wf = true) (hbd : l.length < 4611686018427387904) :
    Calls Try.prog 15 #[v, .int .i64 x] w fun e w' => (∃ u, e = .returned u ∧ IsList w' w'.heap.size u t) ∧ Below w.heap.size w w' := by
  subst ht
  exact push_any v l x w hv hx hbd

/-- Pop, whatever the list -/
theorem pop_to {v : Value} {l t : List Int} {w : World} (ht : l.tail = t) (hv : IsList w w.heap.size v l) (hbd : l.length < 4611686018427387904) :
    Calls Try.prog 16 #[v] w fun e w' => (∃ p, e = .returned (.tuple #[.int .i64 (l.head?.getD 0), lv p t.length, .bool (!l.isEmpty)]) ∧ IsList w' w'.heap.size (lv p t.length) t) ∧ Below w.heap.size w w' := by
  subst ht
  cases l with
  | nil => exact (pop_nil v w hv).mono fun e w' ⟨he, hb⟩ => ⟨⟨none, he, IsList.nil _ _⟩, hb⟩
  | cons x l =>
    refine (pop_cons v x l w hv (by simp at hbd; omega)).mono fun e w' ⟨⟨u, he, hu⟩, hb⟩ => ⟨?_, hb⟩
    have hu' := hu
    obtain ⟨p, rfl, -, -⟩ := hu'
    exact ⟨p, he, hu⟩

theorem pop_none {v : Value} {l : List Int} {w : World} (hl : l = []) (hv : IsList w w.heap.size v l) :
    Calls Try.prog 16 #[v] w fun e w' => e = .returned (.tuple #[.int .i64 0, lv none 0, .bool false]) ∧ Below w.heap.size w w' := by
  subst hl
  exact pop_nil v w hv
theorem pop_some {v : Value} {x : Int} {l t : List Int} {w : World} (hl : l = x :: t) (hv : IsList w w.heap.size v l) (hbd : l.length < 4611686018427387904) :
    Calls Try.prog 16 #[v] w fun e w' => (∃ p, e = .returned (.tuple #[.int .i64 x, lv p t.length, .bool true]) ∧ IsList w' w'.heap.size (lv p t.length) t) ∧ Below w.heap.size w w' := by
  subst hl
  refine (pop_cons v x t w hv (by simp at hbd; omega)).mono fun e w' ⟨⟨u, he, hu⟩, hb⟩ => ⟨?_, hb⟩
  have hu' := hu
  obtain ⟨p, rfl, -, -⟩ := hu'
  exact ⟨p, he, hu⟩

theorem row_lit1 (w : World) (x : Int) : (w.alloc (.cells #[.int .i64 x] 3)).ownsRow w.heap.size 3 1 (.slice (some ⟨w.heap.size, 0, none⟩) 1 1) 1 ([x].map (Value.int .i64)) :=
  ⟨by simp, .inr ⟨w.heap.size, 1, #[.int .i64 x], rfl, Nat.le_refl _, heap_alloc_new w _, Nat.le_refl _, by simp [maxLen], by simp, by simp⟩⟩

theorem wf_cons {x : Int} {l : List Int} (hx : (Lit.int .i64 x).wf = true) (hl : ∀ y ∈ l, (Lit.int .i64 y).wf = true) : ∀ y ∈ x :: l, (Lit.int .i64 y).wf = true := by
  intro y hy
  rcases List.mem_cons.1 hy with rfl | hy
  · exact hx
  · exact hl y hy

theorem store_func (a : Addr) (f : Fn) (b c : Array Value) (m : Mode) (w : World) : (store a (.func f b c) m).run Try.prog w = stored Try.prog w a (.func f b c) m := run_store _ w a _ m rfl

theorem len_raw (p : Option Addr) (n : Int) (w : World) :
    Calls Try.prog 20 #[lv p n] w fun e w' => e = .returned (.int .i64 n) ∧ Below w.heap.size w w' := by
  go_enter Try.func20, Try.ntmps20
  go_wp2
  go_ret
  refine ⟨rfl, ?_⟩
  ((repeat' (first | with_reducible exact Below.refl _ _ | with_reducible apply Below.setCell | with_reducible apply below_drewN | with_reducible apply Below.drew | with_reducible apply Below.alloc | with_reducible refine Below.trans ?_ (Below.mono (by assumption) ?_))) <;> (first | (simp; done) | (simp; omega) | omega))

end Go.Proofs.Ytgfgcmncnnjepaa.lst
