/- The walks of the laws on lists: what all of them ask first. -/
import Derived.Test.YtkhnfkejmhhcjaaLstEach
import Derived.Test.YtkhnfkejmhhcjaaSame
import Derived.Lib.MinMax
namespace Go.Proofs.Ytkhnfkejmhhcjaa.lst
open Go Go.RowKit

theorem lit2 (w : World) (a b : Int) (ha : (Lit.int .i64 a).wf = true) (hb : (Lit.int .i64 b).wf = true) : hp.IsInts (w.alloc (.cells #[.int .i64 a, .int .i64 b] 3)) (w.alloc (.cells #[.int .i64 a, .int .i64 b] 3)).heap.size (.slice (some ⟨w.heap.size, 0, none⟩) 2 2) [a, b] := by
  refine ⟨_, 2, rfl, ⟨(fun h => by cases h), by simp⟩, by simp, by simp [ha, hb], fun _ => ⟨w.heap.size, 0, rfl, by simp, fun k hk => ?_⟩⟩
  have h2 := (hp.Blk.new w [.int .i64 a, .int .i64 b] 3)
  match k, hk with
  | 0, _ => exact h2.cell 0
  | 1, _ => exact h2.cell 1

theorem rev_to {v : Value} {l t : List Int} {w : World} (ht : l.reverse = t) (hv : IsList w w.heap.size v l) (hbd : l.length < 4611686018427387904) :
    Calls Try.prog 20 #[v] w fun e w' => (∃ u, e = .returned u ∧ IsList w' w'.heap.size u t) ∧ Below w.heap.size w w' := by
  subst ht
  exact rev_any v l w hv hbd

theorem each_to {v : Value} {l t : List Int} {fv : Value} {F : Int → Int} {w : World} (ht : l.map F = t) (hv : IsList w w.heap.size v l) (hf : Fn1 w fv fun x => .int .i64 (F x)) (hF : ∀ x, (Lit.int .i64 (F x)).wf = true) (hbd : l.length ≤ 35184372088832) :
    Calls Try.prog 26 #[v, fv] w fun e w' => (∃ u, e = .returned u ∧ IsList w' w'.heap.size u t) ∧ Below w.heap.size w w' := by
  subst ht
  exact each_any v l fv F w hv hf hF hbd
theorem keep_to {v : Value} {l t : List Int} {fv : Value} {p : Int → Bool} {w : World} (ht : l.filter p = t) (hv : IsList w w.heap.size v l) (hf : Fn1 w fv fun x => .bool (p x)) (hbd : l.length ≤ 17592186044416) :
    Calls Try.prog 30 #[v, fv] w fun e w' => (∃ u, e = .returned u ∧ IsList w' w'.heap.size u t) ∧ Below w.heap.size w w' := by
  subst ht
  exact keep_any v l fv p w hv hf hbd

theorem push_to {v : Value} {l t : List Int} {x : Int} {w : World} (ht : x :: l = t) (hv : IsList w w.heap.size v l) (hx : (Lit.int .i64 x).wf = true) (hbd : l.length < 4611686018427387904) :
    Calls Try.prog 16 #[v, .int .i64 x] w fun e w' => (∃ u, e = .returned u ∧ IsList w' w'.heap.size u t) ∧ Below w.heap.size w w' := by
  subst ht
  exact push_any v l x w hv hx hbd

/-- Pop, whatever the list -/
theorem pop_to {v : Value} {l t : List Int} {w : World} (ht : l.tail = t) (hv : IsList w w.heap.size v l) (hbd : l.length < 4611686018427387904) :
    Calls Try.prog 19 #[v] w fun e w' => (∃ p, e = .returned (.tuple #[.int .i64 (l.head?.getD 0), lv p t.length, .bool (!l.isEmpty)]) ∧ IsList w' w'.heap.size (lv p t.length) t) ∧ Below w.heap.size w w' := by
  subst ht
  cases l with
  | nil => exact (pop_nil v w hv).mono fun e w' ⟨he, hb⟩ => ⟨⟨none, he, IsList.nil _ _⟩, hb⟩
  | cons x l =>
    refine (pop_cons v x l w hv (by simp at hbd; omega)).mono fun e w' ⟨⟨u, he, hu⟩, hb⟩ => ⟨?_, hb⟩
    have hu' := hu
    obtain ⟨p, rfl, -, -⟩ := hu'
    exact ⟨p, he, hu⟩

theorem pop_none {v : Value} {l : List Int} {w : World} (hl : l = []) (hv : IsList w w.heap.size v l) :
    Calls Try.prog 19 #[v] w fun e w' => e = .returned (.tuple #[.int .i64 0, lv none 0, .bool false]) ∧ Below w.heap.size w w' := by
  subst hl
  exact pop_nil v w hv
theorem pop_some {v : Value} {x : Int} {l t : List Int} {w : World} (hl : l = x :: t) (hv : IsList w w.heap.size v l) (hbd : l.length < 4611686018427387904) :
    Calls Try.prog 19 #[v] w fun e w' => (∃ p, e = .returned (.tuple #[.int .i64 x, lv p t.length, .bool true]) ∧ IsList w' w'.heap.size (lv p t.length) t) ∧ Below w.heap.size w w' := by
  subst hl
  refine (pop_cons v x t w hv (by simp at hbd; omega)).mono fun e w' ⟨⟨u, he, hu⟩, hb⟩ => ⟨?_, hb⟩
  have hu' := hu
  obtain ⟨p, rfl, -, -⟩ := hu'
  exact ⟨p, he, hu⟩

/-- At, whatever the place -/
theorem at_to {v : Value} {l : List Int} {i y : Int} {b : Bool} {w : World} (hv : IsList w w.heap.size v l) (hbd : l.length < 4611686018427387904)
    (h : (b = true ∧ ∃ k : Nat, i = k ∧ k < l.length ∧ y = l.getD k 0) ∨ (b = false ∧ y = 0 ∧ (i < 0 ∨ (l.length : Int) ≤ i))) :
    Calls Try.prog 18 #[v, .int .i64 i] w fun e w' => e = .returned (.tuple #[.int .i64 y, .bool b]) ∧ Below w.heap.size w w' := by
  rcases h with ⟨rfl, k, rfl, hk, rfl⟩ | ⟨rfl, rfl, hi⟩
  · exact at_in v l k w hv hk hbd
  · exact at_out v l i w hv hi

theorem row_lit1 (w : World) (x : Int) : (w.alloc (.cells #[.int .i64 x] 3)).ownsRow w.heap.size 3 1 (.slice (some ⟨w.heap.size, 0, none⟩) 1 1) 1 ([x].map (Value.int .i64)) :=
  ⟨by simp, .inr ⟨w.heap.size, 1, #[.int .i64 x], rfl, Nat.le_refl _, heap_alloc_new w _, Nat.le_refl _, by simp [maxLen], by simp, by simp⟩⟩

theorem wf_cons {x : Int} {l : List Int} (hx : (Lit.int .i64 x).wf = true) (hl : ∀ y ∈ l, (Lit.int .i64 y).wf = true) : ∀ y ∈ x :: l, (Lit.int .i64 y).wf = true := by
  intro y hy
  rcases List.mem_cons.1 hy with rfl | hy
  · exact hx
  · exact hl y hy

theorem store_func (a : Addr) (f : Fn) (b c : Array Value) (m : Mode) (w : World) : (store a (.func f b c) m).run Try.prog w = stored Try.prog w a (.func f b c) m := run_store _ w a _ m rfl

theorem len_raw (p : Option Addr) (n : Int) (w : World) :
    Calls Try.prog 17 #[lv p n] w fun e w' => e = .returned (.int .i64 n) ∧ Below w.heap.size w w' := by
  go_enter Try.func17, Try.ntmps17
  go_wp2
  go_ret
  refine ⟨rfl, ?_⟩
  ((repeat' (first | with_reducible exact Below.refl _ _ | with_reducible apply Below.setCell | with_reducible apply below_drewN | with_reducible apply Below.drew | with_reducible apply Below.alloc | with_reducible refine Below.trans ?_ (Below.mono (by assumption) ?_))) <;> (first | (simp; done) | (simp; omega) | omega))

set_option maxHeartbeats 4000000 in
theorem listed_any (w : World) : Calls Try.prog 12 #[] w fun e w' => e = .returned (.bool true) ∧ Below w.heap.size w w' := by
  go_enter Try.func12, Try.ntmps12
  go_wp2_with (first
    | (go_at_call 13; refine (of_any _ [5, 3] _ (lit2 _ _ _ (by decide) (by decide)) (by decide)).mono ?_; rintro e w1 ⟨⟨u, rfl, hu⟩, hb1⟩; have hu1 := hu; obtain ⟨pu, rfl, -, -⟩ := hu1)
    | (go_at_call 19; have hb2 : Below w1.heap.size w1 (w1.alloc (.cells #[.pointer pu, .int .i64 2] 26)) := (Below.refl _ _).alloc (Nat.le_refl _) _; have hk2 := hp.Blk.new w1 [.pointer pu, .int .i64 2] 26; refine (pop_cons _ 5 [3] _ (hu.on hb2) (by decide)).mono ?_; rintro e w2 ⟨⟨u, rfl, hu2⟩, hb3⟩; have hu3 := hu2; obtain ⟨pv, rfl, -, -⟩ := hu3; have hk3 := hk2.on hb3; obtain ⟨c0, c1⟩ := hk3.cells2; have hlt := hk3.lt; obtain ⟨c2, c3⟩ := (hk3.alloc (.cells #[.pointer pv, .int .i64 1] 26)).cells2)
    | (go_at_call 17; refine (len_raw _ _ _).mono ?_; rintro e w3 ⟨rfl, hb4⟩; have hk4 := (hp.Blk.new w2 [.pointer pv, .int .i64 1] 26).on hb4; obtain ⟨c4, c5⟩ := hk4.cells2)
    | (go_at_call 17; refine (len_raw _ _ _).mono ?_; rintro e w4 ⟨rfl, hb5⟩))
  go_ret
  refine ⟨rfl, ?_⟩
  refine ((((((Below.refl _ _).alloc (Nat.le_refl _) _).trans (hb1.mono (by simp))).trans (hb2.mono ?_)).trans (hb3.mono ?_)).trans ((((Below.refl _ _).alloc (Nat.le_refl _) _).trans (hb4.mono (by simp))).mono ?_)).trans (hb5.mono ?_)
  all_goals (have z1 := hb1.size; have z2 := hb2.size; have z3 := hb3.size; have z4 := hb4.size; simp only [World.size_alloc] at z1 z2 z3 z4; (try simp only [World.size_alloc]); omega)
end Go.Proofs.Ytkhnfkejmhhcjaa.lst
