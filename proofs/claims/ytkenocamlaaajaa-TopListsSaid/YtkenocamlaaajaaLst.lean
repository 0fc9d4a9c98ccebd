/- Linked lists in memory, and the contracts of the functions that make and read them without a range. -/
import Derived.Test.YtkenocamlaaajaaChecked
import Derived.Test.YtkenocamlaaajaaHeap
import Derived.Test.YtkenocamlaaajaaReg
import Derived.Test.YtkenocamlaaajaaRel
import Derived.WalkKit
import Derived.BigQuiet
import Derived.Deep.QuietTactic
import Derived.StillTailTactics
import Derived.WalkSmall
namespace Go.Proofs.Ytkenocamlaaajaa.lst
open Go Go.RowKit

/-- from p on, in blocks below B -/
def Chain (B : Nat) (W : World) : Option Addr → List Int → Prop
  | p, [] => p = none
  | p, x :: xs => ∃ (b : Nat) (q : Option Addr), p = some ⟨b, 0, none⟩ ∧ b < B ∧ hp.Blk W b 79 [.int .i64 x, .pointer q] ∧ Chain B W q xs

theorem Chain.below {B : Nat} {A W : World} (h : Below B A W) : ∀ {p : Option Addr} {xs : List Int}, Chain B A p xs → Chain B W p xs
  | _, [], hl => hl
  | _, _ :: _, ⟨b, q, he, hb, hv, hr⟩ => ⟨b, q, he, hb, hv.below h hb, Chain.below h hr⟩
theorem Chain.mono {B B' : Nat} {W : World} (h : B ≤ B') : ∀ {p : Option Addr} {xs : List Int}, Chain B W p xs → Chain B' W p xs
  | _, [], hl => hl
  | _, _ :: _, ⟨b, q, he, hb, hv, hr⟩ => ⟨b, q, he, by omega, hv, Chain.mono h hr⟩
theorem Chain.unique {B : Nat} {W : World} : ∀ {p : Option Addr} {xs ys : List Int}, Chain B W p xs → Chain B W p ys → xs = ys
  | _, [], [], _, _ => rfl
  | _, [], _ :: _, h, ⟨_, _, he, _⟩ => by rw [h] at he; cases he
  | _, _ :: _, [], ⟨_, _, he, _⟩, h => by rw [h] at he; cases he
  | _, x :: xs, y :: ys, ⟨b, q, he, _, hv, hr⟩, ⟨b', q', he', _, hv', hr'⟩ => by
    rw [he] at he'; cases he'
    unfold hp.Blk at hv hv'
    rw [hv] at hv'; cases hv'
    rw [Chain.unique hr hr']
theorem Chain.set {B g o : Nat} {W : World} {t : TypeId} {cs : List Value} (hg : hp.Blk W g t cs) (ht : t ≠ 79) (v : Value) : ∀ {p : Option Addr} {xs : List Int}, Chain B W p xs → Chain B (W.setCell ⟨g, o, none⟩ v) p xs
  | _, [], hl => hl
  | _, _ :: _, ⟨b, q, he, hb, hv, hr⟩ => ⟨b, q, he, hb, hv.other (fun e => by
      subst e
      unfold hp.Blk at hv hg
      rw [hv] at hg
      simp at hg
      exact ht hg.2.symm) v, Chain.set hg ht v hr⟩
theorem Chain.grow {B B' : Nat} {A W : World} {p : Option Addr} {xs : List Int} (h : Chain B A p xs) (hb : Below B A W) (hB : B ≤ B') : Chain B' W p xs := (h.below hb).mono hB

open Classical in
/-- how many are still to come -/
noncomputable def left (B : Nat) (W : World) (v : Value) : Nat :=
  if h : ∃ r : Option Addr × List Int, v = .pointer r.1 ∧ Chain B W r.1 r.2 then (Classical.choose h).2.length else 0
theorem left_eq {B : Nat} {W : World} {q : Option Addr} {xs : List Int} (h : Chain B W q xs) : left B W (.pointer q) = xs.length := by
  have hex : ∃ r : Option Addr × List Int, Value.pointer q = .pointer r.1 ∧ Chain B W r.1 r.2 := ⟨(q, xs), rfl, h⟩
  unfold left
  rw [dif_pos hex]
  obtain ⟨e, hl⟩ := Classical.choose_spec hex
  have e' : q = (Classical.choose hex).1 := by simpa using e
  rw [← e'] at hl
  rw [Chain.unique hl h]

abbrev lv (p : Option Addr) (n : Int) : Value := .agg #[.pointer p, .int .i64 n]

/-- a list value that reads as these numbers, its cells below block B -/
def IsList (w : World) (B : Nat) (v : Value) (l : List Int) : Prop := ∃ p, v = lv p l.length ∧ Chain B w p l ∧ ∀ x ∈ l, (Lit.int .i64 x).wf = true

section
variable {w w' : World} {B B' : Nat} {v : Value} {l : List Int}
theorem IsList.below (h : IsList w B v l) (hb : Below B w w') : IsList w' B v l := by
  obtain ⟨p, hv, hc, hw⟩ := h
  exact ⟨p, hv, hc.below hb, hw⟩
theorem IsList.mono (h : IsList w B v l) (hB : B ≤ B') : IsList w B' v l := by
  obtain ⟨p, hv, hc, hw⟩ := h
  exact ⟨p, hv, hc.mono hB, hw⟩
theorem IsList.on (h : IsList w w.heap.size v l) (hb : Below w.heap.size w w') : IsList w' w'.heap.size v l := (h.below hb).mono hb.size
theorem IsList.wf (h : IsList w B v l) : ∀ x ∈ l, (Lit.int .i64 x).wf = true := by obtain ⟨_, _, _, hw⟩ := h; exact hw
theorem IsList.set {g o : Nat} {t : TypeId} {cs : List Value} (h : IsList w B v l) (hg : hp.Blk w g t cs) (u : Value) (ht : t ≠ 79 := by decide) : IsList (w.setCell ⟨g, o, none⟩ u) B v l := by
  obtain ⟨p, hv, hc, hw⟩ := h
  exact ⟨p, hv, hc.set hg ht u, hw⟩
theorem IsList.set2 {g : Nat} {t : TypeId} {a b : Value} (h : IsList w B v l) (hg : hp.Blk w g t [a, b]) (u0 u1 : Value) (ht : t ≠ 79 := by decide) : IsList ((w.setCell ⟨g, 0, none⟩ u0).setCell ⟨g, 1, none⟩ u1) B v l :=
  (h.set hg u0 ht).set (hg.set 0 u0) u1 ht
theorem IsList.nil (w : World) (B : Nat) : IsList w B (lv none 0) [] := ⟨none, rfl, rfl, by simp⟩
end

theorem wrap_small {n : Int} (h : 0 ≤ n) (h' : n ≤ 9223372036854775807) : wrap64 n = n := IntWalk.wrap64_in _ ⟨by omega, by omega⟩

theorem len_any (v : Value) (l : List Int) (w : World) (hv : IsList w w.heap.size v l) :
    Calls Try.prog 64 #[v] w fun e w' => e = .returned (.int .i64 l.length) ∧ Below w.heap.size w w' := by
  obtain ⟨p, rfl, _, _⟩ := hv
  go_enter Try.func64, Try.ntmps64
  go_wp2
  go_ret
  refine ⟨rfl, ?_⟩
  ((repeat' (first | with_reducible exact Below.refl _ _ | with_reducible apply Below.setCell | with_reducible apply below_drewN | with_reducible apply Below.drew | with_reducible apply Below.alloc | with_reducible refine Below.trans ?_ (Below.mono (by assumption) ?_))) <;> (first | (simp; done) | (simp; omega) | omega))

theorem push_raw (p : Option Addr) (l : List Int) (x : Int) (w : World) (hc : Chain w.heap.size w p l) (hbd : l.length < 4611686018427387904) :
    Calls Try.prog 30 #[lv p l.length, .int .i64 x] w fun e w' => (∃ q, e = .returned (lv q ((l.length : Int) + 1)) ∧ Chain w'.heap.size w' q (x :: l)) ∧ Below w.heap.size w w' := by
  go_enter Try.func30, Try.ntmps30
  go_wp2
  refine bodyPost_ret (v := lv (some ⟨w.heap.size + 1 + 1, 0, none⟩) ((l.length : Int) + 1)) (by simp [results, Try.results30, go_sem]) rfl ⟨⟨_, rfl, ?_⟩, ?_⟩
  · refine ⟨w.heap.size + 1 + 1, p, rfl, by simp, ?_, ?_⟩
    · have := hp.Blk.new ((w.alloc (.cells #[.pointer p, .int .i64 l.length] 56)).alloc (.cells #[.pointer (some ⟨w.heap.size + 1 + 1, 0, none⟩), .int .i64 (l.length + 1)] 56)) [.int .i64 x, .pointer p] 79
      simpa using this
    · refine hc.grow ?_ (by simp; omega)
      ((repeat' (first | with_reducible exact Below.refl _ _ | with_reducible apply Below.setCell | with_reducible apply below_drewN | with_reducible apply Below.drew | with_reducible apply Below.alloc | with_reducible refine Below.trans ?_ (Below.mono (by assumption) ?_))) <;> (first | (simp; done) | (simp; omega) | omega))
  · ((repeat' (first | with_reducible exact Below.refl _ _ | with_reducible apply Below.setCell | with_reducible apply below_drewN | with_reducible apply Below.drew | with_reducible apply Below.alloc | with_reducible refine Below.trans ?_ (Below.mono (by assumption) ?_))) <;> (first | (simp; done) | (simp; omega) | omega))

theorem push_any (v : Value) (l : List Int) (x : Int) (w : World) (hv : IsList w w.heap.size v l) (hx : (Lit.int .i64 x).wf = true) (hbd : l.length < 4611686018427387904) :
    Calls Try.prog 30 #[v, .int .i64 x] w fun e w' => (∃ u, e = .returned u ∧ IsList w' w'.heap.size u (x :: l)) ∧ Below w.heap.size w w' := by
  obtain ⟨p, rfl, hc, hw⟩ := hv
  refine (push_raw p l x w hc hbd).mono fun e w' ⟨⟨q, he, hq⟩, hb⟩ => ⟨⟨_, he, q, by simp, hq, ?_⟩, hb⟩
  intro y hy
  rcases List.mem_cons.1 hy with rfl | hy
  · exact hx
  · exact hw y hy

theorem getD_drop (l : List Int) (k : Nat) (h : k < l.length) : l.drop k = l.getD k 0 :: l.drop (k + 1) := by
  rw [List.drop_eq_getElem_cons h]; simp [h]

theorem at_out (v : Value) (l : List Int) (i : Int) (w : World) (hv : IsList w w.heap.size v l) (hi : i < 0 ∨ (l.length : Int) ≤ i) :
    Calls Try.prog 35 #[v, .int .i64 i] w fun e w' => e = .returned (.tuple #[.int .i64 0, .bool false]) ∧ Below w.heap.size w w' := by
  obtain ⟨p, rfl, _, _⟩ := hv
  by_cases hneg : i < 0
  · go_enter Try.func35, Try.ntmps35
    go_wp2
    go_ret2
    refine ⟨rfl, ?_⟩
    ((repeat' (first | with_reducible exact Below.refl _ _ | with_reducible apply Below.setCell | with_reducible apply below_drewN | with_reducible apply Below.drew | with_reducible apply Below.alloc | with_reducible refine Below.trans ?_ (Below.mono (by assumption) ?_))) <;> (first | (simp; done) | (simp; omega) | omega))
  · have hge : (l.length : Int) ≤ i := by omega
    clear hi
    go_enter Try.func35, Try.ntmps35
    go_wp2
    go_ret2
    refine ⟨rfl, ?_⟩
    ((repeat' (first | with_reducible exact Below.refl _ _ | with_reducible apply Below.setCell | with_reducible apply below_drewN | with_reducible apply Below.drew | with_reducible apply Below.alloc | with_reducible refine Below.trans ?_ (Below.mono (by assumption) ?_))) <;> (first | (simp; done) | (simp; omega) | omega))

set_option maxHeartbeats 4000000 in
theorem at_in (v : Value) (l : List Int) (k : Nat) (w : World) (hv : IsList w w.heap.size v l) (hk : k < l.length) (hbd : l.length < 4611686018427387904) :
    Calls Try.prog 35 #[v, .int .i64 k] w fun e w' => e = .returned (.tuple #[.int .i64 (l.getD k 0), .bool true]) ∧ Below w.heap.size w w' := by
  obtain ⟨p, rfl, hc, _⟩ := hv
  go_enter Try.func35, Try.ntmps35
  go_wp2
  go_loop [6, 18] (fun c i => ∃ j : Nat, ∃ q, i = .int .i64 j ∧ c = .pointer q ∧ j ≤ k ∧ Chain w.heap.size w q (l.drop j)) (fun _ i => k - (intOf i).toNat)
  case atStart => exact ⟨0, p, rfl, rfl, by omega, by simpa using hc⟩
  case round =>
    obtain ⟨j, q, rfl, rfl, hj, hq⟩ := hrel
    rw [getD_drop l j (by omega)] at hq
    obtain ⟨b, q', rfl, hb, hkq, hr⟩ := hq
    obtain ⟨c0, c1⟩ := hkq.cells2
    by_cases hlt : j < k
    · go_wp2
      go_round
      case rel => exact ⟨j + 1, q', by go_num, rfl, by omega, hr⟩
      case measure => simp [intOf]; omega
    · obtain rfl : j = k := by omega
      go_wp2
      go_ret2
      refine ⟨rfl, ?_⟩
      ((repeat' (first | with_reducible exact Below.refl _ _ | with_reducible apply Below.setCell | with_reducible apply below_drewN | with_reducible apply Below.drew | with_reducible apply Below.alloc | with_reducible refine Below.trans ?_ (Below.mono (by assumption) ?_))) <;> (first | (simp; done) | (simp; omega) | omega))
end Go.Proofs.Ytkenocamlaaajaa.lst
