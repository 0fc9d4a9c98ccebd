/- Two lists of numbers compared; a list of numbers reversed; how many are below. -/
import Derived.Test.YtkenocamlaaajaaChecked
import Derived.Test.YtkenocamlaaajaaHeap
import Derived.Test.YtkenocamlaaajaaReg
import Derived.Test.YtkenocamlaaajaaRel
import Derived.Lib.Hide
import Derived.WalkKit
import Derived.BigQuiet
import Derived.Deep.QuietTactic
import Derived.StillTailTactics
import Derived.WalkSmall
import Derived.Maps.AppendAt
namespace Go.Proofs.Ytkenocamlaaajaa.same
open Go Go.RowKit

theorem take_snoc (zs : List Int) (k : Nat) (h : k < zs.length) : zs.take (k + 1) = zs.take k ++ [zs.getD k 0] := by
  rw [List.take_succ_eq_append_getElem h]; simp [h]
theorem ne_at {a b : List Int} (k : Nat) (h : a.getD k 0 ≠ b.getD k 0) : a ≠ b := fun e => h (by rw [e])

theorem ret_bool {a b : Bool} (h : a = b) : Ending.returned (.bool a) = .returned (.bool b) := by rw [h]

set_option maxHeartbeats 4000000 in
theorem ints_raw (v0 : Value) (l0 : List Int) (v1 : Value) (l1 : List Int) (w : World) (r : Bool) (hr : Hid (r = decide (l0 = l1))) (h0 : hp.IsInts w w.heap.size v0 l0) (h1 : hp.IsInts w w.heap.size v1 l1) :
    Calls Try.prog 16 #[v0, v1] w fun e w' => e = .returned (.bool r) ∧ Below w.heap.size w w' := by
  obtain ⟨a0, c0, rfl, _, m0, _, hc0⟩ := h0
  obtain ⟨a1, c1, rfl, _, m1, _, hc1⟩ := h1
  by_cases hlen : l0.length = l1.length
  · rw [← hlen] at hc1 ⊢
    clear m1
    have hlen := Lib.hid hlen
    go_enter Try.func16, Try.ntmps16
    go_wp2_with fail
    go_loopw [5] (fun i wr => ∃ k n : Nat, i = .int .i64 k ∧ wr = w.drewN n ∧ k ≤ l0.length ∧ Hid (l0.take k = l1.take k)) (fun i _ => l0.length - (intOf i).toNat)
    case atStart => exact ⟨0, 0, rfl, rfl, by omega, by show _ = _; simp⟩
    case round =>
      obtain ⟨k, n, rfl, rfl, hk, H⟩ := hrel
      by_cases hlt : k < l0.length
      · obtain ⟨b0, o0, rfl, hb0, hd0⟩ := hc0 (by omega)
        obtain ⟨b1, o1, rfl, hb1, hd1⟩ := hc1 (by omega)
        have hx : w.cell? ⟨b0, o0 + k, none⟩ = some (.int .i64 (l0.getD k 0)) := hd0 k hlt
        have hy : w.cell? ⟨b1, o1 + k, none⟩ = some (.int .i64 (l1.getD k 0)) := hd1 k hlt
        have s0 := Lib.hid (take_snoc l0 k hlt)
        have s1 := Lib.hid (take_snoc l1 k (by have := hlen.out; omega))
        have hne := ne_at (a := l0) (b := l1) k
        clear hd0 hd1 hc0 hc1
        obtain ⟨x, hx0⟩ : ∃ x, x = l0.getD k 0 := ⟨_, rfl⟩
        obtain ⟨y, hy0⟩ : ∃ y, y = l1.getD k 0 := ⟨_, rfl⟩
        rw [← hx0] at hx s0 hne
        rw [← hy0] at hy s1 hne
        clear hx0 hy0
        by_cases hxy : x = y
        · subst hxy
          clear hne
          go_wp2_with fail
          (refine reg.region_quiet_again (by kernel_rfl) (by kernel_rfl) ?_; (repeat (go_big_quiet_step ((fail)))); refine wpQuiet_nil ?_; intro _ hw'; obtain ⟨nq, hw''⟩ := hw'; subst hw'')
          go_wp2_with fail
          go_roundw
          case rel => exact ⟨k + 1, _, by go_num, rfl, by omega, by show _ = _; rw [s0.out, s1.out, H.out]⟩
          case measure => simp [intOf]; omega
        · have hrf : r = false := by rw [hr.out]; simpa using hne hxy
          clear hr hne
          subst hrf
          go_wp2_with fail
          (refine reg.region_quiet_again (by kernel_rfl) (by kernel_rfl) ?_; (repeat (go_big_quiet_step ((fail)))); refine wpQuiet_nil ?_; intro _ hw'; obtain ⟨nq, hw''⟩ := hw'; subst hw'')
          go_wp2_with fail
          go_ret
          refine ⟨rfl, ?_⟩
          ((repeat' (first | with_reducible exact Below.refl _ _ | with_reducible apply Below.setCell | with_reducible apply below_drewN | with_reducible apply Below.drew | with_reducible apply Below.alloc | with_reducible refine Below.trans ?_ (Below.mono (by assumption) ?_))) <;> (first | (simp; done) | (simp; omega) | omega))
      · obtain rfl : k = l0.length := by omega
        have hrt : r = true := by
          have := H.out
          rw [List.take_length, hlen.out, List.take_length] at this
          rw [hr.out]
          simpa using this
        clear hr H hlen
        subst hrt
        go_wp2_with fail
        go_ret
        refine ⟨rfl, ?_⟩
        ((repeat' (first | with_reducible exact Below.refl _ _ | with_reducible apply Below.setCell | with_reducible apply below_drewN | with_reducible apply Below.drew | with_reducible apply Below.alloc | with_reducible refine Below.trans ?_ (Below.mono (by assumption) ?_))) <;> (first | (simp; done) | (simp; omega) | omega))
  · have hrf : r = false := by
      rw [hr.out]
      simp only [decide_eq_false_iff_not]
      exact fun e => hlen (by rw [e])
    clear hr
    subst hrf
    go_enter Try.func16, Try.ntmps16
    go_wp2
    go_ret
    exact ⟨rfl, Below.refl _ _⟩

theorem ints_eq {v0 : Value} {l0 : List Int} {v1 : Value} {l1 : List Int} {w : World} (he : l0 = l1) (h0 : hp.IsInts w w.heap.size v0 l0) (h1 : hp.IsInts w w.heap.size v1 l1) :
    Calls Try.prog 16 #[v0, v1] w fun e w' => e = .returned (.bool true) ∧ Below w.heap.size w w' :=
  ints_raw v0 l0 v1 l1 w true (by show _ = _; simpa using he) h0 h1

theorem infoInt : (Try.prog.info? 3).map (fun i => (i.zero, i.size, i.bytes)) = some (some (.int .i64 0), 1, 8) := by kernel_rfl

theorem snoc_cases (l : List Int) : l = [] ∨ ∃ t x, l = t ++ [x] := by
  rcases List.eq_nil_or_concat l with h | ⟨t, x, h⟩
  · exact .inl h
  · exact .inr ⟨t, x, by simpa using h⟩

theorem wf_append {a b : List Int} (ha : ∀ x ∈ a, (Lit.int .i64 x).wf = true) (hb : ∀ x ∈ b, (Lit.int .i64 x).wf = true) : ∀ x ∈ a ++ b, (Lit.int .i64 x).wf = true := by
  intro x hx
  rcases List.mem_append.1 hx with h | h
  · exact ha x h
  · exact hb x h

/-- wattleworkref1.Cat -/
theorem cat_own (v0 : Value) (l0 : List Int) (v1 : Value) (l1 : List Int) (w : World) (h0 : hp.IsInts w w.heap.size v0 l0) (h1 : hp.IsInts w w.heap.size v1 l1) (hbd : l0.length + l1.length ≤ 17592186044416) :
    Calls Try.prog 26 #[v0, v1] w fun e w' => (∃ v, e = .returned v ∧ w'.ownsRow w.heap.size 3 1 v (l0 ++ l1).length ((l0 ++ l1).map (Value.int .i64))) ∧ Below w.heap.size w w' := by
  have own0 : w.ownsRow w.heap.size 3 1 (.slice none 0 0) 0 (([] : List Int).map (Value.int .i64)) := World.ownsRow_nil _ _ _ _
  go_enter Try.func26, Try.ntmps26
  go_wp2_with (at_builtin; refine hp.append_ints rfl _ _ 22 rfl w.heap.size 3 Try.underlying22 infoInt _ 0 [] rfl own0 _ l0 rfl h0 (by omega) (Nat.le_refl _) ?_)
  intro u1 w1 own1 gr1
  have hb1 : Below w.heap.size w w1 := (Below.refl _ _).grown gr1 (Nat.le_refl _) (by simp [Value.ownBlock])
  go_wp2_with (at_builtin; refine hp.append_ints rfl _ _ 22 rfl w.heap.size 3 Try.underlying22 infoInt _ _ _ rfl own1 _ l1 rfl (h1.below hb1) (by omega) hb1.size ?_)
  intro u2 w2 own2 gr2
  have hb2 : Below w.heap.size w w2 := hb1.grown gr2 hb1.size (fun k hk => (own1.lt k hk).1)
  go_wp2_with fail
  go_ret
  exact ⟨⟨_, rfl, by simpa using own2⟩, hb2⟩
theorem cat_eq {v0 : Value} {l0 : List Int} {v1 : Value} {l1 t : List Int} {w : World} (ht : l0 ++ l1 = t) (h0 : hp.IsInts w w.heap.size v0 l0) (h1 : hp.IsInts w w.heap.size v1 l1) (hbd : l0.length + l1.length ≤ 17592186044416) :
    Calls Try.prog 26 #[v0, v1] w fun e w' => (∃ u, e = .returned u ∧ hp.IsInts w' w'.heap.size u t) ∧ Below w.heap.size w w' := by
  subst ht
  exact (cat_own v0 l0 v1 l1 w h0 h1 hbd).mono fun _ _ ⟨⟨u, he, hu⟩, hb⟩ => ⟨⟨u, he, hp.IsInts.of_owns hu rfl (wf_append h0.wf h1.wf)⟩, hb⟩

/-- wattleworkref1.Below -/
def cnt (l : List Int) (a : Int) : Nat := l.countP fun x => decide (x < a)
theorem cnt_snoc (l : List Int) (x a : Int) : cnt (l ++ [x]) a = cnt l a + if x < a then 1 else 0 := by
  simp [cnt, List.countP_append, List.countP_cons]

end Go.Proofs.Ytkenocamlaaajaa.same
