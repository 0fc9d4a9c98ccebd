/- slices.Concat of two lists of numbers. -/
import Derived.Test.YtkenocamlaaajaaCat
namespace Go.Proofs.Ytkenocamlaaajaa.cat
open Go Go.RowKit

theorem grow_to {k : Int} (n : Nat) (hk : k = (n : Int)) (w : World) (hn : n ≤ 35184372088832) :
    Calls Try.prog 67 #[.slice none 0 0, .int .i64 k] w fun e w' => (∃ u, e = .returned u ∧ w'.ownsRow w.heap.size 3 1 u 0 []) ∧ Below w.heap.size w w' := by
  subst hk
  exact grow_nil n w hn

set_option maxHeartbeats 4000000 in
theorem concat_own (g : Nat) (v0 v1 : Value) (l0 l1 : List Int) (w : World) (hg : hp.Blk w g 22 [v0, v1]) (h0 : hp.IsInts w w.heap.size v0 l0) (h1 : hp.IsInts w w.heap.size v1 l1) (hbd : l0.length + l1.length ≤ 17592186044416) :
    Calls Try.prog 53 #[.slice (some ⟨g, 0, none⟩) 2 2] w fun e w' => (∃ u, e = .returned u ∧ w'.ownsRow w.heap.size 3 1 u (l0.length + l1.length) ((l0 ++ l1).map (Value.int .i64))) ∧ Below w.heap.size w w' := by
  obtain ⟨n, hn⟩ : ∃ n, l0.length = n := ⟨_, rfl⟩
  obtain ⟨m, hm⟩ : ∃ m, l1.length = m := ⟨_, rfl⟩
  have i0 := h0
  have i1 := h1
  obtain ⟨a0, c0, rfl, -⟩ := h0
  obtain ⟨a1, c1, rfl, -⟩ := h1
  obtain ⟨d0, d1⟩ := hg.cells2
  rw [hn, hm] at hbd
  rw [hn] at d0 hg i0
  rw [hm] at d1 hg i1
  rw [hn, hm]
  have hn := Lib.hid hn
  have hm := Lib.hid hm
  go_enter Try.func53, Try.ntmps53
  go_wp2_with fail
  go_loop [3, 11] (fun sz i => (i = .int .i64 0 ∧ sz = .int .i64 0) ∨ (i = .int .i64 1 ∧ sz = .int .i64 n) ∨ (i = .int .i64 2 ∧ sz = .int .i64 ((n : Int) + (m : Int)))) (fun _ i => 2 - (intOf i).toNat)
  case atStart => exact .inl ⟨rfl, rfl⟩
  case round =>
    rcases hrel with ⟨rfl, rfl⟩ | ⟨rfl, rfl⟩ | ⟨rfl, rfl⟩
    · go_wp2_with fail
      go_round
      case rel => exact .inr (.inl ⟨rfl, by go_num⟩)
      case measure => simp [intOf]
    · go_wp2_with fail
      go_round
      case rel => exact .inr (.inr ⟨rfl, by go_num⟩)
      case measure => simp [intOf]
    · go_wp2_with (go_at_call 67; refine (grow_to (n + m) (by simp) _ (by omega)).mono ?_; rintro e wg ⟨⟨u0, rfl, hu0⟩, hbg⟩)
      have hg1 := hg.on hbg
      obtain ⟨e0, e1⟩ := hg1.cells2
      clear d0 d1
      go_loopw [6, 27] (fun u i W => Below w.heap.size w W ∧ ((i = .int .i64 0 ∧ W.ownsRow w.heap.size 3 1 u 0 (([] : List Int).map (Value.int .i64))) ∨ (i = .int .i64 1 ∧ W.ownsRow w.heap.size 3 1 u (0 + l0.length) (([] ++ l0).map (Value.int .i64))) ∨ (i = .int .i64 2 ∧ W.ownsRow w.heap.size 3 1 u (0 + l0.length + l1.length) (([] ++ l0 ++ l1).map (Value.int .i64))))) (fun _ i _ => 2 - (intOf i).toNat)
      case atStart => exact ⟨hbg, .inl ⟨rfl, hu0⟩⟩
      case round =>
        rename World => W
        obtain ⟨hb, ⟨rfl, hr⟩ | ⟨rfl, hr⟩ | ⟨rfl, hr⟩⟩ := hrel
        · obtain ⟨x0, x1⟩ := (hg.on hb).cells2
          go_wp2_with (at_builtin; refine hp.append_ints rfl _ _ 22 rfl w.heap.size 3 Try.underlying22 same.infoInt _ 0 [] rfl hr _ l0 rfl (i0.below hb) (by have := hn.out; omega) hb.size ?_; intro u1 w1 own1 gr1)
          go_roundw
          case rel => exact ⟨hb.grown gr1 hb.size (fun k hk => (hr.lt k hk).1), .inr (.inl ⟨rfl, own1⟩)⟩
          case measure => simp [intOf]
        · obtain ⟨x0, x1⟩ := (hg.on hb).cells2
          go_wp2_with (at_builtin; refine hp.append_ints rfl _ _ 22 rfl w.heap.size 3 Try.underlying22 same.infoInt _ _ _ rfl hr _ l1 rfl (i1.below hb) (by have := hn.out; have := hm.out; omega) hb.size ?_; intro u1 w1 own1 gr1)
          go_roundw
          case rel => exact ⟨hb.grown gr1 hb.size (fun k hk => (hr.lt k hk).1), .inr (.inr ⟨rfl, own1⟩)⟩
          case measure => simp [intOf]
        · go_wp2_with fail
          go_ret
          refine ⟨⟨_, rfl, ?_⟩, hb⟩
          rw [← hn.out, ← hm.out]
          simpa using hr
end Go.Proofs.Ytkenocamlaaajaa.cat
