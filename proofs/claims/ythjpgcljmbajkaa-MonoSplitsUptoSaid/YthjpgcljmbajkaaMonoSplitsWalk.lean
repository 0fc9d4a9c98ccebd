/- The walk of MonoSplits. -/
import Derived.Test.YthjpgcljmbajkaaMonoJoin
import Derived.Test.YthjpgcljmbajkaaRef
namespace Go.Proofs.Ythjpgcljmbajkaa.monoSplits
open Go.RowKit mono
set_option maxHeartbeats 8000000 in
theorem walk (v0 : Value) (l0 : List Int) (v1 : Value) (l1 : List Int) (v2 : Value) (l2 : List Int) (w : World) (h0 : hp.IsInts w w.heap.size v0 l0) (h1 : hp.IsInts w w.heap.size v1 l1) (h2 : hp.IsInts w w.heap.size v2 l2) (hbd : l0.length + l1.length + l2.length ≤ 1048576) :
    Calls Try.prog 4 #[v0, v1, v2] w fun e w' => e = .returned (.bool true) ∧ Below w.heap.size w w' := by
  have K : hp.All w w [] := hp.All.refl w
  obtain ⟨t, ht⟩ : ∃ t, l0 ++ l1 ++ l2 = t := ⟨_, rfl⟩
  have htl : l0.length + l1.length + l2.length = t.length := by rw [← ht]; simp; omega
  have f0 := h0.wf
  have f1 := h1.wf
  have f2 := h2.wf
  go_enter Try.func4, Try.ntmps4
  go_wp2_with fail
  refine (of53 _ w.heap.size (by simp) (by simp) (by simp)).mono ?_
  rintro e w1 ⟨rfl, hb1⟩
  replace K : hp.All w w1 [] := ⟨by ((repeat' (first | with_reducible exact Below.refl _ _ | with_reducible apply Below.setCell | with_reducible apply below_drewN | with_reducible apply Below.drew | with_reducible apply Below.alloc | with_reducible refine Below.trans ?_ (Below.mono (by assumption) ?_))) <;> (first | (simp; done) | (simp; omega) | omega)), by simp⟩
  clear hb1
  go_wp2_with fail
  refine (of_any _ l0 _ (hp.All.ints (by with_reducible exact K.push _) h0)).mono ?_
  rintro e w2 ⟨rfl, hb2⟩
  replace K : hp.All w w2 [] := (K.push _).step hb2
  clear hb2
  go_wp2_with fail
  refine (of_any _ l1 _ (hp.All.ints (by with_reducible exact K.alloc _ _) h1)).mono ?_
  rintro e w3 ⟨rfl, hb3⟩
  replace K := (K.alloc [.int .i64 l0.length, .int .i64 (sumOf l0), .int .i64 (lstOf l0), .int .i64 (mstOf l0), .int .i64 (hashOf l0)] 24).step hb3
  clear hb3
  go_wp2_with fail
  refine (of_any _ l2 _ (hp.All.ints (by with_reducible exact K.alloc _ _) h2)).mono ?_
  rintro e w4 ⟨rfl, hb4⟩
  replace K := (K.alloc [.int .i64 l1.length, .int .i64 (sumOf l1), .int .i64 (lstOf l1), .int .i64 (mstOf l1), .int .i64 (hashOf l1)] 24).step hb4
  clear hb4
  go_wp2_with fail
  refine (none_any _).mono ?_
  rintro e w5 ⟨rfl, hb5⟩
  replace K := (K.alloc [.int .i64 l2.length, .int .i64 (sumOf l2), .int .i64 (lstOf l2), .int .i64 (mstOf l2), .int .i64 (hashOf l2)] 24).step hb5
  clear hb5
  go_wp2_with fail
  have K6 := K.alloc [.int .i64 0, .int .i64 0, .int .i64 9223372036854775807, .int .i64 (-9223372036854775808), .int .i64 0] 24
  clear K
  refine (ref.cat_any _ l0 _ l1 _ (hp.All.ints K6 h0) (hp.All.ints K6 h1) (by omega)).mono ?_
  rintro e w6 ⟨⟨u1, rfl, own1⟩, hb6⟩
  have K := K6.step hb6
  clear K6 hb6
  have i1 : hp.IsInts w6 w6.heap.size u1 (l0 ++ l1) := hp.IsInts.of_owns own1 rfl (ref.wf_append f0 f1)
  clear own1
  go_wp2_with fail
  refine (ref.cat_any _ _ _ l2 _ i1 (hp.All.ints K h2) (by simp; omega)).mono ?_
  rintro e w7 ⟨⟨u2, rfl, own2⟩, hb7⟩
  replace K := K.step hb7
  clear i1 hb7
  have i2 : hp.IsInts w7 w7.heap.size u2 t := ht ▸ hp.IsInts.of_owns own2 rfl (ref.wf_append (ref.wf_append f0 f1) f2)
  clear own2
  go_wp2_with fail
  refine (of_any _ _ _ i2).mono ?_
  rintro e w8 ⟨rfl, hb8⟩
  replace K := (K.step hb8).alloc [.int .i64 t.length, .int .i64 (sumOf t), .int .i64 (lstOf t), .int .i64 (mstOf t), .int .i64 (hashOf t)] 24
  clear hb8 i2
  go_wp2_with fail
  obtain ⟨p, hp1⟩ : ∃ p, l0 ++ l1 = p := ⟨_, rfl⟩
  obtain ⟨q, hq⟩ : ∃ q, l1 ++ l2 = q := ⟨_, rfl⟩
  have hpl : l0.length + l1.length = p.length := by rw [← hp1]; simp
  have hql : l1.length + l2.length = q.length := by rw [← hq]; simp
  have j1 := fun w => join_to l0 l1 p w hp1 (by omega)
  have j2 := fun w => join_to p l2 t w (by rw [← ht, ← hp1]) (by omega)
  have j3 := fun w => join_to l1 l2 q w hq (by omega)
  have j4 := fun w => join_to l0 q t w (by rw [← ht, ← hq, List.append_assoc]) (by omega)
  have j5 := fun w => join_none_left l0 w (by omega)
  have j6 := fun w => join_none_right l0 w (by omega)
  refine reg.region_quiet_all (by kernel_rfl) (by kernel_rfl) K ?_
  (go_big_quiet_want; apply Exists.intro; refine ⟨fun w' hw' => ?_, ?_⟩; (focus (obtain ⟨d0, d1, d2, d3, d4⟩ := (hw'.at 4 rfl).cells5; go_simp; first | done | exact rfl | exact ⟨rfl, rfl⟩)); go_simp; go_big_quiet_on)
  (go_big_quiet_want; apply Exists.intro; refine ⟨fun w' hw' => ?_, ?_⟩; (focus (obtain ⟨d0, d1, d2, d3, d4⟩ := (hw'.at 3 rfl).cells5; go_simp; first | done | exact rfl | exact ⟨rfl, rfl⟩)); go_simp; go_big_quiet_on)
  (go_big_quiet_want; apply Exists.intro; refine ⟨fun w' hw' => ?_, ?_⟩; (focus (go_simp; go_at_call 11; exact (j1 _).mono fun e w'' ⟨he, hw''⟩ => ⟨he, hw'.step hw''⟩)); go_simp; go_big_quiet_on)
  (go_big_quiet_want; apply Exists.intro; refine ⟨fun w' hw' => ?_, ?_⟩; (focus (obtain ⟨d0, d1, d2, d3, d4⟩ := (hw'.at 2 rfl).cells5; go_simp; first | done | exact rfl | exact ⟨rfl, rfl⟩)); go_simp; go_big_quiet_on)
  (go_big_quiet_want; apply Exists.intro; refine ⟨fun w' hw' => ?_, ?_⟩; (focus (go_simp; go_at_call 11; exact (j2 _).mono fun e w'' ⟨he, hw''⟩ => ⟨he, hw'.step hw''⟩)); go_simp; go_big_quiet_on)
  (go_big_quiet_want; apply Exists.intro; refine ⟨fun w' hw' => ?_, ?_⟩; (focus (obtain ⟨d0, d1, d2, d3, d4⟩ := (hw'.at 0 rfl).cells5; go_simp; first | done | exact rfl | exact ⟨rfl, rfl⟩)); go_simp; go_big_quiet_on)
  (repeat (first | go_big_quiet_step ((fail)) | (go_big_quiet_want; apply Exists.intro; refine ⟨fun w' hw' => ?_, ?_⟩; (focus (go_simp; first | done | exact rfl | exact ⟨rfl, rfl⟩)); go_simp; go_big_quiet_on)))
  (go_big_quiet_want; apply Exists.intro; refine ⟨fun w' hw' => ?_, ?_⟩; (focus (obtain ⟨d0, d1, d2, d3, d4⟩ := (hw'.at 4 rfl).cells5; go_simp; first | done | exact rfl | exact ⟨rfl, rfl⟩)); go_simp; go_big_quiet_on)
  (go_big_quiet_want; apply Exists.intro; refine ⟨fun w' hw' => ?_, ?_⟩; (focus (obtain ⟨d0, d1, d2, d3, d4⟩ := (hw'.at 3 rfl).cells5; go_simp; first | done | exact rfl | exact ⟨rfl, rfl⟩)); go_simp; go_big_quiet_on)
  (go_big_quiet_want; apply Exists.intro; refine ⟨fun w' hw' => ?_, ?_⟩; (focus (obtain ⟨d0, d1, d2, d3, d4⟩ := (hw'.at 2 rfl).cells5; go_simp; first | done | exact rfl | exact ⟨rfl, rfl⟩)); go_simp; go_big_quiet_on)
  (go_big_quiet_want; apply Exists.intro; refine ⟨fun w' hw' => ?_, ?_⟩; (focus (go_simp; go_at_call 11; exact (j3 _).mono fun e w'' ⟨he, hw''⟩ => ⟨he, hw'.step hw''⟩)); go_simp; go_big_quiet_on)
  (go_big_quiet_want; apply Exists.intro; refine ⟨fun w' hw' => ?_, ?_⟩; (focus (go_simp; go_at_call 11; exact (j4 _).mono fun e w'' ⟨he, hw''⟩ => ⟨he, hw'.step hw''⟩)); go_simp; go_big_quiet_on)
  (go_big_quiet_want; apply Exists.intro; refine ⟨fun w' hw' => ?_, ?_⟩; (focus (obtain ⟨d0, d1, d2, d3, d4⟩ := (hw'.at 0 rfl).cells5; go_simp; first | done | exact rfl | exact ⟨rfl, rfl⟩)); go_simp; go_big_quiet_on)
  (repeat (first | go_big_quiet_step ((fail)) | (go_big_quiet_want; apply Exists.intro; refine ⟨fun w' hw' => ?_, ?_⟩; (focus (go_simp; first | done | exact rfl | exact ⟨rfl, rfl⟩)); go_simp; go_big_quiet_on)))
  (go_big_quiet_want; apply Exists.intro; refine ⟨fun w' hw' => ?_, ?_⟩; (focus (obtain ⟨d0, d1, d2, d3, d4⟩ := (hw'.at 1 rfl).cells5; go_simp; first | done | exact rfl | exact ⟨rfl, rfl⟩)); go_simp; go_big_quiet_on)
  (go_big_quiet_want; apply Exists.intro; refine ⟨fun w' hw' => ?_, ?_⟩; (focus (obtain ⟨d0, d1, d2, d3, d4⟩ := (hw'.at 4 rfl).cells5; go_simp; first | done | exact rfl | exact ⟨rfl, rfl⟩)); go_simp; go_big_quiet_on)
  (go_big_quiet_want; apply Exists.intro; refine ⟨fun w' hw' => ?_, ?_⟩; (focus (go_simp; go_at_call 11; exact (j5 _).mono fun e w'' ⟨he, hw''⟩ => ⟨he, hw'.step hw''⟩)); go_simp; go_big_quiet_on)
  (go_big_quiet_want; apply Exists.intro; refine ⟨fun w' hw' => ?_, ?_⟩; (focus (obtain ⟨d0, d1, d2, d3, d4⟩ := (hw'.at 4 rfl).cells5; go_simp; first | done | exact rfl | exact ⟨rfl, rfl⟩)); go_simp; go_big_quiet_on)
  (repeat (first | go_big_quiet_step ((fail)) | (go_big_quiet_want; apply Exists.intro; refine ⟨fun w' hw' => ?_, ?_⟩; (focus (go_simp; first | done | exact rfl | exact ⟨rfl, rfl⟩)); go_simp; go_big_quiet_on)))
  (go_big_quiet_want; apply Exists.intro; refine ⟨fun w' hw' => ?_, ?_⟩; (focus (obtain ⟨d0, d1, d2, d3, d4⟩ := (hw'.at 4 rfl).cells5; go_simp; first | done | exact rfl | exact ⟨rfl, rfl⟩)); go_simp; go_big_quiet_on)
  (go_big_quiet_want; apply Exists.intro; refine ⟨fun w' hw' => ?_, ?_⟩; (focus (obtain ⟨d0, d1, d2, d3, d4⟩ := (hw'.at 1 rfl).cells5; go_simp; first | done | exact rfl | exact ⟨rfl, rfl⟩)); go_simp; go_big_quiet_on)
  (go_big_quiet_want; apply Exists.intro; refine ⟨fun w' hw' => ?_, ?_⟩; (focus (go_simp; go_at_call 11; exact (j6 _).mono fun e w'' ⟨he, hw''⟩ => ⟨he, hw'.step hw''⟩)); go_simp; go_big_quiet_on)
  (go_big_quiet_want; apply Exists.intro; refine ⟨fun w' hw' => ?_, ?_⟩; (focus (obtain ⟨d0, d1, d2, d3, d4⟩ := (hw'.at 4 rfl).cells5; go_simp; first | done | exact rfl | exact ⟨rfl, rfl⟩)); go_simp; go_big_quiet_on)
  (repeat (first | go_big_quiet_step ((fail)) | (go_big_quiet_want; apply Exists.intro; refine ⟨fun w' hw' => ?_, ?_⟩; (focus (go_simp; first | done | exact rfl | exact ⟨rfl, rfl⟩)); go_simp; go_big_quiet_on)))
  refine wpQuiet_nil ?_
  intro w9 K9
  go_wp2
  go_ret
  exact ⟨rfl, K9.below⟩
end Go.Proofs.Ythjpgcljmbajkaa.monoSplits
