/- Package queue: Pop of a queue that is not empty. -/
import Derived.Test.YtgfgcmncnnjepaaQueOps
namespace Go.Proofs.Ytgfgcmncnnjepaa.que
open Go Go.RowKit

set_option maxHeartbeats 8000000 in
theorem pop_cons {v : Value} {x : Int} {l : List Int} {w : World} (hv : IsQ w w.heap.size v (x :: l)) (hl : l.length < 35184372088832) :
    Calls Try.prog 8 #[v] w fun e w' => (∃ u, e = .returned (.tuple #[.int .i64 x, u, .bool true]) ∧ IsQ w' w'.heap.size u l) ∧ Below w.heap.size w w' := by
  obtain ⟨p, q, F0, K, rfl, h0, h1, hle, hFK, hlen⟩ := hv.split
  obtain ⟨F, rfl, hFl⟩ := front hFK hle
  obtain ⟨n, hn⟩ : ∃ n : Int, n = ((x :: F).length : Int) := ⟨_, rfl⟩
  have hFKl : F.length + K.length < 35184372088833 := by simp at hlen; omega
  rw [← hn] at h0 ⊢
  have hFl := Lib.hid hFl
  clear hv hle hFK hlen hn hl
  go_enter Try.func8, Try.ntmps8
  refine wp_seq_k fun K1 hK1 => ?_
  replace hK1 := Lib.hid hK1
  go_wp2_with fail
  obtain ⟨W0, hW0, hb3, hA, hR⟩ := two_new w p q n K.length
  have h0 := h0.on hb3
  have h1 := h1.on hb3
  rw [hW0]
  clear hW0
  refine hK1.out _ _ ?_
  refine wp_seq_k fun K2 hK2 => ?_
  replace hK2 := Lib.hid hK2
  apply rel.seq_tail (hn := by decide) (C := fun w' => Below W0.heap.size W0 w') (X := fun w w' => Below w.heap.size w w') 3 (by kernel_rfl) (by kernel_rfl) (Below.refl _ _)
  (apply rel.walk_val; (focus (intro wq hq hf; go_wp2; refine ⟨hq, Below.refl _ _, ?_, rfl⟩; (show rel.slot _ _ = _; simp only [rel.slot_lit, List.getD_cons_succ, List.getD_cons_zero]; (first | done | exact rfl)))); (simp only [rel.put_lit, List.set_cons_succ, List.set_cons_zero]))
  ((apply rel.walk_val; (focus (intro wq hq hf; (obtain ⟨d0, d1, d2, d3⟩ := ((hA).below hq (hA).lt).cells4); go_wp2; refine ⟨hq, Below.refl _ _, ?_, rfl⟩; (show rel.slot _ _ = _; simp only [rel.slot_lit, List.getD_cons_succ, List.getD_cons_zero]; (first | done | exact rfl)))); (simp only [rel.put_lit, List.set_cons_succ, List.set_cons_zero])))
  (apply rel.walk_rel (fun u w' => ∃ p, u = .tuple #[.int .i64 x, lst.lv p (F : List Int).length, .bool true] ∧ lst.IsList w' w'.heap.size (lst.lv p (F : List Int).length) F) ⟨_, rfl⟩ (fun u w1 w2 h1 h2 => by obtain ⟨p, he, hl⟩ := h2; exact ⟨p, he, hl.on h1⟩); (focus (intro wq hq hf; go_wp2_with (go_at_call 16; refine (lpop_cons (h0.on hq) (by omega)).mono ?_; rintro e w'' ⟨⟨p, rfl, hu⟩, hb⟩); refine ⟨hq.trans (hb.mono hq.size), hb, ?_, rfl⟩; (show ∃ p, rel.slot _ _ = _ ∧ _; simp only [rel.slot_lit, List.getD_cons_succ, List.getD_cons_zero]; exact ⟨p, rfl, hu⟩))); (intro u wu _ hu; obtain ⟨pu, rfl, -⟩ := hu; (simp only [rel.put_lit, List.set_cons_succ, List.set_cons_zero])))
  refine rel.walk_nil ?_
  intro w9 K9 hF
  simp only [List.drop_succ_cons, List.drop_zero]
  have h9 : lst.IsList w9 w9.heap.size (lst.lv pu F.length) F := by
    obtain ⟨px, hpe, hpl⟩ : ∃ p, Value.tuple #[.int .i64 x, lst.lv pu F.length, .bool true] = .tuple #[.int .i64 x, lst.lv p F.length, .bool true] ∧ lst.IsList w9 w9.heap.size (lst.lv p F.length) F := rel.fact hF 0 rfl
    obtain rfl : pu = px := by simpa using hpe
    exact hpl
  clear hF
  have hb9 : Below w.heap.size w w9 := hb3.trans (K9.mono hb3.size)
  have hA9 := hA.on K9
  have hR9 := hR.on K9
  have h19 := h1.on K9
  clear K9 hA hR h0 h1 hb3
  go_wp2_with fail
  refine hK2.out _ _ ?_
  obtain ⟨W1, hW1⟩ : ∃ W1, w9.alloc (.cells #[.pointer pu, .int .i64 F.length] 27) = W1 := ⟨_, rfl⟩
  have kb1 : Below w9.heap.size w9 W1 := by
    rw [← hW1]
    ((repeat' (first | with_reducible exact Below.refl _ _ | with_reducible apply Below.setCell | with_reducible apply below_drewN | with_reducible apply Below.drew | with_reducible apply Below.alloc | with_reducible refine Below.trans ?_ (Below.mono (by assumption) ?_))) <;> (first | (simp; done) | (simp; omega) | omega))
  have hL1 : hp.Blk W1 w9.heap.size 27 [.pointer pu, .int .i64 F.length] := by rw [← hW1]; exact hp.Blk.new w9 [.pointer pu, .int .i64 F.length] _
  rw [hW1]
  clear hW1
  have hA1 := hA9.on kb1
  have hR1 := hR9.on kb1
  have h91 := h9.on kb1
  have h11 := h19.on kb1
  have hb1 : Below w.heap.size w W1 := hb9.trans (kb1.mono hb9.size)
  clear kb1 hA9 hR9 h9 h19 hb9
  refine wp_seq_k fun K3 hK3 => ?_
  replace hK3 := Lib.hid hK3
  go_wp2_with fail
  refine hK3.out _ _ ?_
  refine wp_seq_k fun K4 hK4 => ?_
  replace hK4 := Lib.hid hK4
  apply rel.seq_tail (hn := by decide) (C := fun w' => Below W1.heap.size W1 w') (X := fun w w' => Below w.heap.size w w') 5 (by kernel_rfl) (by kernel_rfl) (Below.refl _ _)
  (apply rel.walk_val; (focus (intro wq hq hf; go_wp2; refine ⟨hq, Below.refl _ _, ?_, rfl⟩; (show rel.slot _ _ = _; simp only [rel.slot_lit, List.getD_cons_succ, List.getD_cons_zero]; (first | done | exact rfl)))); (simp only [rel.put_lit, List.set_cons_succ, List.set_cons_zero]))
  ((apply rel.walk_val; (focus (intro wq hq hf; (obtain ⟨d0, d1⟩ := ((hL1).below hq (hL1).lt).cells2); go_wp2; refine ⟨hq, Below.refl _ _, ?_, rfl⟩; (show rel.slot _ _ = _; simp only [rel.slot_lit, List.getD_cons_succ, List.getD_cons_zero]; (first | done | exact rfl)))); (simp only [rel.put_lit, List.set_cons_succ, List.set_cons_zero])))
  (apply rel.walk_val; (focus (intro wq hq hf; go_wp2; refine ⟨hq, Below.refl _ _, ?_, rfl⟩; (show rel.slot _ _ = _; simp only [rel.slot_lit, List.getD_cons_succ, List.getD_cons_zero]; (first | done | exact rfl)))); (simp only [rel.put_lit, List.set_cons_succ, List.set_cons_zero]))
  ((apply rel.walk_val; (focus (intro wq hq hf; (obtain ⟨d0, d1, d2, d3⟩ := ((hA1).below hq (hA1).lt).cells4); go_wp2; refine ⟨hq, Below.refl _ _, ?_, rfl⟩; (show rel.slot _ _ = _; simp only [rel.slot_lit, List.getD_cons_succ, List.getD_cons_zero]; (first | done | exact rfl)))); (simp only [rel.put_lit, List.set_cons_succ, List.set_cons_zero])))
  (apply rel.walk_rel (fun u w' => que.IsQ w' w'.heap.size u (l)) ⟨_, rfl⟩ (fun u w1 w2 h1 h2 => h2.on h1); (focus (intro wq hq hf; go_wp2_with (go_at_call 14; refine (balanced_to hFl.out (h91.on hq) (h11.on hq) (by omega) (by omega)).mono ?_; rintro e w'' ⟨⟨u, rfl, hu⟩, hb⟩); refine ⟨hq.trans (hb.mono hq.size), hb, ?_, rfl⟩; (show que.IsQ _ _ (rel.slot _ _) _; simp only [rel.slot_lit, List.getD_cons_succ, List.getD_cons_zero]; exact hu))); (intro u wu _ hu; obtain ⟨pu_1, qu, Fu, Ku, rfl, -, -, -, -⟩ := hu; (simp only [rel.put_lit, List.set_cons_succ, List.set_cons_zero])))
  refine rel.walk_nil ?_
  intro w8 K8 hF
  simp only [List.drop_succ_cons, List.drop_zero]
  have hu : IsQ w8 w8.heap.size _ l := hF _ (List.mem_cons_self ..)
  clear hF
  have hR8 := hR1.on K8
  have hb8 : Below w.heap.size w w8 := hb1.trans (K8.mono hb1.size)
  clear K8 hR1 hb1 h91 h11 hA1 hL1
  obtain ⟨c0, c1, c2, c3⟩ := hR8.cells4
  have cf := hR8.free
  go_wp2_with fail
  refine hK4.out _ _ ?_
  obtain ⟨f0, f1, f2, f3⟩ := (hR8.set4 (.pointer pu_1) (.int .i64 Fu.length) (.pointer qu) (.int .i64 Ku.length)).cells4
  clear c0 c1 c2 c3 cf
  go_wp2_with fail
  refine bodyPost_ret (v := .tuple #[.int .i64 x, qv pu_1 Fu.length qu Ku.length, .bool true]) (by simp [results, Try.results8, go_sem, f0, f1, f2, f3]) rfl ⟨⟨_, rfl, (IsQ.set4 hu hR8 _ _ _ _).mono (by simp)⟩, hb8.trans ?_⟩
  ((repeat' (first | with_reducible exact Below.refl _ _ | with_reducible apply Below.setCell | with_reducible apply below_drewN | with_reducible apply Below.drew | with_reducible apply Below.alloc | with_reducible refine Below.trans ?_ (Below.mono (by assumption) ?_))) <;> (first | (simp; done) | (simp; omega) | omega))
end Go.Proofs.Ytgfgcmncnnjepaa.que
