/- The contracts of package queue's methods. -/
import Derived.Test.YtkenocamlaaajaaQue
namespace Go.Proofs.Ytkenocamlaaajaa.que
open Go Go.RowKit

theorem IsQ.split {w : World} {v : Value} {l : List Int} (h : IsQ w w.heap.size v l) : ∃ p q F K, v = qv p (F.length : Int) q (K.length : Int) ∧ lst.IsList w w.heap.size (lst.lv p F.length) F ∧ lst.IsList w w.heap.size (lst.lv q K.length) K ∧ K.length ≤ F.length ∧ F ++ K.reverse = l ∧ F.length + K.length = l.length := by
  obtain ⟨p, q, F, K, hv, h1, h2, h3, h4⟩ := h
  exact ⟨p, q, F, K, hv, h1, h2, h3, h4, by rw [← h4]; simp⟩

set_option maxHeartbeats 4000000 in
theorem push_to {v : Value} {l t : List Int} {x : Int} {w : World} (ht : l ++ [x] = t) (hv : IsQ w w.heap.size v l) (hx : (Lit.int .i64 x).wf = true) (hl : l.length < 35184372088832) :
    Calls Try.prog 29 #[v, .int .i64 x] w fun e w' => (∃ u, e = .returned u ∧ IsQ w' w'.heap.size u t) ∧ Below w.heap.size w w' := by
  obtain ⟨p, q, F, K, rfl, h0, h1, hle, hFK, hlen⟩ := hv.split
  have hFK := Lib.hid hFK
  have ht := Lib.hid ht
  clear hv
  obtain ⟨n, hn⟩ : ∃ n, n = l.length := ⟨_, rfl⟩
  rw [← hn] at hl hlen
  clear hn
  go_enter Try.func29, Try.ntmps29
  go_wp2_with fail
  obtain ⟨W0, hW0⟩ : ∃ W0, (w.alloc (.cells #[.pointer p, .int .i64 F.length, .pointer q, .int .i64 K.length] 63)).alloc (.cells #[.pointer none, .int .i64 0, .pointer none, .int .i64 0] 63) = W0 := ⟨_, rfl⟩
  have hb3 : Below w.heap.size w W0 := by
    rw [← hW0]
    ((repeat' (first | with_reducible exact Below.refl _ _ | with_reducible apply Below.setCell | with_reducible apply below_drewN | with_reducible apply Below.drew | with_reducible apply Below.alloc | with_reducible refine Below.trans ?_ (Below.mono (by assumption) ?_))) <;> (first | (simp; done) | (simp; omega) | omega))
  have hA : hp.Blk W0 w.heap.size 63 [.pointer p, .int .i64 F.length, .pointer q, .int .i64 K.length] := by rw [← hW0]; exact (hp.Blk.new w [.pointer p, .int .i64 F.length, .pointer q, .int .i64 K.length] _).alloc _
  have hR : hp.Blk W0 (w.heap.size + 1) 63 [.pointer none, .int .i64 0, .pointer none, .int .i64 0] := by rw [← hW0]; exact hp.Blk.new1 _ _ _ _
  have h0 := h0.on hb3
  have h1 := h1.on hb3
  rw [hW0]
  clear hW0
  apply rel.region_tail (C := fun w' => Below W0.heap.size W0 w') (X := fun w w' => Below w.heap.size w w') 7 (by kernel_rfl) (by kernel_rfl) (by kernel_rfl) (by kernel_rfl) ((Below.refl _ _).drew)
  (apply rel.walk_val; (focus (intro wq hq hf; go_wp2; refine ⟨hq, Below.refl _ _, ?_, rfl⟩; (show rel.slot _ _ = _; simp only [rel.slot_lit, List.getD_cons_succ, List.getD_cons_zero]; (first | done | exact rfl)))); (simp only [rel.put_lit, List.set_cons_succ, List.set_cons_zero]))
  ((apply rel.walk_val; (focus (intro wq hq hf; (obtain ⟨d0, d1, d2, d3⟩ := ((hA).below hq (hA).lt).cells4); go_wp2; refine ⟨hq, Below.refl _ _, ?_, rfl⟩; (show rel.slot _ _ = _; simp only [rel.slot_lit, List.getD_cons_succ, List.getD_cons_zero]; (first | done | exact rfl)))); (simp only [rel.put_lit, List.set_cons_succ, List.set_cons_zero])))
  (apply rel.walk_val; (focus (intro wq hq hf; go_wp2; refine ⟨hq, Below.refl _ _, ?_, rfl⟩; (show rel.slot _ _ = _; simp only [rel.slot_lit, List.getD_cons_succ, List.getD_cons_zero]; (first | done | exact rfl)))); (simp only [rel.put_lit, List.set_cons_succ, List.set_cons_zero]))
  ((apply rel.walk_val; (focus (intro wq hq hf; (obtain ⟨d0, d1, d2, d3⟩ := ((hA).below hq (hA).lt).cells4); go_wp2; refine ⟨hq, Below.refl _ _, ?_, rfl⟩; (show rel.slot _ _ = _; simp only [rel.slot_lit, List.getD_cons_succ, List.getD_cons_zero]; (first | done | exact rfl)))); (simp only [rel.put_lit, List.set_cons_succ, List.set_cons_zero])))
  (apply rel.walk_val; (focus (intro wq hq hf; go_wp2; refine ⟨hq, Below.refl _ _, ?_, rfl⟩; (show rel.slot _ _ = _; simp only [rel.slot_lit, List.getD_cons_succ, List.getD_cons_zero]; (first | done | exact rfl)))); (simp only [rel.put_lit, List.set_cons_succ, List.set_cons_zero]))
  (apply rel.walk_rel (fun u w' => lst.IsList w' w'.heap.size u (x :: K)) ⟨_, rfl⟩ (fun u w1 w2 h1 h2 => h2.on h1); (focus (intro wq hq hf; go_wp2_with (go_at_call 30; refine (lst.push_any _ K x _ (h1.on hq) hx (by omega)).mono ?_; rintro e w'' ⟨⟨u, rfl, hu⟩, hb⟩); refine ⟨hq.trans (hb.mono hq.size), hb, ?_, rfl⟩; (show lst.IsList _ _ (rel.slot _ _) _; simp only [rel.slot_lit, List.getD_cons_succ, List.getD_cons_zero]; exact hu))); (intro u wu _ hu; obtain ⟨pu, rfl, -, -⟩ := hu; (simp only [rel.put_lit, List.set_cons_succ, List.set_cons_zero])))
  (apply rel.walk_rel (fun u w' => que.IsQ w' w'.heap.size u (t)) ⟨_, rfl⟩ (fun u w1 w2 h1 h2 => h2.on h1); (focus (intro wq hq hf; go_wp2_with (go_at_call 48; refine (balanced_to (t := t) (by rw [List.reverse_cons, ← List.append_assoc, hFK.out, ht.out]) (h0.on hq) (hf.get 0 rfl rfl) (by omega) (by simp; omega)).mono ?_; rintro e w'' ⟨⟨u, rfl, hu⟩, hb⟩); refine ⟨hq.trans (hb.mono hq.size), hb, ?_, rfl⟩; (show que.IsQ _ _ (rel.slot _ _) _; simp only [rel.slot_lit, List.getD_cons_succ, List.getD_cons_zero]; exact hu))); (intro u wu _ hu; obtain ⟨pu, qu, Fu, Ku, rfl, -, -, -, -⟩ := hu; (simp only [rel.put_lit, List.set_cons_succ, List.set_cons_zero])))
  refine rel.walk_nil ?_
  intro w9 K9 hF
  have hu : IsQ w9 w9.heap.size _ t := hF _ (List.mem_cons_self ..)
  have hR9 := hR.on K9
  obtain ⟨c0, c1, c2, c3⟩ := hR9.cells4
  have cf := hR9.free
  obtain ⟨f0, f1, f2, f3⟩ := (hR9.set4 (.pointer pu) (.int .i64 Fu.length) (.pointer qu) (.int .i64 Ku.length)).cells4
  simp only [List.drop_succ_cons, List.drop_zero]
  clear hF
  go_wp2
  refine bodyPost_ret (v := qv pu Fu.length qu Ku.length) (by simp [results, Try.results29, go_sem, f0, f1, f2, f3]) rfl ⟨⟨_, rfl, ?_⟩, ?_⟩
  · exact (IsQ.set4 hu hR9 _ _ _ _).mono (by simp)
  · refine (hb3.trans (K9.mono hb3.size)).trans ?_
    ((repeat' (first | with_reducible exact Below.refl _ _ | with_reducible apply Below.setCell | with_reducible apply below_drewN | with_reducible apply Below.drew | with_reducible apply Below.alloc | with_reducible refine Below.trans ?_ (Below.mono (by assumption) ?_))) <;> (first | (simp; done) | (simp; omega) | omega))

theorem two_nil {F K : List Int} (h : F ++ K.reverse = []) : F = [] ∧ K = [] := by simpa using h
theorem front {F K l : List Int} {x : Int} (h : F ++ K.reverse = x :: l) (hle : K.length ≤ F.length) : ∃ F', F = x :: F' ∧ F' ++ K.reverse = l := by
  cases F with
  | nil =>
    obtain rfl : K = [] := List.eq_nil_of_length_eq_zero (by simpa using hle)
    simp at h
  | cons y F' =>
    obtain ⟨hy, h2⟩ : y = x ∧ F' ++ K.reverse = l := by simpa using h
    exact ⟨F', by rw [hy], h2⟩

/-- what both ways of Pop begin with -/
theorem two_new (w : World) (p q : Option Addr) (n m : Int) : ∃ W0, (w.alloc (.cells #[.pointer p, .int .i64 n, .pointer q, .int .i64 m] 63)).alloc (.cells #[.pointer none, .int .i64 0, .pointer none, .int .i64 0] 63) = W0 ∧ Below w.heap.size w W0 ∧
    hp.Blk W0 w.heap.size 63 [.pointer p, .int .i64 n, .pointer q, .int .i64 m] ∧ hp.Blk W0 (w.heap.size + 1) 63 [.pointer none, .int .i64 0, .pointer none, .int .i64 0] := by
  refine ⟨_, rfl, ?_, (hp.Blk.new w [.pointer p, .int .i64 n, .pointer q, .int .i64 m] _).alloc _, hp.Blk.new1 _ _ _ _⟩
  ((repeat' (first | with_reducible exact Below.refl _ _ | with_reducible apply Below.setCell | with_reducible apply below_drewN | with_reducible apply Below.drew | with_reducible apply Below.alloc | with_reducible refine Below.trans ?_ (Below.mono (by assumption) ?_))) <;> (first | (simp; done) | (simp; omega) | omega))

end Go.Proofs.Ytkenocamlaaajaa.que
