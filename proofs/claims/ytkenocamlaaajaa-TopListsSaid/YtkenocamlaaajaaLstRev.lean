/- Package list: the list reversed; two lists joined. -/
import Derived.Test.YtkenocamlaaajaaLstInts
namespace Go.Proofs.Ytkenocamlaaajaa.lst
open Go Go.RowKit Go.Shelf
attribute [local go_sem] Oper.semAt_some

set_option maxHeartbeats 4000000 in
theorem rev_any (v : Value) (l : List Int) (w : World) (hv : IsList w w.heap.size v l) (hbd : l.length < 4611686018427387904) :
    Calls Try.prog 54 #[v] w fun e w' => (∃ u, e = .returned u ∧ IsList w' w'.heap.size u l.reverse) ∧ Below w.heap.size w w' := by
  obtain ⟨p, rfl, hc, hw⟩ := hv
  (refine rng.calls_of_marks Try.func54 rfl ?_; simp only [Try.ntmps54, List.size_toArray, List.length_cons, List.length_nil, Nat.reduceAdd, Nat.reduceSub, Array.replicate_succ, Array.replicate_zero, List.push_toArray, List.append_toArray, List.nil_append, List.cons_append])
  go_wp2_with (go_at_call 49; refine (all_any _ _ _).mono ?_; rintro e w2 ⟨rfl, rfl⟩)
  obtain ⟨W0, hW0⟩ : ∃ W0, (((w.alloc (.cells #[.pointer p, .int .i64 l.length] 56)).alloc (.cells #[.pointer none, .int .i64 0] 56)).alloc (.cells #[.pointer none, .int .i64 0] 56)).alloc (.cells #[.pointer p, .int .i64 l.length] 56) = W0 := ⟨_, rfl⟩
  have hb3 : Below w.heap.size w W0 := by
    rw [← hW0]
    ((repeat' (first | with_reducible exact Below.refl _ _ | with_reducible apply Below.setCell | with_reducible apply below_drewN | with_reducible apply Below.drew | with_reducible apply Below.alloc | with_reducible refine Below.trans ?_ (Below.mono (by assumption) ?_))) <;> (first | (simp; done) | (simp; omega) | omega))
  have hR : hp.Blk W0 (w.heap.size + 1) 56 [.pointer none, .int .i64 0] := by rw [← hW0]; exact ((hp.Blk.new1 _ _ _ _).alloc _).alloc _
  have hB : hp.Blk W0 (w.heap.size + 1 + 1) 56 [.pointer none, .int .i64 0] := by
    rw [← hW0]
    have := (hp.Blk.new1 (w.alloc (.cells #[.pointer p, .int .i64 l.length] 56)) (.cells #[.pointer none, .int .i64 0] 56) [.pointer none, .int .i64 0] 56).alloc (.cells #[.pointer p, .int .i64 l.length] 56)
    simpa using this
  have hC : hp.Blk W0 (w.heap.size + 1 + 1 + 1) 56 [.pointer p, .int .i64 l.length] := by
    rw [← hW0]
    have := hp.Blk.new (((w.alloc (.cells #[.pointer p, .int .i64 l.length] 56)).alloc (.cells #[.pointer none, .int .i64 0] 56)).alloc (.cells #[.pointer none, .int .i64 0] 56)) [.pointer p, .int .i64 l.length] 56
    simpa using this
  rw [hW0]
  apply rng.wp_range (gf := 66) (lb := #[.pointer (some ⟨w.heap.size + 1 + 1 + 1, 0, none⟩)]) rfl enters_all hb3.size
    (all_stops 8 (w.heap.size + 1 + 1 + 1) w.heap.size p l.length l W0 hb3.size hC (hc.below hb3)) (fun _ => rfl)
    (fun pre W => Below w.heap.size w W ∧ hp.Blk W (w.heap.size + 1) 56 [.pointer none, .int .i64 0] ∧ ∃ q, hp.Blk W (w.heap.size + 1 + 1) 56 [.pointer q, .int .i64 pre.length] ∧ Chain W.heap.size W q pre.reverse)
    (fun _ _ _ => False)
    (by rintro s W W' ⟨h1, h2, q, h3, h4⟩ T; exact ⟨T.below h1 hb3.size h1.size, T.blk h2, q, T.blk h3, (T.chain h4).mono T.size⟩)
    (fun _ _ _ _ h _ => h)
    ⟨hb3, hR, none, hB, rfl⟩
  · intro l x W K hK
    gi_wp2
    exact hK
  · rintro r pre x W ⟨hb, hk1, q, hk, hch⟩ hlen
    obtain ⟨c0, c1⟩ := hk.cells2
    have hpl : pre.reverse.length = pre.length := by simp
    have hpush := push_raw q pre.reverse x W hch (by omega)
    rw [hpl] at hpush
    clear hpl
    gi_wp2_with (refine ⟨trivial, ?_⟩; gi_at_call 30; refine (CallsIn.inRound r (callsIn_wide.2 hpush)).mono ?_; rintro e w1 ⟨⟨q1, rfl, hq1⟩, hb1⟩; have hk2 := hk.on hb1; obtain ⟨d0, d1⟩ := hk2.cells2; have df := hk2.free)
    refine ⟨((rng.Rnd.refl _ _ _).call hb1 hb.size).set (by omega) _ _ |>.set (by omega) _ _, ?_, ?_, q1, ?_, ?_⟩
    · exact (hb.trans (hb1.mono hb.size)).setCell (by simp; omega) _ |>.setCell (by simp; omega) _
    · exact ((hk1.on hb1).other (by simp) _).other (by simp) _
    · exact (hk2.set2 _ _).cast (by simp)
    · exact ((hq1.set hk2 (by decide) _).set (hk2.set 0 _) (by decide) _).mono (by simp)
  · rintro D ys W hD rfl ⟨hb, hk1, q, hk, hch⟩ hK
    obtain ⟨c0, c1⟩ := hk.cells2
    obtain ⟨d0, d1⟩ := hk1.cells2
    have df := hk1.free
    go_wp2
    have hk2 := hk1.set2 (.pointer q) (.int .i64 ys.length)
    have hK2 := ((KeepsOthers.setCell _ ⟨w.heap.size + 1, 0, none⟩ (.pointer q)).trans (KeepsOthers.setCell _ ⟨w.heap.size + 1, 1, none⟩ (.int .i64 ys.length))).same D _ hK rfl
    have T := rng.Turn.put (B := w.heap.size) (.deferred none) (by have := hb3.size; omega) hK2 rfl
    obtain ⟨f0, f1⟩ := (T.blk hk2).cells2
    refine rng.postM_ret (v := lv q ys.length) hK2 rfl (by simp [results, Try.results54, go_sem, f0, f1]) ⟨⟨_, rfl, q, by simp, ?_, ?_⟩, ?_⟩
    · exact (T.chain ((hch.set hk1 (by decide) _).set (hk1.set 0 _) (by decide) _)).mono (by have := T.size; simp at this ⊢)
    · intro y hy
      exact hw y (by simpa using hy)
    · refine T.below ?_ (Nat.le_refl _) (by have := hb.size; simp; omega)
      exact (hb.setCell (by simp) _).setCell (by simp) _
  · rintro D c pre W _ _ h _
    exact h.elim
set_option maxHeartbeats 4000000 in
theorem join_to {v0 : Value} {l0 : List Int} {v1 : Value} {l1 t : List Int} {w : World} (ht : l0 ++ l1 = t) (h0 : IsList w w.heap.size v0 l0) (h1 : IsList w w.heap.size v1 l1) (hbd : l0.length ≤ 35184372088832) (hbd1 : l1.length < 2305843009213693952) :
    Calls Try.prog 65 #[v0, v1] w fun e w' => (∃ u, e = .returned u ∧ IsList w' w'.heap.size u t) ∧ Below w.heap.size w w' := by
  have h0' := h0
  have h1' := h1
  obtain ⟨p0, rfl, hc0, hw0⟩ := h0'
  obtain ⟨p1, rfl, hc1, hw1⟩ := h1'
  go_enter Try.func65, Try.ntmps65
  go_wp2_with fail
  obtain ⟨W0, hW0⟩ : ∃ W0, ((w.alloc (.cells #[.pointer p0, .int .i64 l0.length] 56)).alloc (.cells #[.pointer p1, .int .i64 l1.length] 56)).alloc (.cells #[.pointer none, .int .i64 0] 56) = W0 := ⟨_, rfl⟩
  have hb3 : Below w.heap.size w W0 := by
    rw [← hW0]
    ((repeat' (first | with_reducible exact Below.refl _ _ | with_reducible apply Below.setCell | with_reducible apply below_drewN | with_reducible apply Below.drew | with_reducible apply Below.alloc | with_reducible refine Below.trans ?_ (Below.mono (by assumption) ?_))) <;> (first | (simp; done) | (simp; omega) | omega))
  have hA : hp.Blk W0 w.heap.size 56 [.pointer p0, .int .i64 l0.length] := by rw [← hW0]; exact ((hp.Blk.new w [.pointer p0, .int .i64 l0.length] _).alloc _).alloc _
  have hB : hp.Blk W0 (w.heap.size + 1) 56 [.pointer p1, .int .i64 l1.length] := by rw [← hW0]; exact (hp.Blk.new1 _ _ _ _).alloc _
  have hR : hp.Blk W0 (w.heap.size + 1 + 1) 56 [.pointer none, .int .i64 0] := by
    rw [← hW0]
    have := hp.Blk.new1 (w.alloc (.cells #[.pointer p0, .int .i64 l0.length] 56)) (.cells #[.pointer p1, .int .i64 l1.length] 56) [.pointer none, .int .i64 0] 56
    simpa using this
  have h0 := h0.on hb3
  have h1 := h1.on hb3
  rw [hW0]
  clear hW0
  apply rel.region_tail (C := fun w' => Below W0.heap.size W0 w') (X := fun w w' => Below w.heap.size w w') 4 (by kernel_rfl) (by kernel_rfl) (by kernel_rfl) (by kernel_rfl) ((Below.refl _ _).drew)
  ((apply rel.walk_val; (focus (intro wq hq hf; (obtain ⟨d0, d1⟩ := ((hB).below hq (hB).lt).cells2); go_wp2; refine ⟨hq, Below.refl _ _, ?_, rfl⟩; (show rel.slot _ _ = _; simp only [rel.slot_lit, List.getD_cons_succ, List.getD_cons_zero]; (first | done | exact rfl)))); (simp only [rel.put_lit, List.set_cons_succ, List.set_cons_zero])))
  ((apply rel.walk_val; (focus (intro wq hq hf; (obtain ⟨d0, d1⟩ := ((hA).below hq (hA).lt).cells2); go_wp2; refine ⟨hq, Below.refl _ _, ?_, rfl⟩; (show rel.slot _ _ = _; simp only [rel.slot_lit, List.getD_cons_succ, List.getD_cons_zero]; (first | done | exact rfl)))); (simp only [rel.put_lit, List.set_cons_succ, List.set_cons_zero])))
  (apply rel.walk_rel (fun u w' => hp.IsInts w' w'.heap.size u (l0)) ⟨_, rfl⟩ (fun u w1 w2 h1 h2 => h2.on h1); (focus (intro wq hq hf; go_wp2_with (go_at_call 31; refine (ints_any _ l0 _ (h0.on hq) hbd).mono ?_; rintro e w'' ⟨⟨u, rfl, hu⟩, hb⟩); refine ⟨hq.trans (hb.mono hq.size), hb, ?_, rfl⟩; (show hp.IsInts _ _ (rel.slot _ _) _; simp only [rel.slot_lit, List.getD_cons_succ, List.getD_cons_zero]; exact hu))); (intro u wu _ hu; obtain ⟨pu, cu, rfl, -⟩ := hu; (simp only [rel.put_lit, List.set_cons_succ, List.set_cons_zero])))
  (apply rel.walk_rel (fun u w' => lst.IsList w' w'.heap.size u (t)) ⟨_, rfl⟩ (fun u w1 w2 h1 h2 => h2.on h1); (focus (intro wq hq hf; go_wp2_with (go_at_call 47; refine (pushAll_to ht (h1.on hq) (hf.get 0 rfl rfl) (by omega)).mono ?_; rintro e w'' ⟨⟨u, rfl, hu⟩, hb⟩); refine ⟨hq.trans (hb.mono hq.size), hb, ?_, rfl⟩; (show lst.IsList _ _ (rel.slot _ _) _; simp only [rel.slot_lit, List.getD_cons_succ, List.getD_cons_zero]; exact hu))); (intro u wu _ hu; obtain ⟨pu, rfl, -, -⟩ := hu; (simp only [rel.put_lit, List.set_cons_succ, List.set_cons_zero])))
  refine rel.walk_nil ?_
  intro w9 K9 hF
  have hu : IsList w9 w9.heap.size (lv pu t.length) t := hF _ (List.mem_cons_self ..)
  have hR9 := hR.on K9
  obtain ⟨c0, c1⟩ := hR9.cells2
  have cf := hR9.free
  obtain ⟨f0, f1⟩ := (hR9.set2 (.pointer pu) (.int .i64 t.length)).cells2
  simp only [List.drop_succ_cons, List.drop_zero]
  clear hF
  go_wp2
  refine bodyPost_ret (v := lv pu t.length) (by simp [results, Try.results65, go_sem, f0, f1]) rfl ⟨⟨_, rfl, (hu.set2 hR9 _ _).mono (by simp)⟩, ?_⟩
  refine (hb3.trans (K9.mono hb3.size)).trans ?_
  ((repeat' (first | with_reducible exact Below.refl _ _ | with_reducible apply Below.setCell | with_reducible apply below_drewN | with_reducible apply Below.drew | with_reducible apply Below.alloc | with_reducible refine Below.trans ?_ (Below.mono (by assumption) ?_))) <;> (first | (simp; done) | (simp; omega) | omega))
end Go.Proofs.Ytkenocamlaaajaa.lst
