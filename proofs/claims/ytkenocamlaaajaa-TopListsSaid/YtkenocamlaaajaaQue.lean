/- Queues in memory, and the contracts of package queue. -/
import Derived.Test.YtkenocamlaaajaaLstRev
import Derived.Test.YtkenocamlaaajaaSame
namespace Go.Proofs.Ytkenocamlaaajaa.que
open Go Go.RowKit

abbrev qv (p : Option Addr) (n : Int) (q : Option Addr) (m : Int) : Value := .agg #[.pointer p, .int .i64 n, .pointer q, .int .i64 m]

/-- a queue value that reads as these numbers, its cells below block B -/
def IsQ (w : World) (B : Nat) (v : Value) (l : List Int) : Prop := ∃ p q F K, v = qv p (F.length : Int) q (K.length : Int) ∧ lst.IsList w B (lst.lv p F.length) F ∧ lst.IsList w B (lst.lv q K.length) K ∧ K.length ≤ F.length ∧ F ++ K.reverse = l

section
variable {w w' : World} {B B' : Nat} {v : Value} {l : List Int}
theorem IsQ.below (h : IsQ w B v l) (hb : Below B w w') : IsQ w' B v l := by
  obtain ⟨p, q, F, K, hv, h1, h2, h3, h4⟩ := h
  exact ⟨p, q, F, K, hv, h1.below hb, h2.below hb, h3, h4⟩
theorem IsQ.mono (h : IsQ w B v l) (hB : B ≤ B') : IsQ w B' v l := by
  obtain ⟨p, q, F, K, hv, h1, h2, h3, h4⟩ := h
  exact ⟨p, q, F, K, hv, h1.mono hB, h2.mono hB, h3, h4⟩
theorem IsQ.on (h : IsQ w w.heap.size v l) (hb : Below w.heap.size w w') : IsQ w' w'.heap.size v l := (h.below hb).mono hb.size
theorem IsQ.nil (w : World) (B : Nat) : IsQ w B (qv none 0 none 0) [] := ⟨none, none, [], [], rfl, lst.IsList.nil _ _, lst.IsList.nil _ _, by simp, rfl⟩
theorem IsQ.set {g o : Nat} {t : TypeId} {cs : List Value} (h : IsQ w B v l) (hg : hp.Blk w g t cs) (u : Value) (ht : t ≠ 79 := by decide) : IsQ (w.setCell ⟨g, o, none⟩ u) B v l := by
  obtain ⟨p, q, F, K, hv, h1, h2, h3, h4⟩ := h
  exact ⟨p, q, F, K, hv, h1.set hg u ht, h2.set hg u ht, h3, h4⟩
theorem IsQ.set4 {g : Nat} {a b c d : Value} (h : IsQ w B v l) (hg : hp.Blk w g 63 [a, b, c, d]) (u0 u1 u2 u3 : Value) : IsQ ((((w.setCell ⟨g, 0, none⟩ u0).setCell ⟨g, 1, none⟩ u1).setCell ⟨g, 2, none⟩ u2).setCell ⟨g, 3, none⟩ u3) B v l :=
  (((h.set hg u0).set (hg.set 0 u0) u1).set ((hg.set 0 u0).set 1 u1) u2).set (((hg.set 0 u0).set 1 u1).set 2 u2) u3
end

theorem rev_to {v : Value} {l t : List Int} {w : World} (ht : l.reverse = t) (hv : lst.IsList w w.heap.size v l) (hbd : l.length < 4611686018427387904) :
    Calls Try.prog 54 #[v] w fun e w' => (∃ u, e = .returned u ∧ lst.IsList w' w'.heap.size u t) ∧ Below w.heap.size w w' := by
  subst ht
  exact lst.rev_any v l w hv hbd

set_option maxHeartbeats 4000000 in
theorem balanced_any (p q : Option Addr) (F K : List Int) (w : World) (h0 : lst.IsList w w.heap.size (lst.lv p F.length) F) (h1 : lst.IsList w w.heap.size (lst.lv q K.length) K) (hF : F.length ≤ 35184372088832) (hK : K.length ≤ 35184372088832) :
    Calls Try.prog 48 #[lst.lv p F.length, lst.lv q K.length] w fun e w' => (∃ u, e = .returned u ∧ IsQ w' w'.heap.size u (F ++ K.reverse)) ∧ Below w.heap.size w w' := by
  go_enter Try.func48, Try.ntmps48
  go_wp2_with fail
  obtain ⟨W0, hW0⟩ : ∃ W0, ((w.alloc (.cells #[.pointer p, .int .i64 F.length] 56)).alloc (.cells #[.pointer q, .int .i64 K.length] 56)).alloc (.cells #[.pointer none, .int .i64 0, .pointer none, .int .i64 0] 63) = W0 := ⟨_, rfl⟩
  have hb3 : Below w.heap.size w W0 := by
    rw [← hW0]
    ((repeat' (first | with_reducible exact Below.refl _ _ | with_reducible apply Below.setCell | with_reducible apply below_drewN | with_reducible apply Below.drew | with_reducible apply Below.alloc | with_reducible refine Below.trans ?_ (Below.mono (by assumption) ?_))) <;> (first | (simp; done) | (simp; omega) | omega))
  have hA : hp.Blk W0 w.heap.size 56 [.pointer p, .int .i64 F.length] := by rw [← hW0]; exact ((hp.Blk.new w [.pointer p, .int .i64 F.length] _).alloc _).alloc _
  have hB : hp.Blk W0 (w.heap.size + 1) 56 [.pointer q, .int .i64 K.length] := by rw [← hW0]; exact (hp.Blk.new1 _ _ _ _).alloc _
  have hR : hp.Blk W0 (w.heap.size + 1 + 1) 63 [.pointer none, .int .i64 0, .pointer none, .int .i64 0] := by
    rw [← hW0]
    have := hp.Blk.new1 (w.alloc (.cells #[.pointer p, .int .i64 F.length] 56)) (.cells #[.pointer q, .int .i64 K.length] 56) [.pointer none, .int .i64 0, .pointer none, .int .i64 0] 63
    simpa using this
  have h0 := h0.on hb3
  have h1 := h1.on hb3
  rw [hW0]
  clear hW0
  obtain ⟨b, hbv⟩ : ∃ b : Bool, b = decide ((K.length : Int) ≤ (F.length : Int)) := ⟨_, rfl⟩
  apply rel.region (C := fun w' => Below W0.heap.size W0 w') (X := fun w w' => Below w.heap.size w w') (by kernel_rfl) (by kernel_rfl) (by kernel_rfl) ((Below.refl _ _).drew)
  ((apply rel.walk_val; (focus (intro wq hq hf; (obtain ⟨d0, d1⟩ := ((hB).below hq (hB).lt).cells2); go_wp2; refine ⟨hq, Below.refl _ _, ?_, rfl⟩; (show rel.slot _ _ = _; simp only [rel.slot_lit, List.getD_cons_succ, List.getD_cons_zero]; (first | done | exact rfl)))); (simp only [rel.put_lit, List.set_cons_succ, List.set_cons_zero])))
  (apply rel.walk_val; (focus (intro wq hq hf; go_wp2_with (go_at_call 64; refine (lst.len_any _ K _ (h1.on hq)).mono ?_; rintro e w'' ⟨rfl, hb⟩); refine ⟨hq.trans (hb.mono hq.size), hb, ?_, rfl⟩; (show rel.slot _ _ = _; simp only [rel.slot_lit, List.getD_cons_succ, List.getD_cons_zero]; (first | done | exact rfl)))); (simp only [rel.put_lit, List.set_cons_succ, List.set_cons_zero]))
  ((apply rel.walk_val; (focus (intro wq hq hf; (obtain ⟨d0, d1⟩ := ((hA).below hq (hA).lt).cells2); go_wp2; refine ⟨hq, Below.refl _ _, ?_, rfl⟩; (show rel.slot _ _ = _; simp only [rel.slot_lit, List.getD_cons_succ, List.getD_cons_zero]; (first | done | exact rfl)))); (simp only [rel.put_lit, List.set_cons_succ, List.set_cons_zero])))
  (apply rel.walk_val; (focus (intro wq hq hf; go_wp2_with (go_at_call 64; refine (lst.len_any _ F _ (h0.on hq)).mono ?_; rintro e w'' ⟨rfl, hb⟩); refine ⟨hq.trans (hb.mono hq.size), hb, ?_, rfl⟩; (show rel.slot _ _ = _; simp only [rel.slot_lit, List.getD_cons_succ, List.getD_cons_zero]; (first | done | exact rfl)))); (simp only [rel.put_lit, List.set_cons_succ, List.set_cons_zero]))
  (apply rel.walk_val; (focus (intro wq hq hf; go_wp2; refine ⟨hq, Below.refl _ _, ?_, rfl⟩; (show rel.slot _ _ = _; simp only [rel.slot_lit, List.getD_cons_succ, List.getD_cons_zero]; (first | done | exact rfl)))); (simp only [rel.put_lit, List.set_cons_succ, List.set_cons_zero]))
  refine rel.walk_nil ?_
  intro w9 K9 hF
  clear hF
  have h0 := h0.on K9
  have h1 := h1.on K9
  have hR := hR.on K9
  have hA := hA.on K9
  have hB := hB.on K9
  have hb3 := hb3.trans (K9.mono hb3.size)
  clear K9
  have cf := hR.free
  obtain ⟨d0, d1, d2, d3⟩ := hR.cells4
  obtain ⟨a0, a1⟩ := hA.cells2
  obtain ⟨b0, b1⟩ := hB.cells2
  by_cases hle : (K.length : Int) ≤ (F.length : Int)
  · obtain ⟨f0, f1, f2, f3⟩ := (hR.set4 (.pointer p) (.int .i64 F.length) (.pointer q) (.int .i64 K.length)).cells4
    go_wp2
    refine bodyPost_ret (v := qv p F.length q K.length) (by simp [results, Try.results48, go_sem, f0, f1, f2, f3]) rfl ⟨⟨_, rfl, ?_⟩, ?_⟩
    · refine (IsQ.set4 ⟨p, q, F, K, rfl, h0, h1, by omega, rfl⟩ hR _ _ _ _).mono (by simp)
    · refine hb3.trans ?_
      ((repeat' (first | with_reducible exact Below.refl _ _ | with_reducible apply Below.setCell | with_reducible apply below_drewN | with_reducible apply Below.drew | with_reducible apply Below.alloc | with_reducible refine Below.trans ?_ (Below.mono (by assumption) ?_))) <;> (first | (simp; done) | (simp; omega) | omega))
  · go_wp2_with fail
    clear hle a0 a1 b0 b1 d0 d1 d2 d3 cf
    obtain ⟨R, hRv⟩ : ∃ R, K.reverse = R := ⟨_, rfl⟩
    obtain ⟨J, hJv⟩ : ∃ J, F ++ R = J := ⟨_, rfl⟩
    have hRl := Lib.hid (show R.length = K.length by rw [← hRv]; simp)
    have hJl := Lib.hid hJv
    have hRh := Lib.hid hRv
    clear hJv hRv
    apply rel.region_tail (C := fun w' => Below w9.heap.size w9 w') (X := fun w w' => Below w.heap.size w w') 4 (by kernel_rfl) (by kernel_rfl) (by kernel_rfl) (by kernel_rfl) ((Below.refl _ _).drew)
    ((apply rel.walk_val; (focus (intro wq hq hf; (obtain ⟨d0, d1⟩ := ((hA).below hq (hA).lt).cells2); go_wp2; refine ⟨hq, Below.refl _ _, ?_, rfl⟩; (show rel.slot _ _ = _; simp only [rel.slot_lit, List.getD_cons_succ, List.getD_cons_zero]; (first | done | exact rfl)))); (simp only [rel.put_lit, List.set_cons_succ, List.set_cons_zero])))
    ((apply rel.walk_val; (focus (intro wq hq hf; (obtain ⟨d0, d1⟩ := ((hB).below hq (hB).lt).cells2); go_wp2; refine ⟨hq, Below.refl _ _, ?_, rfl⟩; (show rel.slot _ _ = _; simp only [rel.slot_lit, List.getD_cons_succ, List.getD_cons_zero]; (first | done | exact rfl)))); (simp only [rel.put_lit, List.set_cons_succ, List.set_cons_zero])))
    (apply rel.walk_rel (fun u w' => lst.IsList w' w'.heap.size u (R)) ⟨_, rfl⟩ (fun u w1 w2 h1 h2 => h2.on h1); (focus (intro wq hq hf; go_wp2_with (go_at_call 54; refine (rev_to hRh.out (h1.on hq) (by omega)).mono ?_; rintro e w'' ⟨⟨u, rfl, hu⟩, hb⟩); refine ⟨hq.trans (hb.mono hq.size), hb, ?_, rfl⟩; (show lst.IsList _ _ (rel.slot _ _) _; simp only [rel.slot_lit, List.getD_cons_succ, List.getD_cons_zero]; exact hu))); (intro u wu _ hu; obtain ⟨pu, rfl, -, -⟩ := hu; (simp only [rel.put_lit, List.set_cons_succ, List.set_cons_zero])))
    (apply rel.walk_rel (fun u w' => lst.IsList w' w'.heap.size u (J)) ⟨_, rfl⟩ (fun u w1 w2 h1 h2 => h2.on h1); (focus (intro wq hq hf; go_wp2_with (go_at_call 65; refine (lst.join_to hJl.out (h0.on hq) (hf.get 0 rfl rfl) hF (by have := hRl.out; omega)).mono ?_; rintro e w'' ⟨⟨u, rfl, hu⟩, hb⟩); refine ⟨hq.trans (hb.mono hq.size), hb, ?_, rfl⟩; (show lst.IsList _ _ (rel.slot _ _) _; simp only [rel.slot_lit, List.getD_cons_succ, List.getD_cons_zero]; exact hu))); (intro u wu _ hu; obtain ⟨pu, rfl, -, -⟩ := hu; (simp only [rel.put_lit, List.set_cons_succ, List.set_cons_zero])))
    refine rel.walk_nil ?_
    intro w8 K8 hF
    have hu : lst.IsList w8 w8.heap.size (lst.lv pu J.length) J := hF _ (List.mem_cons_self ..)
    have hR8 := hR.on K8
    obtain ⟨c0, c1, c2, c3⟩ := hR8.cells4
    have cf := hR8.free
    obtain ⟨f0, f1, f2, f3⟩ := (hR8.set4 (.pointer pu) (.int .i64 J.length) (.pointer none) (.int .i64 0)).cells4
    simp only [List.drop_succ_cons, List.drop_zero]
    clear hF
    go_wp2
    refine bodyPost_ret (v := qv pu J.length none 0) (by simp [results, Try.results48, go_sem, f0, f1, f2, f3]) rfl ⟨⟨_, rfl, ?_⟩, ?_⟩
    · rw [hRh.out, hJl.out]
      refine (IsQ.set4 ⟨pu, none, J, [], rfl, hu, lst.IsList.nil _ _, by simp, by simp⟩ hR8 _ _ _ _).mono (by simp)
    · refine (hb3.trans (K8.mono hb3.size)).trans ?_
      ((repeat' (first | with_reducible exact Below.refl _ _ | with_reducible apply Below.setCell | with_reducible apply below_drewN | with_reducible apply Below.drew | with_reducible apply Below.alloc | with_reducible refine Below.trans ?_ (Below.mono (by assumption) ?_))) <;> (first | (simp; done) | (simp; omega) | omega))

theorem balanced_to {v0 v1 : Value} {F K t : List Int} {w : World} (ht : F ++ K.reverse = t) (h0 : lst.IsList w w.heap.size v0 F) (h1 : lst.IsList w w.heap.size v1 K) (hF : F.length ≤ 35184372088832) (hK : K.length ≤ 35184372088832) :
    Calls Try.prog 48 #[v0, v1] w fun e w' => (∃ u, e = .returned u ∧ IsQ w' w'.heap.size u t) ∧ Below w.heap.size w w' := by
  subst ht
  have h0' := h0
  have h1' := h1
  obtain ⟨p0, rfl, -, -⟩ := h0'
  obtain ⟨p1, rfl, -, -⟩ := h1'
  exact balanced_any p0 p1 F K w h0 h1 hF hK
end Go.Proofs.Ytkenocamlaaajaa.que
