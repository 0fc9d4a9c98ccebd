/- Package list: a list is made of numbers. -/
import Derived.Test.YtkenocamlaaajaaLst
import Derived.Lib.Hide
namespace Go.Proofs.Ytkenocamlaaajaa.lst
open Go Go.RowKit

theorem snoc_cases (l : List Int) : l = [] ∨ ∃ t x, l = t ++ [x] := by
  rcases List.eq_nil_or_concat l with h | ⟨t, x, h⟩
  · exact .inl h
  · exact .inr ⟨t, x, by simpa using h⟩

set_option maxHeartbeats 4000000 in
theorem pushAll_any (v0 : Value) (l0 : List Int) (v1 : Value) (l1 : List Int) (w : World) (h0 : IsList w w.heap.size v0 l0) (h1 : hp.IsInts w w.heap.size v1 l1) (hbd : l0.length + l1.length < 4611686018427387904) :
    Calls Try.prog 47 #[v0, v1] w fun e w' => (∃ u, e = .returned u ∧ IsList w' w'.heap.size u (l1 ++ l0)) ∧ Below w.heap.size w w' := by
  obtain ⟨p, rfl, hc, hw⟩ := h0
  obtain ⟨ad, cap, rfl, hn, hm, hwf, hcell⟩ := h1
  go_enter Try.func47, Try.ntmps47
  go_wp2_with fail
  go_loopw [5] (fun i wr => ∃ pre suf : List Int, ∃ q : Option Addr, ∃ m : Int, l1 = pre ++ suf ∧ i = .int .i64 ((pre.length : Int) - 1) ∧ Below w.heap.size w wr ∧ hp.Blk wr w.heap.size 56 [.pointer q, .int .i64 m] ∧ hp.Blk wr (w.heap.size + 1) 56 [.pointer none, .int .i64 0] ∧ IsList wr wr.heap.size (lv q m) (suf ++ l0)) (fun i _ => (intOf i + 1).toNat)
  case atStart =>
    refine ⟨l1, [], p, l0.length, by simp, rfl, ?_, ?_, ?_, ?_⟩
    · ((repeat' (first | with_reducible exact Below.refl _ _ | with_reducible apply Below.setCell | with_reducible apply below_drewN | with_reducible apply Below.drew | with_reducible apply Below.alloc | with_reducible refine Below.trans ?_ (Below.mono (by assumption) ?_))) <;> (first | (simp; done) | (simp; omega) | omega))
    · exact (hp.Blk.new w [.pointer p, .int .i64 l0.length] _).alloc _
    · exact hp.Blk.new1 _ _ _ _
    · refine ⟨p, rfl, hc.grow ?_ (by simp; omega), hw⟩
      ((repeat' (first | with_reducible exact Below.refl _ _ | with_reducible apply Below.setCell | with_reducible apply below_drewN | with_reducible apply Below.drew | with_reducible apply Below.alloc | with_reducible refine Below.trans ?_ (Below.mono (by assumption) ?_))) <;> (first | (simp; done) | (simp; omega) | omega))
  case round =>
    obtain ⟨pre, suf, q, m, hl, rfl, hb, hA, hR, hL⟩ := hrel
    rcases snoc_cases pre with rfl | ⟨pre, x, rfl⟩
    · obtain rfl : l1 = suf := by simpa using hl
      obtain ⟨c0, c1⟩ := hA.cells2
      obtain ⟨e0, e1⟩ := hR.cells2
      have ef := hR.free
      obtain ⟨f0, f1⟩ := (hR.set2 (.pointer q) (.int .i64 m)).cells2
      go_wp2
      refine bodyPost_ret (v := lv q m) (by simp [results, Try.results47, go_sem, f0, f1]) rfl ⟨⟨_, rfl, ?_⟩, ?_⟩
      · exact (hL.set2 hR _ _).mono (by simp)
      · refine hb.trans ?_
        ((repeat' (first | with_reducible exact Below.refl _ _ | with_reducible apply Below.setCell | with_reducible apply below_drewN | with_reducible apply Below.drew | with_reducible apply Below.alloc | with_reducible refine Below.trans ?_ (Below.mono (by assumption) ?_))) <;> (first | (simp; done) | (simp; omega) | omega))
    · have hi : ((pre ++ [x]).length : Int) - 1 = (pre.length : Int) := by simp
      have hlen : l1.length = pre.length + 1 + suf.length := by rw [hl]; simp; omega
      have hx : l1.getD pre.length 0 = x := by rw [hl]; simp
      rw [hi]
      clear hi
      obtain ⟨b, off, rfl, hbb, hce⟩ := hcell (by omega)
      have hcx : wr.cell? ⟨b, off + pre.length, none⟩ = some (.int .i64 x) := (hb.cell hbb).trans ((hce _ (by omega)).trans (by rw [hx]))
      clear hcell hce hx
      obtain ⟨n, hpn⟩ : ∃ n, pre.length = n := ⟨_, rfl⟩
      rw [hpn] at hcx hlen ⊢
      have hwx : (Lit.int .i64 x).wf = true := hwf x (by rw [hl]; simp)
      have hbw : b < wr.heap.size := by have := hb.size; omega
      have hl0 := Lib.hid hl
      clear hwf hl
      obtain ⟨t, ht0⟩ : ∃ t, suf ++ l0 = t := ⟨_, rfl⟩
      have htl : t.length < 4611686018427387904 := by rw [← ht0, List.length_append]; omega
      rw [ht0] at hL
      have ht := Lib.hid ht0
      clear ht0
      have hpn := Lib.hid hpn
      go_wp2_with fail
      apply rel.region_tail (C := fun w' => Below wr.heap.size wr w') (X := fun w w' => Below w.heap.size w w') 6 (by kernel_rfl) (by kernel_rfl) (by kernel_rfl) (by kernel_rfl) ((Below.refl _ _).drew)
      ((apply rel.walk_val; (focus (intro wq hq hf; (obtain ⟨d0, d1⟩ := ((hA).below hq (hA).lt).cells2); go_wp2; refine ⟨hq, Below.refl _ _, ?_, rfl⟩; (show rel.slot _ _ = _; simp only [rel.slot_lit, List.getD_cons_succ, List.getD_cons_zero]; (first | done | exact rfl)))); (simp only [rel.put_lit, List.set_cons_succ, List.set_cons_zero])))
      (apply rel.walk_val; (focus (intro wq hq hf; go_wp2; refine ⟨hq, Below.refl _ _, ?_, rfl⟩; (show rel.slot _ _ = _; simp only [rel.slot_lit, List.getD_cons_succ, List.getD_cons_zero]; (first | done | exact rfl)))); (simp only [rel.put_lit, List.set_cons_succ, List.set_cons_zero]))
      (apply rel.walk_val; (focus (intro wq hq hf; go_wp2; refine ⟨hq, Below.refl _ _, ?_, rfl⟩; (show rel.slot _ _ = _; simp only [rel.slot_lit, List.getD_cons_succ, List.getD_cons_zero]; (first | done | exact rfl)))); (simp only [rel.put_lit, List.set_cons_succ, List.set_cons_zero]))
      (apply rel.walk_val; (focus (intro wq hq hf; go_wp2; refine ⟨hq, Below.refl _ _, ?_, rfl⟩; (show rel.slot _ _ = _; simp only [rel.slot_lit, List.getD_cons_succ, List.getD_cons_zero]; (first | done | exact rfl)))); (simp only [rel.put_lit, List.set_cons_succ, List.set_cons_zero]))
      (apply rel.walk_val; (focus (intro wq hq hf; (have d0 := (hq.cell (p := ⟨b, off + n, none⟩) hbw).trans hcx); go_wp2; refine ⟨hq, Below.refl _ _, ?_, rfl⟩; (show rel.slot _ _ = _; simp only [rel.slot_lit, List.getD_cons_succ, List.getD_cons_zero]; (first | done | exact rfl)))); (simp only [rel.put_lit, List.set_cons_succ, List.set_cons_zero]))
      (apply rel.walk_rel (fun u w' => lst.IsList w' w'.heap.size u (x :: t)) ⟨_, rfl⟩ (fun u w1 w2 h1 h2 => h2.on h1); (focus (intro wq hq hf; go_wp2_with (go_at_call 30; refine (push_any _ t _ _ (hL.on hq) hwx htl).mono ?_; rintro e w'' ⟨⟨u, rfl, hu⟩, hb⟩); refine ⟨hq.trans (hb.mono hq.size), hb, ?_, rfl⟩; (show lst.IsList _ _ (rel.slot _ _) _; simp only [rel.slot_lit, List.getD_cons_succ, List.getD_cons_zero]; exact hu))); (intro u wu _ hu; obtain ⟨pu, rfl, -, -⟩ := hu; (simp only [rel.put_lit, List.set_cons_succ, List.set_cons_zero])))
      refine rel.walk_nil ?_
      intro w9 K9 hF
      have hu : IsList w9 w9.heap.size _ (x :: t) := hF _ (List.mem_cons_self ..)
      have hA9 := hA.on K9
      have hR9 := hR.on K9
      obtain ⟨c0, c1⟩ := hA9.cells2
      have cf := hA9.free
      simp only [List.drop_succ_cons, List.drop_zero]
      go_wp2
      go_roundw
      case rel =>
        refine ⟨pre, x :: suf, _, _, by rw [hl0.out]; simp, by rw [hpn.out], ?_, hA9.set2 _ _, ?_, ?_⟩
        · refine (hb.trans (K9.mono hb.size)).trans ?_
          ((repeat' (first | with_reducible exact Below.refl _ _ | with_reducible apply Below.setCell | with_reducible apply below_drewN | with_reducible apply Below.drew | with_reducible apply Below.alloc | with_reducible refine Below.trans ?_ (Below.mono (by assumption) ?_))) <;> (first | (simp; done) | (simp; omega) | omega))
        · exact (hR9.other (by simp) _).other (by simp) _
        · rw [List.cons_append, ht.out]
          exact (hu.set2 hA9 _ _).mono (by simp)
      case measure => simp [intOf]

theorem pushAll_to {v0 : Value} {l0 : List Int} {v1 : Value} {l1 t : List Int} {w : World} (ht : l1 ++ l0 = t) (h0 : IsList w w.heap.size v0 l0) (h1 : hp.IsInts w w.heap.size v1 l1) (hbd : l0.length + l1.length < 4611686018427387904) :
    Calls Try.prog 47 #[v0, v1] w fun e w' => (∃ u, e = .returned u ∧ IsList w' w'.heap.size u t) ∧ Below w.heap.size w w' := by
  subst ht
  exact pushAll_any v0 l0 v1 l1 w h0 h1 hbd

theorem pushAll_nil (v : Value) (l : List Int) (w : World) (h : hp.IsInts w w.heap.size v l) (hbd : l.length < 4611686018427387904) :
    Calls Try.prog 47 #[lv none 0, v] w fun e w' => (∃ p, e = .returned (lv p l.length) ∧ IsList w' w'.heap.size (lv p l.length) l) ∧ Below w.heap.size w w' := by
  refine (pushAll_any _ [] v l w (IsList.nil _ _) h (by simpa using hbd)).mono fun e w' ⟨⟨u, he, hu⟩, hb⟩ => ⟨?_, hb⟩
  rw [List.append_nil] at hu
  have hu' := hu
  obtain ⟨p, rfl, -, -⟩ := hu'
  exact ⟨p, he, hu⟩

theorem of_any (v : Value) (l : List Int) (w : World) (hv : hp.IsInts w w.heap.size v l) (hbd : l.length < 4611686018427387904) :
    Calls Try.prog 27 #[v] w fun e w' => (∃ u, e = .returned u ∧ IsList w' w'.heap.size u l) ∧ Below w.heap.size w w' := by
  have hv' := hv
  obtain ⟨ad, cap, rfl, -⟩ := hv'
  have hA := hp.Blk.new w [.pointer none, .int .i64 0] 56
  have hb0 : Below w.heap.size w (w.alloc (.cells #[.pointer none, .int .i64 0] 56)) := by
    ((repeat' (first | with_reducible exact Below.refl _ _ | with_reducible apply Below.setCell | with_reducible apply below_drewN | with_reducible apply Below.drew | with_reducible apply Below.alloc | with_reducible refine Below.trans ?_ (Below.mono (by assumption) ?_))) <;> (first | (simp; done) | (simp; omega) | omega))
  go_enter Try.func27, Try.ntmps27
  go_wp2_with (go_at_call 47; refine (pushAll_nil _ l _ (hv.on hb0) hbd).mono ?_; rintro e w1 ⟨⟨p, rfl, hu⟩, hb⟩; have hA1 := hA.on hb; obtain ⟨c0, c1⟩ := hA1.cells2; have cf := hA1.free; obtain ⟨f0, f1⟩ := (hA1.set2 (.pointer p) (.int .i64 l.length)).cells2)
  refine bodyPost_ret (v := lv p l.length) (by simp [results, Try.results27, go_sem, f0, f1]) rfl ⟨⟨_, rfl, (hu.set2 hA1 _ _).mono (by simp)⟩, ?_⟩
  refine (hb0.trans (hb.mono (by simp))).trans ?_
  ((repeat' (first | with_reducible exact Below.refl _ _ | with_reducible apply Below.setCell | with_reducible apply below_drewN | with_reducible apply Below.drew | with_reducible apply Below.alloc | with_reducible refine Below.trans ?_ (Below.mono (by assumption) ?_))) <;> (first | (simp; done) | (simp; omega) | omega))
end Go.Proofs.Ytkenocamlaaajaa.lst
