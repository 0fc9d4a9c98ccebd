/- Package ral: Push, and Of. -/
import Derived.Test.YtkenocamlaaajaaRal
namespace Go.Proofs.Ytkenocamlaaajaa.ral
open Go Go.RowKit Go.Proofs.Ytkenocamlaaajaa.sk

set_option maxHeartbeats 8000000 in
theorem push_any (v : Value) (l : List Int) (x : Int) (w : World) (hv : IsRal w w.heap.size v l) (hx : (Lit.int .i64 x).wf = true) (hbd : l.length < 4611686018427387904) :
    Calls Try.prog 32 #[v, .int .i64 x] w fun e w' => (∃ q, e = .returned (rv q) ∧ IsRal w' w'.heap.size (rv q) (x :: l)) ∧ Below w.heap.size w w' := by
  obtain ⟨p, ts, rfl, hc, hf, ho, hw⟩ := hv
  have hwf : ∀ y ∈ x :: l, (Lit.int .i64 y).wf = true := by
    intro y hy
    rcases List.mem_cons.1 hy with rfl | hy
    · exact hx
    · exact hw y hy
  by_cases hmerge : ∃ k xs ys us, ts = (k, xs) :: (k, ys) :: us
  · obtain ⟨k, xs, ys, us, rfl⟩ := hmerge
    have hln := hc.len
    obtain ⟨b, r, q, rfl, hb, hk, hr, b2, r2, q2, rfl, hb2, hk2, hr2, hq⟩ := hc
    have hln2 := Trs.len (p := some ⟨b2, 0, none⟩) (W := w) (B := w.heap.size) (k := k) (xs := ys) (ts := us) ⟨b2, r2, q2, rfl, hb2, hk2, hr2, hq⟩
    rw [hf] at hln
    have hdk : dg (k + 1 + 1) = 1 + dg (k + 1) + dg (k + 1) := by rw [dg_succ (k + 1)]; omega
    have c0 := hk.cell 0
    have c1 := hk.cell 1
    have c2 := hk.cell 2
    have e0 := hk2.cell 0
    have e1 := hk2.cell 1
    have e2 := hk2.cell 2
    simp only [List.getElem?_cons_zero, List.getElem?_cons_succ] at c0 c1 c2 e0 e1 e2
    have hd := dg_pos k
    obtain ⟨d, hd0⟩ : ∃ d : Int, dg (k + 1) = d := ⟨_, rfl⟩
    rw [hd0] at hln hln2 c0 e0 hd hdk
    clear hk hk2 hw hx
    go_enter Try.func32, Try.ntmps32
    go_wp2_with fail
    go_big_region
    go_wp2_with fail
    (refine reg.region_tail_drew 10 (by kernel_rfl) (by kernel_rfl) ?_; simp only [List.take_succ_cons, List.take_zero, List.drop_succ_cons, List.drop_zero]; (repeat (go_big_quiet_step ((fail)))); refine wpQuiet_nil ?_; intro _ hw'; obtain ⟨nq, hw''⟩ := hw'; subst hw'')
    go_wp2_with fail
    obtain ⟨W1, hW1⟩ : ∃ W1, ((((w.alloc (.cells #[.pointer (some ⟨b, 0, none⟩)] 60)).alloc (.cells #[.pointer none] 60)).drewN (1 + nq)).alloc (.cells #[.int .i64 x, .pointer r, .pointer r2] 87)) = W1 := ⟨_, rfl⟩
    have hb1 : Below w.heap.size w W1 := by
      rw [← hW1]
      ((repeat' (first | with_reducible exact Below.refl _ _ | with_reducible apply Below.setCell | with_reducible apply below_drewN | with_reducible apply Below.drew | with_reducible apply Below.alloc | with_reducible refine Below.trans ?_ (Below.mono (by assumption) ?_))) <;> (first | (simp; done) | (simp; omega) | omega))
    have hs1 : W1.heap.size = w.heap.size + 3 := by rw [← hW1]; simp
    have hR : hp.Blk W1 (w.heap.size + 1) 60 [.pointer none] := by
      rw [← hW1]
      exact ((hp.Blk.newAt (by simp)).drewN _).alloc _
    have hN : hp.Blk W1 (w.heap.size + 1 + 1) 87 [.int .i64 x, .pointer r, .pointer r2] := by
      rw [← hW1]
      exact hp.Blk.newAt (by simp)
    rw [hW1]
    replace c0 := (hb1.cell (p := ⟨b, 0, none⟩) hb).trans c0
    replace e0 := (hb1.cell (p := ⟨b2, 0, none⟩) hb2).trans e0
    replace e2 := (hb1.cell (p := ⟨b2, 2, none⟩) hb2).trans e2
    have r0 := hR.cell 0
    have r1 := hR.free 0
    simp only [List.getElem?_cons_zero] at r0
    clear hW1
    (refine reg.region_tail_drew 16 (by kernel_rfl) (by kernel_rfl) ?_; simp only [List.take_succ_cons, List.take_zero, List.drop_succ_cons, List.drop_zero]; (repeat (go_big_quiet_step ((fail)))); refine wpQuiet_nil ?_; intro _ hw'; obtain ⟨nq, hw''⟩ := hw'; subst hw'')
    go_wp2_with fail
    obtain ⟨W2, hW2⟩ : ∃ W2, (((W1.drewN nq).setCell ⟨w.heap.size + 1, 0, none⟩ (.pointer (some ⟨w.heap.size + 3, 0, none⟩))).alloc (.cells #[.int .i64 (1 + d + d), .pointer (some ⟨w.heap.size + 1 + 1, 0, none⟩), .pointer q2] 85)) = W2 := ⟨_, rfl⟩
    have hbW : Below w.heap.size w W2 := by
      rw [← hW2]
      refine hb1.trans ?_
      ((repeat' (first | with_reducible exact Below.refl _ _ | with_reducible apply Below.setCell | with_reducible apply below_drewN | with_reducible apply Below.drew | with_reducible apply Below.alloc | with_reducible refine Below.trans ?_ (Below.mono (by assumption) ?_))) <;> (first | (simp; done) | (simp; omega) | omega))
    have hR2 : hp.Blk W2 (w.heap.size + 1) 60 [.pointer (some ⟨w.heap.size + 3, 0, none⟩)] := by
      rw [← hW2]
      exact ((hR.drewN _).set 0 _).alloc _
    have hN2 : hp.Blk W2 (w.heap.size + 1 + 1) 87 [.int .i64 x, .pointer r, .pointer r2] := by
      rw [← hW2]
      exact ((hN.drewN _).other (by simp) _).alloc _
    have hT2 : hp.Blk W2 (w.heap.size + 3) 85 [.int .i64 (1 + d + d), .pointer (some ⟨w.heap.size + 1 + 1, 0, none⟩), .pointer q2] := by
      rw [← hW2]
      exact hp.Blk.newAt (by simp [hs1])
    rw [hW2]
    have f0 := hR2.cell 0
    simp only [List.getElem?_cons_zero] at f0
    have hB2 := hbW.size
    refine bodyPost_ret (v := rv (some ⟨w.heap.size + 3, 0, none⟩)) (by simp [results, Try.results32, go_sem, f0]) rfl ⟨⟨_, rfl, ?_⟩, hbW⟩
    refine ⟨_, (k + 1, x :: (xs ++ ys)) :: us, rfl, ?_, ?_, ho.join, hwf⟩
    · refine ⟨_, _, q2, rfl, hT2.lt, by rw [hdk]; exact hT2, ?_, hq.grow hbW hB2⟩
      exact ⟨_, r, r2, x, xs, ys, rfl, hN2.lt, hN2, rfl, hr.grow hbW hB2, hr2.grow hbW hB2⟩
    · rw [flat_cons, ← hf, flat_cons, flat_cons]
      simp
  · have hp2 : ∀ k r, ts.map Prod.fst = k :: r → ∀ j s, r = j :: s → k ≠ j := by
      rintro k r h j s rfl rfl
      rcases ts with _ | ⟨⟨k1, xs⟩, _ | ⟨⟨k2, ys⟩, us⟩⟩
      · cases h
      · cases h
      · simp at h
        obtain ⟨rfl, rfl, rfl⟩ := h
        exact hmerge ⟨_, _, _, _, rfl⟩
    have hdone : ∀ (W : World) (g g' : Nat), Below w.heap.size w W → hp.Blk W g 87 [.int .i64 x, .pointer none, .pointer none] → hp.Blk W g' 85 [.int .i64 1, .pointer (some ⟨g, 0, none⟩), .pointer p] → IsRal W W.heap.size (rv (some ⟨g', 0, none⟩)) (x :: l) := by
      intro W g g' hb hN hT
      refine ⟨_, (0, [x]) :: ts, rfl, ?_, ?_, ho.push hp2, hwf⟩
      · exact ⟨_, _, p, rfl, hT.lt, hT, ⟨_, none, none, x, [], [], rfl, hN.lt, hN, rfl, ⟨rfl, rfl⟩, ⟨rfl, rfl⟩⟩, hc.grow hb hb.size⟩
      · rw [flat_cons, hf]; rfl
    replace hdone := Lib.hid hdone
    clear hp2 hwf hw ho hx
    rcases ts with _ | ⟨⟨k1, xs⟩, ts⟩
    · obtain rfl : p = none := hc
      clear hf hmerge
      go_enter Try.func32, Try.ntmps32
      go_wp2_with fail
      go_big_region
      go_wp2_with fail
      (obtain ⟨W2, hW2⟩ : ∃ W2, ((((w.alloc (.cells #[.pointer none] 60)).alloc (.cells #[.pointer (some ⟨w.heap.size + 1 + 1 + 1, 0, none⟩)] 60)).alloc (.cells #[.int .i64 x, .pointer none, .pointer none] 87)).alloc (.cells #[.int .i64 1, .pointer (some ⟨w.heap.size + 1 + 1, 0, none⟩), .pointer none] 85)).drew = W2 := ⟨_, rfl⟩); have hbW : Below w.heap.size w W2 := (by rw [← hW2]; ((repeat' (first | with_reducible exact Below.refl _ _ | with_reducible apply Below.setCell | with_reducible apply below_drewN | with_reducible apply Below.drew | with_reducible apply Below.alloc | with_reducible refine Below.trans ?_ (Below.mono (by assumption) ?_))) <;> (first | (simp; done) | (simp; omega) | omega))); have hR2 : hp.Blk W2 (w.heap.size + 1) 60 [.pointer (some ⟨w.heap.size + 1 + 1 + 1, 0, none⟩)] := (by rw [← hW2]; exact (((hp.Blk.newAt (by simp)).alloc _).alloc _).drew); have hN2 : hp.Blk W2 (w.heap.size + 1 + 1) 87 [.int .i64 x, .pointer none, .pointer none] := (by rw [← hW2]; exact ((hp.Blk.newAt (by simp)).alloc _).drew); have hT2 : hp.Blk W2 (w.heap.size + 1 + 1 + 1) 85 [.int .i64 1, .pointer (some ⟨w.heap.size + 1 + 1, 0, none⟩), .pointer none] := (by rw [← hW2]; exact (hp.Blk.newAt (by simp)).drew); rw [hW2]; have f0 := hR2.cell 0; simp only [List.getElem?_cons_zero] at f0; exact bodyPost_ret (v := rv (some ⟨w.heap.size + 1 + 1 + 1, 0, none⟩)) (by simp [results, Try.results32, go_sem, f0]) rfl ⟨⟨_, rfl, hdone.out _ _ _ hbW hN2 hT2⟩, hbW⟩
    · obtain ⟨b, r, q, rfl, hb, hk, -, hq⟩ := hc
      have c0 := hk.cell 0
      have c2 := hk.cell 2
      simp only [List.getElem?_cons_zero, List.getElem?_cons_succ] at c0 c2
      rcases ts with _ | ⟨⟨k2, ys⟩, us⟩
      · obtain rfl : q = none := hq
        clear hf hmerge hk c0
        go_enter Try.func32, Try.ntmps32
        go_wp2_with fail
        go_big_region
        go_wp2_with fail
        (obtain ⟨W2, hW2⟩ : ∃ W2, ((((w.alloc (.cells #[.pointer (some ⟨b, 0, none⟩)] 60)).alloc (.cells #[.pointer (some ⟨w.heap.size + 1 + 1 + 1, 0, none⟩)] 60)).alloc (.cells #[.int .i64 x, .pointer none, .pointer none] 87)).alloc (.cells #[.int .i64 1, .pointer (some ⟨w.heap.size + 1 + 1, 0, none⟩), .pointer (some ⟨b, 0, none⟩)] 85)).drew = W2 := ⟨_, rfl⟩); have hbW : Below w.heap.size w W2 := (by rw [← hW2]; ((repeat' (first | with_reducible exact Below.refl _ _ | with_reducible apply Below.setCell | with_reducible apply below_drewN | with_reducible apply Below.drew | with_reducible apply Below.alloc | with_reducible refine Below.trans ?_ (Below.mono (by assumption) ?_))) <;> (first | (simp; done) | (simp; omega) | omega))); have hR2 : hp.Blk W2 (w.heap.size + 1) 60 [.pointer (some ⟨w.heap.size + 1 + 1 + 1, 0, none⟩)] := (by rw [← hW2]; exact (((hp.Blk.newAt (by simp)).alloc _).alloc _).drew); have hN2 : hp.Blk W2 (w.heap.size + 1 + 1) 87 [.int .i64 x, .pointer none, .pointer none] := (by rw [← hW2]; exact ((hp.Blk.newAt (by simp)).alloc _).drew); have hT2 : hp.Blk W2 (w.heap.size + 1 + 1 + 1) 85 [.int .i64 1, .pointer (some ⟨w.heap.size + 1 + 1, 0, none⟩), .pointer (some ⟨b, 0, none⟩)] := (by rw [← hW2]; exact (hp.Blk.newAt (by simp)).drew); rw [hW2]; have f0 := hR2.cell 0; simp only [List.getElem?_cons_zero] at f0; exact bodyPost_ret (v := rv (some ⟨w.heap.size + 1 + 1 + 1, 0, none⟩)) (by simp [results, Try.results32, go_sem, f0]) rfl ⟨⟨_, rfl, hdone.out _ _ _ hbW hN2 hT2⟩, hbW⟩
      · obtain ⟨b2, r2, q2, rfl, hb2, hk2, -, -⟩ := hq
        have e0 := hk2.cell 0
        simp only [List.getElem?_cons_zero] at e0
        have hne : dg (k1 + 1) ≠ dg (k2 + 1) := by
          intro e
          obtain rfl : k1 = k2 := by have := dg_inj e; omega
          exact hmerge ⟨_, _, _, _, rfl⟩
        generalize dg (k1 + 1) = d1 at *
        generalize dg (k2 + 1) = d2 at *
        have hne2 : (d1 == d2) = false := beq_false_of_ne hne
        clear hf hmerge hk hk2
        go_enter Try.func32, Try.ntmps32
        go_wp2_with fail
        go_big_region
        go_wp2_with fail
        (obtain ⟨W2, hW2⟩ : ∃ W2, ((((w.alloc (.cells #[.pointer (some ⟨b, 0, none⟩)] 60)).alloc (.cells #[.pointer (some ⟨w.heap.size + 1 + 1 + 1, 0, none⟩)] 60)).alloc (.cells #[.int .i64 x, .pointer none, .pointer none] 87)).alloc (.cells #[.int .i64 1, .pointer (some ⟨w.heap.size + 1 + 1, 0, none⟩), .pointer (some ⟨b, 0, none⟩)] 85)).drew = W2 := ⟨_, rfl⟩); have hbW : Below w.heap.size w W2 := (by rw [← hW2]; ((repeat' (first | with_reducible exact Below.refl _ _ | with_reducible apply Below.setCell | with_reducible apply below_drewN | with_reducible apply Below.drew | with_reducible apply Below.alloc | with_reducible refine Below.trans ?_ (Below.mono (by assumption) ?_))) <;> (first | (simp; done) | (simp; omega) | omega))); have hR2 : hp.Blk W2 (w.heap.size + 1) 60 [.pointer (some ⟨w.heap.size + 1 + 1 + 1, 0, none⟩)] := (by rw [← hW2]; exact (((hp.Blk.newAt (by simp)).alloc _).alloc _).drew); have hN2 : hp.Blk W2 (w.heap.size + 1 + 1) 87 [.int .i64 x, .pointer none, .pointer none] := (by rw [← hW2]; exact ((hp.Blk.newAt (by simp)).alloc _).drew); have hT2 : hp.Blk W2 (w.heap.size + 1 + 1 + 1) 85 [.int .i64 1, .pointer (some ⟨w.heap.size + 1 + 1, 0, none⟩), .pointer (some ⟨b, 0, none⟩)] := (by rw [← hW2]; exact (hp.Blk.newAt (by simp)).drew); rw [hW2]; have f0 := hR2.cell 0; simp only [List.getElem?_cons_zero] at f0; exact bodyPost_ret (v := rv (some ⟨w.heap.size + 1 + 1 + 1, 0, none⟩)) (by simp [results, Try.results32, go_sem, f0]) rfl ⟨⟨_, rfl, hdone.out _ _ _ hbW hN2 hT2⟩, hbW⟩
end Go.Proofs.Ytkenocamlaaajaa.ral
