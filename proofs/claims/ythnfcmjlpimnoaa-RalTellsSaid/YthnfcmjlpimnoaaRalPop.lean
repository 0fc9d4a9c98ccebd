/- Package ral: Pop. -/
import Derived.Test.YthnfcmjlpimnoaaRal
namespace Go.Proofs.Ythnfcmjlpimnoaa.ral
open Go Go.RowKit Go.Proofs.Ythnfcmjlpimnoaa.sk

theorem pop_nil (v : Value) (w : World) (hv : IsRal w w.heap.size v []) :
    Calls Try.prog 15 #[v] w fun e w' => e = .returned (.tuple #[.int .i64 0, rv none, .bool false]) ∧ Below w.heap.size w w' := by
  obtain ⟨p, ts, rfl, hc, hf, -, -⟩ := hv
  rcases ts with _ | ⟨⟨k, xs⟩, us⟩
  · obtain rfl : p = none := hc
    clear hf
    go_enter Try.func15, Try.ntmps15
    go_wp2
    refine bodyPost_ret (v := .tuple #[.int .i64 0, rv none, .bool false]) (by simp [results, Try.results15, go_sem]) rfl ⟨rfl, ?_⟩
    ((repeat' (first | with_reducible exact Below.refl _ _ | with_reducible apply Below.setCell | with_reducible apply below_drewN | with_reducible apply Below.drew | with_reducible apply Below.alloc | with_reducible refine Below.trans ?_ (Below.mono (by assumption) ?_))) <;> (first | (simp; done) | (simp; omega) | omega))
  · exfalso
    have := hc.len
    have := dg_pos k
    rw [hf] at *
    simp at *
    omega

set_option maxHeartbeats 4000000 in
theorem pop_cons (v : Value) (x : Int) (l : List Int) (w : World) (hv : IsRal w w.heap.size v (x :: l)) (hbd : l.length < 4611686018427387904) :
    Calls Try.prog 15 #[v] w fun e w' => (∃ q, e = .returned (.tuple #[.int .i64 x, rv q, .bool true]) ∧ IsRal w' w'.heap.size (rv q) l) ∧ Below w.heap.size w w' := by
  obtain ⟨p, ts, rfl, hc, hf, ho, hw⟩ := hv
  have hwl : ∀ y ∈ l, (Lit.int .i64 y).wf = true := fun y hy => hw y (by simp [hy])
  rcases ts with _ | ⟨⟨k, xs⟩, ts⟩
  · cases hf
  · have hln := hc.len
    rw [hf] at hln
    obtain ⟨b, r, q, rfl, hb, hk, ⟨b2, n1, n2, y, ys, zs, rfl, hb2, hk2, rfl, h1, h2⟩, hq⟩ := hc
    rw [flat_cons] at hf
    obtain ⟨rfl, hl⟩ : y = x ∧ ys ++ zs ++ flat ts = l := by simpa using hf
    have c0 := hk.cell 0
    have c1 := hk.cell 1
    have c2 := hk.cell 2
    have e0 := hk2.cell 0
    have e1 := hk2.cell 1
    have e2 := hk2.cell 2
    simp only [List.getElem?_cons_zero, List.getElem?_cons_succ] at c0 c1 c2 e0 e1 e2
    rcases k with _ | k
    · obtain ⟨rfl, rfl⟩ := h1
      obtain ⟨rfl, rfl⟩ := h2
      rw [show dg (0 + 1) = 1 from rfl] at c0
      clear hk hk2 hw
      go_enter Try.func15, Try.ntmps15
      go_wp2_with fail
      (refine reg.region_tail_drew 13 (by kernel_rfl) (by kernel_rfl) ?_; simp only [List.take_succ_cons, List.take_zero, List.drop_succ_cons, List.drop_zero]; (repeat (go_big_quiet_step ((fail)))); refine wpQuiet_nil ?_; intro _ hw'; obtain ⟨nq, hw''⟩ := hw'; subst hw'')
      go_wp2_with fail
      obtain ⟨W2, hW2⟩ : ∃ W2, ((((w.alloc (.cells #[.pointer (some ⟨b, 0, none⟩)] 25)).alloc (.cells #[.pointer none] 25)).drewN nq).setCell ⟨w.heap.size + 1, 0, none⟩ (.pointer q)) = W2 := ⟨_, rfl⟩
      have hbW : Below w.heap.size w W2 := by
        rw [← hW2]
        ((repeat' (first | with_reducible exact Below.refl _ _ | with_reducible apply Below.setCell | with_reducible apply below_drewN | with_reducible apply Below.drew | with_reducible apply Below.alloc | with_reducible refine Below.trans ?_ (Below.mono (by assumption) ?_))) <;> (first | (simp; done) | (simp; omega) | omega))
      have hR2 : hp.Blk W2 (w.heap.size + 1) 25 [.pointer q] := by
        rw [← hW2]
        exact ((hp.Blk.newAt (cs := [.pointer none]) (by simp)).drewN _).set 0 _
      rw [hW2]
      have f0 := hR2.cell 0
      simp only [List.getElem?_cons_zero] at f0
      refine bodyPost_ret (v := .tuple #[.int .i64 y, rv q, .bool true]) (by simp [results, Try.results15, go_sem, f0]) rfl ⟨⟨_, rfl, ?_⟩, hbW⟩
      exact ⟨q, ts, rfl, hq.grow hbW hbW.size, by simpa using hl, ho.tail, hwl⟩
    · have hdk := dg_succ (k + 1)
      have hd1 := dg_pos k
      obtain ⟨d, hd0⟩ : ∃ d : Int, dg (k + 1) = d := ⟨_, rfl⟩
      rw [hd0] at hdk hd1
      obtain ⟨D, hD⟩ : ∃ D : Int, D = 2 * d + 1 := ⟨_, rfl⟩
      rw [hdk, ← hD] at c0 hln
      have hDl : D ≤ 4611686018427387904 := by simp at hln; omega
      have hD0 : 1 ≤ D := by omega
      have hDn : (D == 1) = false := beq_false_of_ne (by omega)
      have hD2 : D / 2 = d := by omega
      clear hk hk2 hw hln hD
      go_enter Try.func15, Try.ntmps15
      go_wp2_with fail
      rename_i K hK
      replace hK := Lib.hid hK
      (refine reg.region_tail_drew 13 (by kernel_rfl) (by kernel_rfl) ?_; simp only [List.take_succ_cons, List.take_zero, List.drop_succ_cons, List.drop_zero]; (repeat (go_big_quiet_step ((fail)))); refine wpQuiet_nil ?_; intro _ hw'; obtain ⟨nq, hw''⟩ := hw'; subst hw'')
      go_wp2_with fail
      obtain ⟨W1, hW1⟩ : ∃ W1, ((((w.alloc (.cells #[.pointer (some ⟨b, 0, none⟩)] 25)).alloc (.cells #[.pointer none] 25)).drewN nq).alloc (.cells #[.int .i64 d, .pointer n2, .pointer q] 50)) = W1 := ⟨_, rfl⟩
      have hb1 : Below w.heap.size w W1 := by
        rw [← hW1]
        ((repeat' (first | with_reducible exact Below.refl _ _ | with_reducible apply Below.setCell | with_reducible apply below_drewN | with_reducible apply Below.drew | with_reducible apply Below.alloc | with_reducible refine Below.trans ?_ (Below.mono (by assumption) ?_))) <;> (first | (simp; done) | (simp; omega) | omega))
      have hs1 : W1.heap.size = w.heap.size + 3 := by rw [← hW1]; simp
      have hR : hp.Blk W1 (w.heap.size + 1) 25 [.pointer none] := by
        rw [← hW1]
        exact ((hp.Blk.newAt (by simp)).drewN _).alloc _
      have hN : hp.Blk W1 (w.heap.size + 1 + 1) 50 [.int .i64 d, .pointer n2, .pointer q] := by
        rw [← hW1]
        exact hp.Blk.newAt (by simp)
      rw [hW1, hD2]
      replace c1 := (hb1.cell (p := ⟨b, 1, none⟩) hb).trans c1
      replace e0 := (hb1.cell (p := ⟨b2, 0, none⟩) hb2).trans e0
      replace e1 := (hb1.cell (p := ⟨b2, 1, none⟩) hb2).trans e1
      have r0 := hR.cell 0
      have r1 := hR.free 0
      simp only [List.getElem?_cons_zero] at r0
      have hb3 : b < w.heap.size + 3 := by omega
      have hb4 : b2 < w.heap.size + 3 := by omega
      clear hW1 c0 c2 e2
      refine hK.out _ _ ?_
      clear hK
      go_wp2_with fail
      obtain ⟨W2, hW2⟩ : ∃ W2, ((W1.setCell ⟨w.heap.size + 1, 0, none⟩ (.pointer (some ⟨w.heap.size + 3, 0, none⟩))).alloc (.cells #[.int .i64 d, .pointer n1, .pointer (some ⟨w.heap.size + 1 + 1, 0, none⟩)] 50)) = W2 := ⟨_, rfl⟩
      have hbW : Below w.heap.size w W2 := by
        rw [← hW2]
        refine hb1.trans ?_
        ((repeat' (first | with_reducible exact Below.refl _ _ | with_reducible apply Below.setCell | with_reducible apply below_drewN | with_reducible apply Below.drew | with_reducible apply Below.alloc | with_reducible refine Below.trans ?_ (Below.mono (by assumption) ?_))) <;> (first | (simp; done) | (simp; omega) | omega))
      have hR2 : hp.Blk W2 (w.heap.size + 1) 25 [.pointer (some ⟨w.heap.size + 3, 0, none⟩)] := by
        rw [← hW2]
        exact (hR.set 0 _).alloc _
      have hN2 : hp.Blk W2 (w.heap.size + 1 + 1) 50 [.int .i64 d, .pointer n2, .pointer q] := by
        rw [← hW2]
        exact (hN.other (by simp) _).alloc _
      have hT2 : hp.Blk W2 (w.heap.size + 3) 50 [.int .i64 d, .pointer n1, .pointer (some ⟨w.heap.size + 1 + 1, 0, none⟩)] := by
        rw [← hW2]
        exact hp.Blk.newAt (by simp [hs1])
      rw [hW2]
      have f0 := hR2.cell 0
      simp only [List.getElem?_cons_zero] at f0
      have hB2 := hbW.size
      refine bodyPost_ret (v := .tuple #[.int .i64 y, rv (some ⟨w.heap.size + 3, 0, none⟩), .bool true]) (by simp [results, Try.results15, go_sem, f0]) rfl ⟨⟨_, rfl, ?_⟩, hbW⟩
      rw [← hd0] at hN2 hT2
      refine ⟨_, (k, ys) :: (k, zs) :: ts, rfl, ?_, ?_, ho.part, hwl⟩
      · exact ⟨_, n1, _, rfl, hT2.lt, hT2, h1.grow hbW hB2, _, n2, q, rfl, hN2.lt, hN2, h2.grow hbW hB2, hq.grow hbW hB2⟩
      · rw [flat_cons, flat_cons, ← hl]
        simp
end Go.Proofs.Ythnfcmjlpimnoaa.ral
