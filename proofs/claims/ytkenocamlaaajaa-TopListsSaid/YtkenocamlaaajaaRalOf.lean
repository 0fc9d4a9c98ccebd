/- Package ral: a list is made of numbers. -/
import Derived.Test.YtkenocamlaaajaaRalPush
namespace Go.Proofs.Ytkenocamlaaajaa.ral
open Go Go.RowKit Go.Proofs.Ytkenocamlaaajaa.sk

set_option maxHeartbeats 4000000 in
theorem of_any (v : Value) (l : List Int) (w : World) (hv : hp.IsInts w w.heap.size v l) (hbd : l.length < 4611686018427387904) :
    Calls Try.prog 28 #[v] w fun e w' => (∃ q, e = .returned (rv q) ∧ IsRal w' w'.heap.size (rv q) l) ∧ Below w.heap.size w w' := by
  obtain ⟨ad, cap, rfl, hn, hm, hwf, hcell⟩ := hv
  go_enter Try.func28, Try.ntmps28
  go_wp2_with fail
  go_loopw [4] (fun i wr => ∃ pre suf : List Int, ∃ q : Option Addr, l = pre ++ suf ∧ i = .int .i64 ((pre.length : Int) - 1) ∧ Below w.heap.size w wr ∧ hp.Blk wr w.heap.size 60 [.pointer none] ∧ hp.Blk wr (w.heap.size + 1) 60 [.pointer q] ∧ IsRal wr wr.heap.size (rv q) suf) (fun i _ => (intOf i + 1).toNat)
  case atStart =>
    refine ⟨l, [], none, by simp, rfl, ?_, ?_, ?_, IsRal.nil _ _⟩
    · ((repeat' (first | with_reducible exact Below.refl _ _ | with_reducible apply Below.setCell | with_reducible apply below_drewN | with_reducible apply Below.drew | with_reducible apply Below.alloc | with_reducible refine Below.trans ?_ (Below.mono (by assumption) ?_))) <;> (first | (simp; done) | (simp; omega) | omega))
    · exact (hp.Blk.newAt (by simp)).alloc _
    · exact hp.Blk.newAt (by simp)
  case round =>
    obtain ⟨pre, suf, q, hl, rfl, hb, hA, hR, hL⟩ := hrel
    rcases snoc_cases pre with rfl | ⟨pre, x, rfl⟩
    · obtain rfl : l = suf := by simpa using hl
      have c0 := hR.cell 0
      have e0 := hA.cell 0
      have ef := hA.free 0
      have f0 := (hA.set 0 (.pointer q)).cell 0
      simp only [List.getElem?_cons_zero, List.set_cons_zero] at c0 e0 f0
      go_wp2_with fail
      refine bodyPost_ret (v := rv q) (by simp [results, Try.results28, go_sem, f0]) rfl ⟨⟨_, rfl, ?_⟩, ?_⟩
      · exact (hL.keep (Keep.of_set hA (by decide) (by decide) _)).mono (by simp)
      · exact hb.setCell (by simp) _
    · have hi : ((pre ++ [x]).length : Int) - 1 = (pre.length : Int) := by simp
      have hlen : l.length = pre.length + 1 + suf.length := by rw [hl]; simp; omega
      have hx : l.getD pre.length 0 = x := by rw [hl]; simp
      rw [hi]
      clear hi
      obtain ⟨b, off, rfl, hbb, hce⟩ := hcell (by omega)
      have hcx : wr.cell? ⟨b, off + pre.length, none⟩ = some (.int .i64 x) := (hb.cell hbb).trans ((hce _ (by omega)).trans (by rw [hx]))
      clear hcell hce hx
      obtain ⟨n, hpn⟩ : ∃ n, pre.length = n := ⟨_, rfl⟩
      rw [hpn] at hcx hlen ⊢
      have hwx : (Lit.int .i64 x).wf = true := hwf x (by rw [hl]; simp)
      have hbw : b < wr.heap.size := by have := hb.size; omega
      have hl0 := Lib.hid hl
      clear hwf hl
      have htl : suf.length < 4611686018427387904 := by omega
      have hpn := Lib.hid hpn
      go_wp2_with fail
      apply rel.region_tail (C := fun w' => Below wr.heap.size wr w') (X := fun w w' => Below w.heap.size w w') 6 (by kernel_rfl) (by kernel_rfl) (by kernel_rfl) (by kernel_rfl) ((Below.refl _ _).drew)
      ((apply rel.walk_val; (focus (intro wq hq hf; (have d0 := (((hR).below hq (hR).lt)).cell 0; simp only [List.getElem?_cons_zero] at d0); go_wp2; refine ⟨hq, Below.refl _ _, ?_, rfl⟩; (show rel.slot _ _ = _; simp only [rel.slot_lit, List.getD_cons_succ, List.getD_cons_zero]; (first | done | exact rfl)))); (simp only [rel.put_lit, List.set_cons_succ, List.set_cons_zero])))
      (apply rel.walk_val; (focus (intro wq hq hf; go_wp2; refine ⟨hq, Below.refl _ _, ?_, rfl⟩; (show rel.slot _ _ = _; simp only [rel.slot_lit, List.getD_cons_succ, List.getD_cons_zero]; (first | done | exact rfl)))); (simp only [rel.put_lit, List.set_cons_succ, List.set_cons_zero]))
      (apply rel.walk_val; (focus (intro wq hq hf; go_wp2; refine ⟨hq, Below.refl _ _, ?_, rfl⟩; (show rel.slot _ _ = _; simp only [rel.slot_lit, List.getD_cons_succ, List.getD_cons_zero]; (first | done | exact rfl)))); (simp only [rel.put_lit, List.set_cons_succ, List.set_cons_zero]))
      (apply rel.walk_val; (focus (intro wq hq hf; go_wp2; refine ⟨hq, Below.refl _ _, ?_, rfl⟩; (show rel.slot _ _ = _; simp only [rel.slot_lit, List.getD_cons_succ, List.getD_cons_zero]; (first | done | exact rfl)))); (simp only [rel.put_lit, List.set_cons_succ, List.set_cons_zero]))
      (apply rel.walk_val; (focus (intro wq hq hf; (have d0 := (hq.cell (p := ⟨b, off + n, none⟩) hbw).trans hcx); go_wp2; refine ⟨hq, Below.refl _ _, ?_, rfl⟩; (show rel.slot _ _ = _; simp only [rel.slot_lit, List.getD_cons_succ, List.getD_cons_zero]; (first | done | exact rfl)))); (simp only [rel.put_lit, List.set_cons_succ, List.set_cons_zero]))
      (apply rel.walk_rel (fun u w' => ral.IsRal w' w'.heap.size u (x :: suf)) ⟨_, rfl⟩ (fun u w1 w2 h1 h2 => h2.on h1); (focus (intro wq hq hf; go_wp2_with (go_at_call 32; refine (push_any _ suf _ _ (hL.on hq) hwx htl).mono ?_; rintro e w'' ⟨⟨u, rfl, hu⟩, hb⟩); refine ⟨hq.trans (hb.mono hq.size), hb, ?_, rfl⟩; (show ral.IsRal _ _ (rel.slot _ _) _; simp only [rel.slot_lit, List.getD_cons_succ, List.getD_cons_zero]; exact hu))); (intro u wu _ hu; obtain ⟨pu, tu, rfl, -⟩ := hu; (simp only [rel.put_lit, List.set_cons_succ, List.set_cons_zero])))
      refine rel.walk_nil ?_
      intro w9 K9 hF
      have hu : IsRal w9 w9.heap.size _ (x :: suf) := hF _ (List.mem_cons_self ..)
      have hA9 := hA.on K9
      have hR9 := hR.on K9
      have c0 := hR9.cell 0
      have cf := hR9.free 0
      simp only [List.getElem?_cons_zero] at c0
      simp only [List.drop_succ_cons, List.drop_zero]
      go_wp2
      go_roundw
      case rel =>
        refine ⟨pre, x :: suf, _, by rw [hl0.out]; simp, by rw [hpn.out], ?_, ?_, hR9.set 0 _, ?_⟩
        · refine (hb.trans (K9.mono hb.size)).trans ?_
          ((repeat' (first | with_reducible exact Below.refl _ _ | with_reducible apply Below.setCell | with_reducible apply below_drewN | with_reducible apply Below.drew | with_reducible apply Below.alloc | with_reducible refine Below.trans ?_ (Below.mono (by assumption) ?_))) <;> (first | (simp; done) | (simp; omega) | omega))
        · exact hA9.other (by simp) _
        · exact (hu.keep (Keep.of_set hR9 (by decide) (by decide) _)).mono (by simp)
      case measure => simp [intOf]
end Go.Proofs.Ytkenocamlaaajaa.ral
