/- Package bino: a heap is made of numbers. -/
import Derived.Test.YtdbipbmdpgccnaaBinoOps
import Derived.Test.YtdbipbmdpgccnaaSame
namespace Go.Proofs.Ytdbipbmdpgccnaa.bin
open Go Go.RowKit

set_option maxHeartbeats 4000000 in
theorem of_any {v : Value} {l : List Int} {w : World} (hv : hp.IsInts w w.heap.size v l) (hbd : l.length < 4611686018427387903) :
    Calls Try.prog 8 #[v] w fun e w' => (∃ q, e = .returned (rv q) ∧ IsHeap w' w'.heap.size (rv q) l) ∧ Below w.heap.size w w' := by
  obtain ⟨ad, cap, rfl, hn, hm, hwf, hcell⟩ := hv
  go_enter Try.func8, Try.ntmps8
  go_wp2_with fail
  go_loopw [9] (fun i wr => ∃ k : Nat, ∃ q : Option Addr, i = .int .i64 k ∧ k ≤ l.length ∧ Below w.heap.size w wr ∧ hp.Blk wr w.heap.size tyH [.pointer none] ∧ hp.Blk wr (w.heap.size + 1) tyH [.pointer q] ∧ IsHeap wr wr.heap.size (rv q) (l.take k)) (fun i _ => l.length - (intOf i).toNat)
  case atStart =>
    refine ⟨0, none, rfl, Nat.zero_le _, ?_, ?_, ?_, by rw [List.take_zero]; exact IsHeap.nil _ _⟩
    · ((repeat' (first | with_reducible exact Below.refl _ _ | with_reducible apply Below.setCell | with_reducible apply below_drewN | with_reducible apply Below.drew | with_reducible apply Below.alloc | with_reducible refine Below.trans ?_ (Below.mono (by assumption) ?_))) <;> (first | (simp; done) | (simp; omega) | omega))
    · exact (hp.Blk.newAt (by simp)).alloc _
    · exact hp.Blk.newAt (by simp)
  case round =>
    obtain ⟨k, q, rfl, hk, hb, hA, hR, hL⟩ := hrel
    by_cases hlt : k < l.length
    · obtain ⟨b, off, rfl, hbb, hce⟩ := hcell (by omega)
      have hcx := (hb.cell (p := ⟨b, off + k, none⟩) hbb).trans (hce k hlt)
      have hwx : (Lit.int .i64 (l.getD k 0)).wf = true := hwf _ (by simp [hlt])
      have s0 := same.take_snoc l k hlt
      obtain ⟨x, hx⟩ : ∃ x, l.getD k 0 = x := ⟨_, rfl⟩
      rw [hx] at hcx hwx s0
      have hpu := push_any hL hwx (by rw [List.length_take]; omega)
      have hd : ∀ W u, IsHeap W W.heap.size u (x :: l.take k) → IsHeap W W.heap.size u (l.take (k + 1)) := fun W u h => h.perm (by rw [s0]; exact (List.perm_append_comm (l₁ := [x]) (l₂ := l.take k)))
      (have c0 := (hR).cell 0; simp only [List.getElem?_cons_zero] at c0)
      clear hcell hce hwf hx s0 hL hwx
      replace hd := Lib.hid hd
      go_wp2_with (go_at_call 9; with_reducible refine hpu.mono ?_; clear hpu; rintro e wa ⟨⟨q', rfl, hq⟩, hb1⟩; replace hA := hA.on hb1; replace hR := hR.on hb1; replace hb := hb.trans (hb1.mono hb.size); have cf := hR.free 0; clear c0; (have c0 := (hR).cell 0; simp only [List.getElem?_cons_zero] at c0); clear hb1)
      go_roundw
      case rel =>
        refine ⟨k + 1, q', by go_num, by omega, hb.setCell (by simp) _, hA.other (by simp) _, hR.set 0 _, ?_⟩
        exact ((hd.out _ _ hq).keep (Keep.of_set hR (by decide) (by decide) _)).mono (by simp)
      case measure => simp [intOf]; omega
    · obtain rfl : k = l.length := by omega
      have c0 := hR.cell 0
      have e0 := hA.cell 0
      have ef := hA.free 0
      have f0 := (hA.set 0 (.pointer q)).cell 0
      simp only [List.getElem?_cons_zero, List.set_cons_zero] at c0 e0 f0
      rw [List.take_length] at hL
      clear hcell hwf
      go_wp2_with fail
      refine bodyPost_ret (v := rv q) (by simp [results, Try.results8, go_sem, f0]) rfl ⟨⟨_, rfl, ?_⟩, ?_⟩
      · exact (hL.keep (Keep.of_set hA (by decide) (by decide) _)).mono (by simp)
      · exact hb.setCell (by simp) _
end Go.Proofs.Ytdbipbmdpgccnaa.bin
