/- Package finger: Split. -/
import Derived.Test.YtkenocamlaaajaaFinSplit4
namespace Go.Proofs.Ytkenocamlaaajaa.fin
open Go Go.RowKit Go.Proofs.Ytkenocamlaaajaa.mono

/-- what Split of a tree gives, whatever is asked -/
def TCut (w' : World) (e : Ending) (f : List Int → Bool) (L : List Int) : Prop := ∃ (a b : Option Addr) (X Y : List Int), e = .returned (.tuple #[.agg #[.pointer a], .agg #[.pointer b]]) ∧ IsT w' (.agg #[.pointer a]) X ∧ IsT w' (.agg #[.pointer b]) Y ∧ Cut f L X Y
set_option maxRecDepth 100000 in
set_option maxHeartbeats 8000000 in
theorem tSplit (n0 : Nat) (bs : Array Value) (N : Nat) (f : List Int → Bool) (u : Value) (L : List Int) (w : World) (h : IsT w u L) (hN : L.length ≤ N) (hN2 : N ≤ 4611686018427387904) (hA : ∀ (W : World) (bq : Nat), Below w.heap.size w W → bq < W.heap.size → W.cell? ⟨bq, 0, none⟩ = some (.func (.func n0) #[] bs) → Asks W bq N f) :
    Calls Try.prog 61 #[u, .func (.func n0) #[] bs] w fun e w' => TCut w' e f L ∧ Below w.heap.size w w' := by
  obtain ⟨p, rfl, h⟩ := h
  obtain ⟨W, hW⟩ : ∃ W, (((w.alloc (.cells #[.pointer p] 28)).alloc (.cells #[.func (.func n0) #[] bs] 101)).alloc (.cells #[.pointer none] 28)).alloc (.cells #[.pointer none] 28) = W := ⟨_, rfl⟩
  have hB0 : hp.Blk W w.heap.size 28 [.pointer p] := by rw [← hW]; exact (((hp.Blk.new w [.pointer p] _).alloc _).alloc _).alloc _
  have hB1 : hp.Blk W (w.heap.size + 1) 101 [.func (.func n0) #[] bs] := by rw [← hW]; exact ((hp.Blk.newAt (by simp)).alloc _).alloc _
  have hR1 : hp.Blk W (w.heap.size + 1 + 1) 28 [.pointer none] := by rw [← hW]; exact (hp.Blk.newAt (by simp)).alloc _
  have hR2 : hp.Blk W (w.heap.size + 1 + 1 + 1) 28 [.pointer none] := by rw [← hW]; exact hp.Blk.newAt (by simp)
  have hb : Below w.heap.size w W := by rw [← hW]; ((repeat' (first | with_reducible exact Below.refl _ _ | with_reducible apply Below.setCell | with_reducible apply below_drewN | with_reducible apply Below.drew | with_reducible apply Below.alloc | with_reducible refine Below.trans ?_ (Below.mono (by assumption) ?_))) <;> (first | (simp; done) | (simp; omega) | omega))
  have a0 := hB0.cell 0
  have l0 := hB0.lt
  have a1 := hB1.cell 0
  simp only [List.getElem?_cons_zero] at a0 a1
  have H := mSplit_any (w.heap.size + 1) N f p L W (h.on hb) hN hN2 (hA W _ hb hB1.lt a1)
  clear h hN hN2 hA hB0 hB1 a1
  go_enter Try.func61, Try.ntmps61
  go_wp2_with (go_at_call 73; (with_reducible refine H.mono ?_); clear H; rintro e w5 ⟨⟨a, b, X, Y, rfl, ha, hb', hc⟩, hb5⟩)
  obtain ⟨V, hV⟩ : ∃ V, (w5.alloc (.cells #[.pointer a] 26)).alloc (.cells #[.pointer b] 26) = V := ⟨_, rfl⟩
  have hw5 := hb.trans (hb5.mono hb.size)
  have hv5 : Below w5.heap.size w5 V := by rw [← hV]; ((repeat' (first | with_reducible exact Below.refl _ _ | with_reducible apply Below.setCell | with_reducible apply below_drewN | with_reducible apply Below.drew | with_reducible apply Below.alloc | with_reducible refine Below.trans ?_ (Below.mono (by assumption) ?_))) <;> (first | (simp; done) | (simp; omega) | omega))
  have hbV := hw5.trans (hv5.mono hw5.size)
  have hr1 := (hR1.on hb5).on hv5
  have hr2 := (hR2.on hb5).on hv5
  have hx1 : hp.Blk V w5.heap.size 26 [.pointer a] := by rw [← hV]; exact (hp.Blk.new w5 [.pointer a] _).alloc _
  have hx2 : hp.Blk V (w5.heap.size + 1) 26 [.pointer b] := by rw [← hV]; exact hp.Blk.newAt (by simp)
  have hne : ¬ w5.heap.size + 1 = w.heap.size + 1 + 1 := by have := hR2.lt; have := hb5.size; omega
  have z2 := (hx2.other (a := ⟨w.heap.size + 1 + 1, 0, none⟩) hne (.pointer a)).drew.cell 0
  have ha' := ha.on hv5
  have hb'' := hb'.on hv5
  rw [hV]
  clear hV hR1 hR2 ha hb' hv5 hb5 hw5 a0 l0 hW
  have c1 := hr1.cell 0
  have c2 := hr2.cell 0
  have d1 := hx1.cell 0
  have d2 := hx2.cell 0
  have f1 := hr1.free
  have f2 := hr2.free
  have l1 := hr1.lt
  have l2 := hr2.lt
  have l3 := hx1.lt
  have l4 := hx2.lt
  have y1 := ((hr1.set 0 (.pointer a)).other (a := ⟨w.heap.size + 1 + 1 + 1, 0, none⟩) (by simp) (.pointer b)).cell 0
  have y2 := ((hr2.other (a := ⟨w.heap.size + 1 + 1, 0, none⟩) (by simp) (.pointer a)).set 0 (.pointer b)).cell 0
  simp only [List.getElem?_cons_zero, List.set_cons_zero] at c1 c2 d1 d2 y1 y2 z2
  clear hx1 hx2 hne
  generalize w5.heap.size = b5 at *
  go_big_region
  go_wp2_with fail
  exact bodyPost_ret (v := .tuple #[.agg #[.pointer a], .agg #[.pointer b]]) (by simp [results, Try.results61, go_sem, y1, y2]) rfl ⟨⟨a, b, X, Y, rfl, IsT.mk (((ha'.keep (keep_tree hr1 _ _)).keep (keep_tree (hr2.other (by simp) _) _ _)).keep (keep_drew _)), IsT.mk (((hb''.keep (keep_tree hr1 _ _)).keep (keep_tree (hr2.other (by simp) _) _ _)).keep (keep_drew _)), hc⟩, ((hbV.setCell (p := ⟨w.heap.size + 1 + 1, 0, none⟩) (by simp; omega) _).setCell (p := ⟨w.heap.size + 1 + 1 + 1, 0, none⟩) (by simp; omega) _).drew⟩
end Go.Proofs.Ytkenocamlaaajaa.fin
