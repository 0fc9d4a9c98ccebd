/- Package seq over finger trees: Of, Ints, Len, Join, cut. -/
import Derived.Test.YtkenocamlaaajaaFinTree
import Derived.Test.YtkenocamlaaajaaFinInts
namespace Go.Proofs.Ytkenocamlaaajaa.fin
open Go Go.RowKit Go.Proofs.Ytkenocamlaaajaa.mono

theorem keep_seq {W : World} {g : Nat} {cs : List Value} (hg : hp.Blk W g 30 cs) (o : Nat) (v : Value) : Keep W (W.setCell ⟨g, o, none⟩ v) := Keep.of_set hg (by decide) (by decide) (by decide) v
theorem keep_mes {W : World} {g : Nat} {cs : List Value} (hg : hp.Blk W g 42 cs) (o : Nat) (v : Value) : Keep W (W.setCell ⟨g, o, none⟩ v) := Keep.of_set hg (by decide) (by decide) (by decide) v

set_option maxRecDepth 100000 in
theorem sOf (v : Value) (l : List Int) (w : World) (hv : hp.IsInts w w.heap.size v l) (hbd : l.length ≤ 4611686018427387904) :
    Calls Try.prog 10 #[v] w fun e w' => (∃ u, e = .returned u ∧ IsT w' u l) ∧ Below w.heap.size w w' := by
  obtain ⟨W, hW⟩ : ∃ W, w.alloc (.cells #[.pointer none] 30) = W := ⟨_, rfl⟩
  have hR : hp.Blk W w.heap.size 30 [.pointer none] := by rw [← hW]; exact hp.Blk.newAt (by simp)
  have hb : Below w.heap.size w W := by rw [← hW]; ((repeat' (first | with_reducible exact Below.refl _ _ | with_reducible apply Below.setCell | with_reducible apply below_drewN | with_reducible apply Below.drew | with_reducible apply Below.alloc | with_reducible refine Below.trans ?_ (Below.mono (by assumption) ?_))) <;> (first | (simp; done) | (simp; omega) | omega))
  have H := of_any v l W (hv.on hb) hbd
  obtain ⟨a0, n0, rfl, -⟩ := hv
  clear hbd
  go_enter Try.func10, Try.ntmps10
  go_wp2_with (go_at_call 37; (with_reducible refine H.mono ?_); clear H; rintro e w9 ⟨⟨u, rfl, hu⟩, K9⟩; (obtain ⟨pu, rfl⟩ := hu.val); have hR9 := hR.on K9; have d0 := hR9.cell 0; have df := hR9.free; have f0 := (hR9.set 0 (.pointer pu)).cell 0; simp only [List.getElem?_cons_zero, List.set_cons_zero] at d0 f0)
  exact bodyPost_ret (v := .agg #[.pointer pu]) (by simp [results, Try.results10, go_sem, f0]) rfl ⟨⟨_, rfl, hu.keep (keep_seq hR9 _ _)⟩, (hb.trans (K9.mono hb.size)).setCell (p := ⟨w.heap.size, 0, none⟩) (by simp) _⟩

set_option maxRecDepth 100000 in
theorem sLen {u : Value} {L : List Int} {w : World} (h : IsT w u L) :
    Calls Try.prog 23 #[u] w fun e w' => e = .returned (.int .i64 L.length) ∧ Below w.heap.size w w' := by
  obtain ⟨p, rfl, h⟩ := h
  have hfd := field_len L.length L
  have hb : Below w.heap.size w (w.alloc (.cells #[.pointer p] 30)) := by ((repeat' (first | with_reducible exact Below.refl _ _ | with_reducible apply Below.setCell | with_reducible apply below_drewN | with_reducible apply Below.drew | with_reducible apply Below.alloc | with_reducible refine Below.trans ?_ (Below.mono (by assumption) ?_))) <;> (first | (simp; done) | (simp; omega) | omega))
  have H := measure_any (IsT.mk (h.on hb))
  clear h
  go_enter Try.func23, Try.ntmps23
  go_wp2_with (go_at_call 44; (with_reducible refine H.mono ?_); clear H; rintro e w9 ⟨rfl, K9⟩)
  go_ret
  exact ⟨rfl, hb.trans (K9.mono hb.size)⟩

set_option maxRecDepth 100000 in
theorem sInts {u : Value} {L : List Int} {w : World} (h : IsT w u L) (hbd : L.length ≤ 35184372088832) :
    Calls Try.prog 17 #[u] w fun e w' => (∃ u, e = .returned u ∧ hp.IsInts w' w'.heap.size u L) ∧ Below w.heap.size w w' := by
  obtain ⟨p, rfl, h⟩ := h
  have hb : Below w.heap.size w (w.alloc (.cells #[.pointer p] 30)) := by ((repeat' (first | with_reducible exact Below.refl _ _ | with_reducible apply Below.setCell | with_reducible apply below_drewN | with_reducible apply Below.drew | with_reducible apply Below.alloc | with_reducible refine Below.trans ?_ (Below.mono (by assumption) ?_))) <;> (first | (simp; done) | (simp; omega) | omega))
  have H := ints_any _ L _ (IsT.mk (h.on hb)) hbd
  clear h
  go_enter Try.func17, Try.ntmps17
  go_wp2_with (go_at_call 41; (with_reducible refine H.mono ?_); clear H; rintro e w9 ⟨⟨u, rfl, hu⟩, K9⟩; have hu' := hu; (obtain ⟨au, nu, rfl, -⟩ := hu'))
  go_ret
  exact ⟨⟨_, rfl, hu⟩, hb.trans (K9.mono hb.size)⟩
set_option maxRecDepth 100000 in
theorem sInts_own {u : Value} {L : List Int} {w : World} (h : IsT w u L) (hbd : L.length ≤ 35184372088832) :
    Calls Try.prog 17 #[u] w fun e w' => (∃ u, e = .returned u ∧ w'.ownsRow w.heap.size 3 1 u L.length (L.map (Value.int .i64))) ∧ Below w.heap.size w w' := by
  obtain ⟨p, rfl, h⟩ := h
  have hb : Below w.heap.size w (w.alloc (.cells #[.pointer p] 30)) := by ((repeat' (first | with_reducible exact Below.refl _ _ | with_reducible apply Below.setCell | with_reducible apply below_drewN | with_reducible apply Below.drew | with_reducible apply Below.alloc | with_reducible refine Below.trans ?_ (Below.mono (by assumption) ?_))) <;> (first | (simp; done) | (simp; omega) | omega))
  have H := ints_own _ L _ (IsT.mk (h.on hb)) hbd
  clear h
  go_enter Try.func17, Try.ntmps17
  go_wp2_with (go_at_call 41; (with_reducible refine H.mono ?_); clear H; rintro e w9 ⟨⟨u, rfl, hu⟩, K9⟩)
  go_ret
  refine ⟨⟨_, rfl, hu.1, ?_⟩, hb.trans (K9.mono hb.size)⟩
  rcases hu.2 with h | ⟨g, cap, cur, h1, h2, h3⟩
  · exact .inl h
  · exact .inr ⟨g, cap, cur, h1, by simp at h2; omega, h3⟩

set_option maxRecDepth 100000 in
theorem sJoin {u v : Value} {l r : List Int} {w : World} (L : List Int) (h : IsT w u l) (h' : IsT w v r) (hL : l ++ r = L) (hbd : L.length ≤ 4611686018427387904) :
    Calls Try.prog 24 #[u, v] w fun e w' => (∃ u, e = .returned u ∧ IsT w' u L) ∧ Below w.heap.size w w' := by
  obtain ⟨p, rfl, h⟩ := h
  obtain ⟨q, rfl, h'⟩ := h'
  obtain ⟨W, hW⟩ : ∃ W, ((w.alloc (.cells #[.pointer p] 30)).alloc (.cells #[.pointer q] 30)).alloc (.cells #[.pointer none] 30) = W := ⟨_, rfl⟩
  have hA : hp.Blk W w.heap.size 30 [.pointer p] := by rw [← hW]; exact ((hp.Blk.new w [.pointer p] _).alloc _).alloc _
  have hB : hp.Blk W (w.heap.size + 1) 30 [.pointer q] := by rw [← hW]; exact (hp.Blk.newAt (by simp)).alloc _
  have hR : hp.Blk W (w.heap.size + 1 + 1) 30 [.pointer none] := by rw [← hW]; exact hp.Blk.newAt (by simp)
  have hb : Below w.heap.size w W := by rw [← hW]; ((repeat' (first | with_reducible exact Below.refl _ _ | with_reducible apply Below.setCell | with_reducible apply below_drewN | with_reducible apply Below.drew | with_reducible apply Below.alloc | with_reducible refine Below.trans ?_ (Below.mono (by assumption) ?_))) <;> (first | (simp; done) | (simp; omega) | omega))
  have a0 := hA.cell 0
  have b0 := hB.cell 0
  have la := hA.lt
  have lb := hB.lt
  simp only [List.getElem?_cons_zero] at a0 b0
  have H := join_tree L (IsT.mk (h.on hb)) (IsT.mk (h'.on hb)) hL hbd
  clear h h' hL hbd hA hB
  go_enter Try.func24, Try.ntmps24
  go_wp2_with (go_at_call 40; (with_reducible refine H.mono ?_); clear H; rintro e w9 ⟨⟨u, rfl, hu⟩, K9⟩; (obtain ⟨pu, rfl⟩ := hu.val); have hR9 := hR.on K9; have d0 := hR9.cell 0; have df := hR9.free; have f0 := (hR9.set 0 (.pointer pu)).cell 0; simp only [List.getElem?_cons_zero, List.set_cons_zero] at d0 f0)
  exact bodyPost_ret (v := .agg #[.pointer pu]) (by simp [results, Try.results24, go_sem, f0]) rfl ⟨⟨_, rfl, hu.keep (keep_seq hR9 _ _)⟩, (hb.trans (K9.mono hb.size)).setCell (p := ⟨w.heap.size + 1 + 1, 0, none⟩) (by simp; omega) _⟩

end Go.Proofs.Ytkenocamlaaajaa.fin
