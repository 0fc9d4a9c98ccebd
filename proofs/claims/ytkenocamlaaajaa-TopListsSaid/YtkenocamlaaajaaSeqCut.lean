/- Package seq: cut. -/
import Derived.Test.YtkenocamlaaajaaSeq
import Derived.Test.YtkenocamlaaajaaFinSplit5
namespace Go.Proofs.Ytkenocamlaaajaa.fin
open Go Go.RowKit Go.Proofs.Ytkenocamlaaajaa.mono

/-- the question of cut -/
abbrev qC (b : Nat) : Value := .func (.func 62) #[] #[.pointer (some ⟨b, 0, none⟩)]
set_option maxRecDepth 100000 in
theorem askC0 (n : Int) (b : Nat) (l : List Int) (W : World) (hb : b < W.heap.size) (hc : W.cell? ⟨b, 0, none⟩ = some (.int .i64 n)) :
    Calls Try.prog 62 #[mvOf l.length l, .pointer (some ⟨b, 0, none⟩)] W fun e w' => e = .returned (.bool (moreThan n l)) ∧ Below W.heap.size W w' := by
  go_enter Try.func62, Try.ntmps62
  go_wp2_with fail
  go_ret
  exact ⟨rfl, by ((repeat' (first | with_reducible exact Below.refl _ _ | with_reducible apply Below.setCell | with_reducible apply below_drewN | with_reducible apply Below.drew | with_reducible apply Below.alloc | with_reducible refine Below.trans ?_ (Below.mono (by assumption) ?_))) <;> (first | (simp; done) | (simp; omega) | omega))⟩
set_option maxRecDepth 100000 in
theorem askC (n : Int) (b bq N : Nat) (w : World) (hb : b < w.heap.size) (hc : w.cell? ⟨b, 0, none⟩ = some (.int .i64 n)) (hq : bq < w.heap.size) (hp : w.cell? ⟨bq, 0, none⟩ = some (qC b)) : Asks w bq N (moreThan n) := by
  intro W l K _
  have kp := (K.cell (p := ⟨bq, 0, none⟩) hq).trans hp
  have kc := (K.cell (p := ⟨b, 0, none⟩) hb).trans hc
  have lq : bq < W.heap.size := by have := K.size; omega
  have lb : b < W.heap.size := by have := K.size; omega
  have H := fun V (K : Below W.heap.size W V) => askC0 n b l V (by have := K.size; omega) ((K.cell (p := ⟨b, 0, none⟩) lb).trans kc)
  clear K hp hc hq hb
  go_enter Try.func74, Try.ntmps74
  go_wp2_with (go_at_call 62; (with_reducible refine (H _ (by ((repeat' (first | with_reducible exact Below.refl _ _ | with_reducible apply Below.setCell | with_reducible apply below_drewN | with_reducible apply Below.drew | with_reducible apply Below.alloc | with_reducible refine Below.trans ?_ (Below.mono (by assumption) ?_))) <;> (first | (simp; done) | (simp; omega) | omega)))).mono ?_); rintro e w3 ⟨rfl, hb3⟩)
  go_ret
  exact ⟨rfl, (show Below W.heap.size W _ by ((repeat' (first | with_reducible exact Below.refl _ _ | with_reducible apply Below.setCell | with_reducible apply below_drewN | with_reducible apply Below.drew | with_reducible apply Below.alloc | with_reducible refine Below.trans ?_ (Below.mono (by assumption) ?_))) <;> (first | (simp; done) | (simp; omega) | omega))).trans (hb3.mono (by simp))⟩

/-- cut by how many -/
theorem cut_many {k : Nat} {L X Y : List Int} (h : Cut (moreThan k) L X Y) (hk : k ≤ L.length) : X = L.take k ∧ Y = L.drop k := by
  obtain ⟨o, -, h2, h3⟩ := h
  have f0 : moreThan k [] = false := by simp [moreThan]
  have lo := congrArg List.length o
  rw [List.length_append] at lo
  have key : X.length = k := by
    by_cases c : moreThan k L = true
    · obtain ⟨t1, x, Z, rfl, t2⟩ := h3 f0 c
      simp [moreThan] at t1 t2
      omega
    · have c' : moreThan k L = false := by simpa using c
      have := h2 f0 c'
      subst this
      simp [moreThan] at c'
      simp at lo
      omega
  rw [← o, ← key]
  simp

set_option maxRecDepth 100000 in
set_option maxHeartbeats 4000000 in
theorem cut_any {u : Value} {L : List Int} {w : World} (k : Nat) (X Y : List Int) (h : IsT w u L) (hk : k ≤ L.length) (hX : L.take k = X) (hY : L.drop k = Y) (hbd : L.length ≤ 4611686018427387904) :
    Calls Try.prog 42 #[u, .int .i64 k] w fun e w' => (∃ a b, e = .returned (.tuple #[.agg #[.pointer a], .agg #[.pointer b]]) ∧ IsT w' (.agg #[.pointer a]) X ∧ IsT w' (.agg #[.pointer b]) Y) ∧ Below w.heap.size w w' := by
  obtain ⟨p, rfl, h⟩ := h
  obtain ⟨W, hW⟩ : ∃ W, (((w.alloc (.cells #[.pointer p] 28)).alloc (.cells #[.int .i64 k] 3)).alloc (.cells #[.pointer none] 28)).alloc (.cells #[.pointer none] 28) = W := ⟨_, rfl⟩
  have hA : hp.Blk W w.heap.size 28 [.pointer p] := by rw [← hW]; exact (((hp.Blk.new w [.pointer p] _).alloc _).alloc _).alloc _
  have hI : hp.Blk W (w.heap.size + 1) 3 [.int .i64 k] := by rw [← hW]; exact ((hp.Blk.newAt (by simp)).alloc _).alloc _
  have hR1 : hp.Blk W (w.heap.size + 1 + 1) 28 [.pointer none] := by rw [← hW]; exact (hp.Blk.newAt (by simp)).alloc _
  have hR2 : hp.Blk W (w.heap.size + 1 + 1 + 1) 28 [.pointer none] := by rw [← hW]; exact hp.Blk.newAt (by simp)
  have hb : Below w.heap.size w W := by rw [← hW]; ((repeat' (first | with_reducible exact Below.refl _ _ | with_reducible apply Below.setCell | with_reducible apply below_drewN | with_reducible apply Below.drew | with_reducible apply Below.alloc | with_reducible refine Below.trans ?_ (Below.mono (by assumption) ?_))) <;> (first | (simp; done) | (simp; omega) | omega))
  have a0 := hA.cell 0
  have la := hA.lt
  have i0 := hI.cell 0
  have li := hI.lt
  simp only [List.getElem?_cons_zero] at a0 i0
  have H := tSplit 62 #[.pointer (some ⟨w.heap.size + 1, 0, none⟩)] L.length (moreThan k) _ L W (IsT.mk (h.on hb)) (Nat.le_refl _) hbd (fun V bq K hq hc => askC k (w.heap.size + 1) bq _ V (by have := K.size; omega) ((K.cell (p := ⟨w.heap.size + 1, 0, none⟩) li).trans i0) hq hc)
  have H1 : Calls Try.prog 61 #[.agg #[.pointer p], qC (w.heap.size + 1)] W fun e w' => (∃ a b, e = .returned (.tuple #[.agg #[.pointer a], .agg #[.pointer b]]) ∧ IsT w' (.agg #[.pointer a]) X ∧ IsT w' (.agg #[.pointer b]) Y) ∧ Below W.heap.size W w' := by
    refine H.mono ?_
    rintro e w' ⟨⟨a, b, X', Y', he, h1, h2, h3⟩, hb'⟩
    obtain ⟨e1, e2⟩ := cut_many h3 hk
    rw [hX] at e1
    rw [hY] at e2
    subst e1 e2
    exact ⟨⟨a, b, he, h1, h2⟩, hb'⟩
  replace H := H1
  clear H1
  clear h hk hX hY hbd hA hI
  go_enter Try.func42, Try.ntmps42
  go_wp2_with (go_at_call 61; (with_reducible refine H.mono ?_); clear H; rintro e w5 ⟨⟨a, b, rfl, ha, hb'⟩, hb5⟩; have hr1 := hR1.on hb5; have hr2 := hR2.on hb5; have c1 := hr1.cell 0; have f1 := hr1.free; have l1 := hr1.lt; have l2 := hr2.lt; have f2 := (hr2.other (a := ⟨w.heap.size + 1 + 1, 0, none⟩) (by simp) (.pointer a)).free; have c2 := (hr2.other (a := ⟨w.heap.size + 1 + 1, 0, none⟩) (by simp) (.pointer a)).cell 0; have y1 := ((hr1.set 0 (.pointer a)).other (a := ⟨w.heap.size + 1 + 1 + 1, 0, none⟩) (by simp) (.pointer b)).cell 0; have y2 := ((hr2.other (a := ⟨w.heap.size + 1 + 1, 0, none⟩) (by simp) (.pointer a)).set 0 (.pointer b)).cell 0; simp only [List.getElem?_cons_zero, List.set_cons_zero] at c1 c2 y1 y2)
  exact bodyPost_ret (v := .tuple #[.agg #[.pointer a], .agg #[.pointer b]]) (by simp [results, Try.results42, go_sem, y1, y2]) rfl ⟨⟨a, b, rfl, (ha.keep (keep_tree hr1 _ _)).keep (keep_tree (hr2.other (by simp) _) _ _), (hb'.keep (keep_tree hr1 _ _)).keep (keep_tree (hr2.other (by simp) _) _ _)⟩, ((hb.trans (hb5.mono hb.size)).setCell (p := ⟨w.heap.size + 1 + 1, 0, none⟩) (by simp; omega) _).setCell (p := ⟨w.heap.size + 1 + 1 + 1, 0, none⟩) (by simp; omega) _⟩
end Go.Proofs.Ytkenocamlaaajaa.fin
