/- The walk of RalSets. -/
import Derived.Test.YthnfcmjlpimnoaaRalOf
import Derived.Test.YthnfcmjlpimnoaaRalSet
import Derived.Test.YthnfcmjlpimnoaaInts
namespace Go.Proofs.Ythnfcmjlpimnoaa.ral
open Go Go.RowKit
theorem st {w W W' : World} (h : Below w.heap.size w W) (h' : Below W.heap.size W W') : Below w.heap.size w W' := h.trans (h'.mono h.size)

/-- a list of one number has one -/
theorem of_five (w : World) : Calls Try.prog 7 #[.slice (some ⟨w.heap.size, 0, none⟩) 1 1] (w.alloc (.cells #[.int .i64 5] 3)) fun e w' => (∃ q, e = .returned (rv q) ∧ IsRal w' w'.heap.size (rv q) [5]) ∧ Below w.heap.size w w' :=
  (of_any _ [5] _ (hp.IsInts.of_owns (hp.row_one w 5) rfl (by decide)) (by decide)).mono fun _ _ ⟨h, hb⟩ => ⟨h, st ((Below.refl _ _).alloc (Nat.le_refl _) _) hb⟩
end Go.Proofs.Ythnfcmjlpimnoaa.ral

namespace Go.Proofs.Ythnfcmjlpimnoaa.ralSets
open Go Go.RowKit Go.Proofs.Ythnfcmjlpimnoaa.ral
set_option linter.unusedVariables false

set_option maxHeartbeats 8000000 in
theorem walk_out (a0 : Option Addr) (c0 : Nat) (l0 : List Int) (i1 x2 i3 y4 i5 : Int) (w : World) (hl : l0.length ≤ 9223372036854775807) (h : (((i1 < 0 ∨ (l0.length : Int) ≤ i1) ∨ i3 < 0 ∨ (l0.length : Int) ≤ i3) ∨ i5 < 0 ∨ (l0.length : Int) ≤ i5)) :
    Calls Try.prog 5 #[.slice a0 l0.length c0, .int .i64 i1, .int .i64 x2, .int .i64 i3, .int .i64 y4, .int .i64 i5] w fun e w' => e = .returned (.bool true) ∧ Below w.heap.size w w' := by
  by_cases h1 : i1 < 0
  · clear h
    (go_enter Try.func5, Try.ntmps5; go_wp2_with (first
      | (go_at_call 7; refine (of_five _).mono ?_; rintro e w1 ⟨⟨q1, rfl, hL1⟩, hb1⟩)
      | (go_at_call 11; refine (len_any _ _ _ hL1 (by decide)).mono ?_; rintro e w2 ⟨rfl, hb2⟩)); go_ret; exact ⟨rfl, st hb1 hb2⟩)
  by_cases h2 : (l0.length : Int) ≤ i1
  · clear h
    (go_enter Try.func5, Try.ntmps5; go_wp2_with (first
      | (go_at_call 7; refine (of_five _).mono ?_; rintro e w1 ⟨⟨q1, rfl, hL1⟩, hb1⟩)
      | (go_at_call 11; refine (len_any _ _ _ hL1 (by decide)).mono ?_; rintro e w2 ⟨rfl, hb2⟩)); go_ret; exact ⟨rfl, st hb1 hb2⟩)
  by_cases h3 : i3 < 0
  · clear h
    (go_enter Try.func5, Try.ntmps5; go_wp2_with (first
      | (go_at_call 7; refine (of_five _).mono ?_; rintro e w1 ⟨⟨q1, rfl, hL1⟩, hb1⟩)
      | (go_at_call 11; refine (len_any _ _ _ hL1 (by decide)).mono ?_; rintro e w2 ⟨rfl, hb2⟩)); go_ret; exact ⟨rfl, st hb1 hb2⟩)
  by_cases h4 : (l0.length : Int) ≤ i3
  · clear h
    (go_enter Try.func5, Try.ntmps5; go_wp2_with (first
      | (go_at_call 7; refine (of_five _).mono ?_; rintro e w1 ⟨⟨q1, rfl, hL1⟩, hb1⟩)
      | (go_at_call 11; refine (len_any _ _ _ hL1 (by decide)).mono ?_; rintro e w2 ⟨rfl, hb2⟩)); go_ret; exact ⟨rfl, st hb1 hb2⟩)
  by_cases h5 : i5 < 0
  · clear h
    (go_enter Try.func5, Try.ntmps5; go_wp2_with (first
      | (go_at_call 7; refine (of_five _).mono ?_; rintro e w1 ⟨⟨q1, rfl, hL1⟩, hb1⟩)
      | (go_at_call 11; refine (len_any _ _ _ hL1 (by decide)).mono ?_; rintro e w2 ⟨rfl, hb2⟩)); go_ret; exact ⟨rfl, st hb1 hb2⟩)
  by_cases h6 : (l0.length : Int) ≤ i5
  · clear h
    (go_enter Try.func5, Try.ntmps5; go_wp2_with (first
      | (go_at_call 7; refine (of_five _).mono ?_; rintro e w1 ⟨⟨q1, rfl, hL1⟩, hb1⟩)
      | (go_at_call 11; refine (len_any _ _ _ hL1 (by decide)).mono ?_; rintro e w2 ⟨rfl, hb2⟩)); go_ret; exact ⟨rfl, st hb1 hb2⟩)
  · omega

theorem getD_set2 {l : List Int} {k : Nat} (i j : Nat) (x y : Int) (hk : k < l.length) : ((l.set i x).set j y).getD k 0 = if k = j then y else if k = i then x else l.getD k 0 := by
  by_cases h1 : k = j
  · subst h1
    simp [List.getD, hk]
  · rw [if_neg h1]
    by_cases h2 : k = i
    · subst h2
      rw [List.getD_eq_getElem?_getD, List.getElem?_set_ne (Ne.symm h1), List.getElem?_set_self hk]
      simp
    · rw [if_neg h2]
      rw [List.getD_eq_getElem?_getD, List.getElem?_set_ne (Ne.symm h1), List.getElem?_set_ne (Ne.symm h2), List.getD_eq_getElem?_getD]

set_option maxHeartbeats 8000000 in
theorem walk_in (a0 : Option Addr) (c0 : Nat) (l0 : List Int) (i j k : Nat) (x y : Int) (w : World) (hI : hp.IsInts w w.heap.size (.slice a0 l0.length c0) l0) (hbd : l0.length < 4611686018427387904) (hx : (Lit.int .i64 x).wf = true) (hy : (Lit.int .i64 y).wf = true)
    (hi : i < l0.length) (hj : j < l0.length) (hk : k < l0.length) :
    Calls Try.prog 5 #[.slice a0 l0.length c0, .int .i64 i, .int .i64 x, .int .i64 j, .int .i64 y, .int .i64 k] w fun e w' => e = .returned (.bool true) ∧ Below w.heap.size w w' := by
  have H1 : ∀ W, Below w.heap.size w W → Calls Try.prog 7 #[.slice a0 l0.length c0] W fun e w' => (∃ q, e = .returned (rv q) ∧ IsRal w' w'.heap.size (rv q) l0) ∧ Below W.heap.size W w' := fun W hW => of_any _ l0 _ ((hI.below hW).mono hW.size) hbd
  have H4 := H1
  have H2 : ∀ W u, IsRal W W.heap.size u l0 → Calls Try.prog 13 #[u, .int .i64 i, .int .i64 x] W fun e w' => (∃ q, e = .returned (.tuple #[rv q, .bool true]) ∧ IsRal w' w'.heap.size (rv q) (l0.set i x)) ∧ Below W.heap.size W w' := fun W u hu => set_in hu hi hx hbd
  have H3 : ∀ W u, IsRal W W.heap.size u (l0.set i x) → Calls Try.prog 13 #[u, .int .i64 j, .int .i64 y] W fun e w' => (∃ q, e = .returned (.tuple #[rv q, .bool true]) ∧ IsRal w' w'.heap.size (rv q) ((l0.set i x).set j y)) ∧ Below W.heap.size W w' := fun W u hu => set_in hu (by simpa using hj) hy (by simpa using hbd)
  have H5 : ∀ W u, IsRal W W.heap.size u l0 → Calls Try.prog 13 #[u, .int .i64 j, .int .i64 y] W fun e w' => (∃ q, e = .returned (.tuple #[rv q, .bool true]) ∧ IsRal w' w'.heap.size (rv q) (l0.set j y)) ∧ Below W.heap.size W w' := fun W u hu => set_in hu hj hy hbd
  have H6 : ∀ W u, IsRal W W.heap.size u (l0.set j y) → Calls Try.prog 13 #[u, .int .i64 i, .int .i64 x] W fun e w' => (∃ q, e = .returned (.tuple #[rv q, .bool true]) ∧ IsRal w' w'.heap.size (rv q) ((l0.set j y).set i x)) ∧ Below W.heap.size W w' := fun W u hu => set_in hu (by simpa using hi) hx (by simpa using hbd)
  have H7 : ∀ W u, IsRal W W.heap.size u ((l0.set i x).set j y) → Calls Try.prog 12 #[u, .int .i64 k] W fun e w' => e = .returned (.tuple #[.int .i64 (if k = j then y else if k = i then x else l0.getD k 0), .bool true]) ∧ Below W.heap.size W w' := fun W u hu => at_in hu (by simpa using hk) (by simpa using hbd) (getD_set2 _ _ _ _ hk)
  have H8 : ∀ W u, IsRal W W.heap.size u ((l0.set j y).set i x) → Calls Try.prog 12 #[u, .int .i64 k] W fun e w' => e = .returned (.tuple #[.int .i64 (if k = i then x else if k = j then y else l0.getD k 0), .bool true]) ∧ Below W.heap.size W w' := fun W u hu => at_in hu (by simpa using hk) (by simpa using hbd) (getD_set2 _ _ _ _ hk)
  obtain ⟨b0, o0, rfl, hb0, hd0⟩ := hI.at (by omega)
  have H9 : ∀ W, Below w.heap.size w W → W.cell? ⟨b0, o0 + k, none⟩ = some (.int .i64 (l0.getD k 0)) := fun W hW => (hW.cell (p := ⟨b0, o0 + k, none⟩) hb0).trans (hd0 k hk)
  have hK := Below.refl w.heap.size w
  clear hd0 hI hx hy
  obtain ⟨z, hz⟩ : ∃ z, l0.getD k 0 = z := ⟨_, rfl⟩
  rw [hz] at H7 H8 H9
  clear hz
  by_cases hkj : k = j
  · subst hkj
    by_cases hki : k = i
    · subst hki
      simp only [if_true] at H7 H8
      (go_enter Try.func5, Try.ntmps5; go_wp2_with (first
      | (go_at_call 7; refine (H1 _ hK).mono ?_; rintro e w1 ⟨⟨q1, rfl, hL1⟩, hb1⟩; replace hK := ral.st hK hb1; clear H1 hb1)
      | (go_at_call 13; refine (H2 _ _ hL1).mono ?_; clear H2 hL1; rintro e w2 ⟨⟨q2, rfl, hL2⟩, hb2⟩; replace hK := ral.st (ral.st hK hb2) ((Below.refl _ _).alloc (Nat.le_refl _) (.cells #[.pointer q2] 25)); replace hL2 := hL2.on ((Below.refl _ _).alloc (Nat.le_refl _) (.cells #[.pointer q2] 25)); clear hb2)
      | (go_at_call 13; refine (H3 _ _ hL2).mono ?_; clear H3 hL2; rintro e w3 ⟨⟨q3, rfl, hL3⟩, hb3⟩; have hB3 := hp.Blk.new w3 [.pointer q3] 25; replace hK := ral.st (ral.st hK hb3) ((Below.refl _ _).alloc (Nat.le_refl _) (.cells #[.pointer q3] 25)); replace hL3 := hL3.on ((Below.refl _ _).alloc (Nat.le_refl _) (.cells #[.pointer q3] 25)); clear hb3)
      | (go_at_call 7; refine (H4 _ hK).mono ?_; clear H4; rintro e w4 ⟨⟨q4, rfl, hL4⟩, hb4⟩; replace hK := ral.st hK hb4; replace hL3 := hL3.on hb4; replace hB3 := hB3.on hb4; clear hb4)
      | (go_at_call 13; refine (H5 _ _ hL4).mono ?_; clear H5 hL4; rintro e w5 ⟨⟨q5, rfl, hL5⟩, hb5⟩; replace hK := ral.st (ral.st hK hb5) ((Below.refl _ _).alloc (Nat.le_refl _) (.cells #[.pointer q5] 25)); replace hL5 := hL5.on ((Below.refl _ _).alloc (Nat.le_refl _) (.cells #[.pointer q5] 25)); replace hL3 := (hL3.on hb5).on ((Below.refl _ _).alloc (Nat.le_refl _) (.cells #[.pointer q5] 25)); replace hB3 := (hB3.on hb5).on ((Below.refl _ _).alloc (Nat.le_refl _) (.cells #[.pointer q5] 25)); clear hb5)
      | (go_at_call 13; refine (H6 _ _ hL5).mono ?_; clear H6 hL5; rintro e w6 ⟨⟨q6, rfl, hL6⟩, hb6⟩; have hB6 := hp.Blk.new w6 [.pointer q6] 25; replace hK := ral.st (ral.st hK hb6) ((Below.refl _ _).alloc (Nat.le_refl _) (.cells #[.pointer q6] 25)); replace hL6 := hL6.on ((Below.refl _ _).alloc (Nat.le_refl _) (.cells #[.pointer q6] 25)); replace hB3 := hB3.on hb6; have c3 := hB3.cell 0; have l3 := hB3.lt; simp only [List.getElem?_cons_zero] at c3; replace hL3 := (hL3.on hb6).on ((Below.refl _ _).alloc (Nat.le_refl _) (.cells #[.pointer q6] 25)); clear hb6 hB3)
      | (go_at_call 12; refine (H7 _ _ hL3).mono ?_; clear H7 hL3 c3 l3; rintro e w7 ⟨rfl, hb7⟩; replace hK := ral.st hK hb7; replace hL6 := hL6.on hb7; replace hB6 := hB6.on hb7; have c6 := hB6.cell 0; simp only [List.getElem?_cons_zero] at c6; clear hb7)
      | (go_at_call 12; refine (H8 _ _ hL6).mono ?_; clear H8 hL6 c6 hB6; rintro e w8 ⟨rfl, hb8⟩; replace hK := ral.st hK hb8; clear hb8; have cz := H9 _ hK)))
      go_ret
      exact ⟨rfl, hK⟩
    · have e1 : ((k : Int) == (i : Int)) = false := beq_false_of_ne (by omega)
      have e2 : ((i : Int) == (k : Int)) = false := beq_false_of_ne (by omega)
      simp only [if_true, if_neg hki] at H7 H8
      clear hki
      (go_enter Try.func5, Try.ntmps5; go_wp2_with (first
      | (go_at_call 7; refine (H1 _ hK).mono ?_; rintro e w1 ⟨⟨q1, rfl, hL1⟩, hb1⟩; replace hK := ral.st hK hb1; clear H1 hb1)
      | (go_at_call 13; refine (H2 _ _ hL1).mono ?_; clear H2 hL1; rintro e w2 ⟨⟨q2, rfl, hL2⟩, hb2⟩; replace hK := ral.st (ral.st hK hb2) ((Below.refl _ _).alloc (Nat.le_refl _) (.cells #[.pointer q2] 25)); replace hL2 := hL2.on ((Below.refl _ _).alloc (Nat.le_refl _) (.cells #[.pointer q2] 25)); clear hb2)
      | (go_at_call 13; refine (H3 _ _ hL2).mono ?_; clear H3 hL2; rintro e w3 ⟨⟨q3, rfl, hL3⟩, hb3⟩; have hB3 := hp.Blk.new w3 [.pointer q3] 25; replace hK := ral.st (ral.st hK hb3) ((Below.refl _ _).alloc (Nat.le_refl _) (.cells #[.pointer q3] 25)); replace hL3 := hL3.on ((Below.refl _ _).alloc (Nat.le_refl _) (.cells #[.pointer q3] 25)); clear hb3)
      | (go_at_call 7; refine (H4 _ hK).mono ?_; clear H4; rintro e w4 ⟨⟨q4, rfl, hL4⟩, hb4⟩; replace hK := ral.st hK hb4; replace hL3 := hL3.on hb4; replace hB3 := hB3.on hb4; clear hb4)
      | (go_at_call 13; refine (H5 _ _ hL4).mono ?_; clear H5 hL4; rintro e w5 ⟨⟨q5, rfl, hL5⟩, hb5⟩; replace hK := ral.st (ral.st hK hb5) ((Below.refl _ _).alloc (Nat.le_refl _) (.cells #[.pointer q5] 25)); replace hL5 := hL5.on ((Below.refl _ _).alloc (Nat.le_refl _) (.cells #[.pointer q5] 25)); replace hL3 := (hL3.on hb5).on ((Below.refl _ _).alloc (Nat.le_refl _) (.cells #[.pointer q5] 25)); replace hB3 := (hB3.on hb5).on ((Below.refl _ _).alloc (Nat.le_refl _) (.cells #[.pointer q5] 25)); clear hb5)
      | (go_at_call 13; refine (H6 _ _ hL5).mono ?_; clear H6 hL5; rintro e w6 ⟨⟨q6, rfl, hL6⟩, hb6⟩; have hB6 := hp.Blk.new w6 [.pointer q6] 25; replace hK := ral.st (ral.st hK hb6) ((Below.refl _ _).alloc (Nat.le_refl _) (.cells #[.pointer q6] 25)); replace hL6 := hL6.on ((Below.refl _ _).alloc (Nat.le_refl _) (.cells #[.pointer q6] 25)); replace hB3 := hB3.on hb6; have c3 := hB3.cell 0; have l3 := hB3.lt; simp only [List.getElem?_cons_zero] at c3; replace hL3 := (hL3.on hb6).on ((Below.refl _ _).alloc (Nat.le_refl _) (.cells #[.pointer q6] 25)); clear hb6 hB3)
      | (go_at_call 12; refine (H7 _ _ hL3).mono ?_; clear H7 hL3 c3 l3; rintro e w7 ⟨rfl, hb7⟩; replace hK := ral.st hK hb7; replace hL6 := hL6.on hb7; replace hB6 := hB6.on hb7; have c6 := hB6.cell 0; simp only [List.getElem?_cons_zero] at c6; clear hb7)
      | (go_at_call 12; refine (H8 _ _ hL6).mono ?_; clear H8 hL6 c6 hB6; rintro e w8 ⟨rfl, hb8⟩; replace hK := ral.st hK hb8; clear hb8; have cz := H9 _ hK)))
      go_ret
      exact ⟨rfl, hK⟩
  · have d1 : ((k : Int) == (j : Int)) = false := beq_false_of_ne (by omega)
    by_cases hki : k = i
    · subst hki
      simp only [if_true, if_neg hkj] at H7 H8
      clear hkj
      (go_enter Try.func5, Try.ntmps5; go_wp2_with (first
      | (go_at_call 7; refine (H1 _ hK).mono ?_; rintro e w1 ⟨⟨q1, rfl, hL1⟩, hb1⟩; replace hK := ral.st hK hb1; clear H1 hb1)
      | (go_at_call 13; refine (H2 _ _ hL1).mono ?_; clear H2 hL1; rintro e w2 ⟨⟨q2, rfl, hL2⟩, hb2⟩; replace hK := ral.st (ral.st hK hb2) ((Below.refl _ _).alloc (Nat.le_refl _) (.cells #[.pointer q2] 25)); replace hL2 := hL2.on ((Below.refl _ _).alloc (Nat.le_refl _) (.cells #[.pointer q2] 25)); clear hb2)
      | (go_at_call 13; refine (H3 _ _ hL2).mono ?_; clear H3 hL2; rintro e w3 ⟨⟨q3, rfl, hL3⟩, hb3⟩; have hB3 := hp.Blk.new w3 [.pointer q3] 25; replace hK := ral.st (ral.st hK hb3) ((Below.refl _ _).alloc (Nat.le_refl _) (.cells #[.pointer q3] 25)); replace hL3 := hL3.on ((Below.refl _ _).alloc (Nat.le_refl _) (.cells #[.pointer q3] 25)); clear hb3)
      | (go_at_call 7; refine (H4 _ hK).mono ?_; clear H4; rintro e w4 ⟨⟨q4, rfl, hL4⟩, hb4⟩; replace hK := ral.st hK hb4; replace hL3 := hL3.on hb4; replace hB3 := hB3.on hb4; clear hb4)
      | (go_at_call 13; refine (H5 _ _ hL4).mono ?_; clear H5 hL4; rintro e w5 ⟨⟨q5, rfl, hL5⟩, hb5⟩; replace hK := ral.st (ral.st hK hb5) ((Below.refl _ _).alloc (Nat.le_refl _) (.cells #[.pointer q5] 25)); replace hL5 := hL5.on ((Below.refl _ _).alloc (Nat.le_refl _) (.cells #[.pointer q5] 25)); replace hL3 := (hL3.on hb5).on ((Below.refl _ _).alloc (Nat.le_refl _) (.cells #[.pointer q5] 25)); replace hB3 := (hB3.on hb5).on ((Below.refl _ _).alloc (Nat.le_refl _) (.cells #[.pointer q5] 25)); clear hb5)
      | (go_at_call 13; refine (H6 _ _ hL5).mono ?_; clear H6 hL5; rintro e w6 ⟨⟨q6, rfl, hL6⟩, hb6⟩; have hB6 := hp.Blk.new w6 [.pointer q6] 25; replace hK := ral.st (ral.st hK hb6) ((Below.refl _ _).alloc (Nat.le_refl _) (.cells #[.pointer q6] 25)); replace hL6 := hL6.on ((Below.refl _ _).alloc (Nat.le_refl _) (.cells #[.pointer q6] 25)); replace hB3 := hB3.on hb6; have c3 := hB3.cell 0; have l3 := hB3.lt; simp only [List.getElem?_cons_zero] at c3; replace hL3 := (hL3.on hb6).on ((Below.refl _ _).alloc (Nat.le_refl _) (.cells #[.pointer q6] 25)); clear hb6 hB3)
      | (go_at_call 12; refine (H7 _ _ hL3).mono ?_; clear H7 hL3 c3 l3; rintro e w7 ⟨rfl, hb7⟩; replace hK := ral.st hK hb7; replace hL6 := hL6.on hb7; replace hB6 := hB6.on hb7; have c6 := hB6.cell 0; simp only [List.getElem?_cons_zero] at c6; clear hb7)
      | (go_at_call 12; refine (H8 _ _ hL6).mono ?_; clear H8 hL6 c6 hB6; rintro e w8 ⟨rfl, hb8⟩; replace hK := ral.st hK hb8; clear hb8; have cz := H9 _ hK)))
      go_ret
      exact ⟨rfl, hK⟩
    · have e1 : ((k : Int) == (i : Int)) = false := beq_false_of_ne (by omega)
      simp only [if_neg hkj, if_neg hki] at H7 H8
      clear hkj hki
      by_cases hij : i = j
      · subst hij
        (go_enter Try.func5, Try.ntmps5; go_wp2_with (first
      | (go_at_call 7; refine (H1 _ hK).mono ?_; rintro e w1 ⟨⟨q1, rfl, hL1⟩, hb1⟩; replace hK := ral.st hK hb1; clear H1 hb1)
      | (go_at_call 13; refine (H2 _ _ hL1).mono ?_; clear H2 hL1; rintro e w2 ⟨⟨q2, rfl, hL2⟩, hb2⟩; replace hK := ral.st (ral.st hK hb2) ((Below.refl _ _).alloc (Nat.le_refl _) (.cells #[.pointer q2] 25)); replace hL2 := hL2.on ((Below.refl _ _).alloc (Nat.le_refl _) (.cells #[.pointer q2] 25)); clear hb2)
      | (go_at_call 13; refine (H3 _ _ hL2).mono ?_; clear H3 hL2; rintro e w3 ⟨⟨q3, rfl, hL3⟩, hb3⟩; have hB3 := hp.Blk.new w3 [.pointer q3] 25; replace hK := ral.st (ral.st hK hb3) ((Below.refl _ _).alloc (Nat.le_refl _) (.cells #[.pointer q3] 25)); replace hL3 := hL3.on ((Below.refl _ _).alloc (Nat.le_refl _) (.cells #[.pointer q3] 25)); clear hb3)
      | (go_at_call 7; refine (H4 _ hK).mono ?_; clear H4; rintro e w4 ⟨⟨q4, rfl, hL4⟩, hb4⟩; replace hK := ral.st hK hb4; replace hL3 := hL3.on hb4; replace hB3 := hB3.on hb4; clear hb4)
      | (go_at_call 13; refine (H5 _ _ hL4).mono ?_; clear H5 hL4; rintro e w5 ⟨⟨q5, rfl, hL5⟩, hb5⟩; replace hK := ral.st (ral.st hK hb5) ((Below.refl _ _).alloc (Nat.le_refl _) (.cells #[.pointer q5] 25)); replace hL5 := hL5.on ((Below.refl _ _).alloc (Nat.le_refl _) (.cells #[.pointer q5] 25)); replace hL3 := (hL3.on hb5).on ((Below.refl _ _).alloc (Nat.le_refl _) (.cells #[.pointer q5] 25)); replace hB3 := (hB3.on hb5).on ((Below.refl _ _).alloc (Nat.le_refl _) (.cells #[.pointer q5] 25)); clear hb5)
      | (go_at_call 13; refine (H6 _ _ hL5).mono ?_; clear H6 hL5; rintro e w6 ⟨⟨q6, rfl, hL6⟩, hb6⟩; have hB6 := hp.Blk.new w6 [.pointer q6] 25; replace hK := ral.st (ral.st hK hb6) ((Below.refl _ _).alloc (Nat.le_refl _) (.cells #[.pointer q6] 25)); replace hL6 := hL6.on ((Below.refl _ _).alloc (Nat.le_refl _) (.cells #[.pointer q6] 25)); replace hB3 := hB3.on hb6; have c3 := hB3.cell 0; have l3 := hB3.lt; simp only [List.getElem?_cons_zero] at c3; replace hL3 := (hL3.on hb6).on ((Below.refl _ _).alloc (Nat.le_refl _) (.cells #[.pointer q6] 25)); clear hb6 hB3)
      | (go_at_call 12; refine (H7 _ _ hL3).mono ?_; clear H7 hL3 c3 l3; rintro e w7 ⟨rfl, hb7⟩; replace hK := ral.st hK hb7; replace hL6 := hL6.on hb7; replace hB6 := hB6.on hb7; have c6 := hB6.cell 0; simp only [List.getElem?_cons_zero] at c6; clear hb7)
      | (go_at_call 12; refine (H8 _ _ hL6).mono ?_; clear H8 hL6 c6 hB6; rintro e w8 ⟨rfl, hb8⟩; replace hK := ral.st hK hb8; clear hb8; have cz := H9 _ hK)))
        go_ret
        exact ⟨rfl, hK⟩
      · have e2 : ((i : Int) == (j : Int)) = false := beq_false_of_ne (by omega)
        clear hij
        (go_enter Try.func5, Try.ntmps5; go_wp2_with (first
      | (go_at_call 7; refine (H1 _ hK).mono ?_; rintro e w1 ⟨⟨q1, rfl, hL1⟩, hb1⟩; replace hK := ral.st hK hb1; clear H1 hb1)
      | (go_at_call 13; refine (H2 _ _ hL1).mono ?_; clear H2 hL1; rintro e w2 ⟨⟨q2, rfl, hL2⟩, hb2⟩; replace hK := ral.st (ral.st hK hb2) ((Below.refl _ _).alloc (Nat.le_refl _) (.cells #[.pointer q2] 25)); replace hL2 := hL2.on ((Below.refl _ _).alloc (Nat.le_refl _) (.cells #[.pointer q2] 25)); clear hb2)
      | (go_at_call 13; refine (H3 _ _ hL2).mono ?_; clear H3 hL2; rintro e w3 ⟨⟨q3, rfl, hL3⟩, hb3⟩; have hB3 := hp.Blk.new w3 [.pointer q3] 25; replace hK := ral.st (ral.st hK hb3) ((Below.refl _ _).alloc (Nat.le_refl _) (.cells #[.pointer q3] 25)); replace hL3 := hL3.on ((Below.refl _ _).alloc (Nat.le_refl _) (.cells #[.pointer q3] 25)); clear hb3)
      | (go_at_call 7; refine (H4 _ hK).mono ?_; clear H4; rintro e w4 ⟨⟨q4, rfl, hL4⟩, hb4⟩; replace hK := ral.st hK hb4; replace hL3 := hL3.on hb4; replace hB3 := hB3.on hb4; clear hb4)
      | (go_at_call 13; refine (H5 _ _ hL4).mono ?_; clear H5 hL4; rintro e w5 ⟨⟨q5, rfl, hL5⟩, hb5⟩; replace hK := ral.st (ral.st hK hb5) ((Below.refl _ _).alloc (Nat.le_refl _) (.cells #[.pointer q5] 25)); replace hL5 := hL5.on ((Below.refl _ _).alloc (Nat.le_refl _) (.cells #[.pointer q5] 25)); replace hL3 := (hL3.on hb5).on ((Below.refl _ _).alloc (Nat.le_refl _) (.cells #[.pointer q5] 25)); replace hB3 := (hB3.on hb5).on ((Below.refl _ _).alloc (Nat.le_refl _) (.cells #[.pointer q5] 25)); clear hb5)
      | (go_at_call 13; refine (H6 _ _ hL5).mono ?_; clear H6 hL5; rintro e w6 ⟨⟨q6, rfl, hL6⟩, hb6⟩; have hB6 := hp.Blk.new w6 [.pointer q6] 25; replace hK := ral.st (ral.st hK hb6) ((Below.refl _ _).alloc (Nat.le_refl _) (.cells #[.pointer q6] 25)); replace hL6 := hL6.on ((Below.refl _ _).alloc (Nat.le_refl _) (.cells #[.pointer q6] 25)); replace hB3 := hB3.on hb6; have c3 := hB3.cell 0; have l3 := hB3.lt; simp only [List.getElem?_cons_zero] at c3; replace hL3 := (hL3.on hb6).on ((Below.refl _ _).alloc (Nat.le_refl _) (.cells #[.pointer q6] 25)); clear hb6 hB3)
      | (go_at_call 12; refine (H7 _ _ hL3).mono ?_; clear H7 hL3 c3 l3; rintro e w7 ⟨rfl, hb7⟩; replace hK := ral.st hK hb7; replace hL6 := hL6.on hb7; replace hB6 := hB6.on hb7; have c6 := hB6.cell 0; simp only [List.getElem?_cons_zero] at c6; clear hb7)
      | (go_at_call 12; refine (H8 _ _ hL6).mono ?_; clear H8 hL6 c6 hB6; rintro e w8 ⟨rfl, hb8⟩; replace hK := ral.st hK hb8; clear hb8; have cz := H9 _ hK)))
        go_ret
        exact ⟨rfl, hK⟩

theorem walk (v0 : Value) (l0 : List Int) (a1 a2 a3 a4 a5 : Int) (w : World) (i0 : hp.IsInts w w.heap.size v0 l0) (w1 : (Lit.int .i64 a1).wf = true) (w2 : (Lit.int .i64 a2).wf = true) (w3 : (Lit.int .i64 a3).wf = true) (w4 : (Lit.int .i64 a4).wf = true) (w5 : (Lit.int .i64 a5).wf = true) (bd0 : l0.length ≤ 17592186043904) :
    Calls Try.prog 5 #[v0, .int .i64 a1, .int .i64 a2, .int .i64 a3, .int .i64 a4, .int .i64 a5] w fun e w' => e = .returned (.bool true) ∧ Below w.heap.size w w' := by
  have i0' := i0
  obtain ⟨a0, c0, rfl, -, -⟩ := i0'
  by_cases h : (((a1 < 0 ∨ (l0.length : Int) ≤ a1) ∨ a3 < 0 ∨ (l0.length : Int) ≤ a3) ∨ a5 < 0 ∨ (l0.length : Int) ≤ a5)
  · exact walk_out a0 c0 l0 a1 a2 a3 a4 a5 w (by omega) h
  · obtain ⟨i, rfl⟩ : ∃ i : Nat, a1 = i := ⟨a1.toNat, by omega⟩
    obtain ⟨j, rfl⟩ : ∃ j : Nat, a3 = j := ⟨a3.toNat, by omega⟩
    obtain ⟨k, rfl⟩ : ∃ k : Nat, a5 = k := ⟨a5.toNat, by omega⟩
    exact walk_in a0 c0 l0 i j k a2 a4 w i0 (by omega) w2 w4 (by omega) (by omega) (by omega)
end Go.Proofs.Ythnfcmjlpimnoaa.ralSets
