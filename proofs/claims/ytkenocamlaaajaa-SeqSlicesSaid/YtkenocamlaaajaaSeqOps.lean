/- Package seq: At, Set, Insert, Delete. -/
import Derived.Test.YtkenocamlaaajaaSeqAt
namespace Go.Proofs.Ytkenocamlaaajaa.fin
open Go Go.RowKit Go.Proofs.Ytkenocamlaaajaa.mono

set_option maxRecDepth 100000 in
set_option maxHeartbeats 4000000 in
/-- At, by what around gives -/
theorem at_of {u : Value} {L : List Int} {i y : Int} {c : Bool} {w : World} (h : IsT w u L) (H : ∀ W u, IsT W u L → Calls Try.prog 38 #[u, .int .i64 i] W fun e w' => (∃ a b, e = .returned (.tuple #[.agg #[.pointer a], .int .i64 y, .agg #[.pointer b], .bool c])) ∧ Below W.heap.size W w') :
    Calls Try.prog 11 #[u, .int .i64 i] w fun e w' => e = .returned (.tuple #[.int .i64 y, .bool c]) ∧ Below w.heap.size w w' := by
  obtain ⟨p, rfl, h⟩ := h
  obtain ⟨W, hW⟩ : ∃ W, w.alloc (.cells #[.pointer p] 30) = W := ⟨_, rfl⟩
  have hA : hp.Blk W w.heap.size 30 [.pointer p] := by rw [← hW]; exact hp.Blk.new w [.pointer p] _
  have hb : Below w.heap.size w W := by rw [← hW]; ((repeat' (first | with_reducible exact Below.refl _ _ | with_reducible apply Below.setCell | with_reducible apply below_drewN | with_reducible apply Below.drew | with_reducible apply Below.alloc | with_reducible refine Below.trans ?_ (Below.mono (by assumption) ?_))) <;> (first | (simp; done) | (simp; omega) | omega))
  have la := hA.lt
  have a0 := hA.cell 0
  simp only [List.getElem?_cons_zero] at a0
  replace H := H W _ (IsT.mk (h.on hb))
  clear h hA
  go_enter Try.func11, Try.ntmps11
  go_wp2_with (go_at_call 38; (with_reducible refine H.mono ?_); clear H; rintro e w1 ⟨⟨a, b, rfl⟩, K1⟩)
  go_ret2
  exact ⟨rfl, ((hb.trans (K1.mono hb.size)).alloc (by have := K1.size; have := hb.size; omega) _).alloc (by have := K1.size; have := hb.size; simp; omega) _⟩

theorem around_out {u : Value} {L : List Int} {w : World} (i : Int) (h : IsT w u L) (hi : i < 0 ∨ (L.length : Int) ≤ i) :
    Calls Try.prog 38 #[u, .int .i64 i] w fun e w' => (∃ a b, e = .returned (.tuple #[.agg #[.pointer a], .int .i64 0, .agg #[.pointer b], .bool false]) ∧ IsT w' (.agg #[.pointer a]) [] ∧ IsT w' (.agg #[.pointer b]) []) ∧ Below w.heap.size w w' :=
  (around_no i h hi).mono fun _ _ ⟨he, hb⟩ => ⟨⟨none, none, he, IsT.nil _, IsT.nil _⟩, hb⟩
/-- a place that a list has -/
theorem split_at {L : List Int} {k : Nat} (hk : k < L.length) : L.take k ++ L.getD k 0 :: L.drop (k + 1) = L ∧ (L.take k).length = k := by
  refine ⟨?_, by simp; omega⟩
  have e : L.getD k 0 = L[k] := by simp [List.getD, hk]
  rw [e, ← List.drop_eq_getElem_cons hk, List.take_append_drop]
theorem at_yes {u : Value} {L : List Int} {k : Nat} {w : World} (h : IsT w u L) (hk : k < L.length) (hbd : L.length ≤ 4611686018427387904) :
    Calls Try.prog 11 #[u, .int .i64 k] w fun e w' => e = .returned (.tuple #[.int .i64 (L.getD k 0), .bool true]) ∧ Below w.heap.size w w' :=
  at_of h fun _ _ hu => (around_yes hu (split_at hk).1 (split_at hk).2 hbd).mono fun _ _ ⟨⟨a, b, he, _, _⟩, hb⟩ => ⟨⟨a, b, he⟩, hb⟩
theorem at_no {u : Value} {L : List Int} {i : Int} {w : World} (h : IsT w u L) (hi : i < 0 ∨ (L.length : Int) ≤ i) :
    Calls Try.prog 11 #[u, .int .i64 i] w fun e w' => e = .returned (.tuple #[.int .i64 0, .bool false]) ∧ Below w.heap.size w w' :=
  at_of h fun _ _ hu => (around_no i hu hi).mono fun _ _ ⟨he, hb⟩ => ⟨⟨none, none, he⟩, hb⟩

set_option maxRecDepth 100000 in
set_option maxHeartbeats 4000000 in
theorem set_yes {u : Value} {L X Y R : List Int} {x y : Int} {k : Nat} {w : World} (h : IsT w u L) (hL : X ++ y :: Y = L) (hk : X.length = k) (hR : X ++ x :: Y = R) (hx : (Lit.int .i64 x).wf = true) (hbd : L.length ≤ 4611686018427387904) :
    Calls Try.prog 12 #[u, .int .i64 k, .int .i64 x] w fun e w' => (∃ q, e = .returned (.tuple #[.agg #[.pointer q], .bool true]) ∧ IsT w' (.agg #[.pointer q]) R) ∧ Below w.heap.size w w' := by
  obtain ⟨p, rfl, h⟩ := h
  obtain ⟨W, hW⟩ : ∃ W, (w.alloc (.cells #[.pointer p] 30)).alloc (.cells #[.pointer none] 30) = W := ⟨_, rfl⟩
  have hA : hp.Blk W w.heap.size 30 [.pointer p] := by rw [← hW]; exact (hp.Blk.new w [.pointer p] _).alloc _
  have hR0 : hp.Blk W (w.heap.size + 1) 30 [.pointer none] := by rw [← hW]; exact hp.Blk.newAt (by simp)
  have hb : Below w.heap.size w W := by rw [← hW]; ((repeat' (first | with_reducible exact Below.refl _ _ | with_reducible apply Below.setCell | with_reducible apply below_drewN | with_reducible apply Below.drew | with_reducible apply Below.alloc | with_reducible refine Below.trans ?_ (Below.mono (by assumption) ?_))) <;> (first | (simp; done) | (simp; omega) | omega))
  have la := hA.lt
  have a0 := hA.cell 0
  simp only [List.getElem?_cons_zero] at a0
  have H1 := around_yes (IsT.mk (h.on hb)) hL hk hbd
  have hn : R.length ≤ 4611686018427387904 := by have := congrArg List.length hL; have := congrArg List.length hR; simp only [List.length_append, List.length_cons] at *; omega
  have H2 := fun V u v (hu : IsT V u X) (hv : IsT V v Y) => between_any hu hv hx hR hn
  clear h hL hk hR hbd hA hn hx
  go_enter Try.func12, Try.ntmps12
  go_wp2_with (first
    | (go_at_call 38; (with_reducible refine H1.mono ?_); clear H1; rintro e w1 ⟨⟨a, b, rfl, h1, h2⟩, K1⟩; ((obtain ⟨V, hV⟩ : ∃ V, (w1.alloc (.cells #[.pointer a] 28)).alloc (.cells #[.pointer b] 28) = V := ⟨_, rfl⟩); have hbV : Below w1.heap.size w1 V := (by rw [← hV]; exact ((Below.refl _ _).alloc (Nat.le_refl _) _).alloc (by simp) _); have hx1 : hp.Blk V w1.heap.size 28 [.pointer a] := (by rw [← hV]; exact (hp.Blk.new w1 [.pointer a] _).alloc _); have hx2 : hp.Blk V (w1.heap.size + 1) 28 [.pointer b] := (by rw [← hV]; exact hp.Blk.newAt (by simp)); have p1 := hx1.cell 0; have p2 := hx2.cell 0; have lx1 := hx1.lt; have lx2 := hx2.lt; simp only [List.getElem?_cons_zero] at p1 p2; replace K1 := K1.trans (hbV.mono K1.size); replace h1 := h1.on hbV; replace h2 := h2.on hbV))
    | (go_at_call 39; (with_reducible refine (H2 _ _ _ h1 h2).mono ?_); clear H2; rintro e w2 ⟨⟨pu, rfl, hu⟩, K2⟩; (have hR9 := (hR0).on (K1.trans (K2.mono K1.size)); have d0 := hR9.cell 0; have df := hR9.free; have f0 := (hR9.set 0 (.pointer pu)).cell 0; simp only [List.getElem?_cons_zero, List.set_cons_zero] at d0 f0)))
  exact bodyPost_ret (v := .tuple #[.agg #[.pointer pu], .bool true]) (by simp [results, Try.results12, go_sem, f0]) rfl ⟨⟨_, rfl, hu.keep (keep_seq hR9 _ _)⟩, ((hb.trans (K1.mono hb.size)).trans (K2.mono (hb.trans (K1.mono hb.size)).size)).setCell (p := ⟨w.heap.size + 1, 0, none⟩) (by simp) _⟩
set_option maxRecDepth 100000 in
set_option maxHeartbeats 4000000 in
theorem set_no {u : Value} {L : List Int} {i x : Int} {w : World} (h : IsT w u L) (hi : i < 0 ∨ (L.length : Int) ≤ i) :
    Calls Try.prog 12 #[u, .int .i64 i, .int .i64 x] w fun e w' => (∃ q, e = .returned (.tuple #[.agg #[.pointer q], .bool false]) ∧ IsT w' (.agg #[.pointer q]) []) ∧ Below w.heap.size w w' := by
  obtain ⟨p, rfl, h⟩ := h
  obtain ⟨W, hW⟩ : ∃ W, (w.alloc (.cells #[.pointer p] 30)).alloc (.cells #[.pointer none] 30) = W := ⟨_, rfl⟩
  have hA : hp.Blk W w.heap.size 30 [.pointer p] := by rw [← hW]; exact (hp.Blk.new w [.pointer p] _).alloc _
  have hR0 : hp.Blk W (w.heap.size + 1) 30 [.pointer none] := by rw [← hW]; exact hp.Blk.newAt (by simp)
  have hb : Below w.heap.size w W := by rw [← hW]; ((repeat' (first | with_reducible exact Below.refl _ _ | with_reducible apply Below.setCell | with_reducible apply below_drewN | with_reducible apply Below.drew | with_reducible apply Below.alloc | with_reducible refine Below.trans ?_ (Below.mono (by assumption) ?_))) <;> (first | (simp; done) | (simp; omega) | omega))
  have la := hA.lt
  have a0 := hA.cell 0
  simp only [List.getElem?_cons_zero] at a0
  have H1 := around_out i (IsT.mk (h.on hb)) hi
  clear h hi hA
  go_enter Try.func12, Try.ntmps12
  go_wp2_with (go_at_call 38; (with_reducible refine H1.mono ?_); clear H1; rintro e w1 ⟨⟨a, b, rfl, h1, h2⟩, K1⟩; ((obtain ⟨V, hV⟩ : ∃ V, (w1.alloc (.cells #[.pointer a] 28)).alloc (.cells #[.pointer b] 28) = V := ⟨_, rfl⟩); have hbV : Below w1.heap.size w1 V := (by rw [← hV]; exact ((Below.refl _ _).alloc (Nat.le_refl _) _).alloc (by simp) _); have hx1 : hp.Blk V w1.heap.size 28 [.pointer a] := (by rw [← hV]; exact (hp.Blk.new w1 [.pointer a] _).alloc _); have hx2 : hp.Blk V (w1.heap.size + 1) 28 [.pointer b] := (by rw [← hV]; exact hp.Blk.newAt (by simp)); have p1 := hx1.cell 0; have p2 := hx2.cell 0; have lx1 := hx1.lt; have lx2 := hx2.lt; simp only [List.getElem?_cons_zero] at p1 p2; replace K1 := K1.trans (hbV.mono K1.size); replace h1 := h1.on hbV; replace h2 := h2.on hbV); (have hR9 := (hR0).on K1; have d0 := hR9.cell 0; have df := hR9.free; have f0 := (hR9.set 0 (.pointer none)).cell 0; simp only [List.getElem?_cons_zero, List.set_cons_zero] at d0 f0))
  exact bodyPost_ret (v := .tuple #[.agg #[.pointer none], .bool false]) (by simp [results, Try.results12, go_sem, f0]) rfl ⟨⟨_, rfl, IsT.nil _⟩, (hb.trans (K1.mono hb.size)).setCell (p := ⟨w.heap.size + 1, 0, none⟩) (by simp) _⟩
set_option maxRecDepth 100000 in
set_option maxHeartbeats 4000000 in
theorem del_yes {u : Value} {L X Y R : List Int} {y : Int} {k : Nat} {w : World} (h : IsT w u L) (hL : X ++ y :: Y = L) (hk : X.length = k) (hR : X ++ Y = R) (hbd : L.length ≤ 4611686018427387904) :
    Calls Try.prog 13 #[u, .int .i64 k] w fun e w' => (∃ q, e = .returned (.tuple #[.agg #[.pointer q], .bool true]) ∧ IsT w' (.agg #[.pointer q]) R) ∧ Below w.heap.size w w' := by
  obtain ⟨p, rfl, h⟩ := h
  obtain ⟨W, hW⟩ : ∃ W, (w.alloc (.cells #[.pointer p] 30)).alloc (.cells #[.pointer none] 30) = W := ⟨_, rfl⟩
  have hA : hp.Blk W w.heap.size 30 [.pointer p] := by rw [← hW]; exact (hp.Blk.new w [.pointer p] _).alloc _
  have hR0 : hp.Blk W (w.heap.size + 1) 30 [.pointer none] := by rw [← hW]; exact hp.Blk.newAt (by simp)
  have hb : Below w.heap.size w W := by rw [← hW]; ((repeat' (first | with_reducible exact Below.refl _ _ | with_reducible apply Below.setCell | with_reducible apply below_drewN | with_reducible apply Below.drew | with_reducible apply Below.alloc | with_reducible refine Below.trans ?_ (Below.mono (by assumption) ?_))) <;> (first | (simp; done) | (simp; omega) | omega))
  have la := hA.lt
  have a0 := hA.cell 0
  simp only [List.getElem?_cons_zero] at a0
  have H1 := around_yes (IsT.mk (h.on hb)) hL hk hbd
  have hn : R.length ≤ 4611686018427387904 := by have := congrArg List.length hL; have := congrArg List.length hR; simp only [List.length_append, List.length_cons] at *; omega
  have H2 := fun V u v (hu : IsT V u X) (hv : IsT V v Y) => join_tree R hu hv hR hn
  clear h hL hk hR hbd hA hn
  go_enter Try.func13, Try.ntmps13
  go_wp2_with (first
    | (go_at_call 38; (with_reducible refine H1.mono ?_); clear H1; rintro e w1 ⟨⟨a, b, rfl, h1, h2⟩, K1⟩; ((obtain ⟨V, hV⟩ : ∃ V, (w1.alloc (.cells #[.pointer a] 28)).alloc (.cells #[.pointer b] 28) = V := ⟨_, rfl⟩); have hbV : Below w1.heap.size w1 V := (by rw [← hV]; exact ((Below.refl _ _).alloc (Nat.le_refl _) _).alloc (by simp) _); have hx1 : hp.Blk V w1.heap.size 28 [.pointer a] := (by rw [← hV]; exact (hp.Blk.new w1 [.pointer a] _).alloc _); have hx2 : hp.Blk V (w1.heap.size + 1) 28 [.pointer b] := (by rw [← hV]; exact hp.Blk.newAt (by simp)); have p1 := hx1.cell 0; have p2 := hx2.cell 0; have lx1 := hx1.lt; have lx2 := hx2.lt; simp only [List.getElem?_cons_zero] at p1 p2; replace K1 := K1.trans (hbV.mono K1.size); replace h1 := h1.on hbV; replace h2 := h2.on hbV))
    | (go_at_call 40; (with_reducible refine (H2 _ _ _ h1 h2).mono ?_); clear H2; rintro e w2 ⟨⟨u, rfl, hu⟩, K2⟩; (obtain ⟨pu, rfl⟩ := hu.val); (have hR9 := (hR0).on (K1.trans (K2.mono K1.size)); have d0 := hR9.cell 0; have df := hR9.free; have f0 := (hR9.set 0 (.pointer pu)).cell 0; simp only [List.getElem?_cons_zero, List.set_cons_zero] at d0 f0)))
  exact bodyPost_ret (v := .tuple #[.agg #[.pointer pu], .bool true]) (by simp [results, Try.results13, go_sem, f0]) rfl ⟨⟨_, rfl, hu.keep (keep_seq hR9 _ _)⟩, ((hb.trans (K1.mono hb.size)).trans (K2.mono (hb.trans (K1.mono hb.size)).size)).setCell (p := ⟨w.heap.size + 1, 0, none⟩) (by simp) _⟩
set_option maxRecDepth 100000 in
set_option maxHeartbeats 4000000 in
theorem del_no {u : Value} {L : List Int} {i : Int} {w : World} (h : IsT w u L) (hi : i < 0 ∨ (L.length : Int) ≤ i) :
    Calls Try.prog 13 #[u, .int .i64 i] w fun e w' => (∃ q, e = .returned (.tuple #[.agg #[.pointer q], .bool false]) ∧ IsT w' (.agg #[.pointer q]) []) ∧ Below w.heap.size w w' := by
  obtain ⟨p, rfl, h⟩ := h
  obtain ⟨W, hW⟩ : ∃ W, (w.alloc (.cells #[.pointer p] 30)).alloc (.cells #[.pointer none] 30) = W := ⟨_, rfl⟩
  have hA : hp.Blk W w.heap.size 30 [.pointer p] := by rw [← hW]; exact (hp.Blk.new w [.pointer p] _).alloc _
  have hR0 : hp.Blk W (w.heap.size + 1) 30 [.pointer none] := by rw [← hW]; exact hp.Blk.newAt (by simp)
  have hb : Below w.heap.size w W := by rw [← hW]; ((repeat' (first | with_reducible exact Below.refl _ _ | with_reducible apply Below.setCell | with_reducible apply below_drewN | with_reducible apply Below.drew | with_reducible apply Below.alloc | with_reducible refine Below.trans ?_ (Below.mono (by assumption) ?_))) <;> (first | (simp; done) | (simp; omega) | omega))
  have la := hA.lt
  have a0 := hA.cell 0
  simp only [List.getElem?_cons_zero] at a0
  have H1 := around_out i (IsT.mk (h.on hb)) hi
  clear h hi hA
  go_enter Try.func13, Try.ntmps13
  go_wp2_with (go_at_call 38; (with_reducible refine H1.mono ?_); clear H1; rintro e w1 ⟨⟨a, b, rfl, h1, h2⟩, K1⟩; ((obtain ⟨V, hV⟩ : ∃ V, (w1.alloc (.cells #[.pointer a] 28)).alloc (.cells #[.pointer b] 28) = V := ⟨_, rfl⟩); have hbV : Below w1.heap.size w1 V := (by rw [← hV]; exact ((Below.refl _ _).alloc (Nat.le_refl _) _).alloc (by simp) _); have hx1 : hp.Blk V w1.heap.size 28 [.pointer a] := (by rw [← hV]; exact (hp.Blk.new w1 [.pointer a] _).alloc _); have hx2 : hp.Blk V (w1.heap.size + 1) 28 [.pointer b] := (by rw [← hV]; exact hp.Blk.newAt (by simp)); have p1 := hx1.cell 0; have p2 := hx2.cell 0; have lx1 := hx1.lt; have lx2 := hx2.lt; simp only [List.getElem?_cons_zero] at p1 p2; replace K1 := K1.trans (hbV.mono K1.size); replace h1 := h1.on hbV; replace h2 := h2.on hbV); (have hR9 := (hR0).on K1; have d0 := hR9.cell 0; have df := hR9.free; have f0 := (hR9.set 0 (.pointer none)).cell 0; simp only [List.getElem?_cons_zero, List.set_cons_zero] at d0 f0))
  exact bodyPost_ret (v := .tuple #[.agg #[.pointer none], .bool false]) (by simp [results, Try.results13, go_sem, f0]) rfl ⟨⟨_, rfl, IsT.nil _⟩, (hb.trans (K1.mono hb.size)).setCell (p := ⟨w.heap.size + 1, 0, none⟩) (by simp) _⟩

set_option maxRecDepth 100000 in
set_option maxHeartbeats 4000000 in
theorem ins_yes {u : Value} {L X Y R : List Int} {x : Int} {k : Nat} {w : World} (h : IsT w u L) (hL : X ++ Y = L) (hk : X.length = k) (hR : X ++ x :: Y = R) (hx : (Lit.int .i64 x).wf = true) (hbd : L.length ≤ 4611686018427387900) :
    Calls Try.prog 19 #[u, .int .i64 k, .int .i64 x] w fun e w' => (∃ q, e = .returned (.tuple #[.agg #[.pointer q], .bool true]) ∧ IsT w' (.agg #[.pointer q]) R) ∧ Below w.heap.size w w' := by
  obtain ⟨p, rfl, h⟩ := h
  obtain ⟨W, hW⟩ : ∃ W, (w.alloc (.cells #[.pointer p] 30)).alloc (.cells #[.pointer none] 30) = W := ⟨_, rfl⟩
  have hA : hp.Blk W w.heap.size 30 [.pointer p] := by rw [← hW]; exact (hp.Blk.new w [.pointer p] _).alloc _
  have hR0 : hp.Blk W (w.heap.size + 1) 30 [.pointer none] := by rw [← hW]; exact hp.Blk.newAt (by simp)
  have hb : Below w.heap.size w W := by rw [← hW]; ((repeat' (first | with_reducible exact Below.refl _ _ | with_reducible apply Below.setCell | with_reducible apply below_drewN | with_reducible apply Below.drew | with_reducible apply Below.alloc | with_reducible refine Below.trans ?_ (Below.mono (by assumption) ?_))) <;> (first | (simp; done) | (simp; omega) | omega))
  have la := hA.lt
  have a0 := hA.cell 0
  simp only [List.getElem?_cons_zero] at a0
  have hkL : k ≤ L.length := by rw [← hL, List.length_append]; omega
  have H0 := sLen (IsT.mk (h.on hb))
  have H1 := fun V (K : Below W.heap.size W V) => cut_any k X Y (IsT.mk ((h.on hb).on K)) hkL (by rw [← hL, ← hk]; simp) (by rw [← hL, ← hk]; simp) (by omega)
  have hn : R.length ≤ 4611686018427387904 := by have := congrArg List.length hL; have := congrArg List.length hR; simp only [List.length_append, List.length_cons] at *; omega
  have H2 := fun V u v (hu : IsT V u X) (hv : IsT V v Y) => between_any hu hv hx hR hn
  obtain ⟨n, hn'⟩ : ∃ n, L.length = n := ⟨_, rfl⟩
  rw [hn'] at H0 hkL
  have hkI : ¬ ((n : Int) < (k : Int)) := by omega
  have hkJ : ¬ ((k : Int) < 0) := by omega
  clear h hL hk hR hbd hn hx hn' hkL
  go_enter Try.func19, Try.ntmps19
  go_wp2_with (first
    | (go_at_call 23; (with_reducible refine H0.mono ?_); clear H0; rintro e w0 ⟨rfl, K1⟩; have hA1 := hA.on K1; have a1 := hA1.cell 0; have la1 := hA1.lt; simp only [List.getElem?_cons_zero] at a1)
    | (go_at_call 42; (with_reducible refine (H1 _ K1).mono ?_); clear H1; rintro e w1 ⟨⟨a, b, rfl, h1, h2⟩, K2⟩; replace K1 := K1.trans (K2.mono K1.size); ((obtain ⟨V, hV⟩ : ∃ V, (w1.alloc (.cells #[.pointer a] 28)).alloc (.cells #[.pointer b] 28) = V := ⟨_, rfl⟩); have hbV : Below w1.heap.size w1 V := (by rw [← hV]; exact ((Below.refl _ _).alloc (Nat.le_refl _) _).alloc (by simp) _); have hx1 : hp.Blk V w1.heap.size 28 [.pointer a] := (by rw [← hV]; exact (hp.Blk.new w1 [.pointer a] _).alloc _); have hx2 : hp.Blk V (w1.heap.size + 1) 28 [.pointer b] := (by rw [← hV]; exact hp.Blk.newAt (by simp)); have p1 := hx1.cell 0; have p2 := hx2.cell 0; have lx1 := hx1.lt; have lx2 := hx2.lt; simp only [List.getElem?_cons_zero] at p1 p2; replace K1 := K1.trans (hbV.mono K1.size); replace h1 := h1.on hbV; replace h2 := h2.on hbV))
    | (go_at_call 39; (with_reducible refine (H2 _ _ _ h1 h2).mono ?_); clear H2; rintro e w2 ⟨⟨pu, rfl, hu⟩, K2⟩; (have hR9 := (hR0).on (K1.trans (K2.mono K1.size)); have d0 := hR9.cell 0; have df := hR9.free; have f0 := (hR9.set 0 (.pointer pu)).cell 0; simp only [List.getElem?_cons_zero, List.set_cons_zero] at d0 f0)))
  exact bodyPost_ret (v := .tuple #[.agg #[.pointer pu], .bool true]) (by simp [results, Try.results19, go_sem, f0]) rfl ⟨⟨_, rfl, hu.keep (keep_seq hR9 _ _)⟩, ((hb.trans (K1.mono hb.size)).trans (K2.mono (hb.trans (K1.mono hb.size)).size)).setCell (p := ⟨w.heap.size + 1, 0, none⟩) (by simp) _⟩
set_option maxRecDepth 100000 in
set_option maxHeartbeats 4000000 in
theorem ins_no {u : Value} {L : List Int} {i x : Int} {w : World} (h : IsT w u L) (hi : i < 0 ∨ (L.length : Int) < i) :
    Calls Try.prog 19 #[u, .int .i64 i, .int .i64 x] w fun e w' => (∃ q, e = .returned (.tuple #[.agg #[.pointer q], .bool false]) ∧ IsT w' (.agg #[.pointer q]) []) ∧ Below w.heap.size w w' := by
  obtain ⟨p, rfl, h⟩ := h
  obtain ⟨W, hW⟩ : ∃ W, (w.alloc (.cells #[.pointer p] 30)).alloc (.cells #[.pointer none] 30) = W := ⟨_, rfl⟩
  have hA : hp.Blk W w.heap.size 30 [.pointer p] := by rw [← hW]; exact (hp.Blk.new w [.pointer p] _).alloc _
  have hR0 : hp.Blk W (w.heap.size + 1) 30 [.pointer none] := by rw [← hW]; exact hp.Blk.newAt (by simp)
  have hb : Below w.heap.size w W := by rw [← hW]; ((repeat' (first | with_reducible exact Below.refl _ _ | with_reducible apply Below.setCell | with_reducible apply below_drewN | with_reducible apply Below.drew | with_reducible apply Below.alloc | with_reducible refine Below.trans ?_ (Below.mono (by assumption) ?_))) <;> (first | (simp; done) | (simp; omega) | omega))
  have la := hA.lt
  have a0 := hA.cell 0
  simp only [List.getElem?_cons_zero] at a0
  have H := sLen (IsT.mk (h.on hb))
  clear h
  by_cases h0 : i < 0
  · have K1 := Below.refl W.heap.size W
    (have hR9 := (hR0).on K1; have d0 := hR9.cell 0; have df := hR9.free; have f0 := (hR9.set 0 (.pointer none)).cell 0; simp only [List.getElem?_cons_zero, List.set_cons_zero] at d0 f0)
    clear H hi
    go_enter Try.func19, Try.ntmps19
    go_wp2_with fail
    exact bodyPost_ret (v := .tuple #[.agg #[.pointer none], .bool false]) (by simp [results, Try.results19, go_sem, f0]) rfl ⟨⟨_, rfl, IsT.nil _⟩, hb.setCell (p := ⟨w.heap.size + 1, 0, none⟩) (by simp) _⟩
  · have h1 : (L.length : Int) < i := by omega
    clear hi
    obtain ⟨n, hn⟩ : ∃ n, L.length = n := ⟨_, rfl⟩
    rw [hn] at H h1
    clear hn
    go_enter Try.func19, Try.ntmps19
    go_wp2_with (go_at_call 23; (with_reducible refine H.mono ?_); clear H; rintro e w9 ⟨rfl, K1⟩; (have hR9 := (hR0).on K1; have d0 := hR9.cell 0; have df := hR9.free; have f0 := (hR9.set 0 (.pointer none)).cell 0; simp only [List.getElem?_cons_zero, List.set_cons_zero] at d0 f0))
    exact bodyPost_ret (v := .tuple #[.agg #[.pointer none], .bool false]) (by simp [results, Try.results19, go_sem, f0]) rfl ⟨⟨_, rfl, IsT.nil _⟩, (hb.trans (K1.mono hb.size)).setCell (p := ⟨w.heap.size + 1, 0, none⟩) (by simp) _⟩
end Go.Proofs.Ytkenocamlaaajaa.fin
