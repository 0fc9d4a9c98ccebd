/- Package seq: Slice, Measure. -/
import Derived.Test.YtkenocamlaaajaaSeqOps
namespace Go.Proofs.Ytkenocamlaaajaa.fin
open Go Go.RowKit Go.Proofs.Ytkenocamlaaajaa.mono

set_option maxRecDepth 100000 in
set_option maxHeartbeats 8000000 in
theorem slice_yes {u : Value} {L R : List Int} {i j : Nat} {w : World} (h : IsT w u L) (hij : i ≤ j) (hj : j ≤ L.length) (hR : (L.take j).drop i = R) (hbd : L.length ≤ 4611686018427387900) :
    Calls Try.prog 21 #[u, .int .i64 i, .int .i64 j] w fun e w' => (∃ q, e = .returned (.tuple #[.agg #[.pointer q], .bool true]) ∧ IsT w' (.agg #[.pointer q]) R) ∧ Below w.heap.size w w' := by
  obtain ⟨p, rfl, h⟩ := h
  obtain ⟨W, hW⟩ : ∃ W, (w.alloc (.cells #[.pointer p] 30)).alloc (.cells #[.pointer none] 30) = W := ⟨_, rfl⟩
  have hA : hp.Blk W w.heap.size 30 [.pointer p] := by rw [← hW]; exact (hp.Blk.new w [.pointer p] _).alloc _
  have hR0 : hp.Blk W (w.heap.size + 1) 30 [.pointer none] := by rw [← hW]; exact hp.Blk.newAt (by simp)
  have hb : Below w.heap.size w W := by rw [← hW]; ((repeat' (first | with_reducible exact Below.refl _ _ | with_reducible apply Below.setCell | with_reducible apply below_drewN | with_reducible apply Below.drew | with_reducible apply Below.alloc | with_reducible refine Below.trans ?_ (Below.mono (by assumption) ?_))) <;> (first | (simp; done) | (simp; omega) | omega))
  have la := hA.lt
  have a0 := hA.cell 0
  simp only [List.getElem?_cons_zero] at a0
  have H0 := sLen (IsT.mk (h.on hb))
  obtain ⟨T, hT⟩ : ∃ T, L.take j = T := ⟨_, rfl⟩
  have hTl : T.length = j := by rw [← hT, List.length_take]; omega
  rw [hT] at hR
  have H1 := fun V (K : Below W.heap.size W V) => cut_any j T (L.drop j) (IsT.mk ((h.on hb).on K)) hj hT rfl (by omega)
  have H2 := fun V u (hu : IsT V u T) => cut_any i (T.take i) R hu (by omega) rfl hR (by omega)
  obtain ⟨n, hn'⟩ : ∃ n, L.length = n := ⟨_, rfl⟩
  rw [hn'] at H0 hj
  have hkI : ¬ ((n : Int) < (j : Int)) := by omega
  have hkJ : ¬ ((i : Int) < 0) := by omega
  have hkK : ¬ ((j : Int) < (i : Int)) := by omega
  generalize L.drop j = D at *
  generalize T.take i = E at *
  clear h hT hTl hR hbd hn' hij hj
  go_enter Try.func21, Try.ntmps21
  go_wp2_with (first
    | (go_at_call 23; (with_reducible refine H0.mono ?_); clear H0; rintro e w0 ⟨rfl, K1⟩; have hA1 := hA.on K1; have a1 := hA1.cell 0; have la1 := hA1.lt; simp only [List.getElem?_cons_zero] at a1)
    | (go_at_call 42; (with_reducible refine (H1 _ K1).mono ?_); clear H1; rintro e w1 ⟨⟨a, b, rfl, h1, h2⟩, K2⟩; replace K1 := K1.trans (K2.mono K1.size); ((obtain ⟨V, hV⟩ : ∃ V, (w1.alloc (.cells #[.pointer a] 28)).alloc (.cells #[.pointer b] 28) = V := ⟨_, rfl⟩); have hbV : Below w1.heap.size w1 V := (by rw [← hV]; exact ((Below.refl _ _).alloc (Nat.le_refl _) _).alloc (by simp) _); have hx1 : hp.Blk V w1.heap.size 28 [.pointer a] := (by rw [← hV]; exact (hp.Blk.new w1 [.pointer a] _).alloc _); have hx2 : hp.Blk V (w1.heap.size + 1) 28 [.pointer b] := (by rw [← hV]; exact hp.Blk.newAt (by simp)); have p1 := hx1.cell 0; have p2 := hx2.cell 0; have lx1 := hx1.lt; have lx2 := hx2.lt; simp only [List.getElem?_cons_zero] at p1 p2; replace K1 := K1.trans (hbV.mono K1.size); replace h1 := h1.on hbV; replace h2 := h2.on hbV))
    | (go_at_call 42; (with_reducible refine (H2 _ _ h1).mono ?_); clear H2; rintro e w2 ⟨⟨c, d, rfl, h3, h4⟩, K3⟩; replace K1 := K1.trans (K3.mono K1.size); clear hx1 hx2 p1 p2 lx1 lx2 hbV hV; ((obtain ⟨V3, hV3⟩ : ∃ V, (w2.alloc (.cells #[.pointer c] 28)).alloc (.cells #[.pointer d] 28) = V := ⟨_, rfl⟩); have hbV3 : Below w2.heap.size w2 V3 := (by rw [← hV3]; exact ((Below.refl _ _).alloc (Nat.le_refl _) _).alloc (by simp) _); have hx4 : hp.Blk V3 (w2.heap.size + 1) 28 [.pointer d] := (by rw [← hV3]; exact hp.Blk.newAt (by simp)); have p4 := hx4.cell 0; have lx4 := hx4.lt; simp only [List.getElem?_cons_zero] at p4; replace K1 := K1.trans (hbV3.mono K1.size); replace h3 := h3.on hbV3; replace h4 := h4.on hbV3; (have hR9 := (hR0).on K1; have d0 := hR9.cell 0; have df := hR9.free; have f0 := (hR9.set 0 (.pointer d)).cell 0; simp only [List.getElem?_cons_zero, List.set_cons_zero] at d0 f0))))
  exact bodyPost_ret (v := .tuple #[.agg #[.pointer d], .bool true]) (by simp [results, Try.results21, go_sem, f0]) rfl ⟨⟨_, rfl, h4.keep (keep_seq hR9 _ _)⟩, (hb.trans (K1.mono hb.size)).setCell (p := ⟨w.heap.size + 1, 0, none⟩) (by simp) _⟩
set_option maxRecDepth 100000 in
set_option maxHeartbeats 8000000 in
theorem slice_no {u : Value} {L : List Int} {i j : Int} {w : World} (h : IsT w u L) (hi : i < 0 ∨ j < i ∨ (L.length : Int) < j) :
    Calls Try.prog 21 #[u, .int .i64 i, .int .i64 j] w fun e w' => (∃ q, e = .returned (.tuple #[.agg #[.pointer q], .bool false]) ∧ IsT w' (.agg #[.pointer q]) []) ∧ Below w.heap.size w w' := by
  obtain ⟨p, rfl, h⟩ := h
  obtain ⟨W, hW⟩ : ∃ W, (w.alloc (.cells #[.pointer p] 30)).alloc (.cells #[.pointer none] 30) = W := ⟨_, rfl⟩
  have hA : hp.Blk W w.heap.size 30 [.pointer p] := by rw [← hW]; exact (hp.Blk.new w [.pointer p] _).alloc _
  have hR0 : hp.Blk W (w.heap.size + 1) 30 [.pointer none] := by rw [← hW]; exact hp.Blk.newAt (by simp)
  have hb : Below w.heap.size w W := by rw [← hW]; ((repeat' (first | with_reducible exact Below.refl _ _ | with_reducible apply Below.setCell | with_reducible apply below_drewN | with_reducible apply Below.drew | with_reducible apply Below.alloc | with_reducible refine Below.trans ?_ (Below.mono (by assumption) ?_))) <;> (first | (simp; done) | (simp; omega) | omega))
  have la := hA.lt
  have a0 := hA.cell 0
  simp only [List.getElem?_cons_zero] at a0
  have H := sLen (IsT.mk (h.on hb))
  clear h
  by_cases h0 : i < 0
  · have K1 := Below.refl W.heap.size W
    (have hR9 := (hR0).on K1; have d0 := hR9.cell 0; have df := hR9.free; have f0 := (hR9.set 0 (.pointer none)).cell 0; simp only [List.getElem?_cons_zero, List.set_cons_zero] at d0 f0)
    clear H hi
    go_enter Try.func21, Try.ntmps21
    go_wp2_with fail
    exact bodyPost_ret (v := .tuple #[.agg #[.pointer none], .bool false]) (by simp [results, Try.results21, go_sem, f0]) rfl ⟨⟨_, rfl, IsT.nil _⟩, hb.setCell (p := ⟨w.heap.size + 1, 0, none⟩) (by simp) _⟩
  · by_cases h2 : j < i
    · have K1 := Below.refl W.heap.size W
      (have hR9 := (hR0).on K1; have d0 := hR9.cell 0; have df := hR9.free; have f0 := (hR9.set 0 (.pointer none)).cell 0; simp only [List.getElem?_cons_zero, List.set_cons_zero] at d0 f0)
      clear H hi
      go_enter Try.func21, Try.ntmps21
      go_wp2_with fail
      exact bodyPost_ret (v := .tuple #[.agg #[.pointer none], .bool false]) (by simp [results, Try.results21, go_sem, f0]) rfl ⟨⟨_, rfl, IsT.nil _⟩, hb.setCell (p := ⟨w.heap.size + 1, 0, none⟩) (by simp) _⟩
    · have h1 : (L.length : Int) < j := by omega
      clear hi
      obtain ⟨n, hn⟩ : ∃ n, L.length = n := ⟨_, rfl⟩
      rw [hn] at H h1
      clear hn
      go_enter Try.func21, Try.ntmps21
      go_wp2_with (go_at_call 23; (with_reducible refine H.mono ?_); clear H; rintro e w9 ⟨rfl, K1⟩; (have hR9 := (hR0).on K1; have d0 := hR9.cell 0; have df := hR9.free; have f0 := (hR9.set 0 (.pointer none)).cell 0; simp only [List.getElem?_cons_zero, List.set_cons_zero] at d0 f0))
      exact bodyPost_ret (v := .tuple #[.agg #[.pointer none], .bool false]) (by simp [results, Try.results21, go_sem, f0]) rfl ⟨⟨_, rfl, IsT.nil _⟩, (hb.trans (K1.mono hb.size)).setCell (p := ⟨w.heap.size + 1, 0, none⟩) (by simp) _⟩

set_option maxRecDepth 100000 in
set_option maxHeartbeats 8000000 in
theorem meas_yes {u : Value} {L R : List Int} {i j : Nat} {w : World} (h : IsT w u L) (hij : i ≤ j) (hj : j ≤ L.length) (hR : (L.take j).drop i = R) (hbd : L.length ≤ 4611686018427387900) :
    Calls Try.prog 22 #[u, .int .i64 i, .int .i64 j] w fun e w' => e = .returned (.tuple #[mvOf R.length R, .bool true]) ∧ Below w.heap.size w w' := by
  obtain ⟨p, rfl, h⟩ := h
  obtain ⟨W, hW⟩ : ∃ W, (w.alloc (.cells #[.pointer p] 30)).alloc (.cells #[.int .i64 0, .int .i64 0, .int .i64 0, .int .i64 0, .int .i64 0] 42) = W := ⟨_, rfl⟩
  have hA : hp.Blk W w.heap.size 30 [.pointer p] := by rw [← hW]; exact (hp.Blk.new w [.pointer p] _).alloc _
  have hR0 : hp.Blk W (w.heap.size + 1) 42 [.int .i64 0, .int .i64 0, .int .i64 0, .int .i64 0, .int .i64 0] := by rw [← hW]; exact hp.Blk.newAt (by simp)
  have hb : Below w.heap.size w W := by rw [← hW]; ((repeat' (first | with_reducible exact Below.refl _ _ | with_reducible apply Below.setCell | with_reducible apply below_drewN | with_reducible apply Below.drew | with_reducible apply Below.alloc | with_reducible refine Below.trans ?_ (Below.mono (by assumption) ?_))) <;> (first | (simp; done) | (simp; omega) | omega))
  have la := hA.lt
  have a0 := hA.cell 0
  simp only [List.getElem?_cons_zero] at a0
  have H := slice_yes (IsT.mk (h.on hb)) hij hj hR hbd
  have H2 := fun V u (hu : IsT V u R) => measure_any hu
  obtain ⟨n, hn⟩ : ∃ n, R.length = n := ⟨_, rfl⟩
  rw [hn] at H2 ⊢
  clear h hij hj hR hbd hA hn
  go_enter Try.func22, Try.ntmps22
  go_wp2_with (first
    | (go_at_call 21; (with_reducible refine H.mono ?_); clear H; rintro e w1 ⟨⟨q, rfl, hq⟩, K1⟩; have hq1 := hq.on (show Below w1.heap.size w1 (w1.alloc (.cells #[.pointer q] 30)) by ((repeat' (first | with_reducible exact Below.refl _ _ | with_reducible apply Below.setCell | with_reducible apply below_drewN | with_reducible apply Below.drew | with_reducible apply Below.alloc | with_reducible refine Below.trans ?_ (Below.mono (by assumption) ?_))) <;> (first | (simp; done) | (simp; omega) | omega))); have K2 := K1.alloc K1.size (.cells #[.pointer q] 30))
    | (go_at_call 44; (with_reducible refine (H2 _ _ hq1).mono ?_); clear H2; rintro e w2 ⟨rfl, K3⟩; have K4 := K2.trans (K3.mono K2.size); have hR1 := hR0.on K4; (obtain ⟨d0, d1, d2, d3, d4⟩ := hR1.cells5); have df := hR1.free; (obtain ⟨f0, f1, f2, f3, f4⟩ := (hR1.set5 (.int .i64 n) (.int .i64 (mono.sumOf R)) (.int .i64 (mono.lstOf R)) (.int .i64 (mono.mstOf R)) (.int .i64 (mono.hashOf R))).cells5)))
  refine bodyPost_ret (v := .tuple #[mvOf n R, .bool true]) (by simp [results, Try.results22, go_sem, f0, f1, f2, f3, f4]) rfl ⟨rfl, ?_⟩
  have hb2 := hb.trans (K4.mono hb.size)
  ((repeat' (first | with_reducible exact Below.refl _ _ | with_reducible apply Below.setCell | with_reducible apply below_drewN | with_reducible apply Below.drew | with_reducible apply Below.alloc | with_reducible refine Below.trans ?_ (Below.mono (by assumption) ?_))) <;> (first | (simp; done) | (simp; omega) | omega))
set_option maxRecDepth 100000 in
set_option maxHeartbeats 8000000 in
theorem meas_no {u : Value} {L : List Int} {i j : Int} {w : World} (h : IsT w u L) (hi : i < 0 ∨ j < i ∨ (L.length : Int) < j) :
    Calls Try.prog 22 #[u, .int .i64 i, .int .i64 j] w fun e w' => e = .returned (.tuple #[mv 0 0 0 0 0, .bool false]) ∧ Below w.heap.size w w' := by
  obtain ⟨p, rfl, h⟩ := h
  obtain ⟨W, hW⟩ : ∃ W, (w.alloc (.cells #[.pointer p] 30)).alloc (.cells #[.int .i64 0, .int .i64 0, .int .i64 0, .int .i64 0, .int .i64 0] 42) = W := ⟨_, rfl⟩
  have hA : hp.Blk W w.heap.size 30 [.pointer p] := by rw [← hW]; exact (hp.Blk.new w [.pointer p] _).alloc _
  have hR0 : hp.Blk W (w.heap.size + 1) 42 [.int .i64 0, .int .i64 0, .int .i64 0, .int .i64 0, .int .i64 0] := by rw [← hW]; exact hp.Blk.newAt (by simp)
  have hb : Below w.heap.size w W := by rw [← hW]; ((repeat' (first | with_reducible exact Below.refl _ _ | with_reducible apply Below.setCell | with_reducible apply below_drewN | with_reducible apply Below.drew | with_reducible apply Below.alloc | with_reducible refine Below.trans ?_ (Below.mono (by assumption) ?_))) <;> (first | (simp; done) | (simp; omega) | omega))
  have la := hA.lt
  have a0 := hA.cell 0
  simp only [List.getElem?_cons_zero] at a0
  have H := slice_no (IsT.mk (h.on hb)) hi
  clear h hi hA
  go_enter Try.func22, Try.ntmps22
  go_wp2_with (go_at_call 21; (with_reducible refine H.mono ?_); clear H; rintro e w1 ⟨⟨q, rfl, hq⟩, K1⟩; have K2 := K1.alloc K1.size (.cells #[.pointer q] 30); have hR1 := hR0.on K2; (obtain ⟨d0, d1, d2, d3, d4⟩ := hR1.cells5); have df := hR1.free; (obtain ⟨f0, f1, f2, f3, f4⟩ := (hR1.set5 (.int .i64 0) (.int .i64 0) (.int .i64 0) (.int .i64 0) (.int .i64 0)).cells5))
  refine bodyPost_ret (v := .tuple #[mv 0 0 0 0 0, .bool false]) (by simp [results, Try.results22, go_sem, f0, f1, f2, f3, f4]) rfl ⟨rfl, ?_⟩
  have hb2 := hb.trans (K2.mono hb.size)
  generalize w1.alloc (.cells #[.pointer q] 30) = V at *
  ((repeat' (first | with_reducible exact Below.refl _ _ | with_reducible apply Below.setCell | with_reducible apply below_drewN | with_reducible apply Below.drew | with_reducible apply Below.alloc | with_reducible refine Below.trans ?_ (Below.mono (by assumption) ?_))) <;> (first | (simp; done) | (simp; omega) | omega))
end Go.Proofs.Ytkenocamlaaajaa.fin
